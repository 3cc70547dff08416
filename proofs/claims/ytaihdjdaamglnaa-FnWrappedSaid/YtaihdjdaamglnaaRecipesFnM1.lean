/- wrapIn: its deferred function literal, and itself. -/
import Derived.Lib.SlicesCompact
import Derived.Test.YtaihdjdaamglnaaRecipesFnM0
import Derived.StillTailTactics
import Derived.Sort.Walk0
import Derived.Deep.AppendLies
import Derived.Recover
import Derived.Defers
/- Texts in ascending order, each once: the plain side. -/
namespace Go.Proofs.Ytaihdjdaamglnaa

/-- texts in strictly ascending order -/
def Strict (l : List (List UInt8)) : Prop := l.Pairwise (· < ·)
/-- s is put in front of the first text that is not less, unless it is that text -/
def ins (s : List UInt8) : List (List UInt8) → List (List UInt8)
  | [] => [s]
  | x :: r => if x < s then x :: ins s r else if x = s then x :: r else s :: x :: r
def ascL (x : List (List UInt8)) : List (List UInt8) := x.foldl (fun a y => ins y a) []

theorem strict_unique : ∀ {a b : List (List UInt8)}, Strict a → Strict b → (∀ x, x ∈ a ↔ x ∈ b) → a = b := by
  intro a
  induction a with
  | nil =>
    intro b _ _ h
    cases b with
    | nil => rfl
    | cons y s => exact absurd ((h y).2 (List.mem_cons_self ..)) (by simp)
  | cons x r ih =>
    intro b ha hb h
    cases b with
    | nil => exact absurd ((h x).1 (List.mem_cons_self ..)) (by simp)
    | cons y s =>
      have ha' := List.pairwise_cons.1 ha
      have hb' := List.pairwise_cons.1 hb
      have e : x = y := by
        rcases List.mem_cons.1 ((h x).1 (List.mem_cons_self ..)) with h1 | h1
        · exact h1
        · rcases List.mem_cons.1 ((h y).2 (List.mem_cons_self ..)) with h2 | h2
          · exact h2.symm
          · exact absurd (List.lt_trans (hb'.1 x h1) (ha'.1 y h2)) (List.lt_irrefl _)
      subst e
      congr 1
      refine ih ha'.2 hb'.2 fun z => ⟨fun hz => ?_, fun hz => ?_⟩
      · rcases List.mem_cons.1 ((h z).1 (List.mem_cons_of_mem _ hz)) with h1 | h1
        · subst h1; exact absurd (ha'.1 z hz) (List.lt_irrefl _)
        · exact h1
      · rcases List.mem_cons.1 ((h z).2 (List.mem_cons_of_mem _ hz)) with h1 | h1
        · subst h1; exact absurd (hb'.1 z hz) (List.lt_irrefl _)
        · exact h1
theorem mem_ins (s : List UInt8) : ∀ (l : List (List UInt8)) (z : List UInt8), z ∈ ins s l ↔ z = s ∨ z ∈ l := by
  intro l
  induction l with
  | nil => intro z; simp [ins]
  | cons x r ih =>
    intro z
    unfold ins
    split
    · simp only [List.mem_cons, ih]
      constructor
      · rintro (h | h | h)
        · exact Or.inr (Or.inl h)
        · exact Or.inl h
        · exact Or.inr (Or.inr h)
      · rintro (h | h | h)
        · exact Or.inr (Or.inl h)
        · exact Or.inl h
        · exact Or.inr (Or.inr h)
    · split
      · rename_i h; subst h; simp
      · simp
theorem strict_ins (s : List UInt8) : ∀ (l : List (List UInt8)), Strict l → Strict (ins s l) := by
  intro l
  induction l with
  | nil => intro _; simp [ins, Strict]
  | cons x r ih =>
    intro h
    have h' := List.pairwise_cons.1 h
    unfold ins
    split
    · rename_i hx
      refine List.pairwise_cons.2 ⟨fun z hz => ?_, ih h'.2⟩
      rcases (mem_ins s r z).1 hz with h1 | h1
      · subst h1; exact hx
      · exact h'.1 z h1
    · split
      · exact h
      · rename_i h1 h2
        have hsx : s < x := by
          rcases Decidable.em (s < x) with h3 | h3
          · exact h3
          · exact absurd (List.le_antisymm (List.not_lt.1 h3) (List.not_lt.1 h1)) h2
        refine List.pairwise_cons.2 ⟨fun z hz => ?_, h⟩
        rcases List.mem_cons.1 hz with h3 | h3
        · subst h3; exact hsx
        · exact List.lt_trans hsx (h'.1 z h3)
theorem foldl_ins : ∀ (x a : List (List UInt8)), Strict a → Strict (x.foldl (fun a y => ins y a) a) ∧ ∀ z, z ∈ x.foldl (fun a y => ins y a) a ↔ z ∈ a ∨ z ∈ x := by
  intro x
  induction x with
  | nil => intro a h; exact ⟨h, fun z => by simp⟩
  | cons y r ih =>
    intro a h
    have := ih (ins y a) (strict_ins y a h)
    refine ⟨this.1, fun z => ?_⟩
    rw [List.foldl_cons, this.2 z, mem_ins, List.mem_cons]
    constructor
    · rintro ((h | h) | h)
      · exact Or.inr (Or.inl h)
      · exact Or.inl h
      · exact Or.inr (Or.inr h)
    · rintro (h | h | h)
      · exact Or.inl (Or.inr h)
      · exact Or.inl (Or.inl h)
      · exact Or.inr h
theorem asc_strict (x : List (List UInt8)) : Strict (ascL x) := (foldl_ins x [] List.Pairwise.nil).1
theorem asc_mem (x : List (List UInt8)) (z : List UInt8) : z ∈ ascL x ↔ z ∈ x := by
  have := (foldl_ins x [] List.Pairwise.nil).2 z
  simpa [ascL] using this
theorem asc_eq {x y : List (List UInt8)} (h : Strict y) (hm : ∀ z, z ∈ y ↔ z ∈ x) : y = ascL x :=
  strict_unique h (asc_strict x) fun z => by rw [hm z, asc_mem x z]
theorem asc_idem (x : List (List UInt8)) : ascL (ascL x) = ascL x := (asc_eq (asc_strict x) fun _ => Iff.rfl).symm
theorem ins_len (s : List UInt8) (l : List (List UInt8)) : (ins s l).length ≤ l.length + 1 := by
  induction l with
  | nil => simp [ins]
  | cons x r ih => unfold ins; split <;> (try split) <;> simp <;> omega
theorem foldl_len : ∀ (x a : List (List UInt8)), (x.foldl (fun a y => ins y a) a).length ≤ a.length + x.length := by
  intro x
  induction x with
  | nil => intro a; simp
  | cons y r ih => intro a; have := ih (ins y a); have := ins_len y a; simp only [List.foldl_cons, List.length_cons]; omega
theorem asc_len (x : List (List UInt8)) : (ascL x).length ≤ x.length := by have := foldl_len x []; simpa [ascL] using this

/-- the loop of the model's l1Put -/
theorem ins_below {s : List UInt8} {p : List (List UInt8)} (h : ∀ z ∈ p, z < s) (t : List (List UInt8)) : ins s (p ++ t) = p ++ ins s t := by
  induction p with
  | nil => rfl
  | cons x r ih =>
    have hx := h x (List.mem_cons_self ..)
    simp only [List.cons_append, ins, if_pos hx]
    rw [ih fun z hz => h z (List.mem_cons_of_mem _ hz)]
theorem ins_done {s : List UInt8} {p : List (List UInt8)} (h : ∃ z ∈ p, ¬ z < s) (t : List (List UInt8)) : ins s (p ++ t) = ins s p ++ t := by
  induction p with
  | nil => obtain ⟨z, hz, _⟩ := h; simp at hz
  | cons x r ih =>
    simp only [List.cons_append, ins]
    by_cases hx : x < s
    · obtain ⟨z, hz, hzs⟩ := h
      rcases List.mem_cons.1 hz with h1 | h1
      · subst h1; exact absurd hx hzs
      · rw [if_pos hx, if_pos hx, ih ⟨z, h1, hzs⟩]; rfl
    · rw [if_neg hx, if_neg hx]
      split <;> rfl

/-- what slices.Compact leaves of a sorted list -/
theorem compact_sorted (d : Array (List UInt8)) (hs : ∀ i j, i ≤ j → j < d.size → d[i]! ≤ d[j]!) : ∀ m, m ≤ d.size →
    Strict (Lib.compactUpTo d m) ∧ (∀ z, z ∈ Lib.compactUpTo d m ↔ ∃ i, i < m ∧ d[i]! = z) := by
  intro m
  induction m with
  | zero => intro _; exact ⟨List.Pairwise.nil, fun z => by simp [Lib.compactUpTo]⟩
  | succ m ih =>
    intro hm
    obtain ⟨h1, h2⟩ := ih (by omega)
    rw [Lib.compactUpTo_succ]
    by_cases hk : m = 0 ∨ d[m]! ≠ d[m - 1]!
    · have hk' : Lib.keeps d m = true := by simpa [Lib.keeps] using hk
      rw [if_pos hk']
      constructor
      · refine List.pairwise_append.2 ⟨h1, by simp, fun a ha b hb => ?_⟩
        have hb' : b = d[m]! := by simpa using hb
        subst hb'
        obtain ⟨i, hi, rfl⟩ := (h2 a).1 ha
        have hne : d[m]! ≠ d[m - 1]! := by rcases hk with h | h; · omega
                                           · exact h
        rcases Decidable.em (d[i]! < d[m]!) with h | h
        · exact h
        · exfalso
          have e : d[i]! = d[m]! := List.le_antisymm (hs i m (by omega) (by omega)) (List.not_lt.1 h)
          have h3 := hs i (m - 1) (by omega) (by omega)
          have h4 := hs (m - 1) m (by omega) (by omega)
          rw [e] at h3
          exact hne (List.le_antisymm h3 h4)
      · intro z
        rw [List.mem_append, h2 z]
        constructor
        · rintro (⟨i, hi, e⟩ | h)
          · exact ⟨i, by omega, e⟩
          · exact ⟨m, by omega, by simpa using (show z = d[m]! by simpa using h).symm⟩
        · rintro ⟨i, hi, e⟩
          rcases Nat.lt_or_ge i m with h | h
          · exact Or.inl ⟨i, h, e⟩
          · right; have : i = m := by omega
            subst this; simp [e]
    · have hk' : Lib.keeps d m = false := by simpa [Lib.keeps] using hk
      rw [if_neg (by simp [hk']), List.append_nil]
      refine ⟨h1, fun z => ?_⟩
      rw [h2 z]
      constructor
      · rintro ⟨i, hi, e⟩; exact ⟨i, by omega, e⟩
      · rintro ⟨i, hi, e⟩
        rcases Nat.lt_or_ge i m with h | h
        · exact ⟨i, h, e⟩
        · have : i = m := by omega
          subst this
          have hm0 : i ≠ 0 := fun h => hk (Or.inl h)
          have he : d[i]! = d[i - 1]! := Decidable.byContradiction fun h => hk (Or.inr h)
          exact ⟨i - 1, by omega, by rw [← he]; exact e⟩
def leB (x y : List UInt8) : Bool := decide (x ≤ y)
theorem compact_mergeSort (x : List (List UInt8)) : Lib.compact (x.mergeSort fun a b => decide (a ≤ b)) = ascL x := by
  have hp := List.pairwise_mergeSort (le := fun a b : List UInt8 => decide (a ≤ b)) (fun a b c h1 h2 => by simp at *; exact List.le_trans h1 h2) (fun a b => by simp; exact List.le_total a b) x
  generalize hl : (x.mergeSort fun a b => decide (a ≤ b)) = l at *
  have hmem : ∀ z, z ∈ l ↔ z ∈ x := fun z => by rw [← hl]; exact List.mem_mergeSort
  have hs : ∀ i j, i ≤ j → j < l.toArray.size → l.toArray[i]! ≤ l.toArray[j]! := by
    intro i j hij hj
    have hj' : j < l.length := by simpa using hj
    rw [getElem!_pos _ i (by simp; omega), getElem!_pos _ j (by simpa using hj')]
    simp only [List.getElem_toArray]
    rcases Nat.lt_or_ge i j with h | h
    · have := List.pairwise_iff_getElem.1 hp i j (by omega) hj' h
      simpa using this
    · have : i = j := by omega
      subst this; exact List.le_refl _
  have h := compact_sorted l.toArray hs l.length (by simp)
  refine asc_eq h.1 fun z => ?_
  rw [← hmem z]
  unfold Lib.compact
  rw [h.2 z, List.mem_iff_getElem]
  constructor
  · rintro ⟨i, hi, e⟩; exact ⟨i, hi, by rw [← e, getElem!_pos _ i (by simpa using hi)]; simp⟩
  · rintro ⟨i, hi, e⟩; exact ⟨i, hi, by rw [getElem!_pos _ i (by simpa using hi)]; simpa using e⟩
end Go.Proofs.Ytaihdjdaamglnaa
/- Cells, plain: which lists are cells, how they are written and read; the lenient reading held against the writing is the strict one. -/
namespace Go.Proofs.Ytaihdjdaamglnaa
set_option linter.unusedVariables false
open Go.RowKit
def cellT (d : CellD) : List UInt8 := d.fKey ++ 61 :: numL d.fValue
def fmtC (l : List CellD) : List UInt8 := if cellsB l = true then (if l = [] then [45] else joinL (l.map cellT) [44]) else []
theorem nameB_all {l : List UInt8} (h : nameB l = true) (c : UInt8) (hc : c ∈ l) : (isLet c.toNat || isDig c.toNat) = true := by
  simp only [nameB, Bool.and_eq_true, nmB, List.all_eq_true] at h
  exact h.2 c hc
theorem nameB_no {l : List UInt8} (h : nameB l = true) (c : UInt8) (hc : (isLet c.toNat || isDig c.toNat) = false) : c ∉ l := fun hm => by rw [nameB_all h c hm] at hc; simp at hc
theorem numL_no (n : Nat) (c : UInt8) (hc : digB c = false) : c ∉ numL n := fun hm => by
  have := List.all_eq_true.1 (numL_dig n) c hm
  rw [this] at hc; simp at hc
theorem numB_nat {n : Int} (h : numB n = true) : ∃ k : Nat, n = k ∧ k ≤ 999 := by
  simp only [numB, Bool.and_eq_true, decide_eq_true_iff] at h
  exact ⟨n.toNat, by omega, by omega⟩
theorem parse_num {n : Int} (h : numB n = true) : pnum (numL n) = n ∧ pok (numL n) = true := by
  obtain ⟨k, rfl, hk⟩ := numB_nat h
  exact pnum_some (parseL_some hk rfl)
theorem cellT_cut {d : CellD} (h : nameB d.fKey = true) : Lib.cut (cellT d) [61] = (d.fKey, numL d.fValue, true) := cut_some (nameB_no h 61 (by decide))
theorem cellT_no {d : CellD} (h : nameB d.fKey = true) (h2 : numB d.fValue = true) : (44 : UInt8) ∉ cellT d := by
  obtain ⟨k, e, hk⟩ := numB_nat h2
  unfold cellT
  rw [e]
  intro hm
  rcases List.mem_append.1 hm with hm | hm
  · exact nameB_no h 44 (by decide) hm
  · rcases List.mem_cons.1 hm with hm | hm
    · exact absurd hm (by decide)
    · exact numL_no k 44 (by decide) hm
theorem cellT_split {d : CellD} (h : nameB d.fKey = true) (h2 : numB d.fValue = true) : splitL (cellT d) [61] = [d.fKey, numL d.fValue] := by
  obtain ⟨k, e, hk⟩ := numB_nat h2
  have : cellT d = joinL [d.fKey, numL d.fValue] [61] := by rw [joinL_two]; rfl
  rw [this]
  refine splitL_joinL 61 _ (by simp) ?_
  intro p hp
  simp only [List.mem_cons, List.not_mem_nil, or_false] at hp
  rcases hp with rfl | rfl
  · exact nameB_no h 61 (by decide)
  · rw [e]; exact numL_no k 61 (by decide)
/-- the program's lenient reading of one cell, of a text -/
def rdC (t : List UInt8) : CellD := ⟨(Lib.cut t [61]).1, pnum (Lib.cut t [61]).2.1⟩
def rdCs (s : List UInt8) : List CellD := if s = [45] then [] else (splitL s [44]).map rdC
/-- what is read: the cells that are written so -/
def prsB (s : List UInt8) : Bool := cellsB (rdCs s) && decide (fmtC (rdCs s) = s)
def prsC (s : List UInt8) : List CellD := if prsB s = true then rdCs s else []
/-- the model's reading of the first k parts -/
def oneB (t : List UInt8) : Bool := decide ((splitL t [61]).length = 2) && pok ((splitL t [61]).getD 1 [])
def oneC (t : List UInt8) : CellD := ⟨(splitL t [61]).getD 0 [], pnum ((splitL t [61]).getD 1 [])⟩
theorem oneB_cell {t : List UInt8} (h : oneB t = true) : cellT (oneC t) = t ∧ rdC t = oneC t := by
  simp only [oneB, Bool.and_eq_true, decide_eq_true_iff] at h
  obtain ⟨a, b, e⟩ : ∃ a b, splitL t [61] = [a, b] := by
    match splitL t [61], h.1 with
    | [a, b], _ => exact ⟨a, b, rfl⟩
  obtain ⟨e2, hna⟩ := split_two e
  have hb : pok b = true := by have := h.2; rw [e] at this; exact this
  unfold oneC
  rw [e]
  simp only [List.getD_cons_zero, List.getD_cons_succ]
  unfold pok at hb
  obtain ⟨n, hn⟩ := Option.isSome_iff_exists.1 hb
  obtain ⟨p1, p2⟩ := pnum_some hn
  obtain ⟨n1, n2⟩ := parseL_iff hn
  refine ⟨?_, ?_⟩
  · unfold cellT; simp only; rw [p1, n2]; exact e2.symm
  · unfold rdC; rw [e2, cut_some hna]
theorem prs_strict (s : List UInt8) (hs : s ≠ [45]) : prsB s = ((splitL s [44]).all oneB && cellsB ((splitL s [44]).map oneC)) := by
  have hne := splitL_ne s 44
  have hr : rdCs s = (splitL s [44]).map rdC := if_neg hs
  cases hR : ((splitL s [44]).all oneB && cellsB ((splitL s [44]).map oneC)) with
  | true =>
    simp only [Bool.and_eq_true, List.all_eq_true] at hR
    obtain ⟨h1, h2⟩ := hR
    have e1 : (splitL s [44]).map rdC = (splitL s [44]).map oneC := List.map_congr_left fun t ht => (oneB_cell (h1 t ht)).2
    have e2 : ((splitL s [44]).map oneC).map cellT = splitL s [44] := by
      rw [List.map_map]
      conv => rhs; rw [← List.map_id (splitL s [44])]
      exact List.map_congr_left fun t ht => (oneB_cell (h1 t ht)).1
    unfold prsB
    rw [hr, e1, h2, Bool.true_and, decide_eq_true_iff]
    unfold fmtC
    rw [if_pos h2, if_neg (by simpa using hne), e2, join_splitL]
  | false =>
    cases hL : prsB s with
    | false => rfl
    | true =>
      simp only [prsB, Bool.and_eq_true, decide_eq_true_iff, hr] at hL
      obtain ⟨h1, h2⟩ := hL
      have hmem := cellsB_mem h1
      generalize hl : (splitL s [44]).map rdC = l at *
      have hl0 : l ≠ [] := by rw [← hl]; simpa using hne
      unfold fmtC at h2
      rw [if_pos h1, if_neg hl0] at h2
      have hsp : splitL s [44] = l.map cellT := by
        rw [← h2]
        refine splitL_joinL 44 _ (by simpa using hl0) ?_
        intro p hp
        obtain ⟨d, hd, rfl⟩ := List.mem_map.1 hp
        exact cellT_no (hmem d hd).1 (hmem d hd).2
      have h3 : (splitL s [44]).all oneB = true := by
        rw [hsp, List.all_eq_true]
        intro p hp
        obtain ⟨d, hd, rfl⟩ := List.mem_map.1 hp
        unfold oneB
        rw [cellT_split (hmem d hd).1 (hmem d hd).2]
        simpa using (parse_num (hmem d hd).2).2
      have h4 : (splitL s [44]).map oneC = l := by
        rw [hsp, List.map_map]
        conv => rhs; rw [← List.map_id l]
        refine List.map_congr_left fun d hd => ?_
        simp only [Function.comp, oneC]
        rw [cellT_split (hmem d hd).1 (hmem d hd).2]
        simp only [List.getD_cons_zero, List.getD_cons_succ]
        rw [(parse_num (hmem d hd).2).1]
        rfl
      rw [h3, h4, h1] at hR
      exact absurd hR (by simp)
theorem prsC_yes {s : List UInt8} (h : prsB s = true) : prsC s = rdCs s := if_pos h
theorem prsC_no {s : List UInt8} (h : prsB s = false) : prsC s = [] := if_neg (by simp [h])
theorem prsB_dash : prsB [45] = true := by unfold prsB rdCs; rw [if_pos rfl]; rfl
theorem prsC_strict {s : List UInt8} (hs : s ≠ [45]) (h : prsB s = true) : prsC s = (splitL s [44]).map oneC := by
  rw [prsC_yes h]
  rw [prs_strict s hs, Bool.and_eq_true, List.all_eq_true] at h
  unfold rdCs
  rw [if_neg hs]
  exact List.map_congr_left fun t ht => (oneB_cell (h.1 t ht)).2
theorem prsC_fmt {s : List UInt8} (h : prsB s = true) : cellsB (prsC s) = true ∧ fmtC (prsC s) = s := by
  rw [prsC_yes h]
  simp only [prsB, Bool.and_eq_true, decide_eq_true_iff] at h; exact h
theorem fmtC_dash {l : List CellD} (h : cellsB l = true) (he : fmtC l = [45]) : l = [] := by
  by_cases hl : l = []
  · exact hl
  · exfalso
    have hm := cellsB_mem h
    unfold fmtC at he
    rw [if_pos h, if_neg hl] at he
    cases l with
    | nil => exact hl rfl
    | cons d r =>
      have hk := (hm d List.mem_cons_self).1
      have h1 : 1 ≤ d.fKey.length := by simp only [nameB, Bool.and_eq_true, decide_eq_true_iff] at hk; omega
      have h2 : 1 ≤ (numL d.fValue).length := by
        obtain ⟨k, e, _⟩ := numB_nat (hm d List.mem_cons_self).2
        rw [e]; exact List.length_pos_iff.2 (numL_ne k)
      have : (joinL ((d :: r).map cellT) [44]).length = 1 := by rw [he]; rfl
      rw [List.map_cons] at this
      by_cases hr : r = []
      · subst hr; simp only [List.map_nil] at this; rw [joinL_one] at this; unfold cellT at this; simp at this; omega
      · rw [joinL_cons _ _ _ (by simpa using hr)] at this; unfold cellT at this; simp at this; omega
/-- what is written is read again -/
theorem prs_fmt {l : List CellD} (h : cellsB l = true) : prsB (fmtC l) = true ∧ prsC (fmtC l) = l := by
  have key : rdCs (fmtC l) = l := by
    by_cases hd : fmtC l = [45]
    · rw [fmtC_dash h hd]; rfl
    · have hl : l ≠ [] := by rintro rfl; exact hd rfl
      have hm := cellsB_mem h
      unfold rdCs
      rw [if_neg hd]
      have e : fmtC l = joinL (l.map cellT) [44] := by unfold fmtC; rw [if_pos h, if_neg hl]
      rw [e, splitL_joinL 44 _ (by simpa using hl) (by
        intro p hp
        obtain ⟨d, hd, rfl⟩ := List.mem_map.1 hp
        exact cellT_no (hm d hd).1 (hm d hd).2), List.map_map]
      conv => rhs; rw [← List.map_id l]
      refine List.map_congr_left fun d hd => ?_
      simp only [Function.comp, rdC]
      rw [cellT_cut (hm d hd).1]
      simp only
      rw [(parse_num (hm d hd).2).1]
      rfl
  have hp : prsB (fmtC l) = true := by unfold prsB; rw [key, h]; simp
  exact ⟨hp, by rw [prsC_yes hp, key]⟩
end Go.Proofs.Ytaihdjdaamglnaa
/- Reply: what the laws' own helpers do with it. Written by gen/flat.py. -/
namespace Go.Proofs.Ytaihdjdaamglnaa
set_option linter.unusedVariables false
open Go.RowKit
structure ReplyD where
  fCode : Int
  fValue : Int
  fText : List UInt8
  fWant : Int
  fHad : Int
deriving DecidableEq
def okReply (d : ReplyD) : Prop := (-9223372036854775808 ≤ d.fCode ∧ d.fCode ≤ 9223372036854775807) ∧ (-9223372036854775808 ≤ d.fValue ∧ d.fValue ≤ 9223372036854775807) ∧ (d.fText.length ≤ maxLen) ∧ (-9223372036854775808 ≤ d.fWant ∧ d.fWant ≤ 9223372036854775807) ∧ (-9223372036854775808 ≤ d.fHad ∧ d.fHad ≤ 9223372036854775807)
def vReply (d : ReplyD) : Value := .agg #[.int .i64 d.fCode, .int .i64 d.fValue, .string ⟨d.fText.toArray⟩, .int .i64 d.fWant, .int .i64 d.fHad]
def cReply (d : ReplyD) : List Value := [.int .i64 d.fCode, .int .i64 d.fValue, .string ⟨d.fText.toArray⟩, .int .i64 d.fWant, .int .i64 d.fHad]
theorem cReply_len (d : ReplyD) : (cReply d).length = 5 := rfl
theorem cReply_one (d : ReplyD) : ∀ u ∈ cReply d, u.oneCell' = true := by intro u hu; simp only [cReply, List.mem_cons, List.not_mem_nil, or_false] at hu; rcases hu with rfl | rfl | rfl | rfl | rfl <;> rfl
def zReply (d : ReplyD) : Nat := d.fText.length
theorem infoReply : (Try.prog.info? 33).map (fun i => (i.zero, i.size, i.bytes)) = some (some (.agg #[.int .i64 0, .int .i64 0, .string ⟨#[]⟩, .int .i64 0, .int .i64 0]), 5, 48) := by kernel_rfl
def marksReply (k : Int) (n : Nat) : List ReplyD := (List.range n).map fun i : Nat => ⟨k + i * 5, k + i * 5 + 1, markL (k + i * 5 + 1 + 1), k + i * 5 + 1 + 1 + 1, k + i * 5 + 1 + 1 + 1 + 1⟩
theorem marksReply_len (k : Int) (n : Nat) : (marksReply k n).length = n := by simp [marksReply]
theorem marksReply_get (k : Int) (n i : Nat) (h : i < n) : (marksReply k n)[i]'(by rw [marksReply_len]; exact h) = ⟨k + i * 5, k + i * 5 + 1, markL (k + i * 5 + 1 + 1), k + i * 5 + 1 + 1 + 1, k + i * 5 + 1 + 1 + 1 + 1⟩ := by simp [marksReply]
end Go.Proofs.Ytaihdjdaamglnaa
/- Call: what the laws' own helpers do with it. Written by gen/flat.py. -/
namespace Go.Proofs.Ytaihdjdaamglnaa
set_option linter.unusedVariables false
open Go.RowKit
structure CallD where
  fMethod : List UInt8
  fKey : List UInt8
  fValue : Int
  fText : List UInt8
deriving DecidableEq
def okCall (d : CallD) : Prop := (d.fMethod.length ≤ maxLen) ∧ (d.fKey.length ≤ maxLen) ∧ (-9223372036854775808 ≤ d.fValue ∧ d.fValue ≤ 9223372036854775807) ∧ (d.fText.length ≤ maxLen)
def vCall (d : CallD) : Value := .agg #[.string ⟨d.fMethod.toArray⟩, .string ⟨d.fKey.toArray⟩, .int .i64 d.fValue, .string ⟨d.fText.toArray⟩]
def cCall (d : CallD) : List Value := [.string ⟨d.fMethod.toArray⟩, .string ⟨d.fKey.toArray⟩, .int .i64 d.fValue, .string ⟨d.fText.toArray⟩]
theorem cCall_len (d : CallD) : (cCall d).length = 4 := rfl
theorem cCall_one (d : CallD) : ∀ u ∈ cCall d, u.oneCell' = true := by intro u hu; simp only [cCall, List.mem_cons, List.not_mem_nil, or_false] at hu; rcases hu with rfl | rfl | rfl | rfl <;> rfl
def zCall (d : CallD) : Nat := d.fMethod.length + d.fKey.length + d.fText.length
def marksCall (k : Int) (n : Nat) : List CallD := (List.range n).map fun i : Nat => ⟨markL (k + i * 4), markL (k + i * 4 + 1), k + i * 4 + 1 + 1, markL (k + i * 4 + 1 + 1 + 1)⟩
theorem marksCall_len (k : Int) (n : Nat) : (marksCall k n).length = n := by simp [marksCall]
theorem marksCall_get (k : Int) (n i : Nat) (h : i < n) : (marksCall k n)[i]'(by rw [marksCall_len]; exact h) = ⟨markL (k + i * 4), markL (k + i * 4 + 1), k + i * 4 + 1 + 1, markL (k + i * 4 + 1 + 1 + 1)⟩ := by simp [marksCall]
end Go.Proofs.Ytaihdjdaamglnaa
/- What a call does to a core, plain: the place of a key among cells, what is put, each method's answer, valid cores stay valid. -/
namespace Go.Proofs.Ytaihdjdaamglnaa
set_option linter.unusedVariables false
open Go.RowKit
theorem bytes_lt2 (a b : List UInt8) : Op.bytesLess a b = decide (a < b) := Proofs.bytesLess_eq a b
def plc : List CellD → List UInt8 → Nat
  | [], _ => 0
  | c :: r, k => if c.fKey < k then plc r k + 1 else 0
def fnd : List CellD → List UInt8 → Bool
  | [], _ => false
  | c :: r, k => if c.fKey < k then fnd r k else decide (c.fKey = k)
def valAt : List CellD → List UInt8 → Int
  | [], _ => 0
  | c :: r, k => if c.fKey < k then valAt r k else c.fValue
def putC : List CellD → List UInt8 → Int → List CellD
  | [], k, v => [⟨k, v⟩]
  | c :: r, k, v => if c.fKey < k then c :: putC r k v else if c.fKey = k then ⟨k, v⟩ :: r else ⟨k, v⟩ :: c :: r
theorem plc_le (l : List CellD) (k : List UInt8) : plc l k ≤ l.length := by
  induction l with
  | nil => exact Nat.le_refl _
  | cons c r ih => unfold plc; split <;> simp <;> omega
theorem plc_below (l : List CellD) (k : List UInt8) : ∀ i (h : i < l.length), i < plc l k → (l[i]).fKey < k := by
  induction l with
  | nil => intro i h; simp at h
  | cons c r ih =>
    intro i h hi
    unfold plc at hi
    split at hi
    · cases i with
      | zero => assumption
      | succ i => exact ih i (by simpa using h) (by omega)
    · omega
theorem plc_at (l : List CellD) (k : List UInt8) (h : plc l k < l.length) : ¬ (l[plc l k]).fKey < k := by
  induction l with
  | nil => simp at h
  | cons c r ih =>
    by_cases hc : c.fKey < k
    · have e : plc (c :: r) k = plc r k + 1 := if_pos hc
      have h2 : plc r k < r.length := by rw [e] at h; simpa using h
      have := ih h2
      simp only [e, List.getElem_cons_succ]; exact this
    · have e : plc (c :: r) k = 0 := if_neg hc
      simp only [e, List.getElem_cons_zero]; exact hc
/-- the place is the one up to which all are less, and which is not -/
theorem plc_eq (l : List CellD) (k : List UInt8) (m : Nat) (hm : m ≤ l.length) (h1 : ∀ i (h : i < l.length), i < m → (l[i]).fKey < k) (h2 : ∀ h : m < l.length, ¬ (l[m]).fKey < k) : plc l k = m := by
  rcases Nat.lt_trichotomy (plc l k) m with h | h | h
  · exact absurd (h1 _ (by omega) h) (plc_at l k (by omega))
  · exact h
  · have := plc_le l k
    exact absurd (plc_below l k m (by omega) h) (h2 (by omega))
theorem fnd_at (l : List CellD) (k : List UInt8) (h : plc l k < l.length) : fnd l k = decide ((l[plc l k]).fKey = k) ∧ valAt l k = (l[plc l k]).fValue := by
  induction l with
  | nil => simp at h
  | cons c r ih =>
    by_cases hc : c.fKey < k
    · have e : plc (c :: r) k = plc r k + 1 := if_pos hc
      have h2 : plc r k < r.length := by rw [e] at h; simpa using h
      have := ih h2
      unfold fnd valAt
      rw [if_pos hc, if_pos hc]
      simp only [e, List.getElem_cons_succ]; exact this
    · have e : plc (c :: r) k = 0 := if_neg hc
      unfold fnd valAt
      rw [if_neg hc, if_neg hc]
      simp only [e, List.getElem_cons_zero]; exact ⟨trivial, trivial⟩
theorem fnd_end (l : List CellD) (k : List UInt8) (h : plc l k = l.length) : fnd l k = false := by
  induction l with
  | nil => rfl
  | cons c r ih =>
    by_cases hc : c.fKey < k
    · have e : plc (c :: r) k = plc r k + 1 := if_pos hc
      unfold fnd; rw [if_pos hc]; exact ih (by rw [e] at h; simpa using h)
    · have e : plc (c :: r) k = 0 := if_neg hc
      rw [e] at h; simp at h
theorem fnd_lt {l : List CellD} {k : List UInt8} (h : fnd l k = true) : plc l k < l.length := by
  rcases Nat.lt_or_ge (plc l k) l.length with h1 | h1
  · exact h1
  · rw [fnd_end l k (by have := plc_le l k; omega)] at h; exact absurd h (by simp)
theorem putC_found (l : List CellD) (k : List UInt8) (v : Int) (h : fnd l k = true) : putC l k v = l.set (plc l k) ⟨k, v⟩ := by
  induction l with
  | nil => simp [fnd] at h
  | cons c r ih =>
    unfold fnd at h
    unfold putC plc
    by_cases hc : c.fKey < k
    · rw [if_pos hc] at h ⊢
      rw [if_pos hc, List.set_cons_succ, ih h]
    · rw [if_neg hc] at h ⊢
      rw [if_neg hc, if_pos (by simpa using h), List.set_cons_zero]
theorem putC_new (l : List CellD) (k : List UInt8) (v : Int) (h : fnd l k = false) : putC l k v = l.take (plc l k) ++ ⟨k, v⟩ :: l.drop (plc l k) := by
  induction l with
  | nil => rfl
  | cons c r ih =>
    unfold fnd at h
    unfold putC plc
    by_cases hc : c.fKey < k
    · rw [if_pos hc] at h ⊢
      rw [if_pos hc, List.take_succ_cons, List.drop_succ_cons, ih h]; rfl
    · rw [if_neg hc] at h ⊢
      rw [if_neg hc, if_neg (by simpa using h)]; rfl
theorem putC_len (l : List CellD) (k : List UInt8) (v : Int) : (putC l k v).length = if fnd l k = true then l.length else l.length + 1 := by
  cases h : fnd l k with
  | true => rw [putC_found l k v h]; simp
  | false => rw [putC_new l k v h]; have := plc_le l k; simp; omega
def SortC (l : List CellD) : Prop := l.Pairwise (fun a b => a.fKey < b.fKey)
theorem key_trans {a b c : List UInt8} (h : a < b) (k : b < c) : a < c := List.lt_trans h k
theorem key_irr (a : List UInt8) : ¬ a < a := List.lt_irrefl a
theorem key_tri {a b : List UInt8} (h : ¬ a < b) (hn : a ≠ b) : b < a := by
  rcases List.le_total a b with h1 | h1
  · exact absurd (List.le_antisymm h1 (List.not_lt.1 h)) hn
  · exact List.not_le.1 fun h2 => hn (List.le_antisymm h2 h1)
theorem sortC_of (l : List CellD) (h : ∀ i (h : i + 1 < l.length), (l[i]).fKey < (l[i + 1]).fKey) : SortC l := by
  unfold SortC
  rw [List.pairwise_iff_getElem]
  intro i j hi hj hij
  induction j with
  | zero => omega
  | succ j ih =>
    rcases Nat.lt_or_ge i j with h1 | h1
    · exact key_trans (ih (by omega) h1) (h j hj)
    · have : i = j := by omega
      subst this; exact h i hj
theorem cellsB_sort {l : List CellD} (h : cellsB l = true) : SortC l := by
  refine sortC_of l fun i hi => ?_
  simp only [cellsB, Bool.and_eq_true] at h
  have := okTo_at l _ (i + 1) h.2 hi
  simp only [okAt, Bool.and_eq_true, Bool.or_eq_true, Nat.add_one_sub_one] at this
  have := this.2
  rw [getD_at l (i + 1) hi, getD_at l i (by omega), bytes_lt2] at this
  simpa using this
theorem cellsB_of {l : List CellD} (h1 : l.length ≤ 4) (h2 : ∀ d ∈ l, nameB d.fKey = true ∧ numB d.fValue = true) (h3 : SortC l) : cellsB l = true := by
  unfold cellsB
  rw [Bool.and_eq_true]
  refine ⟨by simpa using h1, ?_⟩
  unfold okTo
  rw [List.all_eq_true]
  intro i hi
  rw [List.mem_range] at hi
  have hm := h2 (l[i]) (List.getElem_mem hi)
  rw [okAt_of l i hi true true true hm.1 hm.2 ?_]
  · rfl
  · cases i with
    | zero => rfl
    | succ i =>
      simp only [Nat.add_one_sub_one, Bool.or_eq_true]
      right
      rw [getD_at l i (by omega), bytes_lt2, decide_eq_true_iff]
      exact (List.pairwise_iff_getElem.1 h3) i (i + 1) (by omega) hi (by omega)
theorem putC_mem {l : List CellD} {k : List UInt8} {v : Int} {d : CellD} (h : d ∈ putC l k v) : d = ⟨k, v⟩ ∨ d ∈ l := by
  induction l with
  | nil => left; simpa [putC] using h
  | cons c r ih =>
    unfold putC at h
    split at h
    · rcases List.mem_cons.1 h with h | h
      · right; rw [h]; exact List.mem_cons_self
      · exact (ih h).imp id (List.mem_cons_of_mem _)
    · split at h
      · rcases List.mem_cons.1 h with h | h
        · exact Or.inl h
        · exact Or.inr (List.mem_cons_of_mem _ h)
      · rcases List.mem_cons.1 h with h | h
        · exact Or.inl h
        · exact Or.inr h
theorem putC_sort {l : List CellD} (k : List UInt8) (v : Int) (h : SortC l) : SortC (putC l k v) := by
  induction l with
  | nil => simp [putC, SortC]
  | cons c r ih =>
    have hc := List.pairwise_cons.1 h
    unfold putC
    split
    · rename_i hl
      refine List.pairwise_cons.2 ⟨fun d hd => ?_, ih hc.2⟩
      rcases putC_mem hd with rfl | hd
      · exact hl
      · exact hc.1 d hd
    · rename_i hl
      split
      · rename_i he
        refine List.pairwise_cons.2 ⟨fun d hd => ?_, hc.2⟩
        rw [← he]; exact hc.1 d hd
      · rename_i he
        have hk := key_tri hl he
        refine List.pairwise_cons.2 ⟨fun d hd => ?_, h⟩
        rcases List.mem_cons.1 hd with rfl | hd
        · exact hk
        · exact key_trans hk (hc.1 d hd)
theorem putC_cells {l : List CellD} {k : List UInt8} {v : Int} (h : cellsB l = true) (hk : nameB k = true) (hv : numB v = true) (hl : fnd l k = true ∨ l.length < 4) : cellsB (putC l k v) = true := by
  refine cellsB_of ?_ ?_ (putC_sort k v (cellsB_sort h))
  · rw [putC_len]; have := cellsB_len h; split
    · exact this
    · rcases hl with hl | hl
      · contradiction
      · omega
  · intro d hd
    rcases putC_mem hd with rfl | hd
    · exact ⟨hk, hv⟩
    · exact cellsB_mem h d hd
/-- behind the place nothing has this key -/
theorem sort_after {l : List CellD} (h : SortC l) (k : List UInt8) (i : Nat) (hi : i < l.length) (hp : plc l k < i) : k < (l[i]).fKey := by
  have h1 := plc_at l k (by omega)
  have h2 := (List.pairwise_iff_getElem.1 h) (plc l k) i (by omega) hi hp
  by_cases he : (l[plc l k]).fKey = k
  · rw [← he]; exact h2
  · exact key_trans (key_tri h1 he) h2
def upI (n : Int) : Int := if n < 999 then n + 1 else n
theorem upI_num {n : Int} (h : numB n = true) : numB (upI n) = true := by
  simp only [numB, Bool.and_eq_true, decide_eq_true_iff] at h ⊢
  unfold upI; split <;> omega
def rC (c : Int) : ReplyD := ⟨c, 0, [], 0, 0⟩
def rV (v : Int) : ReplyD := ⟨0, v, [], 0, 0⟩
def rT (t : List UInt8) : ReplyD := ⟨0, 0, t, 0, 0⟩
def idleI (d : CoreD) : Int := if d.fBroken = true then 3 else if (!d.fOn && hasI (coreF d) 0) = true then 2 else 0
def startD (d : CoreD) : CoreD × ReplyD :=
  if d.fBroken = true then (d, rC 3) else if d.fOn = true then ({ d with fOn := false, fBroken := true }, rC 3) else ({ d with fOn := true, fCount := upI d.fCount }, rC 0)
def stopD (d : CoreD) : CoreD × ReplyD :=
  if d.fBroken = true then (d, rC 3) else if d.fOn = true then ({ d with fOn := false }, rC 0) else (d, rC 2)
def getD1 (d : CoreD) (k : List UInt8) : CoreD × ReplyD :=
  if idleI d = 0 then (if fnd d.fCells k = true then (d, rV (valAt d.fCells k)) else (d, rC 4)) else (d, rC (idleI d))
def putD (d : CoreD) (k : List UInt8) (v : Int) : CoreD × ReplyD :=
  if idleI d = 0 then
    (if fnd d.fCells k = true ∨ d.fCells.length < 4 then ({ d with fCells := putC d.fCells k v, fCount := upI d.fCount }, rV (putC d.fCells k v).length) else (d, rC 5))
  else (d, rC (idleI d))
def tellD (d : CoreD) : CoreD × ReplyD := (d, rV d.fCount)
def hearD (d : CoreD) (v : Int) : CoreD × ReplyD :=
  if d.fBroken = true then (d, rC 3) else ({ d with fOn := if v = 0 then false else if v = 1 then true else d.fOn, fCount := upI d.fCount }, rV (upI d.fCount))
def loadD (d : CoreD) (t : List UInt8) : CoreD × ReplyD :=
  if d.fBroken = true then (d, rC 3) else if prsB t = true then ({ d with fCells := prsC t }, rV (prsC t).length) else (d, rC 6)
def saveD (d : CoreD) : CoreD × ReplyD := if d.fBroken = true then (d, rC 3) else (d, rT (fmtC d.fCells))
def healD (d : CoreD) : CoreD × ReplyD := ({ d with fOn := false, fBroken := false }, rC 0)
/-- the methods, in the order of the abilities -/
def mthD (d : CoreD) (x : CallD) : CoreD × ReplyD :=
  if x.fMethod = [83, 116, 97, 114, 116] then startD d
  else if x.fMethod = [83, 116, 111, 112] then stopD d
  else if x.fMethod = [71, 101, 116] then getD1 d x.fKey
  else if x.fMethod = [80, 117, 116] then putD d x.fKey x.fValue
  else if x.fMethod = [84, 101, 108, 108] then tellD d
  else if x.fMethod = [72, 101, 97, 114] then hearD d x.fValue
  else if x.fMethod = [76, 111, 97, 100] then loadD d x.fText
  else if x.fMethod = [83, 97, 118, 101] then saveD d
  else healD d
end Go.Proofs.Ytaihdjdaamglnaa
/- the model's small helpers of calls: l3Up, l3Copy, l3At, l3Put -/
namespace Go.Proofs.Ytaihdjdaamglnaa
set_option linter.unusedVariables false
set_option linter.unusedSimpArgs false
open Go.RowKit
/-- the first place of a key; -1 -/
def atK (l : List CellD) (k : List UInt8) : Int := findK (fun i => (l.getD i default).fKey == k) 0 l.length
theorem atK_sort {l : List CellD} (h : SortC l) (k : List UInt8) : atK l k = if fnd l k = true then (plc l k : Int) else -1 := by
  unfold atK
  cases hf : fnd l k with
  | true =>
    have hp := fnd_lt hf
    have hk : (l[plc l k]).fKey = k := by have := (fnd_at l k hp).1; rw [hf] at this; simpa using this.symm
    have key : ∀ m, m ≤ plc l k → findK (fun i => (l.getD i default).fKey == k) (plc l k - m) (l.length - (plc l k - m)) = (plc l k : Int) := by
      intro m
      induction m with
      | zero => intro _; exact findK_yes (by omega) (by rw [Nat.sub_zero, getD_at l _ hp, hk]; simp)
      | succ m ih =>
        intro hm
        have h1 : plc l k - (m + 1) < l.length := by omega
        rw [findK_no h1, show plc l k - (m + 1) + 1 = plc l k - m by omega, ih (by omega)]
        rw [getD_at l _ h1]
        have h2 := plc_below l k _ h1 (by omega)
        simp only [beq_eq_false_iff_ne, ne_eq]
        intro e; rw [e] at h2; exact key_irr k h2
    have := key (plc l k) (Nat.le_refl _)
    simpa using this
  | false =>
    have key : ∀ m, m ≤ l.length → findK (fun i => (l.getD i default).fKey == k) (l.length - m) (l.length - (l.length - m)) = -1 := by
      intro m
      induction m with
      | zero => intro _; rw [Nat.sub_zero]; exact findK_end
      | succ m ih =>
        intro hm
        have h1 : l.length - (m + 1) < l.length := by omega
        rw [findK_no h1, show l.length - (m + 1) + 1 = l.length - m by omega, ih (by omega)]
        rw [getD_at l _ h1]
        simp only [beq_eq_false_iff_ne, ne_eq]
        intro e
        rcases Nat.lt_trichotomy (l.length - (m + 1)) (plc l k) with h2 | h2 | h2
        · have := plc_below l k _ h1 h2; rw [e] at this; exact key_irr k this
        · have := (fnd_at l k (by omega)).1
          rw [hf] at this
          simp only [← h2] at this
          rw [e] at this; simp at this
        · have := sort_after h k _ h1 h2; rw [e] at this; exact key_irr k this
    have := key l.length (Nat.le_refl _)
    simpa using this
set_option maxHeartbeats 1600000 in
theorem l3At_any (v : Value) (l : List CellD) (key : List UInt8) (w : World) (hx : FlatAt cCell 2 w v l) :
    Calls Try.prog 136 #[v, .string ⟨key.toArray⟩] w fun e w' => e = .returned (.int .i64 (atK l key)) ∧ Below w.heap.size w w' := by
  obtain ⟨a, c, rfl, hl⟩ := flatAt_len hx
  have HX := Lib.hid hx
  clear hx
  unfold maxLen at hl
  have HA := Lib.hid (show atK l key = findK (fun i => (l.getD i default).fKey == key) 0 (l.length - 0) from rfl)
  generalize atK l key = res at *
  go_enter Try.func136, Try.ntmps136
  go_wp2_with fail
  go_loopw [5, 6, 9] (fun _ _ i wr => ∃ k : Nat, k ≤ l.length ∧ i = .int .i64 k ∧ findK (fun i => (l.getD i default).fKey == key) k (l.length - k) = res ∧ Below w.heap.size w wr) (fun _ _ i _ => l.length - (intOf i).toNat)
  case atStart => exact ⟨0, Nat.zero_le _, rfl, HA.out.symm, Below.refl _ _⟩
  case round =>
    obtain ⟨k, hk, rfl, hok, hb⟩ := hrel
    have HO := Lib.hid hok
    have HB := Lib.hid hb
    have HXr := Lib.hid (FlatAt.below HX.out hb (Nat.le_refl _))
    clear hok hb
    by_cases hlt : k < l.length
    · obtain ⟨b, o, rfl, hbl, hd⟩ := flatAt_cell cCell_len HXr.out k hlt (by decide)
      have d0 := hd 0 (by decide)
      have d1 := hd 1 (by decide)
      clear hd
      have HBB := Lib.hid (show ∀ o1, Below w.heap.size w (wr.alloc o1) from fun o1 => HB.out.alloc HB.out.size _)
      cases heq : ((l[k]).fKey == key) with
      | true =>
        have HR := Lib.hid (show (k : Int) = res from by rw [← HO.out]; exact (findK_yes hlt (by rw [getD_at l k hlt]; exact heq)).symm)
        generalize l[k] = p at *
        obtain ⟨a0, a1⟩ := p
        simp only [cCell, List.getElem?_cons_zero, List.getElem?_cons_succ, Nat.add_zero] at d0 d1
        go_wp2_with fail
        go_ret
        exact ⟨ret_int HR.out, HBB.out _⟩
      | false =>
        have HR := Lib.hid (show findK (fun i => (l.getD i default).fKey == key) (k + 1) (l.length - (k + 1)) = res from by rw [← HO.out]; exact (findK_no hlt (by rw [getD_at l k hlt]; exact heq)).symm)
        generalize l[k] = p at *
        obtain ⟨a0, a1⟩ := p
        simp only [cCell, List.getElem?_cons_zero, List.getElem?_cons_succ, Nat.add_zero] at d0 d1
        go_wp2_with fail
        exact ⟨⟨k + 1, by omega, by go_num, HR.out, HBB.out _⟩, by simp [intOf]; omega⟩
    · have HR := Lib.hid (show (-1 : Int) = res from by rw [← HO.out, show k = l.length by omega]; exact findK_end.symm)
      go_wp2_with fail
      go_ret
      exact ⟨ret_int HR.out, HB.out⟩
end Go.Proofs.Ytaihdjdaamglnaa
/- Contracts of chapter 3: the program's FormatCells. -/
namespace Go.Proofs.Ytaihdjdaamglnaa
set_option linter.unusedVariables false
open Go.RowKit
/-- append of one text to a row of one's own, at a step of a region that draws -/
theorem step_strs {ops : Array Oper} {o : Oper} {a : Act} {K : Act → World → Prop} {Q : Exit → Act → World → Prop} {E : Prop} (hgd : o.guard = none) (s x : Operand)
    (ho : o.op = .call { callee := .builtin .append, args := #[s, x], argTypes := #[44, 44] }) (B : Nat) (v : Value) (xs : List (List UInt8)) (y : List UInt8) (w : World) (blk : Nat)
    (hs : a.eval s = v) (hO : Owns w B v xs) (hx : a.eval x = .slice (some ⟨blk, 0, none⟩) 1 1) (hc : w.cell? ⟨blk, 0, none⟩ = some (strV y)) (hl : xs.length ≤ 4194304) (hB : B ≤ w.heap.size)
    (h : ∀ v' w', Owns w' B v' (xs ++ [y]) → w.grownBy w' v.ownBlock → K (a.put o.dst v') w') : if Region.wanted o (yielded ops a.tmps) = true then Oper.wp Try.prog o a w K Q else E := by
  obtain ⟨i0, hi, hz0, hz1, hz2⟩ := info_parts string_info
  refine step_append_lies w hgd s x 44 ho B 9 i0 (.string ⟨#[]⟩) 1 16 Try.underlying44 hi hz0 hz1 hz2 rfl (by decide) v xs.length (xs.map strV) hs hO ⟨blk, 0, none⟩ 1 1 [strV y] hx rfl ?_ ?_ (by decide) (by unfold maxLen; omega) (by omega) hB _ rfl ?_
  · intro j u hj
    cases j with
    | zero => simp at hj; subst hj; rw [Addr.add_lit]; exact hc
    | succ j => simp at hj
  · intro u hu; simp at hu; subst hu; rfl
  · intro g cap w' h1 h2 _ _
    refine h _ w' ?_ h2
    unfold Owns; rw [List.map_append, List.length_append]; exact h1
theorem owns_drew {w : World} {B : Nat} {v : Value} {xs : List (List UInt8)} (h : Owns w B v xs) : Owns w.drew B v xs := h
theorem below_drew {B : Nat} {a w : World} (h : Below B a w) : Below B a w.drew := ⟨h.os, h.tape, h.output, h.size, h.block⟩
theorem row_lit2 (w : World) (a b : List UInt8) (c : Nat) (hc : 2 ≤ c := by decide) : RowAt (w.alloc (.cells #[.string ⟨a.toArray⟩, .string ⟨b.toArray⟩] 9)) (.slice (some ⟨w.heap.size, 0, none⟩) 2 c) ([a, b].map strV) := by
  refine ⟨_, _, cap_eq _ hc, by unfold maxLen; simp, Or.inr ⟨w.heap.size, 0, rfl, by simp, fun i hi => ?_⟩⟩
  rw [cell_of_row _ _ _ _ 9 (0, 0) (heap_alloc_new w _)]
  simp [strV]
theorem row_lit1 (w : World) (a : List UInt8) (c : Nat) (hc : 1 ≤ c := by decide) : RowAt (w.alloc (.cells #[.string ⟨a.toArray⟩] 9)) (.slice (some ⟨w.heap.size, 0, none⟩) 1 c) ([a].map strV) := by
  refine ⟨_, _, cap_eq _ hc, by unfold maxLen; simp, Or.inr ⟨w.heap.size, 0, rfl, by simp, fun i hi => ?_⟩⟩
  rw [cell_of_row _ _ _ _ 9 (0, 0) (heap_alloc_new w _)]
  simp [strV]
theorem nameB_len8 {l : List UInt8} (h : nameB l = true) : l.length ≤ 8 := by simp only [nameB, Bool.and_eq_true, decide_eq_true_iff] at h; exact h.1.1.2
theorem cellT_len {d : CellD} (h : nameB d.fKey = true) (h2 : numB d.fValue = true) : (cellT d).length ≤ 12 := by
  obtain ⟨k, e, hk⟩ := numB_nat h2
  have h1 := nameB_len8 h
  have h3 := numL_len hk
  unfold cellT; rw [e]; simp; omega
theorem fmt_small (l : List CellD) (h : ∀ d ∈ l, nameB d.fKey = true ∧ numB d.fValue = true) (hl : l.length ≤ 4) : (joinL (l.map cellT) [44]).length ≤ 100 := by
  have h1 := joinK_len (l.map cellT) [44] (l.map cellT).length (Nat.le_refl _)
  rw [List.take_length, List.length_map] at h1
  have h2 : total (l.map cellT) ≤ 12 * l.length := by
    clear h1 hl
    induction l with
    | nil => simp [total]
    | cons a r ih =>
      have := ih fun d hd => h d (List.mem_cons_of_mem _ hd)
      have h3 := cellT_len (h a List.mem_cons_self).1 (h a List.mem_cons_self).2
      simp only [List.map_cons, total, List.length_cons]; omega
  unfold joinL; simp only [List.length_map, List.length_cons, List.length_nil] at *; omega
theorem map_cellT_snoc (l : List CellD) (k : Nat) (h : k < l.length) : (l.take (k + 1)).map cellT = (l.take k).map cellT ++ [cellT l[k]] := by
  rw [List.take_succ_eq_append_getElem h, List.map_append]; rfl
end Go.Proofs.Ytaihdjdaamglnaa
/- Contracts of chapter 3: the program's readCells, ParseCells. -/
namespace Go.Proofs.Ytaihdjdaamglnaa
set_option linter.unusedVariables false
open Go.RowKit
theorem append_cell {ops : Array Oper} {rest : List Oper} {o : Oper} {a : Act} {Q : Exit → Act → World → Prop} (hgd : o.guard = none) (s x : Operand)
    (ho : o.op = .call { callee := .builtin .append, args := #[s, x], argTypes := #[24, 24] }) (B : Nat) (v : Value) (l : List CellD) (y : CellD) (w : World) (blk : Nat)
    (hs : a.eval s = v) (hO : OwnsF cCell 134 2 w B v l) (hx : a.eval x = .slice (some ⟨blk, 0, none⟩) 1 1) (hc : ∀ j, j < 2 → w.cell? ⟨blk, j, none⟩ = (cCell y)[j]?) (hl : l.length ≤ 4194304) (hB : B ≤ w.heap.size)
    (h : ∀ v' w', OwnsF cCell 134 2 w' B v' (l ++ [y]) → w.grownBy w' v.ownBlock → wpList Try.prog ops Q rest (a.put o.dst v') w') : wpList Try.prog ops Q (o :: rest) a w :=
  append_flat cCell_len cCell_one cell_info rfl (by decide) (by decide) Try.underlying24 hgd s x ho B v l y w blk hs hO hx hc hl hB h
theorem map_rdC_snoc (l : List (List UInt8)) (k : Nat) (h : k < l.length) : (l.take (k + 1)).map rdC = (l.take k).map rdC ++ [rdC l[k]] := by
  rw [List.take_succ_eq_append_getElem h, List.map_append]; rfl
end Go.Proofs.Ytaihdjdaamglnaa
/- the model's l3Put -/
namespace Go.Proofs.Ytaihdjdaamglnaa
set_option linter.unusedVariables false
set_option linter.unusedSimpArgs false
open Go.RowKit
/-- what is put out behind the first i cells -/
def outTo (l : List CellD) (k : List UInt8) (v : Int) (i : Nat) : List CellD :=
  if plc l k < i then l.take (plc l k) ++ ⟨k, v⟩ :: (l.take i).drop (if fnd l k = true then plc l k + 1 else plc l k) else l.take i
theorem outTo_low (l : List CellD) (k : List UInt8) (v : Int) (i : Nat) (hi : i < l.length) (h : i < plc l k) : outTo l k v (i + 1) = outTo l k v i ++ [l[i]] := by
  unfold outTo
  rw [if_neg (by omega), if_neg (by omega), List.take_succ_eq_append_getElem hi]
theorem outTo_high (l : List CellD) (k : List UInt8) (v : Int) (i : Nat) (hi : i < l.length) (h : plc l k < i) : outTo l k v (i + 1) = outTo l k v i ++ [l[i]] := by
  unfold outTo
  rw [if_pos (by omega), if_pos h, List.take_succ_eq_append_getElem hi, List.drop_append_of_le_length (by rw [List.length_take]; split <;> omega)]
  simp
theorem outTo_at (l : List CellD) (k : List UInt8) (v : Int) (hi : plc l k < l.length) : outTo l k v (plc l k + 1) = outTo l k v (plc l k) ++ ⟨k, v⟩ :: (if (l[plc l k]).fKey = k then [] else [l[plc l k]]) := by
  have hf := (fnd_at l k hi).1
  unfold outTo
  rw [if_pos (Nat.lt_succ_self (plc l k)), if_neg (Nat.lt_irrefl (plc l k)), List.take_succ_eq_append_getElem hi]
  congr 2
  have hl : (l.take (plc l k)).length = plc l k := by rw [List.length_take]; omega
  by_cases he : (l[plc l k]).fKey = k
  · rw [if_pos he, if_pos (by rw [hf]; simpa using he)]
    rw [List.drop_eq_nil_of_le (by simp [hl]; omega)]
  · rw [if_neg he, if_neg (by rw [hf]; simpa using he)]
    conv => lhs; arg 1; rw [← hl]
    rw [List.drop_left]
theorem outTo_end (l : List CellD) (k : List UInt8) (v : Int) (hi : plc l k < l.length) : outTo l k v l.length = putC l k v := by
  unfold outTo
  rw [if_pos hi, List.take_length]
  cases hf : fnd l k with
  | true => rw [putC_found l k v hf, if_pos rfl, List.set_eq_take_append_cons_drop, if_pos hi]
  | false => rw [putC_new l k v hf, if_neg (by simp)]
theorem outTo_last (l : List CellD) (k : List UInt8) (v : Int) (hi : plc l k = l.length) : outTo l k v l.length ++ [⟨k, v⟩] = putC l k v := by
  unfold outTo
  rw [if_neg (by omega), putC_new l k v (fnd_end l k hi), hi, List.drop_length]
theorem outTo_len (l : List CellD) (k : List UInt8) (v : Int) (i : Nat) (hi : i ≤ l.length) : (outTo l k v i).length ≤ i + 1 := by
  unfold outTo
  have := plc_le l k
  split
  · simp; split <;> omega
  · simp; omega
set_option maxRecDepth 100000 in
set_option maxHeartbeats 3200000 in
theorem l3Put_any (vv : Value) (l : List CellD) (key : List UInt8) (v : Int) (w : World) (hx : FlatAt cCell 2 w vv l) (hm : l.length ≤ 1000) (hs : SortC l) :
    Calls Try.prog 137 #[vv, .string ⟨key.toArray⟩, .int .i64 v] w fun e w' => ∃ u, e = .returned u ∧ OwnsF cCell 134 2 w' w.heap.size u (putC l key v) ∧ Below w.heap.size w w' := by
  obtain ⟨a, c, rfl, hl⟩ := flatAt_len hx
  have HX := Lib.hid hx
  clear hx
  unfold maxLen at hl
  have HSA := Lib.hid (fun i h1 h2 => sort_after hs key i h1 h2)
  have HLO := Lib.hid (outTo_low l key v)
  have HHI := Lib.hid (outTo_high l key v)
  have HAT := Lib.hid (outTo_at l key v)
  have HEN := Lib.hid (outTo_end l key v)
  have HLA := Lib.hid (outTo_last l key v)
  have HLN := Lib.hid (outTo_len l key v)
  have HPB := Lib.hid (plc_below l key)
  have HPA := Lib.hid (plc_at l key)
  have hple := plc_le l key
  have H0 := Lib.hid (show outTo l key v 0 = [] from by unfold outTo; rw [if_neg (by omega)]; rfl)
  generalize putC l key v = res at *
  generalize hq : plc l key = q at *
  clear hq hs
  have HO0 := Lib.hid (show OwnsF cCell 134 2 (w.alloc (.cells #[] 134)) w.heap.size (.slice (some ⟨w.heap.size, 0, none⟩) 0 0) (outTo l key v 0) from by rw [H0.out]; exact ownsF_new cCell 134 2 w)
  go_enter Try.func137, Try.ntmps137
  go_wp2_with fail
  go_loopw [7, 8, 10, 14] (fun u dn _ i wr => ∃ k : Nat, k ≤ l.length ∧ i = .int .i64 k ∧ dn = .bool (decide (q < k)) ∧ OwnsF cCell 134 2 wr w.heap.size u (outTo l key v k) ∧ Below w.heap.size w wr) (fun _ _ _ i _ => l.length - (intOf i).toNat)
  case atStart => exact ⟨0, Nat.zero_le _, rfl, by simp, HO0.out, (Below.refl _ _).alloc (Nat.le_refl _) _⟩
  case round =>
    obtain ⟨k, hk, rfl, rfl, hO, hb⟩ := hrel
    have HO := Lib.hid hO
    have HB := Lib.hid hb
    have HXr := Lib.hid (FlatAt.below HX.out hb (Nat.le_refl _))
    have hLk := HLN.out k hk
    clear hO hb
    by_cases hlt : k < l.length
    · obtain ⟨b, o, rfl, hbl, hd⟩ := flatAt_cell cCell_len HXr.out k hlt (by decide)
      have d0 := hd 0 (by decide)
      have d1 := hd 1 (by decide)
      clear hd
      rcases Nat.lt_trichotomy k q with hkq | hkq | hkq
      · have hg : decide (q < k) = false := decide_eq_false (by omega)
        have hg2 : decide (q < k + 1) = false := decide_eq_false (by omega)
        have HN := Lib.hid (HLO.out k hlt hkq)
        have hlt2 := HPB.out k hlt hkq
        have hx1 : Op.bytesLess (l[k]).fKey key = true := by rw [bytes_lt2]; simpa using hlt2
        have hx2 : ((l[k]).fKey != key) = true := by simp only [bne_iff_ne, ne_eq]; intro e; rw [e] at hlt2; exact key_irr _ hlt2
        have hx3 : ((l[k]).fKey == key) = false := by simpa using hx2
        clear hlt2
        generalize l[k] = p at *
        obtain ⟨a0, a1⟩ := p
        simp only [cCell, List.getElem?_cons_zero, List.getElem?_cons_succ, Nat.add_zero] at d0 d1
        rw [hg]
        go_wp2_with (at_builtin; refine append_cell rfl _ _ rfl w.heap.size _ (outTo l key v k) ⟨a0, a1⟩ _ (wr.heap.size + 1) (by rfl) (ownsF_alloc (ownsF_alloc HO.out _) _) (by rfl) (cell_newC (wr.alloc _) ⟨a0, a1⟩ _ (by simp)) (by omega) (by have := HB.out.size; simp; omega) ?_; intro v' w' ho hgr)
        have HA := Lib.hid (below_appendF (((HB.out.alloc HB.out.size _).alloc (by have := HB.out.size; simp; omega) _)) (ownsF_alloc (ownsF_alloc HO.out _) _) hgr (by have := HB.out.size; simp; omega))
        refine ⟨⟨k + 1, by omega, by go_num, by rw [hg2], by rw [HN.out]; exact ho, HA.out⟩, by simp [intOf]; omega⟩
      · have hg : decide (q < k) = false := decide_eq_false (by omega)
        have hg2 : decide (q < k + 1) = true := decide_eq_true (by omega)
        have HN := Lib.hid (show outTo l key v (k + 1) = outTo l key v k ++ ⟨key, v⟩ :: (if (l[k]).fKey = key then [] else [l[k]]) from by have h := HAT.out (by omega); simp only [← hkq] at h; exact h)
        have hx1 : Op.bytesLess (l[k]).fKey key = false := by rw [bytes_lt2]; have h := HPA.out (by omega); simp only [← hkq] at h; simpa using h
        have HKQ := Lib.hid hkq
        clear hkq
        cases hx3 : ((l[k]).fKey == key) with
        | true =>
          have HN1 := Lib.hid (show outTo l key v (k + 1) = outTo l key v k ++ [⟨key, v⟩] from by rw [HN.out, if_pos (by simpa using hx3)])
          clear HN HAT
          generalize l[k] = p at *
          obtain ⟨a0, a1⟩ := p
          simp only [cCell, List.getElem?_cons_zero, List.getElem?_cons_succ, Nat.add_zero] at d0 d1
          rw [hg]
          go_wp2_with (at_builtin; refine append_cell rfl (.tmp 26) (.tmp 30) rfl w.heap.size _ (outTo l key v k) ⟨key, v⟩ _ (wr.heap.size + 1) (by rfl) (ownsF_alloc (ownsF_alloc HO.out _) _) (by rfl) (cell_newC (wr.alloc _) ⟨key, v⟩ _ (by simp)) (by omega) (by have := HB.out.size; simp; omega) ?_; intro v' w' ho hgr; have b0 : w'.cell? ⟨wr.heap.size, 0, none⟩ = some (.string ⟨a0.toArray⟩) := (hgr.cell_far ⟨wr.heap.size, 0, none⟩ (by simp; try omega) (fun e => by have := (World.ownsRow.lt HO.out _ e.symm).2; simp at this)).trans (by simp [go_sem]); have b1 : w'.cell? ⟨wr.heap.size, 1, none⟩ = some (.int .i64 a1) := (hgr.cell_far ⟨wr.heap.size, 1, none⟩ (by simp; try omega) (fun e => by have := (World.ownsRow.lt HO.out _ e.symm).2; simp at this)).trans (by simp [go_sem]))
          have HA := Lib.hid (below_appendF (((HB.out.alloc HB.out.size _).alloc (by have := HB.out.size; simp; omega) _)) (ownsF_alloc (ownsF_alloc HO.out _) _) hgr (by have := HB.out.size; simp; omega))
          refine ⟨⟨k + 1, by omega, by go_num, by rw [hg2], by rw [HN1.out]; exact ho, HA.out⟩, by simp [intOf]; omega⟩
        | false =>
          have HN1 := Lib.hid (show outTo l key v (k + 1) = (outTo l key v k ++ [⟨key, v⟩]) ++ [l[k]] from by rw [HN.out, if_neg (by simpa using hx3)]; simp)
          clear HN HAT
          generalize l[k] = p at *
          obtain ⟨a0, a1⟩ := p
          simp only [cCell, List.getElem?_cons_zero, List.getElem?_cons_succ, Nat.add_zero] at d0 d1
          rw [hg]
          go_wp2_with (first | (at_builtin; refine append_cell rfl (.tmp 26) (.tmp 30) rfl w.heap.size _ (outTo l key v k) ⟨key, v⟩ _ (wr.heap.size + 1) (by rfl) (ownsF_alloc (ownsF_alloc HO.out _) _) (by rfl) (cell_newC (wr.alloc _) ⟨key, v⟩ _ (by simp)) (by omega) (by have := HB.out.size; simp; omega) ?_; intro v' w' ho hgr; have b0 : w'.cell? ⟨wr.heap.size, 0, none⟩ = some (.string ⟨a0.toArray⟩) := (hgr.cell_far ⟨wr.heap.size, 0, none⟩ (by simp; try omega) (fun e => by have := (World.ownsRow.lt HO.out _ e.symm).2; simp at this)).trans (by simp [go_sem]); have b1 : w'.cell? ⟨wr.heap.size, 1, none⟩ = some (.int .i64 a1) := (hgr.cell_far ⟨wr.heap.size, 1, none⟩ (by simp; try omega) (fun e => by have := (World.ownsRow.lt HO.out _ e.symm).2; simp at this)).trans (by simp [go_sem])) | (at_builtin; refine append_cell rfl (.tmp 36) (.tmp 38) rfl w.heap.size _ (outTo l key v k ++ [⟨key, v⟩]) ⟨a0, a1⟩ _ w'.heap.size (by rfl) (ownsF_alloc ho _) (by rfl) (cell_newC w' ⟨a0, a1⟩ _ rfl) (by simp; omega) (by have := HB.out.size; have := hgr.size; simp at *; omega) ?_; intro v2 w2 ho2 hgr2))
          have HA := Lib.hid (below_appendF (((HB.out.alloc HB.out.size _).alloc (by have := HB.out.size; simp; omega) _)) (ownsF_alloc (ownsF_alloc HO.out _) _) hgr (by have := HB.out.size; simp; omega))
          have HA2 := Lib.hid (below_appendF (HA.out.alloc HA.out.size _) (ownsF_alloc ho _) hgr2 (by have := HA.out.size; simp; omega))
          refine ⟨⟨k + 1, by omega, by go_num, by rw [hg2], by rw [HN1.out]; exact ho2, HA2.out⟩, by simp [intOf]; omega⟩
      · have hg : decide (q < k) = true := decide_eq_true (by omega)
        have hg2 : decide (q < k + 1) = true := decide_eq_true (by omega)
        have HN := Lib.hid (HHI.out k hlt hkq)
        have hlt2 := HSA.out k hlt hkq
        have hx3 : ((l[k]).fKey == key) = false := by simp only [beq_eq_false_iff_ne, ne_eq]; intro e; rw [e] at hlt2; exact key_irr _ hlt2
        clear hlt2
        generalize l[k] = p at *
        obtain ⟨a0, a1⟩ := p
        simp only [cCell, List.getElem?_cons_zero, List.getElem?_cons_succ, Nat.add_zero] at d0 d1
        rw [hg]
        go_wp2_with (at_builtin; refine append_cell rfl _ _ rfl w.heap.size _ (outTo l key v k) ⟨a0, a1⟩ _ (wr.heap.size + 1) (by rfl) (ownsF_alloc (ownsF_alloc HO.out _) _) (by rfl) (cell_newC (wr.alloc _) ⟨a0, a1⟩ _ (by simp)) (by omega) (by have := HB.out.size; simp; omega) ?_; intro v' w' ho hgr)
        have HA := Lib.hid (below_appendF (((HB.out.alloc HB.out.size _).alloc (by have := HB.out.size; simp; omega) _)) (ownsF_alloc (ownsF_alloc HO.out _) _) hgr (by have := HB.out.size; simp; omega))
        refine ⟨⟨k + 1, by omega, by go_num, by rw [hg2], by rw [HN.out]; exact ho, HA.out⟩, by simp [intOf]; omega⟩
    · have hkl : k = l.length := by omega
      by_cases hql : q < l.length
      · have hg : decide (q < k) = true := decide_eq_true (by omega)
        have HR := Lib.hid (show outTo l key v k = res from by rw [hkl]; exact HEN.out hql)
        rw [hg]
        go_wp2_with fail
        go_ret
        exact ⟨_, rfl, by rw [← HR.out]; exact HO.out, HB.out⟩
      · have hg : decide (q < k) = false := decide_eq_false (by omega)
        have HR := Lib.hid (show outTo l key v k ++ [⟨key, v⟩] = res from by rw [hkl]; exact HLA.out (by omega))
        rw [hg]
        go_wp2_with (at_builtin; refine append_cell rfl _ _ rfl w.heap.size _ (outTo l key v k) ⟨key, v⟩ _ wr.heap.size (by rfl) (ownsF_alloc HO.out _) (by rfl) (cell_newC wr ⟨key, v⟩ _ rfl) (by omega) (by have := HB.out.size; simp; omega) ?_; intro v' w' ho hgr)
        go_ret
        exact ⟨_, rfl, by rw [← HR.out]; exact ho, below_appendF (HB.out.alloc HB.out.size _) (ownsF_alloc HO.out _) hgr (by have := HB.out.size; simp; omega)⟩
end Go.Proofs.Ytaihdjdaamglnaa
/- The draws of chapter 3: kinds, keys, cells. -/
namespace Go.Proofs.Ytaihdjdaamglnaa
set_option linter.unusedVariables false
set_option linter.unusedSimpArgs false
open Go.RowKit
set_option maxHeartbeats 800000 in
theorem l3Key_any (b : Nat) (v : Value) (l : List UInt8) (w : World) (hC : Cur w b v l) :
    Calls Try.prog 135 #[.pointer (some ⟨b, 0, none⟩)] w fun e w' => DrawnStr (fun x => x.size ≤ 9) b v l w e w' := by
  have HC := Lib.hid hC
  clear hC
  go_enter Try.func135, Try.ntmps135
  go_wp2_with fail
  refine (l1Str_new b v l w _ _ _ _ 9 HC.out (by rfl) (by decide) (by decide) (by decide)).mono ?_
  rintro e w1 ⟨x, rfl, hx, hg1, hC1⟩
  have HG := Lib.hid hg1
  have HC1 := Lib.hid hC1
  clear hg1 hC1
  go_wp2_with fail
  go_ret
  exact ⟨_, rfl, hx, HG.out, HC1.out⟩
set_option maxHeartbeats 800000 in
theorem l3Kind_any (b : Nat) (v : Value) (l : List UInt8) (w : World) (hC : Cur w b v l) :
    Calls Try.prog 95 #[.pointer (some ⟨b, 0, none⟩)] w fun e w' => DrawnStr (fun x => x.size ≤ 9) b v l w e w' := by
  have HC0 := Lib.hid hC
  clear hC
  go_enter Try.func95, Try.ntmps95
  go_wp2_with fail
  refine (l1Once_any b v l _ w HC0.out (by omega) (by omega)).mono ?_
  rintro e w1 ⟨x, rfl, hg, hC⟩
  have HG1 := Lib.hid (hg)
  have HC1 := Lib.hid hC
  clear hg hC
  cases x
  · go_wp2_with fail
    refine (l1Str_new b v l w1 _ _ _ _ 9 HC1.out (by rfl) (by decide) (by decide) (by decide)).mono ?_
    rintro e w2 ⟨x, rfl, hx, hg1, hC1⟩
    have HG := Lib.hid (grown_trans HG1.out hg1)
    have HC2 := Lib.hid hC1
    clear hg1 hC1
    go_wp2_with fail
    go_ret
    exact ⟨_, rfl, hx, HG.out, HC2.out⟩
  · go_wp2_with fail
    refine (l1Str_new b v l w1 _ _ _ _ 9 HC1.out (by rfl) (by decide) (by decide) (by decide)).mono ?_
    rintro e w2 ⟨x, rfl, hx, hg1, hC1⟩
    have HG := Lib.hid (grown_trans HG1.out hg1)
    have HC2 := Lib.hid hC1
    clear hg1 hC1
    go_wp2_with fail
    go_ret
    exact ⟨_, rfl, hx, HG.out, HC2.out⟩
def SmallC (x : List CellD) : Prop := x.length ≤ 6 ∧ ∀ c ∈ x, c.fKey.length ≤ 9 ∧ I64 c.fValue
def DrawnCells (b : Nat) (v : Value) (l : List UInt8) (w : World) (e : Ending) (w' : World) : Prop := ∃ u x, e = .returned u ∧ OwnsF cCell 134 2 w' w.heap.size u x ∧ SmallC x ∧ w.grownBy w' (some b) ∧ Cur w' b v l
theorem ownsF_grownC {α : Type} {f : α → List Value} {E k : Nat} {w w' : World} {B b : Nat} {v : Value} {l : List α} (h : OwnsF f E k w B v l) (hg : w.grownBy w' (some b)) (hb : b < B) : OwnsF f E k w' B v l :=
  World.ownsRow.kept h hg (Or.inr fun e => by have := (World.ownsRow.lt h b e).1; omega)
theorem smallC_put {x : List CellD} {k : List UInt8} {n : Int} (h : SmallC x) (hl : x.length ≤ 5) (hk : k.length ≤ 9) (hn : I64 n) : SmallC (putC x k n) := by
  refine ⟨by rw [putC_len]; split <;> omega, fun c hc => ?_⟩
  rcases putC_mem hc with rfl | hc
  · exact ⟨hk, hn⟩
  · exact h.2 c hc
set_option maxRecDepth 100000 in
set_option maxHeartbeats 3200000 in
theorem l3Cells_any (b : Nat) (v : Value) (l : List UInt8) (w : World) (hC : Cur w b v l) :
    Calls Try.prog 126 #[.pointer (some ⟨b, 0, none⟩)] w fun e w' => DrawnCells b v l w e w' := by
  have hbl := hC.lt
  have HC := Lib.hid (cur_alloc hC (.cells #[] 134))
  have HO := Lib.hid (ownsF_new cCell 134 2 w)
  have HG0 := Lib.hid (grown_alloc (grown_refl w (some b)) (.cells #[] 134))
  clear hC
  go_enter Try.func126, Try.ntmps126
  go_wp2_with fail
  refine (l1Below_any b v l _ _ HC.out (by omega) (by omega)).mono ?_
  rintro e w1 ⟨x, rfl, ⟨h0, h1, h6⟩, hg1, hC1⟩
  have h6' : x < 6 := h6 (by omega)
  have HO1 := Lib.hid (ownsF_grownC HO.out hg1 hbl)
  have HG1 := Lib.hid (grown_trans HG0.out hg1)
  have HC1 := Lib.hid hC1
  clear hg1 hC1 h6 h1
  go_wp2_with fail
  go_loopw [3, 4] (fun lv nv wr => ∃ (n : Int) (u : Value) (y : List CellD), lv = u ∧ nv = .int .i64 n ∧ 0 ≤ n ∧ (y.length : Int) + n ≤ 5 ∧ OwnsF cCell 134 2 wr w.heap.size u y ∧ SortC y ∧ SmallC y ∧ w.grownBy wr (some b) ∧ Cur wr b v l) (fun _ nv _ => (intOf nv).toNat)
  case atStart => exact ⟨x, _, [], rfl, rfl, by omega, by simp; omega, HO1.out, List.Pairwise.nil, ⟨by simp, by simp⟩, HG1.out, HC1.out⟩
  case round =>
    obtain ⟨n, u, y, rfl, rfl, hn0, hn6, hO, hS, hM, hg, hC⟩ := hrel
    have HO := Lib.hid hO
    have HS := Lib.hid hS
    have HM := Lib.hid hM
    have HG := Lib.hid hg
    have HC2 := Lib.hid hC
    clear hO hS hM hg hC
    by_cases hp : 0 < n
    · go_wp2_with fail
      refine (l3Key_any b v l _ HC2.out).mono ?_
      rintro e w2 ⟨z, rfl, hz, hg2, hC2⟩
      obtain ⟨⟨zl⟩⟩ := z
      have hzl : zl.length ≤ 9 := hz
      have HG3 := Lib.hid (grown_trans HG.out hg2)
      have HC3 := Lib.hid hC2
      have HO3 := Lib.hid (ownsF_grownC HO.out hg2 hbl)
      clear hg2 hC2 hz
      have HAT := Lib.hid (l3At_any _ y zl w2 (ownsF_at HO3.out (by omega)))
      generalize hat : atK y zl = at0 at *
      obtain ⟨ua, uc, rfl⟩ := slice_of HO3.out
      go_wp2_with fail
      refine HAT.out.mono ?_
      rintro e w3 ⟨rfl, hb⟩
      have HG4 := Lib.hid (grown_below HG3.out hb HG3.out.size)
      have HC4 := Lib.hid (HC3.out.below hb HC3.out.lt)
      have HO4 := Lib.hid (ownsF_below HO3.out hb (Nat.le_refl _))
      clear hb hat HAT
      have HPUT := Lib.hid (fun n W (h : OwnsF cCell 134 2 W w.heap.size (.slice ua y.length uc) y) => l3Put_any _ y zl n W (ownsF_at h (by omega)) (by omega) HS.out)
      by_cases hq : (0 ≤ at0 ∨ y.length < 4)
      · have hgo : (decide (0 ≤ at0) || decide ((y.length : Int) < 4)) = true := by simp only [Bool.or_eq_true, decide_eq_true_eq]; omega
        by_cases ha : 0 ≤ at0
        · clear hgo hq
          go_wp2_with fail
          refine (l1Below_any b v l _ _ HC4.out (by omega) (by omega)).mono ?_
          rintro e w4 ⟨t, rfl, ⟨t0, t1, _⟩, hg5, hC5⟩
          have HG5 := Lib.hid (grown_trans HG4.out hg5)
          have HC5 := Lib.hid hC5
          have HO5 := Lib.hid (ownsF_grownC HO4.out hg5 hbl)
          clear hg5 hC5
          go_wp2_with fail
          refine (HPUT.out t _ HO5.out).mono ?_
          rintro e w5 ⟨u2, rfl, ho, hb⟩
          have HG6 := Lib.hid (grown_below HG5.out hb HG5.out.size)
          have HC6 := Lib.hid (HC5.out.below hb HC5.out.lt)
          have HO6 := Lib.hid (ownsF_base ho HG5.out.size)
          clear hb ho
          go_wp2_with fail
          exact ⟨⟨n - 1, _, _, rfl, rfl, by omega, by rw [putC_len]; split <;> push_cast <;> omega, HO6.out, putC_sort _ _ HS.out, smallC_put HM.out (by omega) hzl ⟨by omega, by omega⟩, HG6.out, HC6.out⟩, by simp [intOf]; omega⟩
        · have hlt : (y.length : Int) < 4 := by omega
          clear hgo hq
          go_wp2_with fail
          refine (l1Below_any b v l _ _ HC4.out (by omega) (by omega)).mono ?_
          rintro e w4 ⟨t, rfl, ⟨t0, t1, _⟩, hg5, hC5⟩
          have HG5 := Lib.hid (grown_trans HG4.out hg5)
          have HC5 := Lib.hid hC5
          have HO5 := Lib.hid (ownsF_grownC HO4.out hg5 hbl)
          clear hg5 hC5
          go_wp2_with fail
          refine (HPUT.out t _ HO5.out).mono ?_
          rintro e w5 ⟨u2, rfl, ho, hb⟩
          have HG6 := Lib.hid (grown_below HG5.out hb HG5.out.size)
          have HC6 := Lib.hid (HC5.out.below hb HC5.out.lt)
          have HO6 := Lib.hid (ownsF_base ho HG5.out.size)
          clear hb ho
          go_wp2_with fail
          exact ⟨⟨n - 1, _, _, rfl, rfl, by omega, by rw [putC_len]; split <;> push_cast <;> omega, HO6.out, putC_sort _ _ HS.out, smallC_put HM.out (by omega) hzl ⟨by omega, by omega⟩, HG6.out, HC6.out⟩, by simp [intOf]; omega⟩
      · have ha : ¬ (0 ≤ at0) := by omega
        have hlt : ¬ ((y.length : Int) < 4) := by omega
        clear hq
        go_wp2_with fail
        exact ⟨⟨n - 1, _, _, rfl, rfl, by omega, by omega, HO4.out, HS.out, HM.out, HG4.out, HC4.out⟩, by simp [intOf]; omega⟩
    · go_wp2_with fail
      go_ret
      exact ⟨_, _, rfl, HO.out, HM.out, HG.out, HC2.out⟩
end Go.Proofs.Ytaihdjdaamglnaa
/- What draws leave of variables and rows: the general words. -/
namespace Go.Proofs.Ytaihdjdaamglnaa
set_option linter.unusedVariables false
open Go.RowKit
theorem bx_gr {w w' : World} {c b : Nat} {cs : List Value} (h : Bx w c cs) (hg : w.grownBy w' (some b)) (hne : c ≠ b) : Bx w' c cs :=
  ⟨Nat.lt_of_lt_of_le h.lt hg.size, fun j hj => (World.cell?_of_block (a := ⟨c, j, none⟩) (hg.block c h.lt (fun e => hne (by injection e)))).trans (h.cell j hj), fun j hj => (World.frozen?_of_block (a := ⟨c, j, none⟩) (hg.block c h.lt (fun e => hne (by injection e)))).trans (h.froz j hj)⟩
/-- a box behind an append to a row of one's own -/
theorem bx_own {w w' : World} {c : Nat} {r : Option Nat} {cs : List Value} (h : Bx w c cs) (hg : w.grownBy w' r) (hne : r ≠ some c) : Bx w' c cs :=
  ⟨Nat.lt_of_lt_of_le h.lt hg.size, fun j hj => (World.cell?_of_block (a := ⟨c, j, none⟩) (hg.block c h.lt (fun e => hne e.symm))).trans (h.cell j hj), fun j hj => (World.frozen?_of_block (a := ⟨c, j, none⟩) (hg.block c h.lt (fun e => hne e.symm))).trans (h.froz j hj)⟩
theorem gr_set {a w : World} {b c : Nat} (h : a.grownBy w (some b)) (hc : a.heap.size ≤ c) (o : Nat) (u : Value) : a.grownBy (w.setCell ⟨c, o, none⟩ u) (some b) :=
  ⟨h.os, h.tape, h.output, by simpa [World.setCell] using h.size, fun j hj hne => (Below.heap_setCell w ⟨c, o, none⟩ u j (fun e => by have e2 : j = c := e; omega)).trans (h.block j hj hne)⟩
theorem cur_so {w : World} {b c : Nat} {v : Value} {l : List UInt8} (hC : Cur w b v l) (hb : b < c) (o : Nat) (u : Value) : Cur (w.setCell ⟨c, o, none⟩ u) b v l := hC.far (grown_set (grown_refl w (some c)) o u) hb
theorem gr_own {w w1 w' : World} {b : Nat} {r : Option Nat} (h : w.grownBy w1 (some b)) (hg : w1.grownBy w' r) (hr : ∀ g, r = some g → w.heap.size ≤ g) : w.grownBy w' (some b) :=
  ⟨hg.os.trans h.os, hg.tape.trans h.tape, hg.output.trans h.output, Nat.le_trans h.size hg.size, fun k hk hne => (hg.block k (Nat.lt_of_lt_of_le hk h.size) (fun e => by have := hr k e.symm; omega)).trans (h.block k hk hne)⟩
theorem cur_own {w w' : World} {b : Nat} {r : Option Nat} {v : Value} {l : List UInt8} (hC : Cur w b v l) (hg : w.grownBy w' r) (hr : ∀ g, r = some g → b < g) : Cur w' b v l := by
  cases r with
  | some g => exact hC.far hg (hr g rfl)
  | none => exact hC.far (g := w.heap.size) ⟨hg.os, hg.tape, hg.output, hg.size, fun k hk _ => hg.block k hk (by simp)⟩ hC.lt
theorem ownsF_gr {α : Type} {f : α → List Value} {E k : Nat} {w w' : World} {B b : Nat} {v : Value} {l : List α} (h : OwnsF f E k w B v l) (hg : w.grownBy w' (some b)) (hb : b < B) : OwnsF f E k w' B v l :=
  World.ownsRow.kept h hg (Or.inr fun e => by have := (World.ownsRow.lt h b e).1; omega)
theorem ownsF_so {α : Type} {f : α → List Value} {E k : Nat} {w : World} {B c : Nat} {v : Value} {l : List α} (h : OwnsF f E k w B v l) (hp : v.ownBlock ≠ some c) (o : Nat) (u : Value) : OwnsF f E k (w.setCell ⟨c, o, none⟩ u) B v l :=
  World.ownsRow.kept h (row := some c) ⟨rfl, rfl, rfl, by simp, fun i hi hne => Below.heap_setCell w ⟨c, o, none⟩ u i (fun e => hne (by rw [e]))⟩ (Or.inr hp)
theorem ownsF_drB {α : Type} {f : α → List Value} {E k : Nat} {w : World} {B : Nat} {v : Value} {l : List α} (h : OwnsF f E k w B v l) : OwnsF f E k w.drew B v l := h
theorem ownsF_no {α : Type} (f : α → List Value) (E k : Nat) (w : World) (B : Nat) : OwnsF f E k w B (.slice none 0 0) [] := ⟨by simp, Or.inl ⟨rfl, rfl⟩⟩
theorem ownsF_ne {α : Type} {f : α → List Value} {E k : Nat} {w : World} {B c : Nat} {v : Value} {l : List α} (h : OwnsF f E k w B v l) (hc : c < B) : v.ownBlock ≠ some c := fun e => by have := (World.ownsRow.lt h c e).1; omega
theorem ownsF_lit {α : Type} {f : α → List Value} {E k : Nat} (w : World) (B : Nat) (cs : Array Value) (ys : List α) (hcs : cs.toList = ys.flatMap f) (hk : ∀ x, (f x).length = k) (hm : ys.length ≤ 1000) (hB : B ≤ w.heap.size) :
    OwnsF f E k (w.alloc (.cells cs E)) B (.slice (some ⟨w.heap.size, 0, none⟩) ys.length ys.length) ys := by
  have h := World.ownsRow_lit (base := B) (e := E) (size := k) w cs ys.length hB (by unfold maxLen; omega) (by rw [← Array.length_toList, hcs, flat_len f k hk ys])
  unfold OwnsF
  rw [← hcs]; exact h
theorem past_cellB {b : Nat} (W : World) (o : Obj) (k : Nat) (h : b < W.heap.size) : (W.alloc o).cell? ⟨b, k, none⟩ = W.cell? ⟨b, k, none⟩ := ((Below.refl W.heap.size W).alloc (Nat.le_refl _) o).cell (p := ⟨b, k, none⟩) h
theorem slice_lenB {α : Type} {f : α → List Value} {E k : Nat} {w : World} {B m : Nat} {v : Value} {l : List α} (h : OwnsF f E k w B v l) (hm : l.length = m) : ∃ a c, v = .slice a m c := by
  subst hm; exact slice_of h
/-- append of one element to a row of one's own, at a step of a region that draws -/
theorem step_flat {α : Type} {f : α → List Value} {E S k bytes : Nat} {z : Value} (hk : ∀ x, (f x).length = k) (h1 : ∀ x, ∀ u ∈ f x, u.oneCell' = true) (hinfo : (Try.prog.info? E).map (fun i => (i.zero, i.size, i.bytes)) = some (some z, k, bytes))
    (hz : z.cells.size = k) (hk0 : 0 < k) (hbytes : bytes ≤ 1024) (hS : Try.prog.underlying S = some (.slice E))
    {ops : Array Oper} {o : Oper} {a : Act} {K : Act → World → Prop} {Q : Exit → Act → World → Prop} {Ep : Prop} (hgd : o.guard = none) (s x : Operand)
    (ho : o.op = .call { callee := .builtin .append, args := #[s, x], argTypes := #[S, S] }) (B : Nat) (v : Value) (l : List α) (y : α) (w : World) (blk : Nat)
    (hs : a.eval s = v) (hO : OwnsF f E k w B v l) (hx : a.eval x = .slice (some ⟨blk, 0, none⟩) 1 1) (hc : ∀ j, j < k → w.cell? ⟨blk, j, none⟩ = (f y)[j]?) (hl : l.length ≤ 4194304) (hB : B ≤ w.heap.size)
    (h : ∀ v' w', OwnsF f E k w' B v' (l ++ [y]) → w.grownBy w' v.ownBlock → (∀ c, c < w.heap.size → v.ownBlock ≠ some c → v'.ownBlock ≠ some c) → K (a.put o.dst v') w') : if Region.wanted o (yielded ops a.tmps) = true then Oper.wp Try.prog o a w K Q else Ep := by
  obtain ⟨i0, hi, hz0, hz1, hz2⟩ := info_parts hinfo
  refine step_append_lies w hgd s x S ho B E i0 z k bytes hS hi hz0 hz1 hz2 hz hk0 v l.length (l.flatMap f) hs hO ⟨blk, 0, none⟩ 1 1 (f y) hx (by rw [hk, Nat.one_mul]) ?_ (h1 y) (by decide) (by unfold maxLen; omega) ?_ hB _ rfl ?_
  · intro j u hj
    have hj2 : j < k := by have := (List.getElem?_eq_some_iff.1 hj).1; rwa [hk] at this
    rw [Addr.add_lit, Nat.zero_add, hc j hj2]; exact hj
  · have : (l.length + 1) * bytes ≤ 4194305 * 1024 := Nat.mul_le_mul (by omega) hbytes
    omega
  · intro g cap w' h2 h3 h4 _
    refine h _ w' ?_ h3 ?_
    · unfold OwnsF; rw [List.flatMap_append, List.length_append]; simpa using h2
    · intro c hc hne e
      rcases h4 with h4 | h4
      · rw [h4] at hne; exact hne (by simpa [Value.ownBlock] using e)
      · simp [Value.ownBlock] at e; omega
/-- the same in a region that doesn't draw -/
theorem append_flatN {α : Type} {f : α → List Value} {E S k bytes : Nat} {z : Value} (hk : ∀ x, (f x).length = k) (h1 : ∀ x, ∀ u ∈ f x, u.oneCell' = true) (hinfo : (Try.prog.info? E).map (fun i => (i.zero, i.size, i.bytes)) = some (some z, k, bytes))
    (hz : z.cells.size = k) (hk0 : 0 < k) (hbytes : bytes ≤ 1024) (hS : Try.prog.underlying S = some (.slice E))
    {ops : Array Oper} {rest : List Oper} {o : Oper} {a : Act} {Q : Exit → Act → World → Prop} (hgd : o.guard = none) (s x : Operand)
    (ho : o.op = .call { callee := .builtin .append, args := #[s, x], argTypes := #[S, S] }) (B : Nat) (v : Value) (l : List α) (y : α) (w : World) (blk : Nat)
    (hs : a.eval s = v) (hO : OwnsF f E k w B v l) (hx : a.eval x = .slice (some ⟨blk, 0, none⟩) 1 1) (hc : ∀ j, j < k → w.cell? ⟨blk, j, none⟩ = (f y)[j]?) (hl : l.length ≤ 4194304) (hB : B ≤ w.heap.size)
    (h : ∀ v' w', OwnsF f E k w' B v' (l ++ [y]) → w.grownBy w' v.ownBlock → (∀ c, c < w.heap.size → v.ownBlock ≠ some c → v'.ownBlock ≠ some c) → wpList Try.prog ops Q rest (a.put o.dst v') w') : wpList Try.prog ops Q (o :: rest) a w := by
  obtain ⟨i0, hi, hz0, hz1, hz2⟩ := info_parts hinfo
  refine wpList_plain hgd fun _ hK => wp_append_lies w s x S ho B E i0 z k bytes hS hi hz0 hz1 hz2 hz hk0 v l.length (l.flatMap f) hs hO ⟨blk, 0, none⟩ 1 1 (f y) hx (by rw [hk, Nat.one_mul]) ?_ (h1 y) (by decide) (by unfold maxLen; omega) ?_ hB _ rfl ?_
  · intro j u hj
    have hj2 : j < k := by have := (List.getElem?_eq_some_iff.1 hj).1; rwa [hk] at this
    rw [Addr.add_lit, Nat.zero_add, hc j hj2]; exact hj
  · have : (l.length + 1) * bytes ≤ 4194305 * 1024 := Nat.mul_le_mul (by omega) hbytes
    omega
  · intro g cap w' h2 h3 h4 _
    refine hK _ _ (h _ w' ?_ h3 ?_)
    · unfold OwnsF; rw [List.flatMap_append, List.length_append]; simpa using h2
    · intro c hc hne e
      rcases h4 with h4 | h4
      · rw [h4] at hne; exact hne (by simpa [Value.ownBlock] using e)
      · simp [Value.ownBlock] at e; omega
/-- append of several elements that lie in a block of their own -/
theorem append_flatM {α : Type} {f : α → List Value} {E S k bytes : Nat} {z : Value} (hk : ∀ x, (f x).length = k) (h1 : ∀ x, ∀ u ∈ f x, u.oneCell' = true) (hinfo : (Try.prog.info? E).map (fun i => (i.zero, i.size, i.bytes)) = some (some z, k, bytes))
    (hz : z.cells.size = k) (hk0 : 0 < k) (hbytes : bytes ≤ 1024) (hS : Try.prog.underlying S = some (.slice E))
    {ops : Array Oper} {rest : List Oper} {o : Oper} {a : Act} {Q : Exit → Act → World → Prop} (hgd : o.guard = none) (s x : Operand)
    (ho : o.op = .call { callee := .builtin .append, args := #[s, x], argTypes := #[S, S] }) (B : Nat) (v : Value) (l ys : List α) (w : World) (blk n c : Nat)
    (hs : a.eval s = v) (hO : OwnsF f E k w B v l) (hx : a.eval x = .slice (some ⟨blk, 0, none⟩) n c) (hn : n = ys.length) (h0 : 0 < ys.length) (hc : ∀ j u, (ys.flatMap f)[j]? = some u → w.cell? ⟨blk, j, none⟩ = some u) (hl : l.length + ys.length ≤ 4194304) (hB : B ≤ w.heap.size)
    (h : ∀ v' w', OwnsF f E k w' B v' (l ++ ys) → w.grownBy w' v.ownBlock → (∀ c, c < w.heap.size → v.ownBlock ≠ some c → v'.ownBlock ≠ some c) → wpList Try.prog ops Q rest (a.put o.dst v') w') : wpList Try.prog ops Q (o :: rest) a w := by
  obtain ⟨i0, hi, hz0, hz1, hz2⟩ := info_parts hinfo
  subst hn
  refine wpList_plain hgd fun _ hK => wp_append_lies w s x S ho B E i0 z k bytes hS hi hz0 hz1 hz2 hz hk0 v l.length (l.flatMap f) hs hO ⟨blk, 0, none⟩ ys.length c (ys.flatMap f) hx (flat_len f k hk ys) ?_ (by intro u hu; obtain ⟨y, _, hy⟩ := List.mem_flatMap.1 hu; exact h1 y u hy) h0 (by unfold maxLen; omega) ?_ hB _ rfl ?_
  · intro j u hj
    rw [Addr.add_lit, Nat.zero_add]; exact hc j u hj
  · have : (l.length + ys.length) * bytes ≤ 4194304 * 1024 := Nat.mul_le_mul (by omega) hbytes
    omega
  · intro g cap w' h2 h3 h4 _
    refine hK _ _ (h _ w' ?_ h3 ?_)
    · unfold OwnsF; rw [List.flatMap_append, List.length_append]; exact h2
    · intro c hc hne e
      rcases h4 with h4 | h4
      · rw [h4] at hne; exact hne (by simpa [Value.ownBlock] using e)
      · simp [Value.ownBlock] at e; omega
theorem cStr_one : ∀ (x : List UInt8), ∀ u ∈ cStr x, u.oneCell' = true := by
  intro x u hu
  simp only [cStr, List.mem_singleton] at hu
  subst hu; rfl
theorem infoStrB : (Try.prog.info? 9).map (fun i => (i.zero, i.size, i.bytes)) = some (some (.string ⟨#[]⟩), 1, 16) := by kernel_rfl
end Go.Proofs.Ytaihdjdaamglnaa
/- A draw's memory as one predicate: the cursor, variables in blocks of their own, rows of one's own; and what each step leaves of it. -/
namespace Go.Proofs.Ytaihdjdaamglnaa
set_option linter.unusedVariables false
open Go.RowKit
/-- something that is read in memory: the blocks that it lies in, and what keeps it -/
structure Held where
  own : Nat → Prop
  P : World → Prop
  keep : ∀ {w w' : World} {r : Option Nat}, P w → w.grownBy w' r → (∀ g, r = some g → ¬ own g) → P w'
  lt : ∀ {w : World} {g : Nat}, P w → own g → g < w.heap.size
/-- a row of one's own -/
def hRow {α : Type} (f : α → List Value) (E k B : Nat) (v : Value) (l : List α) : Held :=
  ⟨fun g => v.ownBlock = some g, fun w => OwnsF f E k w B v l, fun {w w' r} h hg hne => World.ownsRow.kept h hg (by
    cases hv : v.ownBlock with
    | none => exact Or.inl rfl
    | some g => exact Or.inr fun e => hne g e.symm hv), fun {w g} h hg => (World.ownsRow.lt h g hg).2⟩
/-- what lies in the blocks from F to T, and was read in the world w1 -/
def hSnap (Q : World → Prop) (F : Nat) (w1 : World) (hQ : ∀ {w : World}, (∀ k, F ≤ k → k < w1.heap.size → w.heap[k]? = w1.heap[k]?) → w1.heap.size ≤ w.heap.size → Q w) : Held :=
  ⟨fun g => F ≤ g ∧ g < w1.heap.size, fun w => w1.heap.size ≤ w.heap.size ∧ ∀ k, F ≤ k → k < w1.heap.size → w.heap[k]? = w1.heap[k]?,
    fun {w w' r} h hg hne => ⟨Nat.le_trans h.1 hg.size, fun k h1 h2 => (hg.block k (Nat.lt_of_lt_of_le h2 h.1) (fun e => hne k e.symm ⟨h1, h2⟩)).trans (h.2 k h1 h2)⟩, fun {w g} h hg => Nat.lt_of_lt_of_le hg.2 h.1⟩
structure Bag (w : World) (N b : Nat) (v : Value) (l : List UInt8) (bs : List (Nat × List Value)) (rs : List Held) (wx : World) : Prop where
  os : wx.os = w.os
  tape : wx.tape = w.tape
  output : wx.output = w.output
  size : w.heap.size ≤ wx.heap.size
  block : ∀ k, k < N → k ≠ b → wx.heap[k]? = w.heap[k]?
  nw : N ≤ w.heap.size
  code : l = [] ∨ ∀ a n c, v = .slice (some a) n c → a.block < N
  cur : Cur wx b v l
  box : ∀ p ∈ bs, Bx wx p.1 p.2
  row : ∀ r ∈ rs, r.P wx
  geB : ∀ p ∈ bs, N ≤ p.1 ∧ p.1 ≠ b
  geR : ∀ r ∈ rs, ∀ g, r.own g → N ≤ g ∧ b < g
  sep : ∀ p ∈ bs, ∀ r ∈ rs, ¬ r.own p.1
  dis : bs.Pairwise (fun p q => p.1 ≠ q.1)
  rdis : rs.Pairwise (fun r s => ∀ g, r.own g → ¬ s.own g)
section
variable {w : World} {N b : Nat} {v : Value} {l : List UInt8} {bs : List (Nat × List Value)} {rs : List Held} {wx : World}
theorem Bag.grown (h : Bag w w.heap.size b v l bs rs wx) : w.grownBy wx (some b) := ⟨h.os, h.tape, h.output, h.size, fun k hk hne => h.block k hk (fun e => hne (by rw [e]))⟩
theorem Bag.bel (h : Bag w N b v l bs rs wx) (hb : N ≤ b) : Below N w wx := ⟨h.os, h.tape, h.output, h.size, fun k hk => h.block k hk (by omega)⟩
/-- at the start of a draw -/
theorem bag_start (hC : Cur w b v l) : Bag w w.heap.size b v l [] [] w := by
  refine ⟨rfl, rfl, rfl, Nat.le_refl _, fun _ _ _ => rfl, Nat.le_refl _, ?_, hC, by simp, by simp, by simp, by simp, by simp, List.Pairwise.nil, List.Pairwise.nil⟩
  obtain ⟨_, _, hT, _, _, a, c, rfl, hr⟩ := hC
  refine hr.imp id ?_
  rintro ⟨cb, o, rfl, h1, _⟩ a' n' c' e
  injection e with e; injection e with e; subst e
  have := hT.lt; simp only; omega
theorem bag_code {w : World} {v : Value} {l : List UInt8} (hR : RowAt w v (Lib.byteCells l)) : l = [] ∨ ∀ a n c, v = .slice (some a) n c → a.block < w.heap.size := by
  obtain ⟨a, c, rfl, _, hr⟩ := hR
  rw [Lib.byteCells_length] at *
  rcases hr with h | ⟨b, o, rfl, h1, _⟩
  · left; cases l with
    | nil => rfl
    | cons x r => simp [Lib.byteCells] at h
  · right; intro a' n' c' e
    injection e with e; injection e with e; subst e; exact h1
/-- at the start of a whole draw: the results' boxes, then the cursor -/
theorem bag_new {w w1 w2 : World} {b : Nat} {v : Value} {l : List UInt8} {bs : List (Nat × List Value)} (hw1 : Below w.heap.size w w1) (hbs : ∀ p ∈ bs, Bx w1 p.1 p.2 ∧ w.heap.size ≤ p.1) (hd : bs.Pairwise (fun p q => p.1 ≠ q.1)) (hb : w1.heap.size ≤ b) (hB : Below w1.heap.size w1 w2) (hC : Cur w2 b v l)
    (hc : l = [] ∨ ∀ a n c, v = .slice (some a) n c → a.block < w.heap.size) : Bag w w.heap.size b v l bs [] w2 := by
  have h2 := belS hw1 hB
  refine ⟨h2.os, h2.tape, h2.output, h2.size, fun k hk _ => h2.block k hk, Nat.le_refl _, hc, hC, fun p hp => (hbs p hp).1.below hB, by simp, fun p hp => ⟨(hbs p hp).2, fun e => ?_⟩, by simp, by simp, hd, List.Pairwise.nil⟩
  have := (hbs p hp).1.lt; omega
/-- behind a call that draws -/
theorem Bag.draw {w' : World} (h : Bag w N b v l bs rs wx) (hg : wx.grownBy w' (some b)) (hC : Cur w' b v l) : Bag w N b v l bs rs w' :=
  ⟨hg.os.trans h.os, hg.tape.trans h.tape, hg.output.trans h.output, Nat.le_trans h.size hg.size, fun k hk hne => (hg.block k (Nat.lt_of_lt_of_le (Nat.lt_of_lt_of_le hk h.nw) h.size) (fun e => hne (by injection e))).trans (h.block k hk hne), h.nw, h.code, hC,
    fun p hp => bx_gr (h.box p hp) hg (h.geB p hp).2, fun r hr => r.keep (h.row r hr) hg (fun g e => by injection e with e; subst e; intro ho; have := (h.geR r hr _ ho).2; omega), h.geB, h.geR, h.sep, h.dis, h.rdis⟩
/-- behind a call that only makes memory -/
theorem Bag.below {w' : World} (h : Bag w N b v l bs rs wx) (hb : Below wx.heap.size wx w') : Bag w N b v l bs rs w' :=
  ⟨hb.os.trans h.os, hb.tape.trans h.tape, hb.output.trans h.output, Nat.le_trans h.size hb.size, fun k hk hne => (hb.block k (Nat.lt_of_lt_of_le (Nat.lt_of_lt_of_le hk h.nw) h.size)).trans (h.block k hk hne), h.nw, h.code, h.cur.below hb h.cur.lt,
    fun p hp => (h.box p hp).below hb, fun r hr => r.keep (r := none) (h.row r hr) ⟨hb.os, hb.tape, hb.output, hb.size, fun k hk _ => hb.block k hk⟩ (by simp), h.geB, h.geR, h.sep, h.dis, h.rdis⟩
theorem Bag.drew (h : Bag w N b v l bs rs wx) : Bag w N b v l bs rs wx.drew := h.below ((Below.refl _ _).drew)
theorem Bag.past (h : Bag w N b v l bs rs wx) (o : Obj) : Bag w N b v l bs rs (wx.alloc o) := h.below (bx_box _ o)
/-- a new variable -/
theorem Bag.var (h : Bag w N b v l bs rs wx) (cs : List Value) (t : TypeId) : Bag w N b v l ((wx.heap.size, cs) :: bs) rs (wx.alloc (.cells cs.toArray t)) := by
  have h1 := h.past (.cells cs.toArray t)
  have hn : N ≤ wx.heap.size := Nat.le_trans h.nw h.size
  have hc := h.cur.lt
  refine ⟨h1.os, h1.tape, h1.output, h1.size, h1.block, h1.nw, h1.code, h1.cur, ?_, h1.row, ?_, h.geR, ?_, ?_, h.rdis⟩
  · intro p hp
    rcases List.mem_cons.1 hp with rfl | hp
    · exact Bx.new wx cs t
    · exact h1.box p hp
  · intro p hp
    rcases List.mem_cons.1 hp with rfl | hp
    · exact ⟨hn, by simp only; omega⟩
    · exact h.geB p hp
  · intro p hp r hr ho
    rcases List.mem_cons.1 hp with rfl | hp
    · have := r.lt (h.row r hr) ho; simp only at this; omega
    · exact h.sep p hp r hr ho
  · refine List.pairwise_cons.2 ⟨fun p hp e => ?_, h.dis⟩
    have := (h.box p hp).lt
    simp only at e; omega
/-- something new that is one's own: its blocks are new ones -/
theorem Bag.hold {F : Nat} (h : Bag w N b v l bs rs wx) (r : Held) (hP : r.P wx) (hF : ∀ g, r.own g → F ≤ g) (hw : w.heap.size ≤ F) (hb : b < F) (hbs : ∀ p ∈ bs, p.1 < F) (hrs : ∀ s ∈ rs, ∀ g, s.own g → g < F) : Bag w N b v l bs (r :: rs) wx := by
  refine ⟨h.os, h.tape, h.output, h.size, h.block, h.nw, h.code, h.cur, h.box, ?_, h.geB, ?_, ?_, h.dis, ?_⟩
  · intro s hs
    rcases List.mem_cons.1 hs with rfl | hs
    · exact hP
    · exact h.row s hs
  · intro s hs g hg
    rcases List.mem_cons.1 hs with rfl | hs
    · have := hF g hg; have := h.nw; omega
    · exact h.geR s hs g hg
  · intro p hp s hs ho
    rcases List.mem_cons.1 hs with rfl | hs
    · have := hF _ ho; have := hbs p hp; omega
    · exact h.sep p hp s hs ho
  · refine List.pairwise_cons.2 ⟨fun s hs g hg hg2 => ?_, h.rdis⟩
    have := hF g hg; have := hrs s hs g hg2; omega
/-- what was held ahead lies below what a later call makes -/
theorem Bag.sizes (h : Bag w N b v l bs rs wx) : w.heap.size ≤ wx.heap.size ∧ b < wx.heap.size ∧ (∀ p ∈ bs, p.1 < wx.heap.size) ∧ (∀ s ∈ rs, ∀ g, s.own g → g < wx.heap.size) :=
  ⟨h.size, h.cur.lt, fun p hp => (h.box p hp).lt, fun s hs g hg => s.lt (h.row s hs) hg⟩
/-- behind a call that makes what is one's own -/
theorem Bag.made {w' : World} (h : Bag w N b v l bs rs wx) (hb : Below wx.heap.size wx w') (r : Held) (hP : r.P w') (hF : ∀ g, r.own g → wx.heap.size ≤ g) : Bag w N b v l bs (r :: rs) w' :=
  (h.below hb).hold r hP hF h.sizes.1 h.sizes.2.1 h.sizes.2.2.1 h.sizes.2.2.2
theorem Bag.drawn {w' : World} (h : Bag w N b v l bs rs wx) (hg : wx.grownBy w' (some b)) (hC : Cur w' b v l) (r : Held) (hP : r.P w') (hF : ∀ g, r.own g → wx.heap.size ≤ g) : Bag w N b v l bs (r :: rs) w' :=
  (h.draw hg hC).hold r hP hF h.sizes.1 h.sizes.2.1 h.sizes.2.2.1 h.sizes.2.2.2
/-- less is held -/
theorem Bag.less {bs' : List (Nat × List Value)} {rs' : List Held} (h : Bag w N b v l bs rs wx) (h1 : bs'.Sublist bs) (h2 : rs'.Sublist rs) : Bag w N b v l bs' rs' wx :=
  ⟨h.os, h.tape, h.output, h.size, h.block, h.nw, h.code, h.cur, fun p hp => h.box p (h1.subset hp), fun r hr => h.row r (h2.subset hr), fun p hp => h.geB p (h1.subset hp), fun r hr => h.geR r (h2.subset hr), fun p hp r hr => h.sep p (h1.subset hp) r (h2.subset hr), h.dis.sublist h1, h.rdis.sublist h2⟩
/-- the rows in another order -/
theorem Bag.perm {rs' : List Held} (h : Bag w N b v l bs rs wx) (hp : rs.Perm rs') : Bag w N b v l bs rs' wx :=
  ⟨h.os, h.tape, h.output, h.size, h.block, h.nw, h.code, h.cur, h.box, fun r hr => h.row r (hp.mem_iff.2 hr), h.geB, fun r hr => h.geR r (hp.mem_iff.2 hr), fun p hq r hr => h.sep p hq r (hp.mem_iff.2 hr), h.dis, hp.pairwise h.rdis (fun {r s} hrs g h1 h2 => hrs g h2 h1)⟩
/-- a cell of a variable is stored -/
theorem Bag.set {B j : Nat} {cs : List Value} (h : Bag w N b v l bs rs wx) (i : Nat) (hi : bs[i]? = some (B, cs)) (hj : j < cs.length) (u : Value) : Bag w N b v l (bs.set i (B, cs.set j u)) rs (wx.setCell ⟨B, j, none⟩ u) := by
  obtain ⟨hlt, he⟩ := List.getElem?_eq_some_iff.1 hi
  have hm : (B, cs) ∈ bs := by rw [← he]; exact List.getElem_mem hlt
  have hB := h.geB _ hm
  simp only at hB
  have hk : wx.grownBy (wx.setCell ⟨B, j, none⟩ u) (some B) := ⟨rfl, rfl, rfl, by simp, fun k hk hne => Below.heap_setCell wx ⟨B, j, none⟩ u k (fun e => hne (by rw [e]))⟩
  have hne : ∀ p ∈ bs.set i (B, cs.set j u), (p = (B, cs.set j u)) ∨ (p ∈ bs ∧ p.1 ≠ B) := by
    intro p hp
    obtain ⟨k, hk, rfl⟩ := List.mem_iff_getElem.1 hp
    rw [List.length_set] at hk
    by_cases hki : k = i
    · subst hki; left; simp
    · right
      rw [List.getElem_set_ne (by omega)]
      refine ⟨List.getElem_mem hk, fun e => ?_⟩
      have hd := List.pairwise_iff_getElem.1 h.dis
      have e2 : (bs[i]).1 = B := by rw [he]
      rcases Nat.lt_or_ge k i with hlt2 | hge
      · exact hd k i hk hlt hlt2 (by rw [e, e2])
      · exact hd i k hlt hk (by omega) (by rw [e, e2])
  have hfst : (bs.set i (B, cs.set j u)).map Prod.fst = bs.map Prod.fst := by
    rw [List.map_set]
    refine List.ext_getElem (by simp) fun k h1 h2 => ?_
    rw [List.getElem_set]
    split
    · rename_i e; subst e; simp [he]
    · rfl
  refine ⟨h.os, h.tape, h.output, by simpa using h.size, ?_, h.nw, h.code, ?_, ?_, ?_, ?_, h.geR, ?_, ?_, h.rdis⟩
  · intro k hk1 hk2
    rw [Below.heap_setCell wx ⟨B, j, none⟩ u k (fun e => by simp only at e; omega)]
    exact h.block k hk1 hk2
  · obtain ⟨i0, h0, hT, h3, h4, a, c, e, hr⟩ := h.cur
    refine ⟨i0, h0, hT.grown hk (by omega), h3, h4, a, c, e, hr.imp id ?_⟩
    rintro ⟨cb, o, e1, e2, e3⟩
    refine ⟨cb, o, e1, e2, fun k hk1 => ?_⟩
    rw [← e3 k hk1]
    refine bx_set_ne (Or.inl ?_)
    rcases h.code with h5 | h5
    · subst h5; simp at hk1
    · have := h5 ⟨cb, o, none⟩ _ _ (by rw [e, e1]); simp only at this; omega
  · intro p hp
    rcases hne p hp with rfl | ⟨h1, h2⟩
    · exact (h.box _ hm).set j hj u
    · exact (h.box p h1).other h2 j u
  · intro r hr
    exact r.keep (h.row r hr) hk (fun g e => by injection e with e; subst e; exact h.sep _ hm r hr)
  · intro p hp
    rcases hne p hp with rfl | ⟨h1, h2⟩
    · exact hB
    · exact h.geB p h1
  · intro p hp r hr
    rcases hne p hp with rfl | ⟨h1, h2⟩
    · exact h.sep _ hm r hr
    · exact h.sep p h1 r hr
  · have : (bs.map Prod.fst).Pairwise (· ≠ ·) := List.pairwise_map.2 h.dis
    rw [← hfst] at this
    exact List.pairwise_map.1 this
/-- behind an append to a row that is held -/
theorem Bag.app {α : Type} {f : α → List Value} {E k B : Nat} {u u' : Value} {x y : List α} {w' : World} (h : Bag w N b v l bs rs wx) (i : Nat) (hi : rs[i]? = some (hRow f E k B u x)) (hg : wx.grownBy w' u.ownBlock) (ho : OwnsF f E k w' B u' y) (hne : ∀ c, c < wx.heap.size → u.ownBlock ≠ some c → u'.ownBlock ≠ some c) :
    Bag w N b v l bs (rs.set i (hRow f E k B u' y)) w' := by
  obtain ⟨hlt, he⟩ := List.getElem?_eq_some_iff.1 hi
  have hm : hRow f E k B u x ∈ rs := by rw [← he]; exact List.getElem_mem hlt
  have hge : ∀ g, u.ownBlock = some g → N ≤ g ∧ b < g := fun g e => h.geR _ hm g e
  have hcl := h.cur.lt
  have hns : N ≤ wx.heap.size := Nat.le_trans h.nw h.size
  have hne2 : ∀ s ∈ rs.set i (hRow f E k B u' y), (s = hRow f E k B u' y) ∨ (s ∈ rs ∧ ∀ g, s.own g → ¬ (hRow f E k B u x).own g) := by
    intro s hs
    obtain ⟨j, hj, rfl⟩ := List.mem_iff_getElem.1 hs
    rw [List.length_set] at hj
    by_cases hji : j = i
    · subst hji; left; simp
    · right
      rw [List.getElem_set_ne (by omega)]
      refine ⟨List.getElem_mem hj, fun g h1 h2 => ?_⟩
      have hd := List.pairwise_iff_getElem.1 h.rdis
      rcases Nat.lt_or_ge j i with hlt2 | hge2
      · exact hd j i hj hlt hlt2 g h1 (by rw [he]; exact h2)
      · exact hd i j hlt hj (by omega) g (by rw [he]; exact h2) h1
  have hnew : ∀ g, (hRow f E k B u' y).own g → (u.ownBlock = some g) ∨ wx.heap.size ≤ g := by
    intro g hg2
    by_cases h1 : g < wx.heap.size
    · left
      refine Classical.byContradiction fun h2 => ?_
      exact hne g h1 h2 hg2
    · right; omega
  refine ⟨hg.os.trans h.os, hg.tape.trans h.tape, hg.output.trans h.output, Nat.le_trans h.size hg.size, ?_, h.nw, h.code, ?_, ?_, ?_, h.geB, ?_, ?_, h.dis, ?_⟩
  · intro j h1 h2
    rw [hg.block j (by omega) (fun e => by have := (hge j e.symm).1; omega)]
    exact h.block j h1 h2
  · exact cur_own h.cur hg (fun g e => (hge g e).2)
  · intro p hp
    exact bx_own (h.box p hp) hg (h.sep p hp _ hm)
  · intro s hs
    rcases hne2 s hs with rfl | ⟨h1, h2⟩
    · exact ho
    · exact s.keep (h.row s h1) hg (fun g e h3 => h2 g h3 e)
  · intro s hs g hg2
    rcases hne2 s hs with rfl | ⟨h1, h2⟩
    · rcases hnew g hg2 with h3 | h3
      · exact hge g h3
      · omega
    · exact h.geR s h1 g hg2
  · intro p hp s hs hg2
    rcases hne2 s hs with rfl | ⟨h1, h2⟩
    · rcases hnew _ hg2 with h3 | h3
      · exact h.sep p hp _ hm h3
      · have := (h.box p hp).lt; omega
    · exact h.sep p hp s h1 hg2
  · rw [List.pairwise_iff_getElem]
    intro j1 j2 h1 h2 h12 g hg1 hg2
    rw [List.length_set] at h1 h2
    have hd := List.pairwise_iff_getElem.1 h.rdis
    rw [List.getElem_set] at hg1 hg2
    split at hg1 <;> split at hg2
    · omega
    · rename_i e1 e2
      subst e1
      rcases hnew _ hg1 with h3 | h3
      · exact hd i j2 h1 h2 h12 g (by rw [he]; exact h3) hg2
      · have := (rs[j2]).lt (h.row _ (List.getElem_mem h2)) hg2; omega
    · rename_i e1 e2
      subst e2
      rcases hnew _ hg2 with h3 | h3
      · exact hd j1 i h1 h2 h12 g hg1 (by rw [he]; exact h3)
      · have := (rs[j1]).lt (h.row _ (List.getElem_mem h1)) hg1; omega
    · exact hd j1 j2 h1 h2 h12 g hg1 hg2
end
end Go.Proofs.Ytaihdjdaamglnaa
/- Cores: when two are equal. -/
namespace Go.Proofs.Ytaihdjdaamglnaa
set_option linter.unusedVariables false
open Go.RowKit
set_option maxRecDepth 100000 in
set_option maxHeartbeats 1600000 in
theorem eqCore_b (v u : Value) (x y : CoreD) (q : Bool) (hq : decide (x = y) = q) (w : World) (hx : CoreAt w v x) (hy : CoreAt w u y) :
    Calls Try.prog 124 #[v, u] w fun e w' => e = .returned (.bool q) ∧ Below w.heap.size w w' := by
  obtain ⟨cv, rfl, hx⟩ := hx
  obtain ⟨cu, rfl, hy⟩ := hy
  have hex := coreD_ext x y
  obtain ⟨a0, a1, a2, a3, a4⟩ := x
  obtain ⟨b0, b1, b2, b3, b4⟩ := y
  unfold vCore
  simp only at *
  have B2 := Lib.hid (show ∀ o1 o2, Below w.heap.size w ((w.alloc o1).alloc o2) from fun o1 o2 => ((Below.refl _ _).alloc (Nat.le_refl _) _).alloc (by simp) _)
  have HX := Lib.hid hx
  have HY := Lib.hid hy
  have HN := Lib.hid (show ¬ (a0 = b0 ∧ a1 = b1 ∧ a2 = b2 ∧ a3 = b3 ∧ a4 = b4) → false = q from fun h => by rw [← hq]; symm; rw [decide_eq_false_iff_not, hex]; exact h)
  have HQ := Lib.hid (show (a0 = b0 ∧ a1 = b1 ∧ a2 = b2 ∧ a3 = b3 ∧ a4 = b4) → true = q from fun h => by rw [← hq]; symm; rw [decide_eq_true_iff, hex]; exact h)
  have HC := Lib.hid (fun o1 o2 => eqCellS_any cv cu a3 b3 ((w.alloc o1).alloc o2) (HX.out.below (B2.out o1 o2) (Nat.le_refl _)) (HY.out.below (B2.out o1 o2) (Nat.le_refl _)))
  clear hx hy hq hex
  by_cases h0 : a0 = b0
  case neg =>
    have HF := Lib.hid (HN.out fun e => h0 e.1)
    have hne : (a0 == b0) = false := by simpa using h0
    have hnf : (a0 != b0) = true := by simpa using h0
    clear h0
    go_enter Try.func124, Try.ntmps124
    go_wp2_with fail
    go_ret
    exact ⟨ret_bool HF.out, B2.out _ _⟩
  case pos =>
    by_cases h1 : a1 = b1
    case neg =>
      have HF := Lib.hid (HN.out fun e => h1 e.2.1)
      subst h0
      cases a1 <;> cases b1
      all_goals first
        | exact absurd rfl h1
        | (clear h1
           go_enter Try.func124, Try.ntmps124
           go_wp2_with fail
           go_ret
           exact ⟨ret_bool HF.out, B2.out _ _⟩)
    case pos =>
      by_cases h2 : a2 = b2
      case neg =>
        have HF := Lib.hid (HN.out fun e => h2 e.2.2.1)
        subst h0 h1
        cases a1 <;> cases a2 <;> cases b2
        all_goals first
          | exact absurd rfl h2
          | (clear h2
             go_enter Try.func124, Try.ntmps124
             go_wp2_with fail
             go_ret
             exact ⟨ret_bool HF.out, B2.out _ _⟩)
      case pos =>
        subst h0 h1 h2
        cases hd : decide (a3 = b3)
        case false =>
          have HF := Lib.hid (HN.out fun e => by rw [decide_eq_false_iff_not] at hd; exact hd e.2.2.2.1)
          rw [hd] at HC
          clear hd
          cases a1 <;> cases a2
          all_goals
            go_enter Try.func124, Try.ntmps124
            go_wp2_with fail
            refine (HC.out _ _).mono ?_
            rintro e w1 ⟨rfl, hb⟩
            have HB := Lib.hid ((B2.out _ _).trans (hb.mono (B2.out _ _).size))
            clear hb
            go_wp2_with fail
            go_ret
            exact ⟨ret_bool HF.out, HB.out⟩
        case true =>
          rw [hd] at HC
          by_cases h4 : a4 = b4
          case neg =>
            have HF := Lib.hid (HN.out fun e => h4 e.2.2.2.2)
            have hne : (a4 == b4) = false := by simpa using h4
            have hnf : (a4 != b4) = true := by simpa using h4
            clear hd h4
            cases a1 <;> cases a2
            all_goals
              go_enter Try.func124, Try.ntmps124
              go_wp2_with fail
              refine (HC.out _ _).mono ?_
              rintro e w1 ⟨rfl, hb⟩
              have HB := Lib.hid ((B2.out _ _).trans (hb.mono (B2.out _ _).size))
              obtain ⟨hcc, hff⟩ := bcell hb
              clear hb
              go_wp2_with fail
              go_ret
              exact ⟨ret_bool HF.out, HB.out⟩
          case pos =>
            have HF := Lib.hid (HQ.out ⟨rfl, rfl, rfl, by rw [decide_eq_true_iff] at hd; exact hd, h4⟩)
            subst h4
            clear hd
            cases a1 <;> cases a2
            all_goals
              go_enter Try.func124, Try.ntmps124
              go_wp2_with fail
              refine (HC.out _ _).mono ?_
              rintro e w1 ⟨rfl, hb⟩
              have HB := Lib.hid ((B2.out _ _).trans (hb.mono (B2.out _ _).size))
              obtain ⟨hcc, hff⟩ := bcell hb
              clear hb
              go_wp2_with fail
              go_ret
              exact ⟨ret_bool HF.out, HB.out⟩
theorem eqCore_any (v u : Value) (x y : CoreD) (w : World) (hx : CoreAt w v x) (hy : CoreAt w u y) :
    Calls Try.prog 124 #[v, u] w fun e w' => e = .returned (.bool (decide (x = y))) ∧ Below w.heap.size w w' := eqCore_b v u x y _ rfl w hx hy
end Go.Proofs.Ytaihdjdaamglnaa
/- Core: how it reads, and what the laws' own helpers do with it. Written by gen/deep.py. -/
namespace Go.Proofs.Ytaihdjdaamglnaa
set_option linter.unusedVariables false
set_option linter.unusedSimpArgs false
open Go.RowKit
def rCore : Nat → World → List Value → CoreD → Prop := fun F w cs x => ∃ v3, cs = [.string ⟨x.fKind.toArray⟩, .bool x.fOn, .bool x.fBroken, v3, .int .i64 x.fCount] ∧ SliceAt (rFlat cCell) 2 F w v3 x.fCells
theorem goodCore : Good rCore 5 := by
  refine ⟨?_, ?_, ?_⟩
  · rintro F w cs x ⟨v3, rfl, h3⟩; rfl
  · rintro F w w' cs x ⟨v3, rfl, h3⟩ hk; exact ⟨v3, rfl, h3.keep (good_flat cCell_len) hk⟩
  · rintro F F' w cs x ⟨v3, rfl, h3⟩ hF; exact ⟨v3, rfl, h3.mono (good_flat cCell_len) hF⟩
theorem coreAt_of {F : Nat} {w : World} {cs : List Value} {x : CoreD} (h : rCore F w cs x) : CoreAt w (.agg cs.toArray) x := by
  obtain ⟨v0, rfl, h0⟩ := h
  exact ⟨v0, rfl, flatAt_of_slice cCell_len (by decide) h0⟩
theorem ofCoreAt {w : World} {v : Value} {x : CoreD} (h : CoreAt w v x) : ValAt rCore 0 w v x := by
  obtain ⟨cv, rfl, h⟩ := h
  exact ⟨_, rfl, cv, rfl, sliceAt_of_flat cCell_len h⟩
theorem eqCore_d (v u : Value) (x y : CoreD) (w : World) (hx : ValAt rCore 0 w v x) (hy : ValAt rCore 0 w u y) : Calls Try.prog 124 #[v, u] w fun e w' => e = .returned (.bool (decide (x = y))) ∧ Below w.heap.size w w' := by
  obtain ⟨cs, rfl, h⟩ := hx
  obtain ⟨cs2, rfl, h2⟩ := hy
  exact eqCore_any _ _ x y w (coreAt_of h) (coreAt_of h2)
end Go.Proofs.Ytaihdjdaamglnaa
/- Layer: what the laws' own helpers do with it. Written by gen/flat.py. -/
namespace Go.Proofs.Ytaihdjdaamglnaa
set_option linter.unusedVariables false
open Go.RowKit
structure LayerD where
  fName : List UInt8
  fCount : Int
deriving DecidableEq
def okLayer (d : LayerD) : Prop := (d.fName.length ≤ maxLen) ∧ (-9223372036854775808 ≤ d.fCount ∧ d.fCount ≤ 9223372036854775807)
def vLayer (d : LayerD) : Value := .agg #[.string ⟨d.fName.toArray⟩, .int .i64 d.fCount]
def cLayer (d : LayerD) : List Value := [.string ⟨d.fName.toArray⟩, .int .i64 d.fCount]
theorem cLayer_len (d : LayerD) : (cLayer d).length = 2 := rfl
theorem cLayer_one (d : LayerD) : ∀ u ∈ cLayer d, u.oneCell' = true := by intro u hu; simp only [cLayer, List.mem_cons, List.not_mem_nil, or_false] at hu; rcases hu with rfl | rfl <;> rfl
set_option maxHeartbeats 800000 in
theorem eqLayer_any (x y : LayerD) (w : World) :
    Calls Try.prog 134 #[vLayer x, vLayer y] w fun e w' => e = .returned (.bool (decide (x = y))) ∧ Below w.heap.size w w' := by
  obtain ⟨a0, a1⟩ := x
  obtain ⟨b0, b1⟩ := y
  unfold vLayer
  by_cases h0 : a0 = b0
  · by_cases h1 : a1 = b1
    · have HN := Lib.hid (show decide ((⟨a0, a1⟩ : LayerD) = (⟨b0, b1⟩ : LayerD)) = true by rw [h0, h1]; simp)
      subst h0 h1
      go_enter Try.func134, Try.ntmps134
      go_wp2
      go_ret
      exact ⟨ret_bool HN.out.symm, ((Below.refl _ _).alloc (Nat.le_refl _) _).alloc (by simp) _⟩
    · have HN := Lib.hid (show decide ((⟨a0, a1⟩ : LayerD) = (⟨b0, b1⟩ : LayerD)) = false by rw [decide_eq_false_iff_not]; exact fun e => h1 (by injection e))
      have hne1 : (a1 == b1) = false := by simpa using h1
      have hnf1 : (a1 != b1) = true := by simpa using h1
      subst h0
      clear h1
      go_enter Try.func134, Try.ntmps134
      go_wp2
      go_ret
      exact ⟨ret_bool HN.out.symm, ((Below.refl _ _).alloc (Nat.le_refl _) _).alloc (by simp) _⟩
  · have HN := Lib.hid (show decide ((⟨a0, a1⟩ : LayerD) = (⟨b0, b1⟩ : LayerD)) = false by rw [decide_eq_false_iff_not]; exact fun e => h0 (by injection e))
    have hne0 : (a0 == b0) = false := by simpa using h0
    have hnf0 : (a0 != b0) = true := by simpa using h0
    clear h0
    go_enter Try.func134, Try.ntmps134
    go_wp2
    go_ret
    exact ⟨ret_bool HN.out.symm, ((Below.refl _ _).alloc (Nat.le_refl _) _).alloc (by simp) _⟩
set_option maxRecDepth 100000 in
set_option maxHeartbeats 1600000 in
theorem eqLayerS_any (v u : Value) (x y : List LayerD) (w : World) (hx : FlatAt cLayer 2 w v x) (hy : FlatAt cLayer 2 w u y) :
    Calls Try.prog 125 #[v, u] w fun e w' => e = .returned (.bool (decide (x = y))) ∧ Below w.heap.size w w' := by
  obtain ⟨a, c, rfl, hl⟩ := flatAt_len hx
  obtain ⟨a2, c2, rfl, hl2⟩ := flatAt_len hy
  have HX := Lib.hid hx
  have HY := Lib.hid hy
  clear hx hy
  unfold maxLen at hl hl2
  by_cases he : x.length = y.length
  · have hb : ((x.length : Int) == y.length) = true := beq_iff_eq.2 (by omega)
    have hbn : ((x.length : Int) != y.length) = false := by rw [bne_eq_false_iff_eq]; omega
    have HE := Lib.hid he
    clear he
    go_enter Try.func125, Try.ntmps125
    go_wp2
    go_loopw [5] (fun i wr => ∃ k : Nat, k ≤ x.length ∧ i = .int .i64 k ∧ x.take k = y.take k ∧ Below w.heap.size w wr) (fun i _ => x.length - (intOf i).toNat)
    case atStart => exact ⟨0, Nat.zero_le _, rfl, rfl, Below.refl _ _⟩
    case round =>
      obtain ⟨k, hk, rfl, ht, hbr⟩ := hrel
      have HT := Lib.hid ht
      have HB := Lib.hid hbr
      have HXr := Lib.hid (FlatAt.below HX.out hbr (Nat.le_refl _))
      have HYr := Lib.hid (FlatAt.below HY.out hbr (Nat.le_refl _))
      clear ht hbr
      by_cases hlt : k < x.length
      · have hky : k < y.length := by have := HE.out; omega
        obtain ⟨b, o, rfl, _, hd⟩ := flatAt_cell cLayer_len HXr.out k hlt (by decide)
        obtain ⟨b2, o2, rfl, _, hd2⟩ := flatAt_cell cLayer_len HYr.out k hky (by decide)
        have d0 := hd 0 (by decide)
        have d1 := hd 1 (by decide)
        have q0 := hd2 0 (by decide)
        have q1 := hd2 1 (by decide)
        clear hd hd2
        have HS := Lib.hid (take_eq_step x y HE.out k hlt HT.out)
        have HD := Lib.hid (show x[k] ≠ y[k] → ¬ x = y from fun h e => h (by subst e; rfl))
        have HC := Lib.hid (eqLayer_any x[k] y[k])
        generalize x[k] = p at *
        generalize y[k] = q at *
        obtain ⟨a0, a1⟩ := p
        obtain ⟨b0, b1⟩ := q
        simp only [cLayer, vLayer, List.getElem?_cons_zero, List.getElem?_cons_succ, Nat.add_zero] at d0 q0 d1 q1 HC
        go_wp2
        go_still_tail 8, (by kernel_rfl)
        have HB1 := Lib.hid (show Below w.heap.size w wr.drew from ⟨HB.out.os, HB.out.tape, HB.out.output, HB.out.size, HB.out.block⟩)
        change wpList _ _ _ _ _ wr.drew
        generalize wr.drew = w1 at *
        go_wp2_with fail
        refine (HC.out _).mono ?_
        rintro e w2 ⟨rfl, hb0⟩
        have HB2 := Lib.hid (HB1.out.trans (hb0.mono HB1.out.size))
        clear hb0
        by_cases heq : (⟨a0, a1⟩ : LayerD) = (⟨b0, b1⟩ : LayerD)
        · have HN := Lib.hid (HS.out heq)
          rw [show decide ((⟨a0, a1⟩ : LayerD) = (⟨b0, b1⟩ : LayerD)) = true by simpa using heq]
          clear heq
          go_wp2_with fail
          exact ⟨⟨k + 1, by omega, by go_num, HN.out, HB2.out⟩, by simp [intOf]; omega⟩
        · have HN := Lib.hid (HD.out heq)
          rw [show decide ((⟨a0, a1⟩ : LayerD) = (⟨b0, b1⟩ : LayerD)) = false by rw [decide_eq_false_iff_not]; exact heq]
          clear heq
          go_wp2_with fail
          go_ret
          exact ⟨ret_bool (by simp [HN.out]), HB2.out⟩
      · have HN := Lib.hid (show x = y from by
          have h := HT.out
          rw [List.take_of_length_le (by omega), List.take_of_length_le (by have := HE.out; omega)] at h
          exact h)
        go_wp2
        go_ret
        exact ⟨ret_bool (by simp [HN.out]), HB.out⟩
  · have hb : ((x.length : Int) == y.length) = false := beq_eq_false_iff_ne.2 (by omega)
    have hbn : ((x.length : Int) != y.length) = true := by rw [bne_iff_ne]; omega
    have HN := Lib.hid (show ¬ x = y from fun e => he (by rw [e]))
    clear he
    go_enter Try.func125, Try.ntmps125
    go_wp2
    go_ret
    exact ⟨ret_bool (by simp [HN.out]), Below.refl _ _⟩
def zLayer (d : LayerD) : Nat := d.fName.length
theorem infoLayer : (Try.prog.info? 81).map (fun i => (i.zero, i.size, i.bytes)) = some (some (.agg #[.string ⟨#[]⟩, .int .i64 0]), 2, 24) := by kernel_rfl
def marksLayer (k : Int) (n : Nat) : List LayerD := (List.range n).map fun i : Nat => ⟨markL (k + i * 2), k + i * 2 + 1⟩
theorem marksLayer_len (k : Int) (n : Nat) : (marksLayer k n).length = n := by simp [marksLayer]
theorem marksLayer_get (k : Int) (n i : Nat) (h : i < n) : (marksLayer k n)[i]'(by rw [marksLayer_len]; exact h) = ⟨markL (k + i * 2), k + i * 2 + 1⟩ := by simp [marksLayer]
set_option maxRecDepth 100000 in
set_option maxHeartbeats 1600000 in
theorem markLayerS_any (B : Nat) (v : Value) (x : List LayerD) (k : Int) (w : World) (hO : OwnsF cLayer 81 2 w B v x) (hm : x.length ≤ 2097152) (h0 : 1 ≤ k) (h1 : k ≤ 16777216) :
    Calls Try.prog 74 #[v, .int .i64 k] w fun e w' => e = .returned (.int .i64 (k + x.length * 2)) ∧ OwnsF cLayer 81 2 w' B v (marksLayer k x.length) ∧ w.grownBy w' v.ownBlock := by
  unfold OwnsF at hO
  rcases hO.2 with ⟨rfl, hn⟩ | ⟨g, cap, cur, rfl, _⟩
  · have hx : x = [] := List.eq_nil_of_length_eq_zero hn
    subst hx
    go_enter Try.func74, Try.ntmps74
    go_wp2_with fail
    refine wp_loop_rounds 1 ?_
    rw [rounds_succ]
    go_wp2_with fail
    go_ret
    exact ⟨ret_int (by simp), by simpa [OwnsF, marksLayer] using hO, grownBy_refl _ _⟩
  · have HO := Lib.hid (show ∃ xs, w.ownsRow B 81 2 (.slice (some ⟨g, 0, none⟩) x.length cap) x.length xs ∧ xs.take (0 * 2) = ((marksLayer k x.length).flatMap cLayer).take (0 * 2) from ⟨_, hO, by simp⟩)
    have hgw : g < w.heap.size := (hO.lt g rfl).2
    clear hO
    go_enter Try.func74, Try.ntmps74
    go_wp2_with fail
    go_loopw [1, 5] (fun kv i wr => ∃ j : Nat, j ≤ x.length ∧ i = .int .i64 j ∧ kv = .int .i64 (k + j * 2) ∧ (∃ xs, wr.ownsRow B 81 2 (.slice (some ⟨g, 0, none⟩) x.length cap) x.length xs ∧ xs.take (j * 2) = ((marksLayer k x.length).flatMap cLayer).take (j * 2)) ∧ w.grownBy wr (some g)) (fun _ i _ => x.length - (intOf i).toNat)
    case atStart => exact ⟨0, Nat.zero_le _, rfl, by simp, HO.out, grownBy_refl _ _⟩
    case round =>
      obtain ⟨j, hj, rfl, rfl, ⟨xs, hown, htake⟩, hg⟩ := hrel
      have HG := Lib.hid hg
      have HOw := Lib.hid hown
      have HT := Lib.hid htake
      have HXL := Lib.hid (show xs.length = x.length * 2 from hown.1)
      clear hg hown htake
      by_cases hlt : j < x.length
      · have G0 := Lib.hid (flat_get cLayer 2 cLayer_len (marksLayer k x.length) j (by rw [marksLayer_len]; exact hlt) 0 (by decide))
        have G1 := Lib.hid (flat_get cLayer 2 cLayer_len (marksLayer k x.length) j (by rw [marksLayer_len]; exact hlt) 1 (by decide))
        rw [marksLayer_get k _ j hlt] at G0 G1
        simp only [cLayer, List.getElem?_cons_zero, List.getElem?_cons_succ, Nat.add_zero] at G0 G1
        go_wp2_with fail
        refine (markText_any (k + j * 2) _ (by omega) (by omega)).mono ?_
        rintro e w1 ⟨rfl, hb⟩
        have HO1 := Lib.hid (ownsRow_below HOw.out hb (Nat.le_refl _))
        have HG1 := Lib.hid (grownBy_below (HG.out) hb (HG.out).size)
        clear hb
        obtain ⟨u0, c0⟩ : ∃ u, w1.cell? ⟨g, j * 2, none⟩ = some u := by
          rw [World.ownsRow.cellAt HO1.out (j * 2) (by omega), List.getElem?_eq_getElem (by have := HXL.out; (try simp only [List.length_set]); omega)]
          exact ⟨_, rfl⟩
        have f0 := World.ownsRow.frozenAt HO1.out (j * 2)
        obtain ⟨u1, c1⟩ : ∃ u, w1.cell? ⟨g, j * 2 + 1, none⟩ = some u := by
          rw [World.ownsRow.cellAt HO1.out (j * 2 + 1) (by omega), List.getElem?_eq_getElem (by have := HXL.out; (try simp only [List.length_set]); omega)]
          exact ⟨_, rfl⟩
        have f1 := World.ownsRow.frozenAt HO1.out (j * 2 + 1)
        have HS0 := Lib.hid (World.ownsRow.stored HO1.out (j * 2) (.string ⟨(markL (k + j * 2)).toArray⟩))
        have HT0 := Lib.hid (take_set_get _ _ (j * 2) _ (by have := HXL.out; (try simp only [List.length_set]); omega) G0.out HT.out)
        have HS1 := Lib.hid (World.ownsRow.stored HS0.out.1 (j * 2 + 1) (.int .i64 (k + j * 2 + 1)))
        have HT1 := Lib.hid (take_set_get _ _ (j * 2 + 1) _ (by have := HXL.out; (try simp only [List.length_set]); omega) G1.out HT0.out)
        go_wp2_with fail
        refine ⟨⟨j + 1, by omega, by go_num, ?_, ⟨_, HS1.out.1, by rw [show (j + 1) * 2 = j * 2 + 1 + 1 by omega]; exact HT1.out⟩, ?_⟩, by simp [intOf]; omega⟩
        · congr 1; push_cast; omega
        · exact (grownBy_trans (grownBy_trans HG1.out HS0.out.2) HS1.out.2)
      · have HN := Lib.hid (show xs = (marksLayer k x.length).flatMap cLayer from by
          have h := HT.out
          rw [List.take_of_length_le (by have := HXL.out; omega), List.take_of_length_le (by rw [flat_len cLayer 2 cLayer_len, marksLayer_len]; omega)] at h
          exact h)
        go_wp2_with fail
        go_ret
        exact ⟨ret_int (by rw [show j = x.length by omega]), by have h := HOw.out; rw [HN.out] at h; unfold OwnsF; rw [marksLayer_len]; exact h, HG.out⟩
set_option maxRecDepth 100000 in
set_option maxHeartbeats 1600000 in
theorem heldLayerS_any (v : Value) (n : Nat) (k : Int) (w : World) (hR : FlatAt cLayer 2 w v (marksLayer k n)) (hm : n ≤ 2097152) (h0 : 1 ≤ k) (h1 : k ≤ 16777216) :
    Calls Try.prog 76 #[v, .int .i64 k] w fun e w' => e = .returned (.int .i64 (k + n * 2)) ∧ Below w.heap.size w w' := by
  obtain ⟨a, c, rfl, hl⟩ := flatAt_len hR
  rw [marksLayer_len] at *
  have HR := Lib.hid hR
  clear hR
  unfold maxLen at hl
  go_enter Try.func76, Try.ntmps76
  go_wp2_with fail
  go_loopw [1, 5] (fun kv i wr => ∃ j : Nat, j ≤ n ∧ i = .int .i64 j ∧ kv = .int .i64 (k + j * 2) ∧ Below w.heap.size w wr) (fun _ i _ => n - (intOf i).toNat)
  case atStart => exact ⟨0, Nat.zero_le _, rfl, by simp, Below.refl _ _⟩
  case round =>
    obtain ⟨j, hj, rfl, rfl, hb⟩ := hrel
    have HB := Lib.hid hb
    have HRr := Lib.hid (FlatAt.below HR.out hb (Nat.le_refl _))
    clear hb
    by_cases hlt : j < n
    · obtain ⟨b, o, rfl, hbw, hd⟩ := flatAt_cell cLayer_len HRr.out j (by rw [marksLayer_len]; exact hlt) (by decide)
      rw [marksLayer_get k n j hlt] at hd
      have d0 := hd 0 (by decide)
      have d1 := hd 1 (by decide)
      clear hd
      simp only [cLayer, List.getElem?_cons_zero, List.getElem?_cons_succ, Nat.add_zero] at d0 d1
      have hj0 : (0 : Int) ≤ (j : Int) := Int.natCast_nonneg _
      have hj1 : (j : Int) < (n : Int) := by omega
      have D0 := Lib.hid d0
      have D1 := Lib.hid d1
      clear d0 d1
      have HBL := Lib.hid hbw
      have d0 := D0.out
      have hbeq0 : (markL (k + j * 2) == markL (k + j * 2)) = true := by simp
      go_wp2_with fail
      go_region_held3 (fun w' => w'.cell? ⟨b, o + j * 2, none⟩ = some (.string ⟨(markL (k + j * 2)).toArray⟩))
        (first
          | go_keep
          | (rw [hb1.cell (p := ⟨b, o + j * 2, none⟩) (by simpa using hbw)]; assumption))
        ((go_at_call 72; refine (markText_any (k + j * 2) _ (by omega) (by omega)).mono ?_; rintro e w1 ⟨rfl, hb1⟩))
      have hB1 : Below wr.heap.size wr w1 := ⟨hb1.os, hb1.tape, hb1.output, hb1.size, hb1.block⟩
      have HB1 := Lib.hid (HB.out.trans (hB1.mono HB.out.size))
      have E1_1 := Lib.hid (show w1.cell? ⟨b, o + j * 2 + 1, none⟩ = some (.int .i64 (k + j * 2 + 1)) by rw [hB1.cell (p := ⟨b, o + j * 2 + 1, none⟩) hbw]; exact D1.out)
      have hbw1 : b < w1.heap.size := Nat.lt_of_lt_of_le hbw hB1.size
      clear hb1 hB1
      have hbw := hbw1
      have d1 := E1_1.out
      go_wp2_with fail
      exact ⟨⟨j + 1, by omega, by go_num, by congr 1; push_cast; omega, HB1.out⟩, by simp [intOf]; omega⟩
    · go_wp2_with fail
      go_ret
      exact ⟨ret_int (by rw [show j = n by omega]), HB.out⟩
end Go.Proofs.Ytaihdjdaamglnaa
/- Layer: how it reads, and what the laws' own helpers do with it. Written by gen/deep.py. -/
namespace Go.Proofs.Ytaihdjdaamglnaa
set_option linter.unusedVariables false
set_option linter.unusedSimpArgs false
open Go.RowKit
theorem eqLayerS_d (v u : Value) (x y : List LayerD) (w : World) (hx : SliceAt (rFlat cLayer) 2 0 w v x) (hy : SliceAt (rFlat cLayer) 2 0 w u y) : Calls Try.prog 125 #[v, u] w fun e w' => e = .returned (.bool (decide (x = y))) ∧ Below w.heap.size w w' :=
  eqLayerS_any v u x y w (flatAt_of_slice cLayer_len (by decide) hx) (flatAt_of_slice cLayer_len (by decide) hy)
end Go.Proofs.Ytaihdjdaamglnaa
/- Part: how it reads, and what the laws' own helpers do with it. Written by gen/deep.py. -/
namespace Go.Proofs.Ytaihdjdaamglnaa
set_option linter.unusedVariables false
set_option linter.unusedSimpArgs false
open Go.RowKit
structure PartD where
  fCore : CoreD
  fLayers : List LayerD
deriving DecidableEq
def okPart (x : PartD) : Prop := (okCore x.fCore) ∧ (∀ c ∈ x.fLayers, okLayer c)
def rPart : Nat → World → List Value → PartD → Prop := fun F w cs x => ∃ v3 v5, cs = [.string ⟨x.fCore.fKind.toArray⟩, .bool x.fCore.fOn, .bool x.fCore.fBroken, v3, .int .i64 x.fCore.fCount, v5] ∧ SliceAt (rFlat cCell) 2 F w v3 x.fCore.fCells ∧ SliceAt (rFlat cLayer) 2 F w v5 x.fLayers
theorem goodPart : Good rPart 6 := by
  refine ⟨?_, ?_, ?_⟩
  · rintro F w cs x ⟨v3, v5, rfl, h3, h5⟩; rfl
  · rintro F w w' cs x ⟨v3, v5, rfl, h3, h5⟩ hk; exact ⟨v3, v5, rfl, h3.keep (good_flat cCell_len) hk, h5.keep (good_flat cLayer_len) hk⟩
  · rintro F F' w cs x ⟨v3, v5, rfl, h3, h5⟩ hF; exact ⟨v3, v5, rfl, h3.mono (good_flat cCell_len) hF, h5.mono (good_flat cLayer_len) hF⟩
def zPart (x : PartD) : Nat := zCore x.fCore + (x.fLayers.length + sumF zLayer x.fLayers)
set_option maxRecDepth 100000 in
set_option maxHeartbeats 1600000 in
theorem eqPart_d (v u : Value) (x y : PartD) (w : World) (hx : ValAt rPart 0 w v x) (hy : ValAt rPart 0 w u y) : Calls Try.prog 111 #[v, u] w fun e w' => e = .returned (.bool (decide (x = y))) ∧ Below w.heap.size w w' := by
  have HQ := Lib.hid (show decide (x = y) = (decide (x.fCore = y.fCore) && decide (x.fLayers = y.fLayers)) by rw [Bool.eq_iff_iff]; cases x; cases y; simp [and_assoc])
  obtain ⟨_, rfl, hx⟩ := hx
  obtain ⟨⟨a0_0, a0_1, a0_2, a0_3, a0_4⟩, a1⟩ := x
  obtain ⟨v3, v5, rfl, hv3, hv5⟩ := hx
  simp only at hv3 hv5
  obtain ⟨_, rfl, hy⟩ := hy
  obtain ⟨⟨b0_0, b0_1, b0_2, b0_3, b0_4⟩, b1⟩ := y
  obtain ⟨u3, u5, rfl, hu3, hu5⟩ := hy
  simp only at hu3 hu5
  simp only at HQ
  obtain ⟨ra3, rc3, rfl, _⟩ := sliceAt_len hv3
  obtain ⟨ra5, rc5, rfl, _⟩ := sliceAt_len hv5
  obtain ⟨sa3, sc3, rfl, _⟩ := sliceAt_len hu3
  obtain ⟨sa5, sc5, rfl, _⟩ := sliceAt_len hu5
  have HV3 := Lib.hid hv3
  have HU3 := Lib.hid hu3
  have HV5 := Lib.hid hv5
  have HU5 := Lib.hid hu5
  clear hv3 hu3 hv5 hu5
  have HC0 := Lib.hid (fun w0 (hw : Below w.heap.size w w0) => eqCore_d _ _ (⟨a0_0, a0_1, a0_2, a0_3, a0_4⟩ : CoreD) (⟨b0_0, b0_1, b0_2, b0_3, b0_4⟩ : CoreD) w0 ⟨_, rfl, _, rfl, HV3.out.below (good_flat cCell_len) hw (Nat.le_refl _)⟩ ⟨_, rfl, _, rfl, HU3.out.below (good_flat cCell_len) hw (Nat.le_refl _)⟩)
  generalize decide ((⟨a0_0, a0_1, a0_2, a0_3, a0_4⟩ : CoreD) = (⟨b0_0, b0_1, b0_2, b0_3, b0_4⟩ : CoreD)) = p0 at *
  have HC1 := Lib.hid (fun w0 (hw : Below w.heap.size w w0) => eqLayerS_d _ _ a1 b1 w0 (HV5.out.below (good_flat cLayer_len) hw (Nat.le_refl _)) (HU5.out.below (good_flat cLayer_len) hw (Nat.le_refl _)))
  generalize decide (a1 = b1) = p1 at *
  generalize hq : decide ((⟨⟨a0_0, a0_1, a0_2, a0_3, a0_4⟩, a1⟩ : PartD) = (⟨⟨b0_0, b0_1, b0_2, b0_3, b0_4⟩, b1⟩ : PartD)) = q at *
  clear hq
  have HS := Lib.hid (bx_start2 w [.string ⟨a0_0.toArray⟩, .bool a0_1, .bool a0_2, .slice ra3 a0_3.length rc3, .int .i64 a0_4, .slice ra5 a1.length rc5] [.string ⟨b0_0.toArray⟩, .bool b0_1, .bool b0_2, .slice sa3 b0_3.length sc3, .int .i64 b0_4, .slice sa5 b1.length sc5] 29 29)
  cases p0 with
  | true =>
    cases p1 with
    | true =>
      have HF := Lib.hid (show q = true from by rw [HQ.out]; simp)
      go_enter Try.func111, Try.ntmps111
      have BA := Lib.hid HS.out.1
      have BB := Lib.hid HS.out.2.1
      have HB := Lib.hid HS.out.2.2
      go_wp2_with fail
      refine (HC0.out _ HB.out).mono ?_
      rintro e w1 ⟨rfl, hb⟩
      have HB := Lib.hid (belS (w := w) HB.out hb)
      have BA := Lib.hid (BA.out.below hb)
      have BB := Lib.hid (BB.out.below hb)
      clear hb
      have eA0 := BA.out.cell 0 (by simp)
      have eB0 := BB.out.cell 0 (by simp)
      have eA1 := BA.out.cell 1 (by simp)
      have eB1 := BB.out.cell 1 (by simp)
      have eA2 := BA.out.cell 2 (by simp)
      have eB2 := BB.out.cell 2 (by simp)
      have eA3 := BA.out.cell 3 (by simp)
      have eB3 := BB.out.cell 3 (by simp)
      have eA4 := BA.out.cell 4 (by simp)
      have eB4 := BB.out.cell 4 (by simp)
      have eA5 := BA.out.cell 5 (by simp)
      have eB5 := BB.out.cell 5 (by simp)
      simp only [List.getElem_cons_zero, List.getElem_cons_succ, List.set_cons_zero, List.set_cons_succ] at eA0 eB0 eA1 eB1 eA2 eB2 eA3 eB3 eA4 eB4 eA5 eB5
      go_wp2_with fail
      clear eA0 eB0 eA1 eB1 eA2 eB2 eA3 eB3 eA4 eB4 eA5 eB5
      refine (HC1.out _ HB.out).mono ?_
      rintro e w2 ⟨rfl, hb⟩
      have HB := Lib.hid (belS (w := w) HB.out hb)
      have BA := Lib.hid (BA.out.below hb)
      have BB := Lib.hid (BB.out.below hb)
      clear hb
      have eA0 := BA.out.cell 0 (by simp)
      have eB0 := BB.out.cell 0 (by simp)
      have eA1 := BA.out.cell 1 (by simp)
      have eB1 := BB.out.cell 1 (by simp)
      have eA2 := BA.out.cell 2 (by simp)
      have eB2 := BB.out.cell 2 (by simp)
      have eA3 := BA.out.cell 3 (by simp)
      have eB3 := BB.out.cell 3 (by simp)
      have eA4 := BA.out.cell 4 (by simp)
      have eB4 := BB.out.cell 4 (by simp)
      have eA5 := BA.out.cell 5 (by simp)
      have eB5 := BB.out.cell 5 (by simp)
      simp only [List.getElem_cons_zero, List.getElem_cons_succ, List.set_cons_zero, List.set_cons_succ] at eA0 eB0 eA1 eB1 eA2 eB2 eA3 eB3 eA4 eB4 eA5 eB5
      go_wp2_with fail
      go_ret
      exact ⟨ret_bool HF.out.symm, HB.out⟩
    | false =>
      have HF := Lib.hid (show q = false from by rw [HQ.out]; simp)
      go_enter Try.func111, Try.ntmps111
      have BA := Lib.hid HS.out.1
      have BB := Lib.hid HS.out.2.1
      have HB := Lib.hid HS.out.2.2
      go_wp2_with fail
      refine (HC0.out _ HB.out).mono ?_
      rintro e w1 ⟨rfl, hb⟩
      have HB := Lib.hid (belS (w := w) HB.out hb)
      have BA := Lib.hid (BA.out.below hb)
      have BB := Lib.hid (BB.out.below hb)
      clear hb
      have eA0 := BA.out.cell 0 (by simp)
      have eB0 := BB.out.cell 0 (by simp)
      have eA1 := BA.out.cell 1 (by simp)
      have eB1 := BB.out.cell 1 (by simp)
      have eA2 := BA.out.cell 2 (by simp)
      have eB2 := BB.out.cell 2 (by simp)
      have eA3 := BA.out.cell 3 (by simp)
      have eB3 := BB.out.cell 3 (by simp)
      have eA4 := BA.out.cell 4 (by simp)
      have eB4 := BB.out.cell 4 (by simp)
      have eA5 := BA.out.cell 5 (by simp)
      have eB5 := BB.out.cell 5 (by simp)
      simp only [List.getElem_cons_zero, List.getElem_cons_succ, List.set_cons_zero, List.set_cons_succ] at eA0 eB0 eA1 eB1 eA2 eB2 eA3 eB3 eA4 eB4 eA5 eB5
      go_wp2_with fail
      clear eA0 eB0 eA1 eB1 eA2 eB2 eA3 eB3 eA4 eB4 eA5 eB5
      refine (HC1.out _ HB.out).mono ?_
      rintro e w2 ⟨rfl, hb⟩
      have HB := Lib.hid (belS (w := w) HB.out hb)
      have BA := Lib.hid (BA.out.below hb)
      have BB := Lib.hid (BB.out.below hb)
      clear hb
      have eA0 := BA.out.cell 0 (by simp)
      have eB0 := BB.out.cell 0 (by simp)
      have eA1 := BA.out.cell 1 (by simp)
      have eB1 := BB.out.cell 1 (by simp)
      have eA2 := BA.out.cell 2 (by simp)
      have eB2 := BB.out.cell 2 (by simp)
      have eA3 := BA.out.cell 3 (by simp)
      have eB3 := BB.out.cell 3 (by simp)
      have eA4 := BA.out.cell 4 (by simp)
      have eB4 := BB.out.cell 4 (by simp)
      have eA5 := BA.out.cell 5 (by simp)
      have eB5 := BB.out.cell 5 (by simp)
      simp only [List.getElem_cons_zero, List.getElem_cons_succ, List.set_cons_zero, List.set_cons_succ] at eA0 eB0 eA1 eB1 eA2 eB2 eA3 eB3 eA4 eB4 eA5 eB5
      go_wp2_with fail
      go_ret
      exact ⟨ret_bool HF.out.symm, HB.out⟩
  | false =>
    have HF := Lib.hid (show q = false from by rw [HQ.out]; simp)
    go_enter Try.func111, Try.ntmps111
    have BA := Lib.hid HS.out.1
    have BB := Lib.hid HS.out.2.1
    have HB := Lib.hid HS.out.2.2
    go_wp2_with fail
    refine (HC0.out _ HB.out).mono ?_
    rintro e w1 ⟨rfl, hb⟩
    have HB := Lib.hid (belS (w := w) HB.out hb)
    have BA := Lib.hid (BA.out.below hb)
    have BB := Lib.hid (BB.out.below hb)
    clear hb
    have eA0 := BA.out.cell 0 (by simp)
    have eB0 := BB.out.cell 0 (by simp)
    have eA1 := BA.out.cell 1 (by simp)
    have eB1 := BB.out.cell 1 (by simp)
    have eA2 := BA.out.cell 2 (by simp)
    have eB2 := BB.out.cell 2 (by simp)
    have eA3 := BA.out.cell 3 (by simp)
    have eB3 := BB.out.cell 3 (by simp)
    have eA4 := BA.out.cell 4 (by simp)
    have eB4 := BB.out.cell 4 (by simp)
    have eA5 := BA.out.cell 5 (by simp)
    have eB5 := BB.out.cell 5 (by simp)
    simp only [List.getElem_cons_zero, List.getElem_cons_succ, List.set_cons_zero, List.set_cons_succ] at eA0 eB0 eA1 eB1 eA2 eB2 eA3 eB3 eA4 eB4 eA5 eB5
    go_wp2_with fail
    go_ret
    exact ⟨ret_bool HF.out.symm, HB.out⟩
end Go.Proofs.Ytaihdjdaamglnaa
/- Contracts of chapter 4: LayerNeeds, LayerGives, the program's and the model's. Written by gen/ch4lay.py. -/
namespace Go.Proofs.Ytaihdjdaamglnaa
set_option linter.unusedVariables false
open Go.RowKit
def layN : Nat → List UInt8
  | 0 => [112, 108, 97, 105, 110]
  | 1 => [114, 117, 110, 115]
  | 2 => [107, 101, 101, 112, 115]
  | 3 => [99, 111, 117, 110, 116, 115]
  | 4 => [108, 97, 122, 121]
  | 5 => [114, 101, 97, 100, 115]
  | 6 => [104, 101, 97, 114, 115]
  | 7 => [104, 101, 97, 108, 115]
  | 8 => [116, 119, 105, 99, 101]
  | _ => []
def needN : Nat → Int
  | 0 => 0
  | 1 => 1
  | 2 => 2
  | 3 => 2
  | 4 => 3
  | 5 => 2
  | 6 => 1
  | 7 => 1
  | 8 => 4
  | _ => 0
def giveN : Nat → Int
  | 0 => 0
  | 1 => 1
  | 2 => 2
  | 3 => 6
  | 4 => 3
  | 5 => 2
  | 6 => 9
  | 7 => 33
  | 8 => 4
  | _ => 0
/-- the number of an adapter; -1 -/
def layI (s : List UInt8) : Int := findK (fun k => layN k == s) 0 9
def needI (i : Int) : Int := if i < 0 then 0 else needN i.toNat
def giveI (i : Int) : Int := if i < 0 then 0 else giveN i.toNat
def ndV (i : Int) : Value := .tuple #[.int .i64 (needI i), .bool (decide (0 ≤ i))]
def gvV (i : Int) : Value := .tuple #[.int .i64 (giveI i), .bool (decide (0 ≤ i))]
def l4V (i : Int) : Value := .tuple #[.int .i64 (needI i), .int .i64 (giveI i), .bool (decide (0 ≤ i))]
theorem l4V_yes {i : Int} {k : Nat} (h : (k : Int) = i) : Value.tuple #[.int .i64 (needN k), .int .i64 (giveN k), .bool true] = l4V i := by
  subst h; unfold l4V needI giveI; rw [if_neg (by omega), if_neg (by omega)]; simp
theorem l4V_no {i : Int} (h : (-1 : Int) = i) : Value.tuple #[.int .i64 0, .int .i64 0, .bool false] = l4V i := by subst h; rfl
theorem layI_none (l : List UInt8) (h : ∀ k, k < 9 → layN k ≠ l) : layI l = -1 := by
  have : ∀ n k, k + n ≤ 9 → findK (fun k => layN k == l) k n = -1 := by
    intro n
    induction n with
    | zero => intro k _; rfl
    | succ n ih =>
      intro k hk
      unfold findK
      rw [if_neg (by simpa using h k (by omega)), ih (k + 1) (by omega)]
  exact this 9 0 (by omega)
theorem layI_bd (l : List UInt8) : layI l = -1 ∨ ∃ j : Nat, layI l = j ∧ j < 9 ∧ layN j = l := by
  rcases findK_bd (fun k => layN k == l) 9 0 with h | ⟨j, h1, h2, h3⟩
  · exact Or.inl h
  · exact Or.inr ⟨j, h1, by omega, by simpa using h3⟩
theorem needN_face (j : Nat) : isF (needN j) = true := by unfold needN; split <;> rfl
theorem giveN_face (j : Nat) : isF (giveN j) = true := by unfold giveN; split <;> rfl
theorem needI_face (i : Int) : isF (needI i) = true := by unfold needI; split; rfl; exact needN_face _
theorem giveI_face (i : Int) : isF (giveI i) = true := by unfold giveI; split; rfl; exact giveN_face _
set_option maxHeartbeats 800000 in
theorem implLayerNeeds_any (s : ByteArray) (w : World) :
    Calls Try.prog 12 #[.string s] w fun e w' => e = .returned (ndV (layI s.data.toList)) ∧ w = w' := by
  by_cases h0 : s.toList = [112, 108, 97, 105, 110]
  · rw [bytes_eq] at h0
    subst h0
    go_enter Try.func12, Try.ntmps12
    go_wp2
    go_ret2
    exact ⟨rfl, rfl⟩
  by_cases h1 : s.toList = [114, 117, 110, 115]
  · rw [bytes_eq] at h1
    subst h1
    clear h0
    go_enter Try.func12, Try.ntmps12
    go_wp2
    go_ret2
    exact ⟨rfl, rfl⟩
  by_cases h2 : s.toList = [107, 101, 101, 112, 115]
  · rw [bytes_eq] at h2
    subst h2
    clear h0 h1
    go_enter Try.func12, Try.ntmps12
    go_wp2
    go_ret2
    exact ⟨rfl, rfl⟩
  by_cases h3 : s.toList = [99, 111, 117, 110, 116, 115]
  · rw [bytes_eq] at h3
    subst h3
    clear h0 h1 h2
    go_enter Try.func12, Try.ntmps12
    go_wp2
    go_ret2
    exact ⟨rfl, rfl⟩
  by_cases h4 : s.toList = [108, 97, 122, 121]
  · rw [bytes_eq] at h4
    subst h4
    clear h0 h1 h2 h3
    go_enter Try.func12, Try.ntmps12
    go_wp2
    go_ret2
    exact ⟨rfl, rfl⟩
  by_cases h5 : s.toList = [114, 101, 97, 100, 115]
  · rw [bytes_eq] at h5
    subst h5
    clear h0 h1 h2 h3 h4
    go_enter Try.func12, Try.ntmps12
    go_wp2
    go_ret2
    exact ⟨rfl, rfl⟩
  by_cases h6 : s.toList = [104, 101, 97, 114, 115]
  · rw [bytes_eq] at h6
    subst h6
    clear h0 h1 h2 h3 h4 h5
    go_enter Try.func12, Try.ntmps12
    go_wp2
    go_ret2
    exact ⟨rfl, rfl⟩
  by_cases h7 : s.toList = [104, 101, 97, 108, 115]
  · rw [bytes_eq] at h7
    subst h7
    clear h0 h1 h2 h3 h4 h5 h6
    go_enter Try.func12, Try.ntmps12
    go_wp2
    go_ret2
    exact ⟨rfl, rfl⟩
  by_cases h8 : s.toList = [116, 119, 105, 99, 101]
  · rw [bytes_eq] at h8
    subst h8
    clear h0 h1 h2 h3 h4 h5 h6 h7
    go_enter Try.func12, Try.ntmps12
    go_wp2
    go_ret2
    exact ⟨rfl, rfl⟩
  have b0 : (s.toList == [112, 108, 97, 105, 110]) = false := by simpa using h0
  have b1 : (s.toList == [114, 117, 110, 115]) = false := by simpa using h1
  have b2 : (s.toList == [107, 101, 101, 112, 115]) = false := by simpa using h2
  have b3 : (s.toList == [99, 111, 117, 110, 116, 115]) = false := by simpa using h3
  have b4 : (s.toList == [108, 97, 122, 121]) = false := by simpa using h4
  have b5 : (s.toList == [114, 101, 97, 100, 115]) = false := by simpa using h5
  have b6 : (s.toList == [104, 101, 97, 114, 115]) = false := by simpa using h6
  have b7 : (s.toList == [104, 101, 97, 108, 115]) = false := by simpa using h7
  have b8 : (s.toList == [116, 119, 105, 99, 101]) = false := by simpa using h8
  have HN : layI s.data.toList = -1 := by
    rw [Lib.toList_data] at h0 h1 h2 h3 h4 h5 h6 h7 h8
    refine layI_none _ ?_
    intro k hk e
    rcases (show k = 0 ∨ k = 1 ∨ k = 2 ∨ k = 3 ∨ k = 4 ∨ k = 5 ∨ k = 6 ∨ k = 7 ∨ k = 8 by omega) with rfl | rfl | rfl | rfl | rfl | rfl | rfl | rfl | rfl
    · exact h0 e.symm
    · exact h1 e.symm
    · exact h2 e.symm
    · exact h3 e.symm
    · exact h4 e.symm
    · exact h5 e.symm
    · exact h6 e.symm
    · exact h7 e.symm
    · exact h8 e.symm
  have HK := Lib.hid (show ndV (layI s.data.toList) = .tuple #[.int .i64 0, .bool false] by rw [HN]; rfl)
  clear h0 h1 h2 h3 h4 h5 h6 h7 h8 HN
  go_enter Try.func12, Try.ntmps12
  go_wp2
  go_ret2
  exact ⟨congrArg Ending.returned HK.out.symm, rfl⟩
set_option maxHeartbeats 800000 in
theorem implLayerGives_any (s : ByteArray) (w : World) :
    Calls Try.prog 13 #[.string s] w fun e w' => e = .returned (gvV (layI s.data.toList)) ∧ w = w' := by
  by_cases h0 : s.toList = [112, 108, 97, 105, 110]
  · rw [bytes_eq] at h0
    subst h0
    go_enter Try.func13, Try.ntmps13
    go_wp2
    go_ret2
    exact ⟨rfl, rfl⟩
  by_cases h1 : s.toList = [114, 117, 110, 115]
  · rw [bytes_eq] at h1
    subst h1
    clear h0
    go_enter Try.func13, Try.ntmps13
    go_wp2
    go_ret2
    exact ⟨rfl, rfl⟩
  by_cases h2 : s.toList = [107, 101, 101, 112, 115]
  · rw [bytes_eq] at h2
    subst h2
    clear h0 h1
    go_enter Try.func13, Try.ntmps13
    go_wp2
    go_ret2
    exact ⟨rfl, rfl⟩
  by_cases h3 : s.toList = [99, 111, 117, 110, 116, 115]
  · rw [bytes_eq] at h3
    subst h3
    clear h0 h1 h2
    go_enter Try.func13, Try.ntmps13
    go_wp2
    go_ret2
    exact ⟨rfl, rfl⟩
  by_cases h4 : s.toList = [108, 97, 122, 121]
  · rw [bytes_eq] at h4
    subst h4
    clear h0 h1 h2 h3
    go_enter Try.func13, Try.ntmps13
    go_wp2
    go_ret2
    exact ⟨rfl, rfl⟩
  by_cases h5 : s.toList = [114, 101, 97, 100, 115]
  · rw [bytes_eq] at h5
    subst h5
    clear h0 h1 h2 h3 h4
    go_enter Try.func13, Try.ntmps13
    go_wp2
    go_ret2
    exact ⟨rfl, rfl⟩
  by_cases h6 : s.toList = [104, 101, 97, 114, 115]
  · rw [bytes_eq] at h6
    subst h6
    clear h0 h1 h2 h3 h4 h5
    go_enter Try.func13, Try.ntmps13
    go_wp2
    go_ret2
    exact ⟨rfl, rfl⟩
  by_cases h7 : s.toList = [104, 101, 97, 108, 115]
  · rw [bytes_eq] at h7
    subst h7
    clear h0 h1 h2 h3 h4 h5 h6
    go_enter Try.func13, Try.ntmps13
    go_wp2
    go_ret2
    exact ⟨rfl, rfl⟩
  by_cases h8 : s.toList = [116, 119, 105, 99, 101]
  · rw [bytes_eq] at h8
    subst h8
    clear h0 h1 h2 h3 h4 h5 h6 h7
    go_enter Try.func13, Try.ntmps13
    go_wp2
    go_ret2
    exact ⟨rfl, rfl⟩
  have b0 : (s.toList == [112, 108, 97, 105, 110]) = false := by simpa using h0
  have b1 : (s.toList == [114, 117, 110, 115]) = false := by simpa using h1
  have b2 : (s.toList == [107, 101, 101, 112, 115]) = false := by simpa using h2
  have b3 : (s.toList == [99, 111, 117, 110, 116, 115]) = false := by simpa using h3
  have b4 : (s.toList == [108, 97, 122, 121]) = false := by simpa using h4
  have b5 : (s.toList == [114, 101, 97, 100, 115]) = false := by simpa using h5
  have b6 : (s.toList == [104, 101, 97, 114, 115]) = false := by simpa using h6
  have b7 : (s.toList == [104, 101, 97, 108, 115]) = false := by simpa using h7
  have b8 : (s.toList == [116, 119, 105, 99, 101]) = false := by simpa using h8
  have HN : layI s.data.toList = -1 := by
    rw [Lib.toList_data] at h0 h1 h2 h3 h4 h5 h6 h7 h8
    refine layI_none _ ?_
    intro k hk e
    rcases (show k = 0 ∨ k = 1 ∨ k = 2 ∨ k = 3 ∨ k = 4 ∨ k = 5 ∨ k = 6 ∨ k = 7 ∨ k = 8 by omega) with rfl | rfl | rfl | rfl | rfl | rfl | rfl | rfl | rfl
    · exact h0 e.symm
    · exact h1 e.symm
    · exact h2 e.symm
    · exact h3 e.symm
    · exact h4 e.symm
    · exact h5 e.symm
    · exact h6 e.symm
    · exact h7 e.symm
    · exact h8 e.symm
  have HK := Lib.hid (show gvV (layI s.data.toList) = .tuple #[.int .i64 0, .bool false] by rw [HN]; rfl)
  clear h0 h1 h2 h3 h4 h5 h6 h7 h8 HN
  go_enter Try.func13, Try.ntmps13
  go_wp2
  go_ret2
  exact ⟨congrArg Ending.returned HK.out.symm, rfl⟩
theorem lays_cell (w : World) (k : Nat) (hk : k < 9) : (w.alloc (.cells #[.string ⟨#[112, 108, 97, 105, 110]⟩, .string ⟨#[114, 117, 110, 115]⟩, .string ⟨#[107, 101, 101, 112, 115]⟩, .string ⟨#[99, 111, 117, 110, 116, 115]⟩, .string ⟨#[108, 97, 122, 121]⟩, .string ⟨#[114, 101, 97, 100, 115]⟩, .string ⟨#[104, 101, 97, 114, 115]⟩, .string ⟨#[104, 101, 97, 108, 115]⟩, .string ⟨#[116, 119, 105, 99, 101]⟩] 9)).cell? ⟨w.heap.size, k, none⟩ = some (.string ⟨(layN k).toArray⟩) := by
  rw [cell_of_row _ _ k _ 9 (0, 0) (heap_alloc_new w _)]
  rcases (show k = 0 ∨ k = 1 ∨ k = 2 ∨ k = 3 ∨ k = 4 ∨ k = 5 ∨ k = 6 ∨ k = 7 ∨ k = 8 by omega) with rfl | rfl | rfl | rfl | rfl | rfl | rfl | rfl | rfl <;> rfl
set_option maxHeartbeats 1600000 in
theorem l4Row_any (s : ByteArray) (w : World) :
    Calls Try.prog 115 #[.string s] w fun e w' => e = .returned (l4V (layI s.data.toList)) ∧ Below w.heap.size w w' := by
  have HD := Lib.hid (lays_cell w)
  go_enter Try.func115, Try.ntmps115
  go_wp2_with fail
  go_loop [6, 7, 11] (fun _ _ i => ∃ k : Nat, k ≤ 9 ∧ i = .int .i64 k ∧ findK (fun k => layN k == s.data.toList) k (9 - k) = layI s.data.toList) (fun _ _ i => 9 - (intOf i).toNat)
  case atStart => exact ⟨0, Nat.zero_le _, rfl, rfl⟩
  case round =>
    obtain ⟨k, hk, rfl, hf⟩ := hrel
    have HF := Lib.hid hf
    clear hf
    by_cases hlt : k < 9
    · have d1 := HD.out k hlt
      cases heq : (layN k == s.data.toList) with
      | true =>
        have HR := Lib.hid (show (k : Int) = layI s.data.toList from by rw [← HF.out]; exact (findK_yes hlt heq).symm)
        have hbeq : (layN k == s.toList) = true := by rw [Lib.toList_data]; exact heq
        clear heq
        go_wp2_with fail
        rcases (show k = 0 ∨ k = 1 ∨ k = 2 ∨ k = 3 ∨ k = 4 ∨ k = 5 ∨ k = 6 ∨ k = 7 ∨ k = 8 by omega) with rfl | rfl | rfl | rfl | rfl | rfl | rfl | rfl | rfl
        all_goals go_region
        all_goals (try go_wp2_with fail)
        all_goals
          go_ret3
          exact ⟨congrArg Ending.returned (l4V_yes HR.out), by repeat (first | exact Below.refl _ _ | refine Below.alloc ?_ (by simp; try omega) _ | refine Below.drew ?_)⟩
      | false =>
        have HR := Lib.hid (show findK (fun k => layN k == s.data.toList) (k + 1) (9 - (k + 1)) = layI s.data.toList from by rw [← HF.out]; exact (findK_no hlt heq).symm)
        have hbeq : (layN k == s.toList) = false := by rw [Lib.toList_data]; exact heq
        clear heq
        go_wp2_with fail
        exact ⟨⟨k + 1, by omega, by go_num, HR.out⟩, by simp [intOf]; omega⟩
    · have HR := Lib.hid (show (-1 : Int) = layI s.data.toList from by rw [← HF.out, show k = 9 by omega]; exact findK_end.symm)
      go_wp2_with fail
      go_ret3
      exact ⟨congrArg Ending.returned (l4V_no HR.out), by repeat (first | exact Below.refl _ _ | refine Below.alloc ?_ (by simp; try omega) _)⟩
set_option maxHeartbeats 800000 in
theorem specLayerNeeds_any (s : ByteArray) (w : World) :
    Calls Try.prog 80 #[.string s] w fun e w' => e = .returned (ndV (layI s.data.toList)) ∧ Below w.heap.size w w' := by
  have HR := Lib.hid (l4Row_any s)
  unfold l4V at HR
  unfold ndV
  generalize needI (layI s.data.toList) = n at *
  generalize giveI (layI s.data.toList) = g at *
  generalize decide (0 ≤ layI s.data.toList) = b at *
  go_enter Try.func80, Try.ntmps80
  go_wp2_with fail
  refine (HR.out w).mono ?_
  rintro e w1 ⟨rfl, hb⟩
  go_wp2_with fail
  go_ret2
  exact ⟨rfl, hb⟩
end Go.Proofs.Ytaihdjdaamglnaa
/- Contracts of chapter 4: FaceOf, both sides. -/
namespace Go.Proofs.Ytaihdjdaamglnaa
set_option linter.unusedVariables false
set_option linter.unusedSimpArgs false
open Go.RowKit
instance : Inhabited LayerD := ⟨⟨[], 0⟩⟩
/-- the face of a part with its first n layers alone -/
def faceN (x : PartD) : Nat → Int
  | 0 => kfI (kindI x.fCore.fKind)
  | n + 1 => giveI (layI (x.fLayers.getD n default).fName)
def faceP (x : PartD) : Int := faceN x x.fLayers.length
theorem kfV_is (i : Int) : kfV i = .tuple #[.int .i64 (kfI i), .bool (decide (0 ≤ i))] := rfl
theorem gvV_is (i : Int) : gvV i = .tuple #[.int .i64 (giveI i), .bool (decide (0 ≤ i))] := rfl
theorem l4V_is (i : Int) : l4V i = .tuple #[.int .i64 (needI i), .int .i64 (giveI i), .bool (decide (0 ≤ i))] := rfl
theorem part_box (w : World) (o : Obj) : Below w.heap.size w (w.alloc o) := (Below.refl _ _).alloc (Nat.le_refl _) o
set_option maxRecDepth 100000 in
set_option maxHeartbeats 1600000 in
theorem implFaceOf_any (v : Value) (x : PartD) (w : World) (hx : ValAt rPart 0 w v x) :
    Calls Try.prog 17 #[v] w fun e w' => e = .returned (.int .i64 (faceP x)) ∧ Below w.heap.size w w' := by
  obtain ⟨_, rfl, hx⟩ := hx
  obtain ⟨⟨a0, a1, a2, a3, a4⟩, ls⟩ := x
  obtain ⟨v3, v5, rfl, h3, h5⟩ := hx
  simp only at h3 h5
  obtain ⟨ra, rc, rfl, _⟩ := sliceAt_len h3
  obtain ⟨sa, sc, rfl, hl⟩ := sliceAt_len h5
  unfold maxLen at hl
  have HK := Lib.hid (implKind_any ⟨a0.toArray⟩)
  simp only [kfV_is, List.toList_toArray] at HK
  clear h3
  cases ls with
  | nil =>
    have HF := Lib.hid (show faceP ⟨⟨a0, a1, a2, a3, a4⟩, []⟩ = kfI (kindI a0) from rfl)
    rw [HF.out]
    generalize kfI (kindI a0) = f at *
    generalize decide (0 ≤ kindI a0) = b at *
    clear h5
    go_enter Try.func17, Try.ntmps17
    go_wp2_with (first | (go_at_call 54; (with_reducible refine (HK.out _).mono ?_); rintro e w' ⟨rfl, rfl⟩))
    go_ret
    exact ⟨rfl, part_box w _⟩
  | cons y r =>
    obtain ⟨b, o, cs, rfl, hbw, hat, hd⟩ := sliceAt_cell h5 r.length (by simp)
    have HY := Lib.hid (show faceP ⟨⟨a0, a1, a2, a3, a4⟩, y :: r⟩ = giveI (layI ((y :: r)[r.length]'(by simp)).fName) from by
      unfold faceP faceN
      rw [show (y :: r).length = r.length + 1 from rfl]
      simp only
      rw [List.getD_eq_getElem?_getD, List.getElem?_eq_getElem (by simp)]; rfl)
    rw [HY.out]
    have HG := Lib.hid (implLayerGives_any ⟨((y :: r)[r.length]'(by simp)).fName.toArray⟩)
    generalize (y :: r)[r.length]'(by simp) = z at *
    obtain ⟨z0, z1⟩ := z
    simp only [rFlat, cLayer] at hat
    subst hat
    simp only [gvV_is, List.toList_toArray] at HG
    have d0 := hd 0 (by decide)
    simp only [List.getElem?_cons_zero, Nat.add_zero] at d0
    have hn : (y :: r).length = r.length + 1 := rfl
    rw [hn] at *
    have hl2 : r.length + 1 ≤ 9223372036854775807 := hl
    generalize giveI (layI z0) = f at *
    generalize decide (0 ≤ layI z0) = g at *
    generalize r.length = n at *
    clear hd h5 hn HK
    go_enter Try.func17, Try.ntmps17
    go_wp2_with (first | (go_at_call 13; (with_reducible refine (HG.out _).mono ?_); rintro e w' ⟨rfl, rfl⟩))
    go_ret
    exact ⟨rfl, part_box w _⟩
set_option maxRecDepth 100000 in
set_option maxHeartbeats 1600000 in
theorem l4Face_any (v : Value) (x : PartD) (n : Nat) (w : World) (hx : ValAt rPart 0 w v x) (hn : n ≤ x.fLayers.length) :
    Calls Try.prog 82 #[v, .int .i64 n] w fun e w' => e = .returned (.int .i64 (faceN x n)) ∧ Below w.heap.size w w' := by
  obtain ⟨_, rfl, hx⟩ := hx
  obtain ⟨⟨a0, a1, a2, a3, a4⟩, ls⟩ := x
  obtain ⟨v3, v5, rfl, h3, h5⟩ := hx
  simp only at h3 h5 hn
  obtain ⟨ra, rc, rfl, _⟩ := sliceAt_len h3
  obtain ⟨sa, sc, rfl, hl⟩ := sliceAt_len h5
  unfold maxLen at hl
  have HK := Lib.hid (specKind_any ⟨a0.toArray⟩)
  simp only [kfV_is, List.toList_toArray] at HK
  clear h3
  cases n with
  | zero =>
    have HF := Lib.hid (show faceN ⟨⟨a0, a1, a2, a3, a4⟩, ls⟩ 0 = kfI (kindI a0) from rfl)
    rw [HF.out]
    generalize kfI (kindI a0) = f at *
    generalize decide (0 ≤ kindI a0) = b at *
    clear h5 hn
    go_enter Try.func82, Try.ntmps82
    go_wp2_with fail
    refine (HK.out _).mono ?_
    rintro e w1 ⟨rfl, hb⟩
    have HB := Lib.hid (belS (part_box w _) hb)
    clear hb
    go_wp2_with fail
    go_ret
    exact ⟨rfl, HB.out⟩
  | succ n =>
    have hn2 : n < ls.length := hn
    obtain ⟨b, o, cs, rfl, hbw, hat, hd⟩ := sliceAt_cell h5 n hn2
    have HY := Lib.hid (show faceN ⟨⟨a0, a1, a2, a3, a4⟩, ls⟩ (n + 1) = giveI (layI (ls[n]).fName) from by
      unfold faceN
      simp only
      rw [List.getD_eq_getElem?_getD, List.getElem?_eq_getElem hn2]; rfl)
    rw [HY.out]
    have HG := Lib.hid (l4Row_any ⟨(ls[n]).fName.toArray⟩)
    generalize ls[n] = z at *
    obtain ⟨z0, z1⟩ := z
    simp only [rFlat, cLayer] at hat
    subst hat
    simp only [l4V_is, List.toList_toArray] at HG
    have d0 := hd 0 (by decide)
    simp only [List.getElem?_cons_zero, Nat.add_zero] at d0
    have hl2 : ls.length ≤ 9223372036854775807 := hl
    have hn3 : (n : Int) < (ls.length : Int) := by omega
    generalize giveI (layI z0) = f at *
    generalize needI (layI z0) = f2 at *
    generalize decide (0 ≤ layI z0) = g at *
    clear hd h5 hn HK
    go_enter Try.func82, Try.ntmps82
    go_wp2_with fail
    refine (HG.out _).mono ?_
    rintro e w1 ⟨rfl, hb⟩
    have HB := Lib.hid (belS (part_box w _) hb)
    clear hb
    go_wp2_with fail
    go_ret
    exact ⟨rfl, HB.out⟩
set_option maxRecDepth 100000 in
set_option maxHeartbeats 1600000 in
theorem specFaceOf_any (v : Value) (x : PartD) (w : World) (hx : ValAt rPart 0 w v x) :
    Calls Try.prog 41 #[v] w fun e w' => e = .returned (.int .i64 (faceP x)) ∧ Below w.heap.size w w' := by
  obtain ⟨_, rfl, hx⟩ := hx
  have HX := Lib.hid (fun o => goodPart.keep hx (kept_below (part_box w o) (Nat.le_refl _)))
  have HF := Lib.hid (fun o => l4Face_any _ x x.fLayers.length (w.alloc o) ⟨_, rfl, HX.out o⟩ (Nat.le_refl _))
  have HP := Lib.hid (show faceP x = faceN x x.fLayers.length from rfl)
  rw [HP.out]
  obtain ⟨⟨a0, a1, a2, a3, a4⟩, ls⟩ := x
  obtain ⟨v3, v5, rfl, h3, h5⟩ := hx
  simp only at h3 h5 HF
  obtain ⟨ra, rc, rfl, _⟩ := sliceAt_len h3
  obtain ⟨sa, sc, rfl, hl⟩ := sliceAt_len h5
  unfold maxLen at hl
  clear h3 h5 HX
  generalize faceN ⟨⟨a0, a1, a2, a3, a4⟩, ls⟩ ls.length = f at *
  go_enter Try.func41, Try.ntmps41
  go_wp2_with fail
  refine (HF.out _).mono ?_
  rintro e w1 ⟨rfl, hb⟩
  have HB := Lib.hid (belS (part_box w _) hb)
  clear hb
  go_wp2_with fail
  go_ret
  exact ⟨rfl, HB.out⟩
end Go.Proofs.Ytaihdjdaamglnaa
/- Contracts of chapter 3: the model's IsCore. -/
namespace Go.Proofs.Ytaihdjdaamglnaa
set_option linter.unusedVariables false
open Go.RowKit
theorem l2Has_0 (f : Int) (x : Bool) (h : hasI f 0 = x) (hf : isF f = true) (w : World) :
    Calls Try.prog 116 #[.int .i64 f, .int .i64 0] w fun e w' => e = .returned (.bool x) ∧ w = w' := l2Has_b f 0 x h hf (by decide) w
theorem l2Has_1 (f : Int) (x : Bool) (h : hasI f 1 = x) (hf : isF f = true) (w : World) :
    Calls Try.prog 116 #[.int .i64 f, .int .i64 1] w fun e w' => e = .returned (.bool x) ∧ w = w' := l2Has_b f 1 x h hf (by decide) w
set_option maxRecDepth 100000 in
set_option maxHeartbeats 6400000 in
theorem specIsCore_any (v : Value) (d : CoreD) (w : World) (hx : CoreAt w v d) (hs : ∀ c ∈ d.fCells, c.fKey.length ≤ maxLen) :
    Calls Try.prog 139 #[v] w fun e w' => e = .returned (.bool (coreB d)) ∧ Below w.heap.size w w' := by
  obtain ⟨cv, rfl, hx⟩ := hx
  have HKD := Lib.hid (specKind_b d.fKind)
  have HH0 := Lib.hid (l2Has_0 (kfI (kindI d.fKind)) _ rfl (kfI_face _))
  have HH1 := Lib.hid (l2Has_1 (kfI (kindI d.fKind)) _ rfl (kfI_face _))
  have HR := Lib.hid (show coreB d = (decide (0 ≤ kindI d.fKind) && cellsB d.fCells && (decide (d.fCells.length = 0) || hasI (kfI (kindI d.fKind)) 1) && (!(d.fOn || d.fBroken) || hasI (kfI (kindI d.fKind)) 0) && numB d.fCount && !(d.fOn && d.fBroken)) from rfl)
  generalize coreB d = res at *
  obtain ⟨kd, on, br, l, cnt⟩ := d
  unfold vCore
  simp only at *
  obtain ⟨a, c, rfl, hl⟩ := flatAt_len hx
  unfold maxLen at hl
  have HB0 := Lib.hid (show ∀ o, Below w.heap.size w (w.alloc o) from fun o => (Below.refl w.heap.size w).alloc (Nat.le_refl _) o)
  have HIC := Lib.hid (fun w0 hb => specIsCells_any _ l w0 (hx.below hb (Nat.le_refl _)) hs)
  clear hx hs
  have HK := Lib.hid (HKD.out _ rfl)
  generalize hasI (kfI (kindI kd)) 1 = h1 at *
  generalize hasI (kfI (kindI kd)) 0 = h0 at *
  generalize kfI (kindI kd) = f at *
  generalize decide (0 ≤ kindI kd) = kk at *
  generalize cellsB l = cb at *
  have HN0 := Lib.hid (show cnt < 0 → numB cnt = false from fun h => by simp [numB]; omega)
  have HN1 := Lib.hid (show 999 < cnt → numB cnt = false from fun h => by simp [numB]; omega)
  have HN2 := Lib.hid (show 0 ≤ cnt → cnt ≤ 999 → numB cnt = true from fun h h2 => by simp [numB]; omega)
  generalize numB cnt = nb at *
  clear HKD
  go_enter Try.func139, Try.ntmps139
  go_wp2_with fail
  refine (HK.out _).mono ?_
  rintro e w1 ⟨rfl, hb⟩
  have HB1 := Lib.hid ((HB0.out _).trans (hb.mono (HB0.out _).size))
  obtain ⟨hcc, _⟩ := bcell hb
  simp at hcc
  have hc0 := hcc w.heap.size 0 (by omega)
  have hc1 := hcc w.heap.size 1 (by omega)
  have hc2 := hcc w.heap.size 2 (by omega)
  have hc3 := hcc w.heap.size 3 (by omega)
  have hc4 := hcc w.heap.size 4 (by omega)
  simp at hc0 hc1 hc2 hc3 hc4
  have HLT := Lib.hid (show w.heap.size < w1.heap.size from by have := hb.size; simp at this; omega)
  clear hb hcc
  cases kk with
  | false =>
    go_wp2_with (first | (go_at_call 116; (with_reducible refine (HH0.out _).mono ?_); rintro e w' ⟨rfl, rfl⟩))
    go_ret
    exact ⟨ret_bool (by rw [HR.out]; rfl), HB1.out⟩
  | true =>
    go_wp2_with (first | (go_at_call 116; (with_reducible refine (HH0.out _).mono ?_); rintro e w' ⟨rfl, rfl⟩))
    refine (HIC.out _ HB1.out).mono ?_
    rintro e w2 ⟨rfl, hb⟩
    have HB := Lib.hid (HB1.out.trans (hb.mono HB1.out.size))
    have c0 := (hb.cell (p := ⟨w.heap.size, 0, none⟩) HLT.out).trans hc0
    have c1 := (hb.cell (p := ⟨w.heap.size, 1, none⟩) HLT.out).trans hc1
    have c2 := (hb.cell (p := ⟨w.heap.size, 2, none⟩) HLT.out).trans hc2
    have c3 := (hb.cell (p := ⟨w.heap.size, 3, none⟩) HLT.out).trans hc3
    have c4 := (hb.cell (p := ⟨w.heap.size, 4, none⟩) HLT.out).trans hc4
    clear hb hc0 hc1 hc2 hc3 hc4
    cases cb with
    | false =>
      go_wp2_with fail
      go_ret
      exact ⟨ret_bool (by rw [HR.out]; rfl), HB.out⟩
    | true =>
      by_cases hn : 0 < l.length
      · have hg : decide ((0 : Int) < (l.length : Int)) = true := decide_eq_true (by omega)
        rw [show decide (l.length = 0) = false from decide_eq_false (by omega)] at HR
        cases h1 with
        | false =>
          go_wp2_with (first | (go_at_call 116; (with_reducible refine (HH1.out _).mono ?_); rintro e w' ⟨rfl, rfl⟩))
          go_ret
          exact ⟨ret_bool (by rw [HR.out]; rfl), HB.out⟩
        | true =>
          by_cases hv : cnt < 0
          · rw [HN0.out hv] at HR
            go_wp2_with (first | (go_at_call 116; (with_reducible refine (HH1.out _).mono ?_); rintro e w' ⟨rfl, rfl⟩))
            go_ret
            exact ⟨ret_bool (by rw [HR.out]; cases on <;> cases br <;> cases h0 <;> rfl), HB.out⟩
          · by_cases hv2 : 999 < cnt
            · rw [HN1.out hv2] at HR
              go_wp2_with (first | (go_at_call 116; (with_reducible refine (HH1.out _).mono ?_); rintro e w' ⟨rfl, rfl⟩))
              go_ret
              exact ⟨ret_bool (by rw [HR.out]; cases on <;> cases br <;> cases h0 <;> rfl), HB.out⟩
            · rw [HN2.out (by omega) (by omega)] at HR
              cases on <;> cases br <;> cases h0
              all_goals
                go_wp2_with (first | (go_at_call 116; (with_reducible refine (HH1.out _).mono ?_); rintro e w' ⟨rfl, rfl⟩))
                go_ret
                exact ⟨ret_bool (by rw [HR.out]; rfl), HB.out⟩
      · have hg : decide ((0 : Int) < (l.length : Int)) = false := decide_eq_false (by omega)
        rw [show decide (l.length = 0) = true from decide_eq_true (by omega)] at HR
        have hg2 : (l.length : Int) ≤ 0 := by omega
        clear hn
        by_cases hv : cnt < 0
        · rw [HN0.out hv] at HR
          go_wp2_with fail
          go_ret
          exact ⟨ret_bool (by rw [HR.out]; cases on <;> cases br <;> cases h0 <;> rfl), HB.out⟩
        · by_cases hv2 : 999 < cnt
          · rw [HN1.out hv2] at HR
            go_wp2_with fail
            go_ret
            exact ⟨ret_bool (by rw [HR.out]; cases on <;> cases br <;> cases h0 <;> rfl), HB.out⟩
          · rw [HN2.out (by omega) (by omega)] at HR
            cases on <;> cases br <;> cases h0
            all_goals
              go_wp2_with fail
              go_ret
              exact ⟨ret_bool (by rw [HR.out]; rfl), HB.out⟩
end Go.Proofs.Ytaihdjdaamglnaa
/- Contracts of chapter 4: IsPart, both sides. -/
namespace Go.Proofs.Ytaihdjdaamglnaa
set_option linter.unusedVariables false
set_option linter.unusedSimpArgs false
open Go.RowKit
def countedB (n : List UInt8) : Bool := n == [99, 111, 117, 110, 116, 115] || n == [104, 101, 97, 114, 115]
def cntB (y : LayerD) : Bool := if countedB y.fName = true then numB y.fCount else y.fCount == 0
def layOk (x : PartD) (i : Nat) : Bool := decide (0 ≤ layI (x.fLayers.getD i default).fName) && offersF (faceN x i) (needI (layI (x.fLayers.getD i default).fName)) && cntB (x.fLayers.getD i default)
def layTo (x : PartD) (k : Nat) : Bool := (List.range k).all (layOk x)
def partB (x : PartD) : Bool := coreB x.fCore && decide (x.fLayers.length ≤ 3) && layTo x x.fLayers.length
theorem layTo_succ (x : PartD) (k : Nat) : layTo x (k + 1) = (layTo x k && layOk x k) := by simp [layTo, List.range_succ, List.all_append]
theorem partB_bad {x : PartD} {k : Nat} (hk : k < x.fLayers.length) (h : layOk x k = false) : partB x = false := by
  have : layTo x x.fLayers.length = false := by
    unfold layTo
    rw [List.all_eq_false]
    exact ⟨k, List.mem_range.2 hk, by simp [h]⟩
  simp [partB, this]
theorem layOk_of (x : PartD) (i : Nat) (h : i < x.fLayers.length) (y : LayerD) (hy : x.fLayers[i] = y) : layOk x i = (decide (0 ≤ layI y.fName) && offersF (faceN x i) (needI (layI y.fName)) && cntB y) := by
  unfold layOk
  rw [List.getD_eq_getElem?_getD, List.getElem?_eq_getElem h, Option.getD_some, hy]
theorem faceN_take (c : CoreD) (l : List LayerD) (i : Nat) (h : i ≤ l.length) : faceP ⟨c, l.take i⟩ = faceN ⟨c, l⟩ i := by
  unfold faceP
  rw [show (⟨c, l.take i⟩ : PartD).fLayers.length = i by simp; omega]
  cases i with
  | zero => rfl
  | succ i =>
    unfold faceN
    simp only [List.getD_eq_getElem?_getD]
    rw [List.getElem?_take_of_lt (by omega)]
set_option maxRecDepth 100000 in
set_option maxHeartbeats 1600000 in
theorem insideOf_c (k : ByteArray) (on br : Bool) (ca sa : Option Addr) (cn cc sn sc : Nat) (ct : Int) (i : Nat) (w : World) (hi : i ≤ sc) (hs : i ≤ maxLen) :
    Calls Try.prog 48 #[.agg #[.string k, .bool on, .bool br, .slice ca cn cc, .int .i64 ct, .slice sa sn sc], .int .i64 i] w fun e w' => e = .returned (.agg #[.string k, .bool on, .bool br, .slice ca cn cc, .int .i64 ct, .slice sa i sc]) ∧ Below w.heap.size w w' := by
  unfold maxLen at hs
  go_enter Try.func48, Try.ntmps48
  go_wp2_with fail
  go_region
  all_goals (try go_wp2_with fail)
  all_goals
    refine bodyPost_ret (v := .agg #[.string k, .bool on, .bool br, .slice ca cn cc, .int .i64 ct, .slice sa i sc]) (by simp [results, Try.results48, go_sem]) rfl ⟨rfl, ?_⟩
    repeat (first | with_reducible exact Below.refl _ _ | with_reducible refine Below.alloc ?_ (by simp; try omega) _ | with_reducible refine Below.drew ?_ | with_reducible refine belD ?_)
set_option maxHeartbeats 1600000 in
theorem isLayerCount_c (n : List UInt8) (c : Int) (w : World) :
    Calls Try.prog 49 #[.agg #[.string ⟨n.toArray⟩, .int .i64 c]] w fun e w' => e = .returned (.bool (cntB ⟨n, c⟩)) ∧ Below w.heap.size w w' := by
  have HN := Lib.hid (isNumber_any c)
  by_cases h0 : n = [99, 111, 117, 110, 116, 115]
  · subst h0
    have HR := Lib.hid (show cntB ⟨[99, 111, 117, 110, 116, 115], c⟩ = numB c from rfl)
    generalize numB c = b at *
    go_enter Try.func49, Try.ntmps49
    go_wp2_with (first | (go_at_call 92; (with_reducible refine (HN.out _).mono ?_); rintro e w' ⟨rfl, rfl⟩))
    go_ret
    exact ⟨ret_bool HR.out.symm, part_box w _⟩
  · by_cases h1 : n = [104, 101, 97, 114, 115]
    · subst h1
      have HR := Lib.hid (show cntB ⟨[104, 101, 97, 114, 115], c⟩ = numB c from rfl)
      generalize numB c = b at *
      clear h0
      go_enter Try.func49, Try.ntmps49
      go_wp2_with (first | (go_at_call 92; (with_reducible refine (HN.out _).mono ?_); rintro e w' ⟨rfl, rfl⟩))
      go_ret
      exact ⟨ret_bool HR.out.symm, part_box w _⟩
    · have HR := Lib.hid (show cntB ⟨n, c⟩ = (c == 0) by unfold cntB countedB; simp [h0, h1])
      have g0 : (n == [99, 111, 117, 110, 116, 115]) = false := by simp [h0]
      have g1 : (n == [104, 101, 97, 114, 115]) = false := by simp [h1]
      clear h0 h1
      go_enter Try.func49, Try.ntmps49
      go_wp2_with (first | (go_at_call 92; (with_reducible refine (HN.out _).mono ?_); rintro e w' ⟨rfl, rfl⟩))
      go_ret
      exact ⟨ret_bool HR.out.symm, part_box w _⟩
end Go.Proofs.Ytaihdjdaamglnaa
/- Contracts of chapter 4: IsPart, the program's. -/
namespace Go.Proofs.Ytaihdjdaamglnaa
set_option linter.unusedVariables false
set_option linter.unusedSimpArgs false
open Go.RowKit
set_option maxRecDepth 100000 in
set_option maxHeartbeats 3200000 in
theorem implIsPart_any (v : Value) (x : PartD) (w : World) (hx : ValAt rPart 0 w v x) (hs : ∀ c ∈ x.fCore.fCells, c.fKey.length ≤ maxLen) :
    Calls Try.prog 14 #[v] w fun e w' => e = .returned (.bool (partB x)) ∧ Below w.heap.size w w' := by
  obtain ⟨_, rfl, hx⟩ := hx
  have HX := Lib.hid hx
  have HBAD := Lib.hid (fun k => partB_bad (x := x) (k := k))
  have HOK := Lib.hid (fun i h y hy => layOk_of x i h y hy)
  have HSU := Lib.hid (layTo_succ x)
  have HFN := Lib.hid (faceN_take x.fCore x.fLayers)
  have HP := Lib.hid (show partB x = (coreB x.fCore && decide (x.fLayers.length ≤ 3) && layTo x x.fLayers.length) from rfl)
  obtain ⟨xc, ls⟩ := x
  obtain ⟨v3, v5, rfl, h3, h5⟩ := hx
  have HC := Lib.hid (fun W (hb : Below w.heap.size w W) => implIsCore_any (vCore xc v3) xc W ⟨v3, rfl, FlatAt.below (flatAt_of_slice cCell_len (by decide) h3) hb (Nat.le_refl _)⟩ hs)
  obtain ⟨a0, a1, a2, a3, a4⟩ := xc
  unfold vCore at HC
  simp only at h3 h5 HX HC HP HFN HBAD HOK
  obtain ⟨ra, rc, rfl, _⟩ := sliceAt_len h3
  obtain ⟨sa, sc, rfl, hl, hcap⟩ := sliceAt_cap h5
  have H5 := Lib.hid h5
  have H3 := Lib.hid h3
  unfold maxLen at hl
  have HB0 := Lib.hid (show ∀ o, Below w.heap.size w (w.alloc o) from fun o => part_box w o)
  have HS0 := Lib.hid (Bx.new w [.string ⟨a0.toArray⟩, .bool a1, .bool a2, .slice ra a3.length rc, .int .i64 a4, .slice sa ls.length sc] 29)
  clear h3 h5
  have HPB := Lib.hid (show partB ⟨⟨a0, a1, a2, a3, a4⟩, ls⟩ = partB ⟨⟨a0, a1, a2, a3, a4⟩, ls⟩ from rfl)
  generalize partB ⟨⟨a0, a1, a2, a3, a4⟩, ls⟩ = pb at *
  have HCB := Lib.hid (show coreB ⟨a0, a1, a2, a3, a4⟩ = coreB ⟨a0, a1, a2, a3, a4⟩ from rfl)
  generalize coreB ⟨a0, a1, a2, a3, a4⟩ = cb at *
  clear HPB HCB HX
  cases cb with
  | false =>
    have HR := Lib.hid (show pb = false by rw [HP.out]; rfl)
    go_enter Try.func14, Try.ntmps14
    go_wp2_with fail
    refine (HC.out _ (HB0.out _)).mono ?_
    rintro e w1 ⟨rfl, hb⟩
    have HB := Lib.hid (belS (HB0.out _) hb)
    clear hb
    go_wp2_with fail
    go_ret
    exact ⟨ret_bool HR.out.symm, HB.out⟩
  | true =>
    by_cases h3 : 3 < ls.length
    · have HR := Lib.hid (show pb = false by rw [HP.out, show decide (ls.length ≤ 3) = false by simpa using h3]; rfl)
      go_enter Try.func14, Try.ntmps14
      go_wp2_with fail
      refine (HC.out _ (HB0.out _)).mono ?_
      rintro e w1 ⟨rfl, hb⟩
      have HB := Lib.hid (belS (HB0.out _) hb)
      have BX := Lib.hid (HS0.out.below hb)
      clear hb
      have e0 := BX.out.cell 0 (by simp)
      have e1 := BX.out.cell 1 (by simp)
      have e2 := BX.out.cell 2 (by simp)
      have e3 := BX.out.cell 3 (by simp)
      have e4 := BX.out.cell 4 (by simp)
      have e5 := BX.out.cell 5 (by simp)
      simp only [List.getElem_cons_zero, List.getElem_cons_succ] at e0 e1 e2 e3 e4 e5
      go_wp2_with fail
      go_ret
      exact ⟨ret_bool HR.out.symm, HB.out⟩
    · have HR := Lib.hid (show pb = layTo ⟨⟨a0, a1, a2, a3, a4⟩, ls⟩ ls.length by rw [HP.out, show decide (ls.length ≤ 3) = true by simpa using h3]; simp)
      go_enter Try.func14, Try.ntmps14
      go_wp2_with fail
      refine (HC.out _ (HB0.out _)).mono ?_
      rintro e w1 ⟨rfl, hb⟩
      have HB := Lib.hid (belS (HB0.out _) hb)
      have BX := Lib.hid (HS0.out.below hb)
      clear hb
      have e0 := BX.out.cell 0 (by simp)
      have e1 := BX.out.cell 1 (by simp)
      have e2 := BX.out.cell 2 (by simp)
      have e3 := BX.out.cell 3 (by simp)
      have e4 := BX.out.cell 4 (by simp)
      have e5 := BX.out.cell 5 (by simp)
      simp only [List.getElem_cons_zero, List.getElem_cons_succ] at e0 e1 e2 e3 e4 e5
      go_wp2_with fail
      clear e0 e1 e2 e3 e4 e5
      go_loopw [3, 4, 20] (fun _ _ i wr => ∃ k : Nat, k ≤ ls.length ∧ i = .int .i64 k ∧ layTo ⟨⟨a0, a1, a2, a3, a4⟩, ls⟩ k = true ∧ Below w.heap.size w wr ∧ Bx wr w.heap.size [.string ⟨a0.toArray⟩, .bool a1, .bool a2, .slice ra a3.length rc, .int .i64 a4, .slice sa ls.length sc]) (fun _ _ i _ => ls.length - (intOf i).toNat)
      case atStart => exact ⟨0, Nat.zero_le _, rfl, rfl, HB.out, BX.out⟩
      case round =>
        obtain ⟨k, hk, rfl, ht, hbr, hbx⟩ := hrel
        have HT := Lib.hid ht
        have HBr := Lib.hid hbr
        have BXr := Lib.hid hbx
        have HXr := Lib.hid (SliceAt.below H5.out (good_flat cLayer_len) hbr (Nat.le_refl _))
        clear ht hbr hbx
        by_cases hlt : k < ls.length
        · obtain ⟨b, o, cs, rfl, hbw, hat, hd⟩ := sliceAt_cell HXr.out k hlt
          have HLO := Lib.hid (HOK.out k hlt _ rfl)
          have HBD := Lib.hid (fun h => HBAD.out k hlt h)
          have HNX := Lib.hid (show layOk ⟨⟨a0, a1, a2, a3, a4⟩, ls⟩ k = true → layTo ⟨⟨a0, a1, a2, a3, a4⟩, ls⟩ (k + 1) = true from fun h => by rw [HSU.out, HT.out, h]; rfl)
          have HTK := Lib.hid (HFN.out k (Nat.le_of_lt hlt))
          have HFO := Lib.hid (fun W hW => implFaceOf_any (.agg #[.string ⟨a0.toArray⟩, .bool a1, .bool a2, .slice ra a3.length rc, .int .i64 a4, .slice (some ⟨b, o, none⟩) k sc]) ⟨⟨a0, a1, a2, a3, a4⟩, ls.take k⟩ W ⟨_, rfl, _, _, rfl, SliceAt.below H3.out (good_flat cCell_len) hW (Nat.le_refl _), sliceAt_take (SliceAt.below H5.out (good_flat cLayer_len) hW (Nat.le_refl _)) k (Nat.le_of_lt hlt) (by omega)⟩)
          rw [HTK.out] at HFO
          generalize ls[k] = z at *
          obtain ⟨z0, z1⟩ := z
          simp only [rFlat, cLayer] at hat HLO
          subst hat
          have d0 := hd 0 (by decide)
          have d1 := hd 1 (by decide)
          simp only [List.getElem?_cons_zero, List.getElem?_cons_succ, Nat.add_zero] at d0 d1
          have HLN := Lib.hid (implLayerNeeds_any ⟨z0.toArray⟩)
          simp only [ndV, List.toList_toArray] at HLN
          have HIO := Lib.hid (fun W => insideOf_c ⟨a0.toArray⟩ a1 a2 ra (some ⟨b, o, none⟩) a3.length rc ls.length sc a4 k W (by omega) (by unfold maxLen; omega))
          have HOF := Lib.hid (implOffers_any (faceN ⟨⟨a0, a1, a2, a3, a4⟩, ls⟩ k) (needI (layI z0)))
          have HIL := Lib.hid (isLayerCount_c z0 z1)
          have hkc : (k : Int) < (ls.length : Int) := by omega
          generalize layOk ⟨⟨a0, a1, a2, a3, a4⟩, ls⟩ k = lo at *
          generalize faceN ⟨⟨a0, a1, a2, a3, a4⟩, ls⟩ k = fc at *
          generalize needI (layI z0) = nd at *
          generalize offersF fc nd = ob at *
          generalize cntB ⟨z0, z1⟩ = cn at *
          generalize hge : decide (0 ≤ layI z0) = q at *
          clear hd hge HXr HTK
          have HW0 := Lib.hid (part_box wr (.cells #[.string ⟨z0.toArray⟩, .int .i64 z1] 81))
          have BL := Lib.hid (Bx.new wr [.string ⟨z0.toArray⟩, .int .i64 z1] 81)
          have BX1 := Lib.hid (BXr.out.alloc (.cells #[.string ⟨z0.toArray⟩, .int .i64 z1] 81))
          have HB1 := Lib.hid (belS HBr.out HW0.out)
          have e0 := BX1.out.cell 0 (by simp)
          have e1 := BX1.out.cell 1 (by simp)
          have e2 := BX1.out.cell 2 (by simp)
          have e3 := BX1.out.cell 3 (by simp)
          have e4 := BX1.out.cell 4 (by simp)
          have e5 := BX1.out.cell 5 (by simp)
          simp only [List.getElem_cons_zero, List.getElem_cons_succ] at e0 e1 e2 e3 e4 e5
          cases q with
          | false =>
            have HR2 := Lib.hid (show pb = false from HBD.out (by rw [HLO.out]; rfl))
            go_wp2_with (first | (go_at_call 12; (with_reducible refine (HLN.out _).mono ?_); rintro e w' ⟨rfl, rfl⟩))
            go_ret
            exact ⟨ret_bool HR2.out.symm, HB1.out⟩
          | true =>
            go_wp2_with (first | (go_at_call 12; (with_reducible refine (HLN.out _).mono ?_); rintro e w' ⟨rfl, rfl⟩))
            refine (HIO.out _).mono ?_
            rintro e w2 ⟨rfl, hb⟩
            have HB2 := Lib.hid (belS HB1.out hb)
            have BL2 := Lib.hid (BL.out.below hb)
            have BX2 := Lib.hid (BX1.out.below hb)
            clear hb
            clear e0 e1 e2 e3 e4 e5
            go_wp2_with fail
            refine (HFO.out _ HB2.out).mono ?_
            rintro e w3 ⟨rfl, hb⟩
            have HB3 := Lib.hid (belS HB2.out hb)
            have BL3 := Lib.hid (BL2.out.below hb)
            have BX3 := Lib.hid (BX2.out.below hb)
            clear hb
            have g0 := BL3.out.cell 0 (by simp)
            have g1 := BL3.out.cell 1 (by simp)
            simp only [List.getElem_cons_zero, List.getElem_cons_succ] at g0 g1
            cases ob with
            | false =>
              have HR2 := Lib.hid (show pb = false from HBD.out (by rw [HLO.out]; rfl))
              go_wp2_with (first | (go_at_call 16; (with_reducible refine (HOF.out _).mono ?_); rintro e w' ⟨rfl, rfl⟩))
              go_ret
              exact ⟨ret_bool HR2.out.symm, HB3.out⟩
            | true =>
              go_wp2_with (first | (go_at_call 16; (with_reducible refine (HOF.out _).mono ?_); rintro e w' ⟨rfl, rfl⟩))
              refine (HIL.out _).mono ?_
              rintro e w4 ⟨rfl, hb⟩
              have HB4 := Lib.hid (belS HB3.out hb)
              have BX4 := Lib.hid (BX3.out.below hb)
              clear hb g0 g1
              cases cn with
              | false =>
                have HR2 := Lib.hid (show pb = false from HBD.out (by rw [HLO.out]; rfl))
                go_wp2_with fail
                go_ret
                exact ⟨ret_bool HR2.out.symm, HB4.out⟩
              | true =>
                have HR2 := Lib.hid (HNX.out (by rw [HLO.out]; rfl))
                go_wp2_with fail
                exact ⟨⟨k + 1, by omega, by go_num, HR2.out, HB4.out, BX4.out⟩, by simp [intOf]; omega⟩
        · have HR2 := Lib.hid (show pb = true by rw [HR.out]; have h := HT.out; rwa [show k = ls.length by omega] at h)
          go_wp2
          go_ret
          exact ⟨ret_bool HR2.out.symm, HBr.out⟩
end Go.Proofs.Ytaihdjdaamglnaa
/- Parts whose rows are one's own. -/
namespace Go.Proofs.Ytaihdjdaamglnaa
set_option linter.unusedVariables false
set_option linter.unusedSimpArgs false
open Go.RowKit
theorem Bx.grown {w w' : World} {b : Nat} {cs : List Value} {r : Option Nat} (h : Bx w b cs) (hg : w.grownBy w' r) (hr : r ≠ some b) : Bx w' b cs :=
  ⟨Nat.lt_of_lt_of_le h.lt hg.size, fun j hj => (World.cell?_of_block (hg.block b h.lt (fun e => hr e.symm))).trans (h.cell j hj), fun j hj => (World.frozen?_of_block (hg.block b h.lt (fun e => hr e.symm))).trans (h.froz j hj)⟩
theorem Bx.belowK {w w' : World} {b B : Nat} {cs : List Value} (h : Bx w b cs) (hb : Below B w w') (hB : b < B) : Bx w' b cs :=
  ⟨Nat.lt_of_lt_of_le h.lt hb.size, fun j hj => (World.cell?_of_block (hb.block b hB)).trans (h.cell j hj), fun j hj => (World.frozen?_of_block (hb.block b hB)).trans (h.froz j hj)⟩
/-- six cells stored, one behind the other -/
theorem Bx.put6 {w : World} {b : Nat} {c0 c1 c2 c3 c4 c5 : Value} (h : Bx w b [c0, c1, c2, c3, c4, c5]) (u0 u1 u2 u3 u4 u5 : Value) :
    Bx ((((((w.setCell ⟨b, 0, none⟩ u0).setCell ⟨b, 1, none⟩ u1).setCell ⟨b, 2, none⟩ u2).setCell ⟨b, 3, none⟩ u3).setCell ⟨b, 4, none⟩ u4).setCell ⟨b, 5, none⟩ u5) b [u0, u1, u2, u3, u4, u5] :=
  ((((((h.set 0 (by simp) u0).set 1 (by simp) u1).set 2 (by simp) u2).set 3 (by simp) u3).set 4 (by simp) u4).set 5 (by simp) u5)
theorem below_put6 {B : Nat} {a w : World} (h : Below B a w) (b : Nat) (hb : B ≤ b) (u0 u1 u2 u3 u4 u5 : Value) :
    Below B a ((((((w.setCell ⟨b, 0, none⟩ u0).setCell ⟨b, 1, none⟩ u1).setCell ⟨b, 2, none⟩ u2).setCell ⟨b, 3, none⟩ u3).setCell ⟨b, 4, none⟩ u4).setCell ⟨b, 5, none⟩ u5) :=
  ((((((h.setCell (p := ⟨b, 0, none⟩) hb u0).setCell (p := ⟨b, 1, none⟩) hb u1).setCell (p := ⟨b, 2, none⟩) hb u2).setCell (p := ⟨b, 3, none⟩) hb u3).setCell (p := ⟨b, 4, none⟩) hb u4).setCell (p := ⟨b, 5, none⟩) hb u5)
theorem ownsF_put6 {α : Type} {f : α → List Value} {E k : Nat} {w : World} {B : Nat} {v : Value} {l : List α} (h : OwnsF f E k w B v l) (b : Nat) (hb : b < B) (u0 u1 u2 u3 u4 u5 : Value) :
    OwnsF f E k ((((((w.setCell ⟨b, 0, none⟩ u0).setCell ⟨b, 1, none⟩ u1).setCell ⟨b, 2, none⟩ u2).setCell ⟨b, 3, none⟩ u3).setCell ⟨b, 4, none⟩ u4).setCell ⟨b, 5, none⟩ u5) B v l :=
  ownsF_set (ownsF_set (ownsF_set (ownsF_set (ownsF_set (ownsF_set h hb) hb) hb) hb) hb) hb
theorem Bx.dr {w : World} {b : Nat} {cs : List Value} (h : Bx w b cs) : Bx w.drew b cs := ⟨h.lt, h.cell, h.froz⟩
/-- a part in cells, whose rows are one's own and lie in blocks from B on -/
def oPart (w : World) (B : Nat) (cs : List Value) (x : PartD) : Prop := ∃ v3 v5, cs = [.string ⟨x.fCore.fKind.toArray⟩, .bool x.fCore.fOn, .bool x.fCore.fBroken, v3, .int .i64 x.fCore.fCount, v5] ∧ OwnsF cCell 134 2 w B v3 x.fCore.fCells ∧ OwnsF cLayer 81 2 w B v5 x.fLayers
/-- sizes that no copy outgrows -/
structure SmallP (x : PartD) : Prop where
  z : zPart x ≤ 1048576
  kind : x.fCore.fKind.length ≤ 1048576
  cells : x.fCore.fCells.length ≤ 2097152
  keys : ∀ c ∈ x.fCore.fCells, c.fKey.length ≤ 1048576
  lays : x.fLayers.length ≤ 2097152
  names : ∀ y ∈ x.fLayers, y.fName.length ≤ 1048576
theorem smallP_of {x : PartD} (h : zPart x ≤ 1048576) : SmallP x := by
  unfold zPart zCore at h
  refine ⟨by unfold zPart zCore; exact h, by omega, by omega, fun c hc => ?_, by omega, fun y hy => ?_⟩
  · have := sumF_mem zCell x.fCore.fCells c hc
    have h2 : c.fKey.length ≤ zCell c := by unfold zCell; omega
    omega
  · have := sumF_mem zLayer x.fLayers y hy
    have h2 : y.fName.length ≤ zLayer y := by unfold zLayer; omega
    omega
def GivesOP (x : PartD) (w : World) (e : Ending) (w' : World) : Prop := ∃ cs, e = .returned (.agg cs.toArray) ∧ oPart w' w.heap.size cs x ∧ Below w.heap.size w w'
theorem oPart_r {w : World} {B : Nat} {cs : List Value} {x : PartD} (h : oPart w B cs x) (hs : SmallP x) : rPart B w cs x := by
  obtain ⟨v3, v5, rfl, h3, h5⟩ := h
  exact ⟨v3, v5, rfl, sliceAt_of_owns cCell_len h3 (Nat.le_trans hs.cells (by decide)), sliceAt_of_owns cLayer_len h5 (Nat.le_trans hs.lays (by decide))⟩
theorem oPart_below {w w' : World} {B B' : Nat} {cs : List Value} {x : PartD} (h : oPart w B cs x) (hb : Below B' w w') (hB : w.heap.size ≤ B') : oPart w' B cs x := by
  obtain ⟨v3, v5, rfl, h3, h5⟩ := h
  exact ⟨v3, v5, rfl, ownsF_below h3 hb hB, ownsF_below h5 hb hB⟩
theorem oPart_base {w : World} {B B' : Nat} {cs : List Value} {x : PartD} (h : oPart w B cs x) (hB : B' ≤ B) : oPart w B' cs x := by
  obtain ⟨v3, v5, rfl, h3, h5⟩ := h
  exact ⟨v3, v5, rfl, ownsF_base h3 hB, ownsF_base h5 hB⟩
theorem oPart_set {w : World} {B : Nat} {cs : List Value} {x : PartD} {p : Addr} {u : Value} (h : oPart w B cs x) (hp : p.block < B) : oPart (w.setCell p u) B cs x := by
  obtain ⟨v3, v5, rfl, h3, h5⟩ := h
  exact ⟨v3, v5, rfl, ownsF_set h3 hp, ownsF_set h5 hp⟩
theorem oPart_drew {w : World} {B : Nat} {cs : List Value} {x : PartD} (h : oPart w B cs x) : oPart w.drew B cs x := h
theorem infoLay : (Try.prog.info? 81).map (fun i => (i.zero, i.size, i.bytes)) = some (some (.agg #[.string ⟨#[]⟩, .int .i64 0]), 2, 24) := by kernel_rfl
/-- append of one layer to a row of one's own, at a step of a region that draws -/
theorem step_lays {ops : Array Oper} {o : Oper} {a : Act} {K : Act → World → Prop} {Q : Exit → Act → World → Prop} {E : Prop} (hgd : o.guard = none) (s x : Operand)
    (ho : o.op = .call { callee := .builtin .append, args := #[s, x], argTypes := #[27, 27] }) (B : Nat) (v : Value) (l : List LayerD) (y : LayerD) (w : World) (blk : Nat)
    (hs : a.eval s = v) (hO : OwnsF cLayer 81 2 w B v l) (hx : a.eval x = .slice (some ⟨blk, 0, none⟩) 1 1) (hc : ∀ j, j < 2 → w.cell? ⟨blk, j, none⟩ = (cLayer y)[j]?) (hl : l.length ≤ 4194304) (hB : B ≤ w.heap.size)
    (h : ∀ v' w', OwnsF cLayer 81 2 w' B v' (l ++ [y]) → w.grownBy w' v.ownBlock → K (a.put o.dst v') w') : if Region.wanted o (yielded ops a.tmps) = true then Oper.wp Try.prog o a w K Q else E := by
  obtain ⟨i0, hi, hz0, hz1, hz2⟩ := info_parts infoLay
  refine step_append_lies w hgd s x 27 ho B 81 i0 _ 2 24 Try.underlying27 hi hz0 hz1 hz2 rfl (by decide) v l.length (l.flatMap cLayer) hs hO ⟨blk, 0, none⟩ 1 1 (cLayer y) hx rfl ?_ (cLayer_one y) (by decide) (by unfold maxLen; omega) (by omega) hB _ rfl ?_
  · intro j u hj
    have hj2 : j < 2 := (List.getElem?_eq_some_iff.1 hj).1
    rw [Addr.add_lit, Nat.zero_add, hc j hj2]; exact hj
  · intro g cap w' h1 h2 _ _
    refine h _ w' ?_ h2
    unfold OwnsF; rw [List.flatMap_append, List.length_append]; simpa using h1
theorem cell_newL (w : World) (y : LayerD) (blk : Nat) (h : blk = w.heap.size) : ∀ j, j < 2 → (w.alloc (.cells #[.string ⟨y.fName.toArray⟩, .int .i64 y.fCount] 81)).cell? ⟨blk, j, none⟩ = (cLayer y)[j]? := by
  intro j hj
  subst h
  rw [cell_of_row _ _ _ _ 81 (0, 0) (heap_alloc_new w _)]
  rcases (show j = 0 ∨ j = 1 by omega) with rfl | rfl <;> rfl
end Go.Proofs.Ytaihdjdaamglnaa
/- copyPart: a part copied, its rows new. -/
namespace Go.Proofs.Ytaihdjdaamglnaa
set_option linter.unusedVariables false
set_option linter.unusedSimpArgs false
open Go.RowKit
set_option maxRecDepth 100000 in
set_option maxHeartbeats 3200000 in
theorem copyPart_c (v : Value) (x : PartD) (w : World) (hx : ValAt rPart 0 w v x) (hs : SmallP x) :
    Calls Try.prog 43 #[v] w fun e w' => GivesOP x w e w' := by
  obtain ⟨_, rfl, hx⟩ := hx
  obtain ⟨i0, hi, hz0, hz1, hz2⟩ := info_parts infoLay
  obtain ⟨xc, l⟩ := x
  obtain ⟨v3, v5, rfl, h3, h5⟩ := hx
  have HCC := Lib.hid (fun W (hb : Below w.heap.size w W) => copyCore_c (vCore xc v3) xc W ⟨v3, rfl, FlatAt.below (flatAt_of_slice cCell_len (by decide) h3) hb (Nat.le_refl _)⟩ hs.cells hs.keys hs.kind)
  unfold GivesCore OwnsCore at HCC
  have HS := Lib.hid hs.names
  have hm := hs.lays
  simp only at h3 h5 HS hm
  obtain ⟨ra, rc, rfl, _⟩ := sliceAt_len h3
  obtain ⟨sa, sc, rfl, hl⟩ := sliceAt_len h5
  have H5 := Lib.hid h5
  obtain ⟨kd, on, br, cl, cnt⟩ := xc
  unfold vCore at HCC
  simp only at HCC h3 ⊢
  clear h3 h5 hs
  unfold maxLen at hl
  have hb2 : i0.bytes * l.length ≤ 281474976710656 := by rw [hz2]; omega
  have HB2 := Lib.hid hb2
  have HM := Lib.hid (show l.length ≤ maxLen from by unfold maxLen; omega)
  clear hb2
  have BS := Lib.hid (bx_start2 w [.string ⟨kd.toArray⟩, .bool on, .bool br, .slice ra cl.length rc, .int .i64 cnt, .slice sa l.length sc] [.string ⟨#[]⟩, .bool false, .bool false, .slice none 0 0, .int .i64 0, .slice none 0 0] 29 29)
  go_enter Try.func43, Try.ntmps43
  go_wp2_with (refine wpList_make_own _ rfl _ _ 27 rfl (w.heap.size + 1 + 1) 81 i0 _ 2 Try.underlying27 hi hz0 hz1 .i64 .i64 _ l.length rfl rfl rfl HB2.out HM.out (by simp) ?_; intro w1 hown1 hgrow1; have BP := Lib.hid (BS.out.1.grown hgrow1 (by simp)); have BR := Lib.hid (BS.out.2.1.grown hgrow1 (by simp)); have e5 := BP.out.cell 5 (by simp); simp only [List.getElem_cons_zero, List.getElem_cons_succ] at e5)
  have HO0 := Lib.hid (show OwnsF cLayer 81 2 w1 (w.heap.size + 1 + 1) (.slice (some ⟨w.heap.size + 1 + 1, 0, none⟩) 0 l.length) (l.take 0) from by simpa [OwnsF] using hown1)
  have HW1 := Lib.hid (show Below w.heap.size w w1 from BS.out.2.2.trans ⟨hgrow1.os, hgrow1.tape, hgrow1.output, hgrow1.size, fun i hi => hgrow1.block i (by simp; omega) (by simp)⟩)
  have HS1 := Lib.hid (show w.heap.size + 1 + 1 ≤ w1.heap.size from by simpa using hgrow1.size)
  clear hown1 hgrow1 hz0 hz1 hz2 HB2 hi e5
  go_loopw [3, 5, 13] (fun u _ i wr => ∃ k : Nat, k ≤ l.length ∧ i = .int .i64 k ∧ OwnsF cLayer 81 2 wr (w.heap.size + 1 + 1) u (l.take k) ∧ Below (w.heap.size + 1 + 1) w1 wr) (fun _ _ i _ => l.length - (intOf i).toNat)
  case atStart => exact ⟨0, Nat.zero_le _, rfl, HO0.out, Below.refl _ _⟩
  case round =>
    obtain ⟨k, hk2, rfl, hO, hb⟩ := hrel
    have HO := Lib.hid hO
    have HB := Lib.hid hb
    have HBw := Lib.hid (show Below w.heap.size w wr from HW1.out.trans (hb.mono (by omega)))
    have HXr := Lib.hid (SliceAt.below H5.out (good_flat cLayer_len) HBw.out (Nat.le_refl _))
    have HLT := Lib.hid (show ∀ g, u3.ownBlock = some g → g < wr.heap.size from fun g h => (World.ownsRow.lt hO g h).2)
    have HSZ := Lib.hid (Nat.le_trans HS1.out hb.size)
    clear hO hb
    by_cases hlt : k < l.length
    · obtain ⟨b, o, cs, rfl, hbl, hat, hd⟩ := sliceAt_cell HXr.out k hlt
      have HSN := Lib.hid (show l.take (k + 1) = l.take k ++ [l[k]] from by rw [List.take_succ_eq_append_getElem hlt])
      have hks := HS.out l[k] (List.getElem_mem hlt)
      generalize l[k] = p at *
      obtain ⟨a0, a1⟩ := p
      simp only [rFlat, cLayer] at hat
      subst hat
      have d0 := hd 0 (by decide)
      have d1 := hd 1 (by decide)
      simp only [List.getElem?_cons_zero, List.getElem?_cons_succ, Nat.add_zero] at d0 d1 hks
      have HCT := Lib.hid (fun W => copyText_any ⟨a0.toArray⟩ W (by rw [← size_list]; simp; omega))
      clear hks hd
      go_wp2_with fail
      go_region_held3 (fun w' => w'.cell? ⟨wr.heap.size, 0, none⟩ = some (.string ⟨a0.toArray⟩) ∧ w'.cell? ⟨wr.heap.size, 1, none⟩ = some (.int .i64 a1))
        (first
          | go_keep
          | (rw [hb1.cell (p := ⟨wr.heap.size, 0, none⟩) (by simp), hb1.cell (p := ⟨wr.heap.size, 1, none⟩) (by simp)]; assumption)
          | (rw [hg1.cell_far ⟨wr.heap.size, 0, none⟩ (by have := hb1.size; simp at *; omega) (by intro e; have := HLT.out _ e.symm; simp at this), hg1.cell_far ⟨wr.heap.size, 1, none⟩ (by have := hb1.size; simp at *; omega) (by intro e; have := HLT.out _ e.symm; simp at this)]; assumption))
        (first
          | (go_at_call 44; (with_reducible refine (HCT.out _).mono ?_); rintro e w2 ⟨rfl, hb1⟩)
          | (refine step_lays rfl _ _ rfl (w.heap.size + 1 + 1) u3 (l.take k) ⟨a0, a1⟩ _ w2.heap.size rfl (ownsF_alloc (ownsF_below (ownsF_drew (ownsF_alloc HO.out _)) hb1 (Nat.le_refl _)) _) rfl (cell_newL w2 ⟨a0, a1⟩ _ rfl) ?_ ?_ ?_; (simp; omega); (have h1 := hb1.size; have h2 := HSZ.out; simp at h1; simp; omega); intro v' w4 hO4 hg1))
      have HA := Lib.hid (((Below.refl wr.heap.size wr).alloc (Nat.le_refl _) (.cells #[.string ⟨a0.toArray⟩, .int .i64 a1] 81)).drew)
      have HA1 := Lib.hid ((HA.out.trans (hb1.mono HA.out.size)).alloc (HA.out.trans (hb1.mono HA.out.size)).size (.cells #[.string ⟨a0.toArray⟩, .int .i64 a1] 81))
      have HA2 := Lib.hid (HB.out.trans (HA1.out.mono (HSZ.out)))
      have HA3 := Lib.hid (below_appendF HA2.out (ownsF_alloc (ownsF_below (ownsF_drew (ownsF_alloc HO.out _)) hb1 (Nat.le_refl _)) _) hg1 (Nat.le_trans HS1.out HA2.out.size))
      have HO4 := Lib.hid hO4
      rename_i hheld
      clear hb1 hg1 hO4 hheld
      go_wp2_with fail
      exact ⟨⟨k + 1, by omega, by go_num, by rw [HSN.out]; exact HO4.out, HA3.out⟩, by simp [intOf]; omega⟩
    · have HOl := Lib.hid (show OwnsF cLayer 81 2 wr (w.heap.size + 1 + 1) u3 l from by have h := HO.out; rw [List.take_of_length_le (by omega)] at h; exact h)
      obtain ⟨ua, uc, rfl⟩ := slice_of HOl.out
      have hsz := HSZ.out
      have BP2 := Lib.hid (BP.out.belowK HB.out (by omega))
      have BR2 := Lib.hid (BR.out.belowK HB.out (by omega))
      have q0 := BP2.out.cell 0 (by simp)
      have q1 := BP2.out.cell 1 (by simp)
      have q2 := BP2.out.cell 2 (by simp)
      have q3 := BP2.out.cell 3 (by simp)
      have q4 := BP2.out.cell 4 (by simp)
      have q5 := BP2.out.cell 5 (by simp)
      simp only [List.getElem_cons_zero, List.getElem_cons_succ] at q0 q1 q2 q3 q4 q5
      go_wp2_with fail
      refine (HCC.out _ HBw.out).mono ?_
      rintro e w5 ⟨_, rfl, ⟨cv, rfl, ho5⟩, hb5⟩
      obtain ⟨ga, gc, rfl⟩ := slice_of ho5
      have HB5 := Lib.hid hb5
      have HO5 := Lib.hid ho5
      have BR3 := Lib.hid (BR2.out.below hb5)
      clear hb5 ho5 q0 q1 q2 q3 q4 q5
      have r0 := BR3.out.cell 0 (by simp)
      have r1 := BR3.out.cell 1 (by simp)
      have r2 := BR3.out.cell 2 (by simp)
      have r3 := BR3.out.cell 3 (by simp)
      have r4 := BR3.out.cell 4 (by simp)
      have r5 := BR3.out.cell 5 (by simp)
      simp only [List.getElem_cons_zero, List.getElem_cons_succ] at r0 r1 r2 r3 r4 r5
      have z0 := BR3.out.froz 0 (by simp)
      have z1 := BR3.out.froz 1 (by simp)
      have z2 := BR3.out.froz 2 (by simp)
      have z3 := BR3.out.froz 3 (by simp)
      have z4 := BR3.out.froz 4 (by simp)
      have z5 := BR3.out.froz 5 (by simp)
      go_wp2_with fail
      clear r0 r1 r2 r3 r4 r5 z0 z1 z2 z3 z4 z5
      have BR4 := Lib.hid (BR3.out.put6 (.string ⟨kd.toArray⟩) (.bool on) (.bool br) (.slice ga cl.length gc) (.int .i64 cnt) (.slice ua l.length uc))
      have HB6 := Lib.hid (below_put6 (HBw.out.trans (HB5.out.mono HBw.out.size)) (w.heap.size + 1) (by omega) (.string ⟨kd.toArray⟩) (.bool on) (.bool br) (.slice ga cl.length gc) (.int .i64 cnt) (.slice ua l.length uc))
      have OC := Lib.hid (ownsF_put6 HO5.out (w.heap.size + 1) (by omega) (.string ⟨kd.toArray⟩) (.bool on) (.bool br) (.slice ga cl.length gc) (.int .i64 cnt) (.slice ua l.length uc))
      have OL := Lib.hid (ownsF_put6 (ownsF_below HOl.out HB5.out (Nat.le_refl _)) (w.heap.size + 1) (by omega) (.string ⟨kd.toArray⟩) (.bool on) (.bool br) (.slice ga cl.length gc) (.int .i64 cnt) (.slice ua l.length uc))
      generalize ((((((w5.setCell ⟨w.heap.size + 1, 0, none⟩ (.string ⟨kd.toArray⟩)).setCell ⟨w.heap.size + 1, 1, none⟩ (.bool on)).setCell ⟨w.heap.size + 1, 2, none⟩ (.bool br)).setCell ⟨w.heap.size + 1, 3, none⟩ (.slice ga cl.length gc)).setCell ⟨w.heap.size + 1, 4, none⟩ (.int .i64 cnt)).setCell ⟨w.heap.size + 1, 5, none⟩ (.slice ua l.length uc)) = WE at *
      have r0 := BR4.out.cell 0 (by simp)
      have r1 := BR4.out.cell 1 (by simp)
      have r2 := BR4.out.cell 2 (by simp)
      have r3 := BR4.out.cell 3 (by simp)
      have r4 := BR4.out.cell 4 (by simp)
      have r5 := BR4.out.cell 5 (by simp)
      simp only [List.getElem_cons_zero, List.getElem_cons_succ] at r0 r1 r2 r3 r4 r5
      exact bodyPost_ret (v := .agg #[.string ⟨kd.toArray⟩, .bool on, .bool br, .slice ga cl.length gc, .int .i64 cnt, .slice ua l.length uc]) (by simp [results, Try.results43, go_sem, r0, r1, r2, r3, r4, r5]) rfl ⟨_, rfl, ⟨_, _, rfl, ownsF_base OC.out (by omega), ownsF_base OL.out (by omega)⟩, HB6.out⟩
end Go.Proofs.Ytaihdjdaamglnaa
/- What partOf hands out, by kind. -/
namespace Go.Proofs.Ytaihdjdaamglnaa
set_option linter.unusedVariables false
set_option linter.unusedSimpArgs false
open Go.RowKit
def ptrs (b n : Nat) : Value := .agg (Array.replicate n (.pointer (some ⟨b, 0, none⟩)))
def partV (b : Nat) : Nat → Value
  | 0 => .iface 195 (.agg #[.pointer (some ⟨b, 0, none⟩)])
  | 1 => .iface 176 (.agg #[.pointer (some ⟨b, 0, none⟩), .pointer (some ⟨b, 0, none⟩)])
  | 2 => .iface 179 (.agg #[.pointer (some ⟨b, 0, none⟩), .pointer (some ⟨b, 0, none⟩)])
  | 3 => .iface 182 (.agg #[.pointer (some ⟨b, 0, none⟩), .pointer (some ⟨b, 0, none⟩), .pointer (some ⟨b, 0, none⟩)])
  | 4 => .iface 184 (.agg #[.pointer (some ⟨b, 0, none⟩), .pointer (some ⟨b, 0, none⟩), .pointer (some ⟨b, 0, none⟩)])
  | 5 => .iface 187 (.agg #[.pointer (some ⟨b, 0, none⟩), .pointer (some ⟨b, 0, none⟩), .pointer (some ⟨b, 0, none⟩)])
  | 6 => .iface 190 (.agg #[.pointer (some ⟨b, 0, none⟩), .pointer (some ⟨b, 0, none⟩), .pointer (some ⟨b, 0, none⟩), .pointer (some ⟨b, 0, none⟩)])
  | _ => .iface 193 (.agg #[.pointer (some ⟨b, 0, none⟩), .pointer (some ⟨b, 0, none⟩), .pointer (some ⟨b, 0, none⟩), .pointer (some ⟨b, 0, none⟩), .pointer (some ⟨b, 0, none⟩), .pointer (some ⟨b, 0, none⟩), .pointer (some ⟨b, 0, none⟩)])
set_option maxRecDepth 100000 in
set_option maxHeartbeats 1600000 in
theorem partOf_k (j : Nat) (hj : j < 8) (b : Nat) (w : World) (h : w.cell? ⟨b, 0, none⟩ = some (.string ⟨(kindN j).toArray⟩)) :
    Calls Try.prog 89 #[.pointer (some ⟨b, 0, none⟩)] w fun e w' => e = .returned (partV b j) ∧ Below w.heap.size w w' := by
  have hl0 := World.block_lt_of_cell? w _ h
  simp only at hl0
  have hn0 : ¬ b = w.heap.size := by omega
  rcases (show j = 0 ∨ j = 1 ∨ j = 2 ∨ j = 3 ∨ j = 4 ∨ j = 5 ∨ j = 6 ∨ j = 7 by omega) with rfl | rfl | rfl | rfl | rfl | rfl | rfl | rfl
  all_goals
    simp only [kindN] at h
    unfold partV
    go_enter Try.func89, Try.ntmps89
    go_wp2_with fail
    go_ret
    exact ⟨rfl, (Below.refl _ _).alloc (Nat.le_refl _) _⟩
end Go.Proofs.Ytaihdjdaamglnaa
/- A part as a value of an interface type: its face, and which assertions it meets. Written by gen/ch4if.py. -/
namespace Go.Proofs.Ytaihdjdaamglnaa
set_option linter.unusedVariables false
set_option linter.unusedSimpArgs false
open Go.RowKit

theorem bel_dr {B : Nat} {a w : World} (h : Below B a w) : Below B a w.drew := ⟨h.os, h.tape, h.output, h.size, h.block⟩
theorem off_bits : ∀ a : Fin 64, offersF ((a : Nat) : Int) 0 = true ∧ offersF ((a : Nat) : Int) 1 = hasI ((a : Nat) : Int) 0 ∧ offersF ((a : Nat) : Int) 2 = hasI ((a : Nat) : Int) 1 ∧ offersF ((a : Nat) : Int) 4 = hasI ((a : Nat) : Int) 2 ∧ offersF ((a : Nat) : Int) 3 = (hasI ((a : Nat) : Int) 0 && hasI ((a : Nat) : Int) 1) := by decide +kernel
/-- the type T meets an assertion to I, or it does not -/
def Meets (I T : TypeId) (b : Bool) : Prop := match b with | true => Has I T | false => Fails I T
structure Ass (T : TypeId) (f : Int) : Prop where
  face : isF f = true
  run : Meets 151 T (offersF f 1)
  keep : Meets 155 T (offersF f 2)
  tell : Meets 167 T (offersF f 4)
  both : Meets 160 T (offersF f 3)
theorem as_run_k0 : Meets 151 195 (offersF 0 1) := (show offersF 0 1 = false by decide +kernel) ▸ (show Fails 151 195 from fails_of Try.underlying151 (by kernel_rfl))
theorem as_keep_k0 : Meets 155 195 (offersF 0 2) := (show offersF 0 2 = false by decide +kernel) ▸ (show Fails 155 195 from fails_of Try.underlying155 (by kernel_rfl))
theorem as_tell_k0 : Meets 167 195 (offersF 0 4) := (show offersF 0 4 = false by decide +kernel) ▸ (show Fails 167 195 from fails_of Try.underlying167 (by kernel_rfl))
theorem as_both_k0 : Meets 160 195 (offersF 0 3) := (show offersF 0 3 = false by decide +kernel) ▸ (show Fails 160 195 from fails_of Try.underlying160 (by kernel_rfl))
theorem ass_k0 : Ass 195 0 := ⟨by decide, as_run_k0, as_keep_k0, as_tell_k0, as_both_k0⟩
theorem fk_0 (b : Nat) : ∀ (fuel : Nat) (w : World), (method (fuel + 1) 195 (.agg #[.pointer (some ⟨b, 0, none⟩)]) "loop.example/g03016/impl.face").run Try.prog w = .ok (171, .agg #[.pointer (some ⟨b, 0, none⟩)]) w := by intro fuel w; kernel_rfl
theorem fn_0 (b : Nat) : ∀ (fuel : Nat) (w : World), (nilAhead (fuel + 1) 195 (.agg #[.pointer (some ⟨b, 0, none⟩)]) "loop.example/g03016/impl.face").run Try.prog w = .ok (some false) w := by intro fuel w; kernel_rfl
theorem as_run_k1 : Meets 151 176 (offersF 1 1) := (show offersF 1 1 = true by decide +kernel) ▸ (show Has 151 176 from ta_has Try.underlying151 (by kernel_rfl))
theorem as_keep_k1 : Meets 155 176 (offersF 1 2) := (show offersF 1 2 = false by decide +kernel) ▸ (show Fails 155 176 from fails_of Try.underlying155 (by kernel_rfl))
theorem as_tell_k1 : Meets 167 176 (offersF 1 4) := (show offersF 1 4 = false by decide +kernel) ▸ (show Fails 167 176 from fails_of Try.underlying167 (by kernel_rfl))
theorem as_both_k1 : Meets 160 176 (offersF 1 3) := (show offersF 1 3 = false by decide +kernel) ▸ (show Fails 160 176 from fails_of Try.underlying160 (by kernel_rfl))
theorem ass_k1 : Ass 176 1 := ⟨by decide, as_run_k1, as_keep_k1, as_tell_k1, as_both_k1⟩
theorem fk_1 (b : Nat) : ∀ (fuel : Nat) (w : World), (method (fuel + 1) 176 (.agg #[.pointer (some ⟨b, 0, none⟩), .pointer (some ⟨b, 0, none⟩)]) "loop.example/g03016/impl.face").run Try.prog w = .ok (171, .agg #[.pointer (some ⟨b, 0, none⟩)]) w := by intro fuel w; kernel_rfl
theorem fn_1 (b : Nat) : ∀ (fuel : Nat) (w : World), (nilAhead (fuel + 1) 176 (.agg #[.pointer (some ⟨b, 0, none⟩), .pointer (some ⟨b, 0, none⟩)]) "loop.example/g03016/impl.face").run Try.prog w = .ok (some false) w := by intro fuel w; kernel_rfl
theorem as_run_k2 : Meets 151 179 (offersF 2 1) := (show offersF 2 1 = false by decide +kernel) ▸ (show Fails 151 179 from fails_of Try.underlying151 (by kernel_rfl))
theorem as_keep_k2 : Meets 155 179 (offersF 2 2) := (show offersF 2 2 = true by decide +kernel) ▸ (show Has 155 179 from ta_has Try.underlying155 (by kernel_rfl))
theorem as_tell_k2 : Meets 167 179 (offersF 2 4) := (show offersF 2 4 = false by decide +kernel) ▸ (show Fails 167 179 from fails_of Try.underlying167 (by kernel_rfl))
theorem as_both_k2 : Meets 160 179 (offersF 2 3) := (show offersF 2 3 = false by decide +kernel) ▸ (show Fails 160 179 from fails_of Try.underlying160 (by kernel_rfl))
theorem ass_k2 : Ass 179 2 := ⟨by decide, as_run_k2, as_keep_k2, as_tell_k2, as_both_k2⟩
theorem fk_2 (b : Nat) : ∀ (fuel : Nat) (w : World), (method (fuel + 1) 179 (.agg #[.pointer (some ⟨b, 0, none⟩), .pointer (some ⟨b, 0, none⟩)]) "loop.example/g03016/impl.face").run Try.prog w = .ok (171, .agg #[.pointer (some ⟨b, 0, none⟩)]) w := by intro fuel w; kernel_rfl
theorem fn_2 (b : Nat) : ∀ (fuel : Nat) (w : World), (nilAhead (fuel + 1) 179 (.agg #[.pointer (some ⟨b, 0, none⟩), .pointer (some ⟨b, 0, none⟩)]) "loop.example/g03016/impl.face").run Try.prog w = .ok (some false) w := by intro fuel w; kernel_rfl
theorem as_run_k3 : Meets 151 182 (offersF 5 1) := (show offersF 5 1 = true by decide +kernel) ▸ (show Has 151 182 from ta_has Try.underlying151 (by kernel_rfl))
theorem as_keep_k3 : Meets 155 182 (offersF 5 2) := (show offersF 5 2 = false by decide +kernel) ▸ (show Fails 155 182 from fails_of Try.underlying155 (by kernel_rfl))
theorem as_tell_k3 : Meets 167 182 (offersF 5 4) := (show offersF 5 4 = true by decide +kernel) ▸ (show Has 167 182 from ta_has Try.underlying167 (by kernel_rfl))
theorem as_both_k3 : Meets 160 182 (offersF 5 3) := (show offersF 5 3 = false by decide +kernel) ▸ (show Fails 160 182 from fails_of Try.underlying160 (by kernel_rfl))
theorem ass_k3 : Ass 182 5 := ⟨by decide, as_run_k3, as_keep_k3, as_tell_k3, as_both_k3⟩
theorem fk_3 (b : Nat) : ∀ (fuel : Nat) (w : World), (method (fuel + 1) 182 (.agg #[.pointer (some ⟨b, 0, none⟩), .pointer (some ⟨b, 0, none⟩), .pointer (some ⟨b, 0, none⟩)]) "loop.example/g03016/impl.face").run Try.prog w = .ok (171, .agg #[.pointer (some ⟨b, 0, none⟩)]) w := by intro fuel w; kernel_rfl
theorem fn_3 (b : Nat) : ∀ (fuel : Nat) (w : World), (nilAhead (fuel + 1) 182 (.agg #[.pointer (some ⟨b, 0, none⟩), .pointer (some ⟨b, 0, none⟩), .pointer (some ⟨b, 0, none⟩)]) "loop.example/g03016/impl.face").run Try.prog w = .ok (some false) w := by intro fuel w; kernel_rfl
theorem as_run_k4 : Meets 151 184 (offersF 3 1) := (show offersF 3 1 = true by decide +kernel) ▸ (show Has 151 184 from ta_has Try.underlying151 (by kernel_rfl))
theorem as_keep_k4 : Meets 155 184 (offersF 3 2) := (show offersF 3 2 = true by decide +kernel) ▸ (show Has 155 184 from ta_has Try.underlying155 (by kernel_rfl))
theorem as_tell_k4 : Meets 167 184 (offersF 3 4) := (show offersF 3 4 = false by decide +kernel) ▸ (show Fails 167 184 from fails_of Try.underlying167 (by kernel_rfl))
theorem as_both_k4 : Meets 160 184 (offersF 3 3) := (show offersF 3 3 = true by decide +kernel) ▸ (show Has 160 184 from ta_has Try.underlying160 (by kernel_rfl))
theorem ass_k4 : Ass 184 3 := ⟨by decide, as_run_k4, as_keep_k4, as_tell_k4, as_both_k4⟩
theorem fk_4 (b : Nat) : ∀ (fuel : Nat) (w : World), (method (fuel + 1) 184 (.agg #[.pointer (some ⟨b, 0, none⟩), .pointer (some ⟨b, 0, none⟩), .pointer (some ⟨b, 0, none⟩)]) "loop.example/g03016/impl.face").run Try.prog w = .ok (171, .agg #[.pointer (some ⟨b, 0, none⟩)]) w := by intro fuel w; kernel_rfl
theorem fn_4 (b : Nat) : ∀ (fuel : Nat) (w : World), (nilAhead (fuel + 1) 184 (.agg #[.pointer (some ⟨b, 0, none⟩), .pointer (some ⟨b, 0, none⟩), .pointer (some ⟨b, 0, none⟩)]) "loop.example/g03016/impl.face").run Try.prog w = .ok (some false) w := by intro fuel w; kernel_rfl
theorem as_run_k5 : Meets 151 187 (offersF 9 1) := (show offersF 9 1 = true by decide +kernel) ▸ (show Has 151 187 from ta_has Try.underlying151 (by kernel_rfl))
theorem as_keep_k5 : Meets 155 187 (offersF 9 2) := (show offersF 9 2 = false by decide +kernel) ▸ (show Fails 155 187 from fails_of Try.underlying155 (by kernel_rfl))
theorem as_tell_k5 : Meets 167 187 (offersF 9 4) := (show offersF 9 4 = false by decide +kernel) ▸ (show Fails 167 187 from fails_of Try.underlying167 (by kernel_rfl))
theorem as_both_k5 : Meets 160 187 (offersF 9 3) := (show offersF 9 3 = false by decide +kernel) ▸ (show Fails 160 187 from fails_of Try.underlying160 (by kernel_rfl))
theorem ass_k5 : Ass 187 9 := ⟨by decide, as_run_k5, as_keep_k5, as_tell_k5, as_both_k5⟩
theorem fk_5 (b : Nat) : ∀ (fuel : Nat) (w : World), (method (fuel + 1) 187 (.agg #[.pointer (some ⟨b, 0, none⟩), .pointer (some ⟨b, 0, none⟩), .pointer (some ⟨b, 0, none⟩)]) "loop.example/g03016/impl.face").run Try.prog w = .ok (171, .agg #[.pointer (some ⟨b, 0, none⟩)]) w := by intro fuel w; kernel_rfl
theorem fn_5 (b : Nat) : ∀ (fuel : Nat) (w : World), (nilAhead (fuel + 1) 187 (.agg #[.pointer (some ⟨b, 0, none⟩), .pointer (some ⟨b, 0, none⟩), .pointer (some ⟨b, 0, none⟩)]) "loop.example/g03016/impl.face").run Try.prog w = .ok (some false) w := by intro fuel w; kernel_rfl
theorem as_run_k6 : Meets 151 190 (offersF 19 1) := (show offersF 19 1 = true by decide +kernel) ▸ (show Has 151 190 from ta_has Try.underlying151 (by kernel_rfl))
theorem as_keep_k6 : Meets 155 190 (offersF 19 2) := (show offersF 19 2 = true by decide +kernel) ▸ (show Has 155 190 from ta_has Try.underlying155 (by kernel_rfl))
theorem as_tell_k6 : Meets 167 190 (offersF 19 4) := (show offersF 19 4 = false by decide +kernel) ▸ (show Fails 167 190 from fails_of Try.underlying167 (by kernel_rfl))
theorem as_both_k6 : Meets 160 190 (offersF 19 3) := (show offersF 19 3 = true by decide +kernel) ▸ (show Has 160 190 from ta_has Try.underlying160 (by kernel_rfl))
theorem ass_k6 : Ass 190 19 := ⟨by decide, as_run_k6, as_keep_k6, as_tell_k6, as_both_k6⟩
theorem fk_6 (b : Nat) : ∀ (fuel : Nat) (w : World), (method (fuel + 1) 190 (.agg #[.pointer (some ⟨b, 0, none⟩), .pointer (some ⟨b, 0, none⟩), .pointer (some ⟨b, 0, none⟩), .pointer (some ⟨b, 0, none⟩)]) "loop.example/g03016/impl.face").run Try.prog w = .ok (171, .agg #[.pointer (some ⟨b, 0, none⟩)]) w := by intro fuel w; kernel_rfl
theorem fn_6 (b : Nat) : ∀ (fuel : Nat) (w : World), (nilAhead (fuel + 1) 190 (.agg #[.pointer (some ⟨b, 0, none⟩), .pointer (some ⟨b, 0, none⟩), .pointer (some ⟨b, 0, none⟩), .pointer (some ⟨b, 0, none⟩)]) "loop.example/g03016/impl.face").run Try.prog w = .ok (some false) w := by intro fuel w; kernel_rfl
theorem as_run_k7 : Meets 151 193 (offersF 63 1) := (show offersF 63 1 = true by decide +kernel) ▸ (show Has 151 193 from ta_has Try.underlying151 (by kernel_rfl))
theorem as_keep_k7 : Meets 155 193 (offersF 63 2) := (show offersF 63 2 = true by decide +kernel) ▸ (show Has 155 193 from ta_has Try.underlying155 (by kernel_rfl))
theorem as_tell_k7 : Meets 167 193 (offersF 63 4) := (show offersF 63 4 = true by decide +kernel) ▸ (show Has 167 193 from ta_has Try.underlying167 (by kernel_rfl))
theorem as_both_k7 : Meets 160 193 (offersF 63 3) := (show offersF 63 3 = true by decide +kernel) ▸ (show Has 160 193 from ta_has Try.underlying160 (by kernel_rfl))
theorem ass_k7 : Ass 193 63 := ⟨by decide, as_run_k7, as_keep_k7, as_tell_k7, as_both_k7⟩
theorem fk_7 (b : Nat) : ∀ (fuel : Nat) (w : World), (method (fuel + 1) 193 (.agg #[.pointer (some ⟨b, 0, none⟩), .pointer (some ⟨b, 0, none⟩), .pointer (some ⟨b, 0, none⟩), .pointer (some ⟨b, 0, none⟩), .pointer (some ⟨b, 0, none⟩), .pointer (some ⟨b, 0, none⟩), .pointer (some ⟨b, 0, none⟩)]) "loop.example/g03016/impl.face").run Try.prog w = .ok (171, .agg #[.pointer (some ⟨b, 0, none⟩)]) w := by intro fuel w; kernel_rfl
theorem fn_7 (b : Nat) : ∀ (fuel : Nat) (w : World), (nilAhead (fuel + 1) 193 (.agg #[.pointer (some ⟨b, 0, none⟩), .pointer (some ⟨b, 0, none⟩), .pointer (some ⟨b, 0, none⟩), .pointer (some ⟨b, 0, none⟩), .pointer (some ⟨b, 0, none⟩), .pointer (some ⟨b, 0, none⟩), .pointer (some ⟨b, 0, none⟩)]) "loop.example/g03016/impl.face").run Try.prog w = .ok (some false) w := by intro fuel w; kernel_rfl
theorem as_run_l0 : Meets 151 171 (offersF 0 1) := (show offersF 0 1 = false by decide +kernel) ▸ (show Fails 151 171 from fails_of Try.underlying151 (by kernel_rfl))
theorem as_keep_l0 : Meets 155 171 (offersF 0 2) := (show offersF 0 2 = false by decide +kernel) ▸ (show Fails 155 171 from fails_of Try.underlying155 (by kernel_rfl))
theorem as_tell_l0 : Meets 167 171 (offersF 0 4) := (show offersF 0 4 = false by decide +kernel) ▸ (show Fails 167 171 from fails_of Try.underlying167 (by kernel_rfl))
theorem as_both_l0 : Meets 160 171 (offersF 0 3) := (show offersF 0 3 = false by decide +kernel) ▸ (show Fails 160 171 from fails_of Try.underlying160 (by kernel_rfl))
theorem ass_l0 : Ass 171 0 := ⟨by decide, as_run_l0, as_keep_l0, as_tell_l0, as_both_l0⟩
theorem fl_0 (b o : Nat) : ∀ (fuel : Nat) (w : World), (method (fuel + 1) 171 (.agg #[.pointer (some ⟨b, o, none⟩)]) "loop.example/g03016/impl.face").run Try.prog w = .ok (163, .agg #[.pointer (some ⟨b, o, none⟩)]) w := by intro fuel w; kernel_rfl
theorem fm_0 (b o : Nat) : ∀ (fuel : Nat) (w : World), (nilAhead (fuel + 1) 171 (.agg #[.pointer (some ⟨b, o, none⟩)]) "loop.example/g03016/impl.face").run Try.prog w = .ok (some false) w := by intro fuel w; kernel_rfl
theorem as_run_l1 : Meets 151 153 (offersF 1 1) := (show offersF 1 1 = true by decide +kernel) ▸ (show Has 151 153 from ta_has Try.underlying151 (by kernel_rfl))
theorem as_keep_l1 : Meets 155 153 (offersF 1 2) := (show offersF 1 2 = false by decide +kernel) ▸ (show Fails 155 153 from fails_of Try.underlying155 (by kernel_rfl))
theorem as_tell_l1 : Meets 167 153 (offersF 1 4) := (show offersF 1 4 = false by decide +kernel) ▸ (show Fails 167 153 from fails_of Try.underlying167 (by kernel_rfl))
theorem as_both_l1 : Meets 160 153 (offersF 1 3) := (show offersF 1 3 = false by decide +kernel) ▸ (show Fails 160 153 from fails_of Try.underlying160 (by kernel_rfl))
theorem ass_l1 : Ass 153 1 := ⟨by decide, as_run_l1, as_keep_l1, as_tell_l1, as_both_l1⟩
theorem fl_1 (b o : Nat) (T : TypeId) (V : Value) : ∀ (fuel : Nat) (w : World), (method (fuel + 1) 153 (.agg #[.pointer (some ⟨b, o, none⟩), .iface T V]) "loop.example/g03016/impl.face").run Try.prog w = .ok (163, .agg #[.pointer (some ⟨b, o, none⟩)]) w := by intro fuel w; kernel_rfl
theorem fm_1 (b o : Nat) (T : TypeId) (V : Value) : ∀ (fuel : Nat) (w : World), (nilAhead (fuel + 1) 153 (.agg #[.pointer (some ⟨b, o, none⟩), .iface T V]) "loop.example/g03016/impl.face").run Try.prog w = .ok (some false) w := by intro fuel w; kernel_rfl
theorem as_run_l2 : Meets 151 157 (offersF 2 1) := (show offersF 2 1 = false by decide +kernel) ▸ (show Fails 151 157 from fails_of Try.underlying151 (by kernel_rfl))
theorem as_keep_l2 : Meets 155 157 (offersF 2 2) := (show offersF 2 2 = true by decide +kernel) ▸ (show Has 155 157 from ta_has Try.underlying155 (by kernel_rfl))
theorem as_tell_l2 : Meets 167 157 (offersF 2 4) := (show offersF 2 4 = false by decide +kernel) ▸ (show Fails 167 157 from fails_of Try.underlying167 (by kernel_rfl))
theorem as_both_l2 : Meets 160 157 (offersF 2 3) := (show offersF 2 3 = false by decide +kernel) ▸ (show Fails 160 157 from fails_of Try.underlying160 (by kernel_rfl))
theorem ass_l2 : Ass 157 2 := ⟨by decide, as_run_l2, as_keep_l2, as_tell_l2, as_both_l2⟩
theorem fl_2 (b o : Nat) (T : TypeId) (V : Value) : ∀ (fuel : Nat) (w : World), (method (fuel + 1) 157 (.agg #[.pointer (some ⟨b, o, none⟩), .iface T V]) "loop.example/g03016/impl.face").run Try.prog w = .ok (163, .agg #[.pointer (some ⟨b, o, none⟩)]) w := by intro fuel w; kernel_rfl
theorem fm_2 (b o : Nat) (T : TypeId) (V : Value) : ∀ (fuel : Nat) (w : World), (nilAhead (fuel + 1) 157 (.agg #[.pointer (some ⟨b, o, none⟩), .iface T V]) "loop.example/g03016/impl.face").run Try.prog w = .ok (some false) w := by intro fuel w; kernel_rfl
theorem as_run_l3 : Meets 151 158 (offersF 6 1) := (show offersF 6 1 = false by decide +kernel) ▸ (show Fails 151 158 from fails_of Try.underlying151 (by kernel_rfl))
theorem as_keep_l3 : Meets 155 158 (offersF 6 2) := (show offersF 6 2 = true by decide +kernel) ▸ (show Has 155 158 from ta_has Try.underlying155 (by kernel_rfl))
theorem as_tell_l3 : Meets 167 158 (offersF 6 4) := (show offersF 6 4 = true by decide +kernel) ▸ (show Has 167 158 from ta_has Try.underlying167 (by kernel_rfl))
theorem as_both_l3 : Meets 160 158 (offersF 6 3) := (show offersF 6 3 = false by decide +kernel) ▸ (show Fails 160 158 from fails_of Try.underlying160 (by kernel_rfl))
theorem ass_l3 : Ass 158 6 := ⟨by decide, as_run_l3, as_keep_l3, as_tell_l3, as_both_l3⟩
theorem fl_3 (b o : Nat) (T : TypeId) (V : Value) : ∀ (fuel : Nat) (w : World), (method (fuel + 1) 158 (.agg #[.pointer (some ⟨b, o, none⟩), .iface T V]) "loop.example/g03016/impl.face").run Try.prog w = .ok (163, .agg #[.pointer (some ⟨b, o, none⟩)]) w := by intro fuel w; kernel_rfl
theorem fm_3 (b o : Nat) (T : TypeId) (V : Value) : ∀ (fuel : Nat) (w : World), (nilAhead (fuel + 1) 158 (.agg #[.pointer (some ⟨b, o, none⟩), .iface T V]) "loop.example/g03016/impl.face").run Try.prog w = .ok (some false) w := by intro fuel w; kernel_rfl
theorem as_run_l4 : Meets 151 162 (offersF 3 1) := (show offersF 3 1 = true by decide +kernel) ▸ (show Has 151 162 from ta_has Try.underlying151 (by kernel_rfl))
theorem as_keep_l4 : Meets 155 162 (offersF 3 2) := (show offersF 3 2 = true by decide +kernel) ▸ (show Has 155 162 from ta_has Try.underlying155 (by kernel_rfl))
theorem as_tell_l4 : Meets 167 162 (offersF 3 4) := (show offersF 3 4 = false by decide +kernel) ▸ (show Fails 167 162 from fails_of Try.underlying167 (by kernel_rfl))
theorem as_both_l4 : Meets 160 162 (offersF 3 3) := (show offersF 3 3 = true by decide +kernel) ▸ (show Has 160 162 from ta_has Try.underlying160 (by kernel_rfl))
theorem ass_l4 : Ass 162 3 := ⟨by decide, as_run_l4, as_keep_l4, as_tell_l4, as_both_l4⟩
theorem fl_4 (b o : Nat) (T : TypeId) (V : Value) : ∀ (fuel : Nat) (w : World), (method (fuel + 1) 162 (.agg #[.pointer (some ⟨b, o, none⟩), .iface T V]) "loop.example/g03016/impl.face").run Try.prog w = .ok (163, .agg #[.pointer (some ⟨b, o, none⟩)]) w := by intro fuel w; kernel_rfl
theorem fm_4 (b o : Nat) (T : TypeId) (V : Value) : ∀ (fuel : Nat) (w : World), (nilAhead (fuel + 1) 162 (.agg #[.pointer (some ⟨b, o, none⟩), .iface T V]) "loop.example/g03016/impl.face").run Try.prog w = .ok (some false) w := by intro fuel w; kernel_rfl
theorem as_run_l5 : Meets 151 163 (offersF 2 1) := (show offersF 2 1 = false by decide +kernel) ▸ (show Fails 151 163 from fails_of Try.underlying151 (by kernel_rfl))
theorem as_keep_l5 : Meets 155 163 (offersF 2 2) := (show offersF 2 2 = true by decide +kernel) ▸ (show Has 155 163 from ta_has Try.underlying155 (by kernel_rfl))
theorem as_tell_l5 : Meets 167 163 (offersF 2 4) := (show offersF 2 4 = false by decide +kernel) ▸ (show Fails 167 163 from fails_of Try.underlying167 (by kernel_rfl))
theorem as_both_l5 : Meets 160 163 (offersF 2 3) := (show offersF 2 3 = false by decide +kernel) ▸ (show Fails 160 163 from fails_of Try.underlying160 (by kernel_rfl))
theorem ass_l5 : Ass 163 2 := ⟨by decide, as_run_l5, as_keep_l5, as_tell_l5, as_both_l5⟩
theorem fl_5 (b o : Nat) (T : TypeId) (V : Value) : ∀ (fuel : Nat) (w : World), (method (fuel + 1) 163 (.agg #[.pointer (some ⟨b, o, none⟩), .iface T V]) "loop.example/g03016/impl.face").run Try.prog w = .ok (163, .agg #[.pointer (some ⟨b, o, none⟩)]) w := by intro fuel w; kernel_rfl
theorem fm_5 (b o : Nat) (T : TypeId) (V : Value) : ∀ (fuel : Nat) (w : World), (nilAhead (fuel + 1) 163 (.agg #[.pointer (some ⟨b, o, none⟩), .iface T V]) "loop.example/g03016/impl.face").run Try.prog w = .ok (some false) w := by intro fuel w; kernel_rfl
theorem as_run_l6 : Meets 151 164 (offersF 9 1) := (show offersF 9 1 = true by decide +kernel) ▸ (show Has 151 164 from ta_has Try.underlying151 (by kernel_rfl))
theorem as_keep_l6 : Meets 155 164 (offersF 9 2) := (show offersF 9 2 = false by decide +kernel) ▸ (show Fails 155 164 from fails_of Try.underlying155 (by kernel_rfl))
theorem as_tell_l6 : Meets 167 164 (offersF 9 4) := (show offersF 9 4 = false by decide +kernel) ▸ (show Fails 167 164 from fails_of Try.underlying167 (by kernel_rfl))
theorem as_both_l6 : Meets 160 164 (offersF 9 3) := (show offersF 9 3 = false by decide +kernel) ▸ (show Fails 160 164 from fails_of Try.underlying160 (by kernel_rfl))
theorem ass_l6 : Ass 164 9 := ⟨by decide, as_run_l6, as_keep_l6, as_tell_l6, as_both_l6⟩
theorem fl_6 (b o : Nat) (T : TypeId) (V : Value) : ∀ (fuel : Nat) (w : World), (method (fuel + 1) 164 (.agg #[.pointer (some ⟨b, o, none⟩), .iface T V]) "loop.example/g03016/impl.face").run Try.prog w = .ok (163, .agg #[.pointer (some ⟨b, o, none⟩)]) w := by intro fuel w; kernel_rfl
theorem fm_6 (b o : Nat) (T : TypeId) (V : Value) : ∀ (fuel : Nat) (w : World), (nilAhead (fuel + 1) 164 (.agg #[.pointer (some ⟨b, o, none⟩), .iface T V]) "loop.example/g03016/impl.face").run Try.prog w = .ok (some false) w := by intro fuel w; kernel_rfl
theorem as_run_l7 : Meets 151 165 (offersF 33 1) := (show offersF 33 1 = true by decide +kernel) ▸ (show Has 151 165 from ta_has Try.underlying151 (by kernel_rfl))
theorem as_keep_l7 : Meets 155 165 (offersF 33 2) := (show offersF 33 2 = false by decide +kernel) ▸ (show Fails 155 165 from fails_of Try.underlying155 (by kernel_rfl))
theorem as_tell_l7 : Meets 167 165 (offersF 33 4) := (show offersF 33 4 = false by decide +kernel) ▸ (show Fails 167 165 from fails_of Try.underlying167 (by kernel_rfl))
theorem as_both_l7 : Meets 160 165 (offersF 33 3) := (show offersF 33 3 = false by decide +kernel) ▸ (show Fails 160 165 from fails_of Try.underlying160 (by kernel_rfl))
theorem ass_l7 : Ass 165 33 := ⟨by decide, as_run_l7, as_keep_l7, as_tell_l7, as_both_l7⟩
theorem fl_7 (b o : Nat) (T : TypeId) (V : Value) : ∀ (fuel : Nat) (w : World), (method (fuel + 1) 165 (.agg #[.pointer (some ⟨b, o, none⟩), .iface T V]) "loop.example/g03016/impl.face").run Try.prog w = .ok (163, .agg #[.pointer (some ⟨b, o, none⟩)]) w := by intro fuel w; kernel_rfl
theorem fm_7 (b o : Nat) (T : TypeId) (V : Value) : ∀ (fuel : Nat) (w : World), (nilAhead (fuel + 1) 165 (.agg #[.pointer (some ⟨b, o, none⟩), .iface T V]) "loop.example/g03016/impl.face").run Try.prog w = .ok (some false) w := by intro fuel w; kernel_rfl
theorem as_run_l8 : Meets 151 169 (offersF 4 1) := (show offersF 4 1 = false by decide +kernel) ▸ (show Fails 151 169 from fails_of Try.underlying151 (by kernel_rfl))
theorem as_keep_l8 : Meets 155 169 (offersF 4 2) := (show offersF 4 2 = false by decide +kernel) ▸ (show Fails 155 169 from fails_of Try.underlying155 (by kernel_rfl))
theorem as_tell_l8 : Meets 167 169 (offersF 4 4) := (show offersF 4 4 = true by decide +kernel) ▸ (show Has 167 169 from ta_has Try.underlying167 (by kernel_rfl))
theorem as_both_l8 : Meets 160 169 (offersF 4 3) := (show offersF 4 3 = false by decide +kernel) ▸ (show Fails 160 169 from fails_of Try.underlying160 (by kernel_rfl))
theorem ass_l8 : Ass 169 4 := ⟨by decide, as_run_l8, as_keep_l8, as_tell_l8, as_both_l8⟩
theorem fl_8 (b o : Nat) (T : TypeId) (V : Value) : ∀ (fuel : Nat) (w : World), (method (fuel + 1) 169 (.agg #[.pointer (some ⟨b, o, none⟩), .iface T V]) "loop.example/g03016/impl.face").run Try.prog w = .ok (163, .agg #[.pointer (some ⟨b, o, none⟩)]) w := by intro fuel w; kernel_rfl
theorem fm_8 (b o : Nat) (T : TypeId) (V : Value) : ∀ (fuel : Nat) (w : World), (nilAhead (fuel + 1) 169 (.agg #[.pointer (some ⟨b, o, none⟩), .iface T V]) "loop.example/g03016/impl.face").run Try.prog w = .ok (some false) w := by intro fuel w; kernel_rfl
/-- the value (T, V) tells the face f, in each world that keeps what lies below -/
def FaceAt (w : World) (T : TypeId) (V : Value) (f : Int) : Prop := ∃ (F : FuncId) (rcv : Value), (F = 171 ∨ F = 163) ∧ (∀ (fuel : Nat) (w : World), (method (fuel + 1) T V "loop.example/g03016/impl.face").run Try.prog w = .ok (F, rcv) w) ∧ (∀ (fuel : Nat) (w : World), (nilAhead (fuel + 1) T V "loop.example/g03016/impl.face").run Try.prog w = .ok (some false) w) ∧
  ∀ W, Below w.heap.size w W → Calls Try.prog F #[rcv] W fun e w' => e = .returned (.int .i64 f) ∧ Below W.heap.size W w'
theorem FaceAt.below {w w' : World} {T : TypeId} {V : Value} {f : Int} (h : FaceAt w T V f) (hb : Below w.heap.size w w') : FaceAt w' T V f := by
  obtain ⟨F, r, h0, h1, h2, h3⟩ := h
  exact ⟨F, r, h0, h1, h2, fun W hW => h3 W (belS hb hW)⟩
def IfaceAt (w : World) (v : Value) (f : Int) : Prop := ∃ T V, v = .iface T V ∧ FaceAt w T V f ∧ Ass T f
theorem IfaceAt.below {w w' : World} {v : Value} {f : Int} (h : IfaceAt w v f) (hb : Below w.heap.size w w') : IfaceAt w' v f := by
  obtain ⟨T, V, h1, h2, h3⟩ := h
  exact ⟨T, V, h1, h2.below hb, h3⟩
set_option maxHeartbeats 800000 in
theorem bodyName_c (b : Nat) (k : List UInt8) (w : World) (h : w.cell? ⟨b, 0, none⟩ = some (.string ⟨k.toArray⟩)) :
    Calls Try.prog 172 #[.agg #[.pointer (some ⟨b, 0, none⟩)]] w fun e w' => e = .returned (.string ⟨k.toArray⟩) ∧ Below w.heap.size w w' := by
  have hl := World.block_lt_of_cell? w _ h
  simp only at hl
  have hne : ¬ b = w.heap.size := by omega
  go_enter Try.func172, Try.ntmps172
  go_wp2_with fail
  go_ret
  exact ⟨rfl, part_box w _⟩
set_option maxHeartbeats 800000 in
theorem bodyFace_c (b : Nat) (k : List UInt8) (w : World) (h : w.cell? ⟨b, 0, none⟩ = some (.string ⟨k.toArray⟩)) :
    Calls Try.prog 171 #[.agg #[.pointer (some ⟨b, 0, none⟩)]] w fun e w' => e = .returned (.int .i64 (kfI (kindI k))) ∧ Below w.heap.size w w' := by
  have hl := World.block_lt_of_cell? w _ h
  simp only at hl
  have HN := Lib.hid (bodyName_c b k (w.alloc (.cells #[.pointer (some ⟨b, 0, none⟩)] 173)) (((part_box w _).cell (p := ⟨b, 0, none⟩) hl).trans h))
  have HK := Lib.hid (implKind_any ⟨k.toArray⟩)
  simp only [List.toList_toArray] at HK
  unfold kfV at HK
  generalize kfI (kindI k) = f at *
  generalize decide (0 ≤ kindI k) = q at *
  clear h
  go_enter Try.func171, Try.ntmps171
  go_wp2_with fail
  refine HN.out.mono ?_
  rintro e w1 ⟨rfl, hb⟩
  have HB := Lib.hid (belS (part_box w _) hb)
  clear hb
  go_wp2_with (first | (go_at_call 54; (with_reducible refine (HK.out _).mono ?_); rintro e w' ⟨rfl, rfl⟩))
  go_ret
  exact ⟨rfl, HB.out⟩
set_option maxHeartbeats 800000 in
theorem coverName_c (b o : Nat) (k : List UInt8) (w : World) (h : w.cell? ⟨b, o, none⟩ = some (.string ⟨k.toArray⟩)) :
    Calls Try.prog 164 #[.agg #[.pointer (some ⟨b, o, none⟩)]] w fun e w' => e = .returned (.string ⟨k.toArray⟩) ∧ Below w.heap.size w w' := by
  have hl := World.block_lt_of_cell? w _ h
  simp only at hl
  have hne : ¬ b = w.heap.size := by omega
  go_enter Try.func164, Try.ntmps164
  go_wp2_with fail
  go_ret
  exact ⟨rfl, part_box w _⟩
set_option maxHeartbeats 800000 in
theorem coverFace_c (b o : Nat) (k : List UInt8) (w : World) (h : w.cell? ⟨b, o, none⟩ = some (.string ⟨k.toArray⟩)) :
    Calls Try.prog 163 #[.agg #[.pointer (some ⟨b, o, none⟩)]] w fun e w' => e = .returned (.int .i64 (giveI (layI k))) ∧ Below w.heap.size w w' := by
  have hl := World.block_lt_of_cell? w _ h
  simp only at hl
  have HN := Lib.hid (coverName_c b o k (w.alloc (.cells #[.pointer (some ⟨b, o, none⟩)] 149)) (((part_box w _).cell (p := ⟨b, o, none⟩) hl).trans h))
  have HK := Lib.hid (implLayerGives_any ⟨k.toArray⟩)
  simp only [List.toList_toArray] at HK
  unfold gvV at HK
  generalize giveI (layI k) = f at *
  generalize decide (0 ≤ layI k) = q at *
  clear h
  go_enter Try.func163, Try.ntmps163
  go_wp2_with fail
  refine HN.out.mono ?_
  rintro e w1 ⟨rfl, hb⟩
  have HB := Lib.hid (belS (part_box w _) hb)
  clear hb
  go_wp2_with (first | (go_at_call 13; (with_reducible refine (HK.out _).mono ?_); rintro e w' ⟨rfl, rfl⟩))
  go_ret
  exact ⟨rfl, HB.out⟩
theorem faceAt_body {b : Nat} {k : List UInt8} {w : World} {T : TypeId} {V : Value} {f : Int} (h : w.cell? ⟨b, 0, none⟩ = some (.string ⟨k.toArray⟩)) (hf : kfI (kindI k) = f) (h1 : ∀ (fuel : Nat) (w : World), (method (fuel + 1) T V "loop.example/g03016/impl.face").run Try.prog w = .ok (171, .agg #[.pointer (some ⟨b, 0, none⟩)]) w)
    (h2 : ∀ (fuel : Nat) (w : World), (nilAhead (fuel + 1) T V "loop.example/g03016/impl.face").run Try.prog w = .ok (some false) w) : FaceAt w T V f := by
  subst hf
  exact ⟨_, _, Or.inl rfl, h1, h2, fun W hW => bodyFace_c b k W ((hW.cell (p := ⟨b, 0, none⟩) (World.block_lt_of_cell? w _ h)).trans h)⟩
theorem faceAt_cover {b o : Nat} {k : List UInt8} {w : World} {T : TypeId} {V : Value} {f : Int} (h : w.cell? ⟨b, o, none⟩ = some (.string ⟨k.toArray⟩)) (hf : giveI (layI k) = f) (h1 : ∀ (fuel : Nat) (w : World), (method (fuel + 1) T V "loop.example/g03016/impl.face").run Try.prog w = .ok (163, .agg #[.pointer (some ⟨b, o, none⟩)]) w)
    (h2 : ∀ (fuel : Nat) (w : World), (nilAhead (fuel + 1) T V "loop.example/g03016/impl.face").run Try.prog w = .ok (some false) w) : FaceAt w T V f := by
  subst hf
  exact ⟨_, _, Or.inr rfl, h1, h2, fun W hW => coverFace_c b o k W ((hW.cell (p := ⟨b, o, none⟩) (World.block_lt_of_cell? w _ h)).trans h)⟩
theorem iface_kind {b : Nat} {w : World} (j : Nat) (hj : j < 8) (h : w.cell? ⟨b, 0, none⟩ = some (.string ⟨(kindN j).toArray⟩)) : IfaceAt w (partV b j) (kfN j) := by
  rcases (show j = 0 ∨ j = 1 ∨ j = 2 ∨ j = 3 ∨ j = 4 ∨ j = 5 ∨ j = 6 ∨ j = 7 by omega) with rfl | rfl | rfl | rfl | rfl | rfl | rfl | rfl
  · exact ⟨_, _, rfl, faceAt_body h (by decide +kernel) (fk_0 b) (fn_0 b), ass_k0⟩
  · exact ⟨_, _, rfl, faceAt_body h (by decide +kernel) (fk_1 b) (fn_1 b), ass_k1⟩
  · exact ⟨_, _, rfl, faceAt_body h (by decide +kernel) (fk_2 b) (fn_2 b), ass_k2⟩
  · exact ⟨_, _, rfl, faceAt_body h (by decide +kernel) (fk_3 b) (fn_3 b), ass_k3⟩
  · exact ⟨_, _, rfl, faceAt_body h (by decide +kernel) (fk_4 b) (fn_4 b), ass_k4⟩
  · exact ⟨_, _, rfl, faceAt_body h (by decide +kernel) (fk_5 b) (fn_5 b), ass_k5⟩
  · exact ⟨_, _, rfl, faceAt_body h (by decide +kernel) (fk_6 b) (fn_6 b), ass_k6⟩
  · exact ⟨_, _, rfl, faceAt_body h (by decide +kernel) (fk_7 b) (fn_7 b), ass_k7⟩
/-- what wrapping hands out, by adapter -/
def wrapV (b o : Nat) (v : Value) : Nat → Value
  | 0 => .iface 171 (.agg #[.pointer (some ⟨b, o, none⟩)])
  | 1 => .iface 153 (.agg #[.pointer (some ⟨b, o, none⟩), v])
  | 2 => .iface 157 (.agg #[.pointer (some ⟨b, o, none⟩), v])
  | 3 => .iface 158 (.agg #[.pointer (some ⟨b, o, none⟩), v])
  | 4 => .iface 162 (.agg #[.pointer (some ⟨b, o, none⟩), v])
  | 5 => .iface 163 (.agg #[.pointer (some ⟨b, o, none⟩), v])
  | 6 => .iface 164 (.agg #[.pointer (some ⟨b, o, none⟩), v])
  | 7 => .iface 165 (.agg #[.pointer (some ⟨b, o, none⟩), v])
  | _ => .iface 169 (.agg #[.pointer (some ⟨b, o, none⟩), v])
theorem iface_wrap {b o : Nat} {w : World} {T : TypeId} {V : Value} (i : Nat) (hi : i < 9) (h : w.cell? ⟨b, o, none⟩ = some (.string ⟨(layN i).toArray⟩)) : IfaceAt w (wrapV b o (.iface T V) i) (giveN i) := by
  rcases (show i = 0 ∨ i = 1 ∨ i = 2 ∨ i = 3 ∨ i = 4 ∨ i = 5 ∨ i = 6 ∨ i = 7 ∨ i = 8 by omega) with rfl | rfl | rfl | rfl | rfl | rfl | rfl | rfl | rfl
  · exact ⟨_, _, rfl, faceAt_cover h (by decide +kernel) (fl_0 b o) (fm_0 b o), ass_l0⟩
  · exact ⟨_, _, rfl, faceAt_cover h (by decide +kernel) (fl_1 b o T V) (fm_1 b o T V), ass_l1⟩
  · exact ⟨_, _, rfl, faceAt_cover h (by decide +kernel) (fl_2 b o T V) (fm_2 b o T V), ass_l2⟩
  · exact ⟨_, _, rfl, faceAt_cover h (by decide +kernel) (fl_3 b o T V) (fm_3 b o T V), ass_l3⟩
  · exact ⟨_, _, rfl, faceAt_cover h (by decide +kernel) (fl_4 b o T V) (fm_4 b o T V), ass_l4⟩
  · exact ⟨_, _, rfl, faceAt_cover h (by decide +kernel) (fl_5 b o T V) (fm_5 b o T V), ass_l5⟩
  · exact ⟨_, _, rfl, faceAt_cover h (by decide +kernel) (fl_6 b o T V) (fm_6 b o T V), ass_l6⟩
  · exact ⟨_, _, rfl, faceAt_cover h (by decide +kernel) (fl_7 b o T V) (fm_7 b o T V), ass_l7⟩
  · exact ⟨_, _, rfl, faceAt_cover h (by decide +kernel) (fl_8 b o T V) (fm_8 b o T V), ass_l8⟩
end Go.Proofs.Ytaihdjdaamglnaa
/- assertAndWrap, by adapter: where the assertion is met, and where it is not. Written by gen/ch4if.py. -/
namespace Go.Proofs.Ytaihdjdaamglnaa
set_option linter.unusedVariables false
set_option linter.unusedSimpArgs false
open Go.RowKit

set_option maxRecDepth 100000 in
set_option maxHeartbeats 1600000 in
theorem aw_0 (b o : Nat) (T : TypeId) (V : Value) (w : World) (h : w.cell? ⟨b, o, none⟩ = some (.string ⟨(layN 0).toArray⟩)) :
    Calls Try.prog 88 #[.iface T V, .pointer (some ⟨b, o, none⟩)] w fun e w' => e = .returned (wrapV b o (.iface T V) 0) ∧ Below w.heap.size w w' := by
  have hl0 := World.block_lt_of_cell? w _ h
  simp only at hl0
  have hn0 : ¬ b = w.heap.size := by omega
  simp only [layN] at h
  unfold wrapV
  go_enter Try.func88, Try.ntmps88
  go_wp2_with fail
  try go_region
  all_goals (try go_wp2_with fail)
  all_goals
    go_ret
    refine ⟨rfl, ?_⟩
    repeat (first | with_reducible exact Below.refl _ _ | with_reducible refine Below.alloc ?_ (by simp; try omega) _ | with_reducible refine bel_dr ?_)
set_option maxRecDepth 100000 in
set_option maxHeartbeats 1600000 in
theorem aw_1 (b o : Nat) (T : TypeId) (V : Value) (w : World) (h : w.cell? ⟨b, o, none⟩ = some (.string ⟨(layN 1).toArray⟩)) (hta : Has 151 T) :
    Calls Try.prog 88 #[.iface T V, .pointer (some ⟨b, o, none⟩)] w fun e w' => e = .returned (wrapV b o (.iface T V) 1) ∧ Below w.heap.size w w' := by
  have hl0 := World.block_lt_of_cell? w _ h
  simp only at hl0
  have hn0 : ¬ b = w.heap.size := by omega
  simp only [layN] at h
  unfold wrapV
  unfold Has at hta
  go_enter Try.func88, Try.ntmps88
  go_wp2_with fail
  try go_region
  all_goals (try go_wp2_with fail)
  all_goals
    go_ret
    refine ⟨rfl, ?_⟩
    repeat (first | with_reducible exact Below.refl _ _ | with_reducible refine Below.alloc ?_ (by simp; try omega) _ | with_reducible refine bel_dr ?_)
set_option maxRecDepth 100000 in
set_option maxHeartbeats 1600000 in
theorem awp_1 (b o : Nat) (T : TypeId) (V : Value) (w : World) (h : w.cell? ⟨b, o, none⟩ = some (.string ⟨(layN 1).toArray⟩)) (hta : Fails 151 T) :
    Calls Try.prog 88 #[.iface T V, .pointer (some ⟨b, o, none⟩)] w fun e w' => Panics w e w' := by
  have hl0 := World.block_lt_of_cell? w _ h
  simp only at hl0
  have hn0 : ¬ b = w.heap.size := by omega
  simp only [layN] at h
  obtain ⟨c, E, hta⟩ := hta
  go_enter Try.func88, Try.ntmps88
  go_wp2_with fail
  refine wp_region_any (by kernel_rfl) ?_
  change wpAny _ _ _ _ _ _ _ (World.drew _)
  refine wpAny_take (i := 1) (v := ?_) rfl (by kernel_rfl) (by kernel_rfl) (by kernel_rfl) (fun _ _ _ h => h) (Or.inl ⟨by rfl, ?_⟩) ?_
  rotate_left
  · intro w; go_simp; try (with_reducible rfl)
  refine wpAny_ready (rs := [0, 2]) (by kernel_rfl) (by simp) ?_
  refine AllReady.cons rfl (fun K hK => ?_) ?_
  · go_simp
    refine hK _ _ ?_
    clear hK K
    refine wpAny_ready (rs := [2]) (by kernel_rfl) (by simp) ?_
    refine AllReady.cons rfl (fun K hK => ?_) ?_
    · go_simp
      exact ⟨rfl, _, rfl, by repeat (first | with_reducible exact Below.refl _ _ | with_reducible refine Below.alloc ?_ (by simp; try omega) _ | with_reducible refine Below.drew ?_ | with_reducible refine below_drewN ?_ _)⟩
    exact AllReady.nil
  refine AllReady.cons rfl (fun K hK => ?_) ?_
  · go_simp
    exact ⟨rfl, _, rfl, by repeat (first | with_reducible exact Below.refl _ _ | with_reducible refine Below.alloc ?_ (by simp; try omega) _ | with_reducible refine Below.drew ?_ | with_reducible refine below_drewN ?_ _)⟩
  exact AllReady.nil
set_option maxRecDepth 100000 in
set_option maxHeartbeats 1600000 in
theorem aw_2 (b o : Nat) (T : TypeId) (V : Value) (w : World) (h : w.cell? ⟨b, o, none⟩ = some (.string ⟨(layN 2).toArray⟩)) (hta : Has 155 T) :
    Calls Try.prog 88 #[.iface T V, .pointer (some ⟨b, o, none⟩)] w fun e w' => e = .returned (wrapV b o (.iface T V) 2) ∧ Below w.heap.size w w' := by
  have hl0 := World.block_lt_of_cell? w _ h
  simp only at hl0
  have hn0 : ¬ b = w.heap.size := by omega
  simp only [layN] at h
  unfold wrapV
  unfold Has at hta
  go_enter Try.func88, Try.ntmps88
  go_wp2_with fail
  try go_region
  all_goals (try go_wp2_with fail)
  all_goals
    go_ret
    refine ⟨rfl, ?_⟩
    repeat (first | with_reducible exact Below.refl _ _ | with_reducible refine Below.alloc ?_ (by simp; try omega) _ | with_reducible refine bel_dr ?_)
set_option maxRecDepth 100000 in
set_option maxHeartbeats 1600000 in
theorem awp_2 (b o : Nat) (T : TypeId) (V : Value) (w : World) (h : w.cell? ⟨b, o, none⟩ = some (.string ⟨(layN 2).toArray⟩)) (hta : Fails 155 T) :
    Calls Try.prog 88 #[.iface T V, .pointer (some ⟨b, o, none⟩)] w fun e w' => Panics w e w' := by
  have hl0 := World.block_lt_of_cell? w _ h
  simp only at hl0
  have hn0 : ¬ b = w.heap.size := by omega
  simp only [layN] at h
  obtain ⟨c, E, hta⟩ := hta
  go_enter Try.func88, Try.ntmps88
  go_wp2_with fail
  refine wp_region_any (by kernel_rfl) ?_
  change wpAny _ _ _ _ _ _ _ (World.drew _)
  refine wpAny_take (i := 1) (v := ?_) rfl (by kernel_rfl) (by kernel_rfl) (by kernel_rfl) (fun _ _ _ h => h) (Or.inl ⟨by rfl, ?_⟩) ?_
  rotate_left
  · intro w; go_simp; try (with_reducible rfl)
  refine wpAny_ready (rs := [0, 2]) (by kernel_rfl) (by simp) ?_
  refine AllReady.cons rfl (fun K hK => ?_) ?_
  · go_simp
    refine hK _ _ ?_
    clear hK K
    refine wpAny_ready (rs := [2]) (by kernel_rfl) (by simp) ?_
    refine AllReady.cons rfl (fun K hK => ?_) ?_
    · go_simp
      exact ⟨rfl, _, rfl, by repeat (first | with_reducible exact Below.refl _ _ | with_reducible refine Below.alloc ?_ (by simp; try omega) _ | with_reducible refine Below.drew ?_ | with_reducible refine below_drewN ?_ _)⟩
    exact AllReady.nil
  refine AllReady.cons rfl (fun K hK => ?_) ?_
  · go_simp
    exact ⟨rfl, _, rfl, by repeat (first | with_reducible exact Below.refl _ _ | with_reducible refine Below.alloc ?_ (by simp; try omega) _ | with_reducible refine Below.drew ?_ | with_reducible refine below_drewN ?_ _)⟩
  exact AllReady.nil
set_option maxRecDepth 100000 in
set_option maxHeartbeats 1600000 in
theorem aw_3 (b o : Nat) (T : TypeId) (V : Value) (w : World) (h : w.cell? ⟨b, o, none⟩ = some (.string ⟨(layN 3).toArray⟩)) (hta : Has 155 T) :
    Calls Try.prog 88 #[.iface T V, .pointer (some ⟨b, o, none⟩)] w fun e w' => e = .returned (wrapV b o (.iface T V) 3) ∧ Below w.heap.size w w' := by
  have hl0 := World.block_lt_of_cell? w _ h
  simp only at hl0
  have hn0 : ¬ b = w.heap.size := by omega
  simp only [layN] at h
  unfold wrapV
  unfold Has at hta
  go_enter Try.func88, Try.ntmps88
  go_wp2_with fail
  try go_region
  all_goals (try go_wp2_with fail)
  all_goals
    go_ret
    refine ⟨rfl, ?_⟩
    repeat (first | with_reducible exact Below.refl _ _ | with_reducible refine Below.alloc ?_ (by simp; try omega) _ | with_reducible refine bel_dr ?_)
set_option maxRecDepth 100000 in
set_option maxHeartbeats 1600000 in
theorem awp_3 (b o : Nat) (T : TypeId) (V : Value) (w : World) (h : w.cell? ⟨b, o, none⟩ = some (.string ⟨(layN 3).toArray⟩)) (hta : Fails 155 T) :
    Calls Try.prog 88 #[.iface T V, .pointer (some ⟨b, o, none⟩)] w fun e w' => Panics w e w' := by
  have hl0 := World.block_lt_of_cell? w _ h
  simp only at hl0
  have hn0 : ¬ b = w.heap.size := by omega
  simp only [layN] at h
  obtain ⟨c, E, hta⟩ := hta
  go_enter Try.func88, Try.ntmps88
  go_wp2_with fail
  refine wp_region_any (by kernel_rfl) ?_
  change wpAny _ _ _ _ _ _ _ (World.drew _)
  refine wpAny_take (i := 1) (v := ?_) rfl (by kernel_rfl) (by kernel_rfl) (by kernel_rfl) (fun _ _ _ h => h) (Or.inl ⟨by rfl, ?_⟩) ?_
  rotate_left
  · intro w; go_simp; try (with_reducible rfl)
  refine wpAny_ready (rs := [0, 2]) (by kernel_rfl) (by simp) ?_
  refine AllReady.cons rfl (fun K hK => ?_) ?_
  · go_simp
    refine hK _ _ ?_
    clear hK K
    refine wpAny_ready (rs := [2]) (by kernel_rfl) (by simp) ?_
    refine AllReady.cons rfl (fun K hK => ?_) ?_
    · go_simp
      exact ⟨rfl, _, rfl, by repeat (first | with_reducible exact Below.refl _ _ | with_reducible refine Below.alloc ?_ (by simp; try omega) _ | with_reducible refine Below.drew ?_ | with_reducible refine below_drewN ?_ _)⟩
    exact AllReady.nil
  refine AllReady.cons rfl (fun K hK => ?_) ?_
  · go_simp
    exact ⟨rfl, _, rfl, by repeat (first | with_reducible exact Below.refl _ _ | with_reducible refine Below.alloc ?_ (by simp; try omega) _ | with_reducible refine Below.drew ?_ | with_reducible refine below_drewN ?_ _)⟩
  exact AllReady.nil
set_option maxRecDepth 100000 in
set_option maxHeartbeats 1600000 in
theorem aw_4 (b o : Nat) (T : TypeId) (V : Value) (w : World) (h : w.cell? ⟨b, o, none⟩ = some (.string ⟨(layN 4).toArray⟩)) (hta : Has 160 T) :
    Calls Try.prog 88 #[.iface T V, .pointer (some ⟨b, o, none⟩)] w fun e w' => e = .returned (wrapV b o (.iface T V) 4) ∧ Below w.heap.size w w' := by
  have hl0 := World.block_lt_of_cell? w _ h
  simp only at hl0
  have hn0 : ¬ b = w.heap.size := by omega
  simp only [layN] at h
  unfold wrapV
  unfold Has at hta
  go_enter Try.func88, Try.ntmps88
  go_wp2_with fail
  try go_region
  all_goals (try go_wp2_with fail)
  all_goals
    go_ret
    refine ⟨rfl, ?_⟩
    repeat (first | with_reducible exact Below.refl _ _ | with_reducible refine Below.alloc ?_ (by simp; try omega) _ | with_reducible refine bel_dr ?_)
set_option maxRecDepth 100000 in
set_option maxHeartbeats 1600000 in
theorem awp_4 (b o : Nat) (T : TypeId) (V : Value) (w : World) (h : w.cell? ⟨b, o, none⟩ = some (.string ⟨(layN 4).toArray⟩)) (hta : Fails 160 T) :
    Calls Try.prog 88 #[.iface T V, .pointer (some ⟨b, o, none⟩)] w fun e w' => Panics w e w' := by
  have hl0 := World.block_lt_of_cell? w _ h
  simp only at hl0
  have hn0 : ¬ b = w.heap.size := by omega
  simp only [layN] at h
  obtain ⟨c, E, hta⟩ := hta
  go_enter Try.func88, Try.ntmps88
  go_wp2_with fail
  refine wp_region_any (by kernel_rfl) ?_
  change wpAny _ _ _ _ _ _ _ (World.drew _)
  refine wpAny_take (i := 1) (v := ?_) rfl (by kernel_rfl) (by kernel_rfl) (by kernel_rfl) (fun _ _ _ h => h) (Or.inl ⟨by rfl, ?_⟩) ?_
  rotate_left
  · intro w; go_simp; try (with_reducible rfl)
  refine wpAny_ready (rs := [0, 2]) (by kernel_rfl) (by simp) ?_
  refine AllReady.cons rfl (fun K hK => ?_) ?_
  · go_simp
    refine hK _ _ ?_
    clear hK K
    refine wpAny_ready (rs := [2]) (by kernel_rfl) (by simp) ?_
    refine AllReady.cons rfl (fun K hK => ?_) ?_
    · go_simp
      exact ⟨rfl, _, rfl, by repeat (first | with_reducible exact Below.refl _ _ | with_reducible refine Below.alloc ?_ (by simp; try omega) _ | with_reducible refine Below.drew ?_ | with_reducible refine below_drewN ?_ _)⟩
    exact AllReady.nil
  refine AllReady.cons rfl (fun K hK => ?_) ?_
  · go_simp
    exact ⟨rfl, _, rfl, by repeat (first | with_reducible exact Below.refl _ _ | with_reducible refine Below.alloc ?_ (by simp; try omega) _ | with_reducible refine Below.drew ?_ | with_reducible refine below_drewN ?_ _)⟩
  exact AllReady.nil
set_option maxRecDepth 100000 in
set_option maxHeartbeats 1600000 in
theorem aw_5 (b o : Nat) (T : TypeId) (V : Value) (w : World) (h : w.cell? ⟨b, o, none⟩ = some (.string ⟨(layN 5).toArray⟩)) (hta : Has 155 T) :
    Calls Try.prog 88 #[.iface T V, .pointer (some ⟨b, o, none⟩)] w fun e w' => e = .returned (wrapV b o (.iface T V) 5) ∧ Below w.heap.size w w' := by
  have hl0 := World.block_lt_of_cell? w _ h
  simp only at hl0
  have hn0 : ¬ b = w.heap.size := by omega
  simp only [layN] at h
  unfold wrapV
  unfold Has at hta
  go_enter Try.func88, Try.ntmps88
  go_wp2_with fail
  try go_region
  all_goals (try go_wp2_with fail)
  all_goals
    go_ret
    refine ⟨rfl, ?_⟩
    repeat (first | with_reducible exact Below.refl _ _ | with_reducible refine Below.alloc ?_ (by simp; try omega) _ | with_reducible refine bel_dr ?_)
set_option maxRecDepth 100000 in
set_option maxHeartbeats 1600000 in
theorem awp_5 (b o : Nat) (T : TypeId) (V : Value) (w : World) (h : w.cell? ⟨b, o, none⟩ = some (.string ⟨(layN 5).toArray⟩)) (hta : Fails 155 T) :
    Calls Try.prog 88 #[.iface T V, .pointer (some ⟨b, o, none⟩)] w fun e w' => Panics w e w' := by
  have hl0 := World.block_lt_of_cell? w _ h
  simp only at hl0
  have hn0 : ¬ b = w.heap.size := by omega
  simp only [layN] at h
  obtain ⟨c, E, hta⟩ := hta
  go_enter Try.func88, Try.ntmps88
  go_wp2_with fail
  refine wp_region_any (by kernel_rfl) ?_
  change wpAny _ _ _ _ _ _ _ (World.drew _)
  refine wpAny_take (i := 1) (v := ?_) rfl (by kernel_rfl) (by kernel_rfl) (by kernel_rfl) (fun _ _ _ h => h) (Or.inl ⟨by rfl, ?_⟩) ?_
  rotate_left
  · intro w; go_simp; try (with_reducible rfl)
  refine wpAny_ready (rs := [0, 2]) (by kernel_rfl) (by simp) ?_
  refine AllReady.cons rfl (fun K hK => ?_) ?_
  · go_simp
    refine hK _ _ ?_
    clear hK K
    refine wpAny_ready (rs := [2]) (by kernel_rfl) (by simp) ?_
    refine AllReady.cons rfl (fun K hK => ?_) ?_
    · go_simp
      exact ⟨rfl, _, rfl, by repeat (first | with_reducible exact Below.refl _ _ | with_reducible refine Below.alloc ?_ (by simp; try omega) _ | with_reducible refine Below.drew ?_ | with_reducible refine below_drewN ?_ _)⟩
    exact AllReady.nil
  refine AllReady.cons rfl (fun K hK => ?_) ?_
  · go_simp
    exact ⟨rfl, _, rfl, by repeat (first | with_reducible exact Below.refl _ _ | with_reducible refine Below.alloc ?_ (by simp; try omega) _ | with_reducible refine Below.drew ?_ | with_reducible refine below_drewN ?_ _)⟩
  exact AllReady.nil
set_option maxRecDepth 100000 in
set_option maxHeartbeats 1600000 in
theorem aw_6 (b o : Nat) (T : TypeId) (V : Value) (w : World) (h : w.cell? ⟨b, o, none⟩ = some (.string ⟨(layN 6).toArray⟩)) (hta : Has 151 T) :
    Calls Try.prog 88 #[.iface T V, .pointer (some ⟨b, o, none⟩)] w fun e w' => e = .returned (wrapV b o (.iface T V) 6) ∧ Below w.heap.size w w' := by
  have hl0 := World.block_lt_of_cell? w _ h
  simp only at hl0
  have hn0 : ¬ b = w.heap.size := by omega
  simp only [layN] at h
  unfold wrapV
  unfold Has at hta
  go_enter Try.func88, Try.ntmps88
  go_wp2_with fail
  try go_region
  all_goals (try go_wp2_with fail)
  all_goals
    go_ret
    refine ⟨rfl, ?_⟩
    repeat (first | with_reducible exact Below.refl _ _ | with_reducible refine Below.alloc ?_ (by simp; try omega) _ | with_reducible refine bel_dr ?_)
set_option maxRecDepth 100000 in
set_option maxHeartbeats 1600000 in
theorem awp_6 (b o : Nat) (T : TypeId) (V : Value) (w : World) (h : w.cell? ⟨b, o, none⟩ = some (.string ⟨(layN 6).toArray⟩)) (hta : Fails 151 T) :
    Calls Try.prog 88 #[.iface T V, .pointer (some ⟨b, o, none⟩)] w fun e w' => Panics w e w' := by
  have hl0 := World.block_lt_of_cell? w _ h
  simp only at hl0
  have hn0 : ¬ b = w.heap.size := by omega
  simp only [layN] at h
  obtain ⟨c, E, hta⟩ := hta
  go_enter Try.func88, Try.ntmps88
  go_wp2_with fail
  refine wp_region_any (by kernel_rfl) ?_
  change wpAny _ _ _ _ _ _ _ (World.drew _)
  refine wpAny_take (i := 1) (v := ?_) rfl (by kernel_rfl) (by kernel_rfl) (by kernel_rfl) (fun _ _ _ h => h) (Or.inl ⟨by rfl, ?_⟩) ?_
  rotate_left
  · intro w; go_simp; try (with_reducible rfl)
  refine wpAny_ready (rs := [0, 2]) (by kernel_rfl) (by simp) ?_
  refine AllReady.cons rfl (fun K hK => ?_) ?_
  · go_simp
    refine hK _ _ ?_
    clear hK K
    refine wpAny_ready (rs := [2]) (by kernel_rfl) (by simp) ?_
    refine AllReady.cons rfl (fun K hK => ?_) ?_
    · go_simp
      exact ⟨rfl, _, rfl, by repeat (first | with_reducible exact Below.refl _ _ | with_reducible refine Below.alloc ?_ (by simp; try omega) _ | with_reducible refine Below.drew ?_ | with_reducible refine below_drewN ?_ _)⟩
    exact AllReady.nil
  refine AllReady.cons rfl (fun K hK => ?_) ?_
  · go_simp
    exact ⟨rfl, _, rfl, by repeat (first | with_reducible exact Below.refl _ _ | with_reducible refine Below.alloc ?_ (by simp; try omega) _ | with_reducible refine Below.drew ?_ | with_reducible refine below_drewN ?_ _)⟩
  exact AllReady.nil
set_option maxRecDepth 100000 in
set_option maxHeartbeats 1600000 in
theorem aw_7 (b o : Nat) (T : TypeId) (V : Value) (w : World) (h : w.cell? ⟨b, o, none⟩ = some (.string ⟨(layN 7).toArray⟩)) (hta : Has 151 T) :
    Calls Try.prog 88 #[.iface T V, .pointer (some ⟨b, o, none⟩)] w fun e w' => e = .returned (wrapV b o (.iface T V) 7) ∧ Below w.heap.size w w' := by
  have hl0 := World.block_lt_of_cell? w _ h
  simp only at hl0
  have hn0 : ¬ b = w.heap.size := by omega
  simp only [layN] at h
  unfold wrapV
  unfold Has at hta
  go_enter Try.func88, Try.ntmps88
  go_wp2_with fail
  try go_region
  all_goals (try go_wp2_with fail)
  all_goals
    go_ret
    refine ⟨rfl, ?_⟩
    repeat (first | with_reducible exact Below.refl _ _ | with_reducible refine Below.alloc ?_ (by simp; try omega) _ | with_reducible refine bel_dr ?_)
set_option maxRecDepth 100000 in
set_option maxHeartbeats 1600000 in
theorem awp_7 (b o : Nat) (T : TypeId) (V : Value) (w : World) (h : w.cell? ⟨b, o, none⟩ = some (.string ⟨(layN 7).toArray⟩)) (hta : Fails 151 T) :
    Calls Try.prog 88 #[.iface T V, .pointer (some ⟨b, o, none⟩)] w fun e w' => Panics w e w' := by
  have hl0 := World.block_lt_of_cell? w _ h
  simp only at hl0
  have hn0 : ¬ b = w.heap.size := by omega
  simp only [layN] at h
  obtain ⟨c, E, hta⟩ := hta
  go_enter Try.func88, Try.ntmps88
  go_wp2_with fail
  refine wp_region_any (by kernel_rfl) ?_
  change wpAny _ _ _ _ _ _ _ (World.drew _)
  refine wpAny_take (i := 1) (v := ?_) rfl (by kernel_rfl) (by kernel_rfl) (by kernel_rfl) (fun _ _ _ h => h) (Or.inl ⟨by rfl, ?_⟩) ?_
  rotate_left
  · intro w; go_simp; try (with_reducible rfl)
  refine wpAny_ready (rs := [0, 2]) (by kernel_rfl) (by simp) ?_
  refine AllReady.cons rfl (fun K hK => ?_) ?_
  · go_simp
    refine hK _ _ ?_
    clear hK K
    refine wpAny_ready (rs := [2]) (by kernel_rfl) (by simp) ?_
    refine AllReady.cons rfl (fun K hK => ?_) ?_
    · go_simp
      exact ⟨rfl, _, rfl, by repeat (first | with_reducible exact Below.refl _ _ | with_reducible refine Below.alloc ?_ (by simp; try omega) _ | with_reducible refine Below.drew ?_ | with_reducible refine below_drewN ?_ _)⟩
    exact AllReady.nil
  refine AllReady.cons rfl (fun K hK => ?_) ?_
  · go_simp
    exact ⟨rfl, _, rfl, by repeat (first | with_reducible exact Below.refl _ _ | with_reducible refine Below.alloc ?_ (by simp; try omega) _ | with_reducible refine Below.drew ?_ | with_reducible refine below_drewN ?_ _)⟩
  exact AllReady.nil
set_option maxRecDepth 100000 in
set_option maxHeartbeats 1600000 in
theorem aw_8 (b o : Nat) (T : TypeId) (V : Value) (w : World) (h : w.cell? ⟨b, o, none⟩ = some (.string ⟨(layN 8).toArray⟩)) (hta : Has 167 T) :
    Calls Try.prog 88 #[.iface T V, .pointer (some ⟨b, o, none⟩)] w fun e w' => e = .returned (wrapV b o (.iface T V) 8) ∧ Below w.heap.size w w' := by
  have hl0 := World.block_lt_of_cell? w _ h
  simp only at hl0
  have hn0 : ¬ b = w.heap.size := by omega
  simp only [layN] at h
  unfold wrapV
  unfold Has at hta
  go_enter Try.func88, Try.ntmps88
  go_wp2_with fail
  try go_region
  all_goals (try go_wp2_with fail)
  all_goals
    go_ret
    refine ⟨rfl, ?_⟩
    repeat (first | with_reducible exact Below.refl _ _ | with_reducible refine Below.alloc ?_ (by simp; try omega) _ | with_reducible refine bel_dr ?_)
set_option maxRecDepth 100000 in
set_option maxHeartbeats 1600000 in
theorem awp_8 (b o : Nat) (T : TypeId) (V : Value) (w : World) (h : w.cell? ⟨b, o, none⟩ = some (.string ⟨(layN 8).toArray⟩)) (hta : Fails 167 T) :
    Calls Try.prog 88 #[.iface T V, .pointer (some ⟨b, o, none⟩)] w fun e w' => Panics w e w' := by
  have hl0 := World.block_lt_of_cell? w _ h
  simp only at hl0
  have hn0 : ¬ b = w.heap.size := by omega
  simp only [layN] at h
  obtain ⟨c, E, hta⟩ := hta
  go_enter Try.func88, Try.ntmps88
  go_wp2_with fail
  refine wp_region_any (by kernel_rfl) ?_
  change wpAny _ _ _ _ _ _ _ (World.drew _)
  refine wpAny_take (i := 1) (v := ?_) rfl (by kernel_rfl) (by kernel_rfl) (by kernel_rfl) (fun _ _ _ h => h) (Or.inl ⟨by rfl, ?_⟩) ?_
  rotate_left
  · intro w; go_simp; try (with_reducible rfl)
  refine wpAny_ready (rs := [0, 2]) (by kernel_rfl) (by simp) ?_
  refine AllReady.cons rfl (fun K hK => ?_) ?_
  · go_simp
    refine hK _ _ ?_
    clear hK K
    refine wpAny_ready (rs := [2]) (by kernel_rfl) (by simp) ?_
    refine AllReady.cons rfl (fun K hK => ?_) ?_
    · go_simp
      exact ⟨rfl, _, rfl, by repeat (first | with_reducible exact Below.refl _ _ | with_reducible refine Below.alloc ?_ (by simp; try omega) _ | with_reducible refine Below.drew ?_ | with_reducible refine below_drewN ?_ _)⟩
    exact AllReady.nil
  refine AllReady.cons rfl (fun K hK => ?_) ?_
  · go_simp
    exact ⟨rfl, _, rfl, by repeat (first | with_reducible exact Below.refl _ _ | with_reducible refine Below.alloc ?_ (by simp; try omega) _ | with_reducible refine Below.drew ?_ | with_reducible refine below_drewN ?_ _)⟩
  exact AllReady.nil
end Go.Proofs.Ytaihdjdaamglnaa
namespace Go.Proofs.Ytaihdjdaamglnaa
set_option linter.unusedVariables false
set_option linter.unusedSimpArgs false
open Go.RowKit
/-- the literal's boxes: the layer at nl, what is inside at ni, what is outside at no, the reply at nr -/
structure BoxW (nl ni no nr b o : Nat) (k : List UInt8) (v : Value) (w : World) : Prop where
  l0 : w.cell? ⟨nl, 0, none⟩ = some (.pointer (some ⟨b, o, none⟩))
  n0 : w.cell? ⟨b, o, none⟩ = some (.string ⟨k.toArray⟩)
  i0 : w.cell? ⟨ni, 0, none⟩ = some v
  o0 : (w.cell? ⟨no, 0, none⟩).isSome = true
  oz : w.frozen? ⟨no, 0, none⟩ = false
  r : ∀ o, o < 5 → (w.cell? ⟨nr, o, none⟩).isSome = true
  z : ∀ o, o < 5 → w.frozen? ⟨nr, o, none⟩ = false
theorem some_lt {w : World} {n o : Nat} (h : (w.cell? ⟨n, o, none⟩).isSome = true) : n < w.heap.size := by
  obtain ⟨v, hv⟩ := Option.isSome_iff_exists.1 h
  exact World.block_lt_of_cell? w _ hv
theorem BoxW.below {nl ni no nr b o : Nat} {k : List UInt8} {v : Value} {w w' : World} (h : BoxW nl ni no nr b o k v w) (hb : Below w.heap.size w w') : BoxW nl ni no nr b o k v w' := by
  have hr := some_lt (h.r 0 (by decide))
  have ho := some_lt h.o0
  exact ⟨(hb.cell (p := ⟨nl, 0, none⟩) (World.block_lt_of_cell? w _ h.l0)).trans h.l0, (hb.cell (p := ⟨b, o, none⟩) (World.block_lt_of_cell? w _ h.n0)).trans h.n0, (hb.cell (p := ⟨ni, 0, none⟩) (World.block_lt_of_cell? w _ h.i0)).trans h.i0,
    by rw [hb.cell (p := ⟨no, 0, none⟩) ho]; exact h.o0, (hb.frozen (p := ⟨no, 0, none⟩) ho).trans h.oz, fun o ho => by rw [hb.cell (p := ⟨nr, o, none⟩) hr]; exact h.r o ho, fun o ho => (hb.frozen (p := ⟨nr, o, none⟩) hr).trans (h.z o ho)⟩
def putW (w : World) (no nr : Nat) (v : Value) (want had : Int) : World := (((((w.setCell ⟨no, 0, none⟩ v).setCell ⟨nr, 0, none⟩ (.int .i64 1)).setCell ⟨nr, 1, none⟩ (.int .i64 0)).setCell ⟨nr, 2, none⟩ (.string ⟨#[]⟩)).setCell ⟨nr, 3, none⟩ (.int .i64 want)).setCell ⟨nr, 4, none⟩ (.int .i64 had)
theorem catchW_idle (a1 a2 a3 a4 : Value) (w : World) :
    CallsD Try.prog 87 #[a1, a2, a3, a4] .returning w fun e u' w' => e = .returned (.tuple #[]) ∧ u' = .returning ∧ w' = w := by
  refine callsD_of_wpS Try.func87 rfl fun c₀ cs hu => ?_
  apply wpS_seq
  apply wpS_region
  simp [wpOpsS, go_sem, recoverD, hu, Try.ntmps87, Exit.thenS]
  refine wpS_cond (t := false) (by simp [Act.eval, Array.replicate]) ?_
  simp only [Bool.false_eq_true, if_false]
  refine wpS_of_wp (wp_skip ?_)
  cases c₀
  simp_all [bodyPostS, results, Try.results87]
set_option maxRecDepth 100000 in
set_option maxHeartbeats 1600000 in
theorem catchW (nl ni no nr b o : Nat) (k : List UInt8) (T : TypeId) (V : Value) (f : Int) (pv : Value) (w : World) (hf : FaceAt w T V f) (hb : BoxW nl ni no nr b o k (.iface T V) w) (hne : no ≠ nr) :
    CallsD Try.prog 87 #[.pointer (some ⟨nl, 0, none⟩), .pointer (some ⟨ni, 0, none⟩), .pointer (some ⟨no, 0, none⟩), .pointer (some ⟨nr, 0, none⟩)] (.panicking ({ v := .iface Try.prog.rt.typeAssertionError pv, recovered := false } :: [])) w fun e u' w' =>
      e = .returned (.tuple #[]) ∧ u' = .panicking ({ v := .iface Try.prog.rt.typeAssertionError pv, recovered := true } :: []) ∧ ∃ w1, Below w.heap.size w w1 ∧ w' = putW w1 no nr (.iface T V) (needI (layI k)) f := by
  have HX := Lib.hid hb
  have x0 := hb.l0
  have n0 := hb.n0
  have p0 := hb.i0
  have HW := Lib.hid (fun W => implLayerNeeds_any ⟨k.toArray⟩ W)
  simp only [List.toList_toArray, ndV] at HW
  obtain ⟨F, rcv, hF, hfm, hfn, HF0⟩ := hf
  have HF := Lib.hid HF0
  generalize needI (layI k) = want at *
  generalize decide (0 ≤ layI k) = q at *
  clear HF0 hb
  rcases hF with rfl | rfl
  all_goals
    refine callsD_of_wpS Try.func87 rfl fun c₀ cs hu => ?_
    apply wpS_seq
    apply wpS_region
    simp [wpOpsS, go_sem, recoverD, hu, Try.ntmps87, Exit.thenS]
    refine wpS_cond (t := true) (by simp [Act.eval, Array.replicate]) ?_
    simp only [if_true]
    refine wpS_of_wp ?_
    go_wp2_with (first | (go_at_call 12; (with_reducible refine (HW.out _).mono ?_); rintro e w' ⟨rfl, rfl⟩))
    go_region_with (first
      | ((with_reducible refine (HF.out _ (by repeat (first | with_reducible exact Below.refl _ _ | with_reducible refine bel_dr ?_))).mono ?_); rintro e w1 ⟨rfl, hb1⟩; have HB1 := Lib.hid (show Below w.heap.size w w1 from ⟨hb1.os, hb1.tape, hb1.output, hb1.size, hb1.block⟩); clear hb1; have KR := Lib.hid (HX.out.below HB1.out); have k0 := KR.out.i0; have yo := KR.out.oz; obtain ⟨eo, fo⟩ := Option.isSome_iff_exists.1 KR.out.o0; have y0 := KR.out.z 0 (by decide); have y1 := KR.out.z 1 (by decide); have y2 := KR.out.z 2 (by decide); have y3 := KR.out.z 3 (by decide); have y4 := KR.out.z 4 (by decide); obtain ⟨e0, f0⟩ := Option.isSome_iff_exists.1 (KR.out.r 0 (by decide)); obtain ⟨e1, f1⟩ := Option.isSome_iff_exists.1 (KR.out.r 1 (by decide)); obtain ⟨e2, f2⟩ := Option.isSome_iff_exists.1 (KR.out.r 2 (by decide)); obtain ⟨e3, f3⟩ := Option.isSome_iff_exists.1 (KR.out.r 3 (by decide)); obtain ⟨e4, f4⟩ := Option.isSome_iff_exists.1 (KR.out.r 4 (by decide))))
    all_goals
      refine ⟨rfl, _, rfl, .tuple #[], ?_, rfl, rfl, w1, HB1.out, rfl⟩
      simp [results, Try.results87, go_sem]
end Go.Proofs.Ytaihdjdaamglnaa
