/- FnExactIsShapes: at every list of texts the program's IsShapes answers as the model's (lists of more than 2^20 texts and signs are not asked). No condition. -/
import Derived.Test.YtaihdjdaamglnacIsShapesLawM3
import Derived.Test.YtaihdjdaamglnacIsShapesLawM2
import Derived.Test.YtaihdjdaamglnacIsShapesLawM0
import Derived.HandedShaped
/- Dividing and joining, plain: what is divided is joined again, and what is joined by a byte that no text has is divided again. -/
namespace Go.Proofs.Ytaihdjdaamglnac
set_option linter.unusedVariables false
open Go.RowKit
theorem joinK_take (x : List (List UInt8)) (y : List (List UInt8)) (sep : List UInt8) : ∀ k, k ≤ x.length → joinK (x ++ y) sep k = joinK x sep k := by
  intro k
  induction k with
  | zero => intro _; rfl
  | succ k ih =>
    intro hk
    have e : (x ++ y).getD k [] = x.getD k [] := by simp [List.getD, List.getElem?_append_left (show k < x.length by omega)]
    simp only [joinK, ih (by omega), e]
theorem joinL_cons (a : List UInt8) (x : List (List UInt8)) (sep : List UInt8) (hx : x ≠ []) : joinL (a :: x) sep = a ++ sep ++ joinL x sep := by
  have key : ∀ k, k < x.length → joinK (a :: x) sep (k + 2) = a ++ sep ++ joinK x sep (k + 1) := by
    intro k
    induction k with
    | zero => intro _; simp [joinK]
    | succ k ih =>
      intro hk
      have h := ih (by omega)
      have e1 : joinK (a :: x) sep (k + 1 + 2) = joinK (a :: x) sep (k + 2) ++ sep ++ x.getD (k + 1) [] := by simp [joinK]
      have e2 : joinK x sep (k + 1 + 1) = joinK x sep (k + 1) ++ sep ++ x.getD (k + 1) [] := by simp [joinK]
      rw [e1, h, e2]; simp
  cases x with
  | nil => exact absurd rfl hx
  | cons b r =>
    have := key r.length (by simp)
    unfold joinL
    simpa using this
theorem joinL_one (a sep : List UInt8) : joinL [a] sep = a := by simp [joinL, joinK]
theorem splitF_ne (sep : List UInt8) (f : Nat) (l : List UInt8) : splitF sep f l ≠ [] := by
  cases f with
  | zero => simp [splitF]
  | succ f => unfold splitF; split <;> simp
theorem index_take (l sep : List UInt8) (i : Nat) (h : Lib.index l sep = i) : l.take i ++ sep ++ l.drop (i + sep.length) = l := by
  rcases Lib.index_spec l sep with ⟨h1, _⟩ | ⟨j, h1, h2, h3, _⟩
  · omega
  · have : j = i := by omega
    subst this
    unfold Lib.occAt at h3
    obtain ⟨t, ht⟩ := List.isPrefixOf_iff_prefix.1 h3
    have e : l.drop (j + sep.length) = t := by rw [← List.drop_drop, ← ht]; simp
    rw [e, List.append_assoc, ht, List.take_append_drop]
theorem join_split (sep : List UInt8) : ∀ (f : Nat) (l : List UInt8), joinL (splitF sep f l) sep = l := by
  intro f
  induction f with
  | zero => intro l; simp [splitF, joinL_one]
  | succ f ih =>
    intro l
    by_cases h : Lib.index l sep < 0
    · rw [splitF_none _ h, joinL_one]
    · obtain ⟨i, hi⟩ := Int.eq_ofNat_of_zero_le (show 0 ≤ Lib.index l sep by omega)
      rw [splitF_some f i hi, joinL_cons _ _ _ (splitF_ne sep f _), ih, index_take l sep i hi]
theorem join_splitL (l sep : List UInt8) : joinL (splitL l sep) sep = l := by
  unfold splitL
  split
  · rw [joinL_one]
  · exact join_split sep _ l
theorem occ_one (l : List UInt8) (c : UInt8) (j : Nat) : Lib.occAt l [c] j = true ↔ l[j]? = some c := by
  unfold Lib.occAt
  rw [List.isPrefixOf_iff_prefix]
  constructor
  · rintro ⟨t, ht⟩
    have : (l.drop j)[0]? = some c := by rw [← ht]; rfl
    simpa using this
  · intro h
    have hj := (List.getElem?_eq_some_iff.1 h)
    obtain ⟨hj, rfl⟩ := hj
    exact ⟨l.drop (j + 1), by rw [List.drop_eq_getElem_cons hj]; rfl⟩
theorem index_none1 {l : List UInt8} {c : UInt8} (h : c ∉ l) : Lib.index l [c] < 0 := by
  have : Lib.index l [c] = -1 := Lib.index_none fun j hj => by
    cases ho : Lib.occAt l [c] j with
    | false => rfl
    | true => exact absurd (List.mem_of_getElem? ((occ_one l c j).1 ho)) h
  omega
theorem index_some1 {a r : List UInt8} {c : UInt8} (h : c ∉ a) : Lib.index (a ++ c :: r) [c] = (a.length : Int) := by
  refine Lib.index_first (by simp) ?_ ?_
  · rw [occ_one]; simp
  · intro j hj
    cases ho : Lib.occAt (a ++ c :: r) [c] j with
    | false => rfl
    | true =>
      have := (occ_one _ c j).1 ho
      rw [List.getElem?_append_left hj] at this
      exact absurd (List.mem_of_getElem? this) h
theorem split_join (c : UInt8) : ∀ (ps : List (List UInt8)) (f : Nat), ps ≠ [] → (∀ p ∈ ps, c ∉ p) → ps.length ≤ f + 1 → splitF [c] f (joinL ps [c]) = ps := by
  intro ps
  induction ps with
  | nil => intro f h; exact absurd rfl h
  | cons a r ih =>
    intro f _ hp hf
    have ha := hp a List.mem_cons_self
    by_cases hr : r = []
    · subst hr
      rw [joinL_one]
      exact splitF_none f (index_none1 ha)
    · have hl : 0 < r.length := List.length_pos_iff.2 hr
      obtain ⟨g, rfl⟩ : ∃ g, f = g + 1 := ⟨f - 1, by simp at hf; omega⟩
      rw [joinL_cons a r [c] hr, List.append_assoc, List.singleton_append, splitF_some g a.length (index_some1 ha)]
      have e1 : (a ++ c :: joinL r [c]).take a.length = a := by simp
      have e2 : (a ++ c :: joinL r [c]).drop (a.length + [c].length) = joinL r [c] := by simp [List.drop_append]
      rw [e1, e2, ih g hr (fun p h => hp p (List.mem_cons_of_mem _ h)) (by simp at hf; omega)]
theorem joinL_ge (ps : List (List UInt8)) (c : UInt8) : ps.length ≤ (joinL ps [c]).length + 1 := by
  induction ps with
  | nil => simp
  | cons a r ih =>
    by_cases hr : r = []
    · subst hr; simp
    · rw [joinL_cons a r [c] hr]; simp; omega
theorem splitL_joinL (c : UInt8) (ps : List (List UInt8)) (h : ps ≠ []) (hp : ∀ p ∈ ps, c ∉ p) : splitL (joinL ps [c]) [c] = ps := by
  unfold splitL
  rw [if_neg (by simp)]
  exact split_join c ps _ h hp (by have := joinL_ge ps c; omega)
theorem splitL_none1 {l : List UInt8} {c : UInt8} (h : c ∉ l) : splitL l [c] = [l] := by
  unfold splitL; rw [if_neg (by simp)]; exact splitF_none _ (index_none1 h)
theorem splitL_ne (l : List UInt8) (c : UInt8) : splitL l [c] ≠ [] := by
  unfold splitL; rw [if_neg (by simp)]; exact splitF_ne _ _ _
theorem joinL_two (a b : List UInt8) (c : UInt8) : joinL [a, b] [c] = a ++ c :: b := by rw [joinL_cons a [b] [c] (by simp), joinL_one]; simp
/-- the text in front of the first c and the text behind it -/
theorem cut_some {a r : List UInt8} {c : UInt8} (h : c ∉ a) : Lib.cut (a ++ c :: r) [c] = (a, r, true) := by
  unfold Lib.cut
  rw [index_some1 h, if_pos (by omega)]
  simp [List.drop_append]
theorem cut_none {a : List UInt8} {c : UInt8} (h : c ∉ a) : Lib.cut a [c] = (a, [], false) := by
  unfold Lib.cut
  rw [if_neg (by have := index_none1 h; omega)]
/-- a text either has no c, or is what stands in front of the first one, and behind it -/
theorem cut_cases (l : List UInt8) (c : UInt8) : c ∉ l ∨ ∃ a r, l = a ++ c :: r ∧ c ∉ a := by
  by_cases h : c ∈ l
  · right
    induction l with
    | nil => simp at h
    | cons x t ih =>
      by_cases hx : x = c
      · subst hx; exact ⟨[], t, rfl, by simp⟩
      · obtain ⟨a, r, e, ha⟩ := ih (by rcases List.mem_cons.1 h with h | h; exact absurd h.symm hx; exact h)
        exact ⟨x :: a, r, by rw [e]; rfl, by simp; exact ⟨fun e => hx e.symm, ha⟩⟩
  · exact Or.inl h
/-- divided into two: there is just one c -/
theorem split_two {l a b : List UInt8} {c : UInt8} (h : splitL l [c] = [a, b]) : l = a ++ c :: b ∧ c ∉ a := by
  have e : l = a ++ c :: b := by rw [← joinL_two, ← h, join_splitL]
  refine ⟨e, ?_⟩
  rcases cut_cases l c with hn | ⟨a', r, e2, ha'⟩
  · rw [splitL_none1 hn] at h; simp at h
  · have : splitL l [c] = a' :: splitF [c] l.length r := by
      have e3 : (a' ++ c :: r).drop (a'.length + [c].length) = r := by simp [List.drop_append]
      have e4 : (a' ++ c :: r).take a'.length = a' := by simp
      unfold splitL; rw [if_neg (by simp), e2, splitF_some _ a'.length (index_some1 ha'), e3, e4]
    rw [this] at h
    injection h with h1 _
    rw [← h1]; exact ha'
theorem cut_len (l sep : List UInt8) : (Lib.cut l sep).1.length ≤ l.length ∧ (Lib.cut l sep).2.1.length ≤ l.length := by
  unfold Lib.cut
  split
  · exact ⟨by simp; omega, by simp⟩
  · exact ⟨Nat.le_refl _, by simp⟩
theorem joinK_part (x : List (List UInt8)) (sep : List UInt8) : ∀ (m k : Nat), k < m → m ≤ x.length → (x.getD k []).length ≤ (joinK x sep m).length := by
  intro m
  induction m with
  | zero => intro k h; omega
  | succ m ih =>
    intro k hk hm
    simp only [joinK, List.length_append]
    rcases Nat.lt_or_ge k m with h | h
    · have := ih k h (by omega); omega
    · rw [show k = m by omega]; omega
theorem split_part (l : List UInt8) (c : UInt8) (p : List UInt8) (h : p ∈ splitL l [c]) : p.length ≤ l.length := by
  obtain ⟨k, hk, rfl⟩ := List.mem_iff_getElem.1 h
  have := joinK_part (splitL l [c]) [c] (splitL l [c]).length k hk (Nat.le_refl _)
  rw [show joinK (splitL l [c]) [c] (splitL l [c]).length = l from join_splitL l [c]] at this
  rw [List.getD_eq_getElem?_getD, List.getElem?_eq_getElem hk] at this
  exact this
theorem dataL (l : List UInt8) : (⟨l.toArray⟩ : ByteArray).data.toList = l := by simp
end Go.Proofs.Ytaihdjdaamglnac
/- Shapes: which are valid; IsShapes of both sides. -/
namespace Go.Proofs.Ytaihdjdaamglnac
set_option linter.unusedVariables false
set_option linter.unusedSimpArgs false
open Go.RowKit
def shapeOk (s : List UInt8) : Bool := decide (s = []) || recB (splitL s [32])
def shapesB (l : List (List UInt8)) : Bool := decide (l.length = 3) && l.all shapeOk
theorem split_small {s : List UInt8} (h : s.length ≤ 1048576) : ∀ t ∈ splitL s [32], t.length ≤ 1048576 := fun t ht => Nat.le_trans (split_part s 32 t ht) h
theorem all_takeS (f : List UInt8 → Bool) (l : List (List UInt8)) (k : Nat) (h : k < l.length) : (l.take (k + 1)).all f = ((l.take k).all f && f l[k]) := by
  rw [List.take_succ_eq_append_getElem h, List.all_append]; simp
theorem all_badS (f : List UInt8 → Bool) (l : List (List UInt8)) (k : Nat) (h : k < l.length) (hb : f l[k] = false) : l.all f = false := by
  rw [List.all_eq_false]; exact ⟨l[k], List.getElem_mem h, by simp [hb]⟩
set_option maxRecDepth 100000 in
set_option maxHeartbeats 1600000 in
theorem isWrongShape_any (s : List UInt8) (m : Int) (w : World) (hM : w.cell? ⟨0, 0, none⟩ = some (.int .i64 m)) (hs : s.length ≤ 1048576) :
    Calls Try.prog 12 #[.string ⟨s.toArray⟩] w fun e w' => e = .returned (.bool (!shapeOk s)) ∧ Below w.heap.size w w' := by
  by_cases h0 : s = []
  · subst h0
    have HE := Lib.hid (show shapeOk [] = true from rfl)
    rw [HE.out]
    clear HE
    go_enter Try.func12, Try.ntmps12
    go_wp2_with fail
    go_ret
    exact ⟨rfl, Below.refl _ _⟩
  · have HSP := Lib.hid (implSplit_any ⟨s.toArray⟩ ⟨#[32]⟩ m w hM (by simpa [ByteArray.size] using hs) (by decide))
    simp only [List.toList_toArray] at HSP
    have HRF := Lib.hid (fun v W h => implRecipeFace_any v (splitL s [32]) W h (split_small hs))
    have HO := Lib.hid (show shapeOk s = recB (splitL s [32]) from by unfold shapeOk; rw [decide_eq_false h0, Bool.false_or])
    have hsz := splitL_len s [32]
    have hlen : (splitL s [32]).length ≤ 4194304 := by omega
    have h0b : (s == []) = false := by simpa using h0
    rw [HO.out]
    unfold GivesRow at HSP
    generalize recB (splitL s [32]) = b at *
    generalize recI (splitL s [32]) = f at *
    have HL := Lib.hid hlen
    clear h0 HO hsz hlen hM
    generalize hsl : splitL s [32] = sl at *
    clear hsl
    go_enter Try.func12, Try.ntmps12
    go_wp2_with fail
    refine HSP.out.mono ?_
    rintro e w1 ⟨v, rfl, ho, hb⟩
    have HB := Lib.hid hb
    have HR := Lib.hid (owns_row ho (by have := HL.out; omega))
    clear ho hb
    go_wp2_with fail
    refine (HRF.out _ _ HR.out).mono ?_
    rintro e w2 ⟨rfl, hb⟩
    have HB2 := Lib.hid (belS HB.out hb)
    clear hb
    go_wp2_with fail
    go_ret
    exact ⟨rfl, HB2.out⟩
def rowM (m : Int) (w : World) : Prop := w.cell? ⟨0, 0, none⟩ = some (.int .i64 m)
theorem rowM_below {m : Int} {w w' : World} (h : rowM m w) (hb : Below w.heap.size w w') : rowM m w' := (hb.cell (p := ⟨0, 0, none⟩) (World.block_lt_of_cell? w _ h)).trans h
set_option maxRecDepth 100000 in
set_option maxHeartbeats 1600000 in
theorem idxShape_any (v : Value) (l : List (List UInt8)) (m : Int) (w : World) (hM : rowM m w) (hx : RowAt w v (l.map strV)) (hs : ∀ s ∈ l, s.length ≤ 1048576) :
    Calls Try.prog 15 #[v, .func (.func 12) #[] #[]] w fun e w' => ∃ i : Int, e = .returned (.int .i64 i) ∧ decide (0 ≤ i) = !(l.all shapeOk) ∧ Below w.heap.size w w' := by
  obtain ⟨a, c, rfl, hl, hcap⟩ := rowAt_cap hx
  simp only [List.length_map] at *
  have HX := Lib.hid hx
  have HS := Lib.hid hs
  have HM := Lib.hid hM
  clear hx hs hM
  unfold maxLen at hl
  go_enter Try.func15, Try.ntmps15
  go_wp2
  go_loopw [5, 8] (fun _ i wr => ∃ k : Nat, k ≤ l.length ∧ i = .int .i64 k ∧ (l.take k).all shapeOk = true ∧ Below w.heap.size w wr) (fun _ i _ => l.length - (intOf i).toNat)
  case atStart => exact ⟨0, Nat.zero_le _, rfl, rfl, Below.refl _ _⟩
  case round =>
    obtain ⟨k, hk, rfl, ht, hbr⟩ := hrel
    have HB := Lib.hid hbr
    have HXr := Lib.hid (RowAt.below HX.out hbr (Nat.le_refl _))
    have HT := Lib.hid ht
    have HMr := Lib.hid (rowM_below HM.out hbr)
    clear ht hbr
    by_cases hlt : k < l.length
    · obtain ⟨b, o, rfl, hbw, hrc⟩ := rowAt_cell HXr.out k (by simpa using hlt)
      clear hrc
      have d0 := rowAt_cellS HXr.out k (by simpa using hlt)
      simp only [List.getElem_map, strV] at d0
      have HIW := Lib.hid (isWrongShape_any l[k] m wr HMr.out (HS.out _ (List.getElem_mem hlt)))
      have HY := Lib.hid (all_badS shapeOk l k hlt)
      have HN := Lib.hid (show shapeOk l[k] = true → (l.take (k + 1)).all shapeOk = true from fun h => by rw [all_takeS _ _ _ hlt, HT.out, h]; rfl)
      generalize shapeOk l[k] = so at *
      generalize l[k] = s at *
      have hkl : (k : Int) < (l.length : Int) := by omega
      have h0k : (0 : Int) ≤ (k : Int) := by omega
      cases so
      · have HR := Lib.hid (HY.out rfl)
        clear HY HN
        go_wp2_with fail
        refine HIW.out.mono ?_
        rintro e w1 ⟨rfl, hb⟩
        have HB1 := Lib.hid (belS HB.out hb)
        clear hb
        go_wp2_with fail
        go_ret
        exact ⟨_, rfl, by rw [HR.out]; exact decide_eq_true h0k, HB1.out⟩
      · have HR := Lib.hid (HN.out rfl)
        clear HY HN
        go_wp2_with fail
        refine HIW.out.mono ?_
        rintro e w1 ⟨rfl, hb⟩
        have HB1 := Lib.hid (belS HB.out hb)
        clear hb
        go_wp2_with fail
        exact ⟨⟨k + 1, by omega, by go_num, HR.out, HB1.out⟩, by simp [intOf]; omega⟩
    · have HR := Lib.hid (show l.all shapeOk = true by have h := HT.out; rwa [List.take_of_length_le (by omega)] at h)
      have hkl : ¬ (k : Int) < (l.length : Int) := by omega
      go_wp2_with fail
      go_ret
      exact ⟨-1, rfl, by rw [HR.out]; rfl, HB.out⟩
set_option maxRecDepth 100000 in
theorem hasShape_any (v : Value) (l : List (List UInt8)) (m : Int) (w : World) (hM : rowM m w) (hx : RowAt w v (l.map strV)) (hs : ∀ s ∈ l, s.length ≤ 1048576) :
    Calls Try.prog 11 #[v, .func (.func 12) #[] #[]] w fun e w' => e = .returned (.bool (!(l.all shapeOk))) ∧ Below w.heap.size w w' := by
  have HI := Lib.hid (idxShape_any v l m w hM hx hs)
  clear hx hs hM
  go_enter Try.func11, Try.ntmps11
  go_wp2_with fail
  refine HI.out.mono ?_
  rintro e w1 ⟨i, rfl, hi, hb⟩
  have HB := Lib.hid hb
  have HH := Lib.hid hi
  clear hb hi
  go_wp2_with fail
  go_ret
  exact ⟨ret_bool HH.out, HB.out⟩
set_option maxRecDepth 100000 in
theorem implIsShapes_any (v : Value) (l : List (List UInt8)) (m : Int) (w : World) (hM : rowM m w) (hx : RowAt w v (l.map strV)) (hs : ∀ s ∈ l, s.length ≤ 1048576) :
    Calls Try.prog 7 #[v] w fun e w' => e = .returned (.bool (shapesB l)) ∧ Below w.heap.size w w' := by
  have HI := Lib.hid (hasShape_any v l m w hM hx hs)
  obtain ⟨a, c, rfl, hl, hcap⟩ := rowAt_cap hx
  simp only [List.length_map] at *
  clear hx hs hM
  unfold shapesB
  generalize l.all shapeOk = ok at *
  by_cases h3 : l.length = 3
  · have hb3 : ((l.length : Int) == 3) = true := by rw [h3]; rfl
    rw [decide_eq_true h3, Bool.true_and]
    clear h3
    go_enter Try.func7, Try.ntmps7
    go_wp2_with fail
    refine HI.out.mono ?_
    rintro e w1 ⟨rfl, hb⟩
    have HB := Lib.hid hb
    clear hb
    cases ok
    · go_wp2_with fail
      go_ret
      exact ⟨rfl, HB.out⟩
    · go_wp2_with fail
      go_ret
      exact ⟨rfl, HB.out⟩
  · have hb3 : ((l.length : Int) == 3) = false := by rw [beq_eq_false_iff_ne]; omega
    rw [decide_eq_false h3, Bool.false_and]
    clear h3
    go_enter Try.func7, Try.ntmps7
    go_wp2_with fail
    go_ret
    exact ⟨rfl, Below.refl _ _⟩
def recS (s : List UInt8) : List (List UInt8) := if s = [] then [] else splitL s [32]
set_option maxRecDepth 100000 in
set_option maxHeartbeats 1600000 in
theorem l9Recipe_any (s : List UInt8) (w : World) (hs : s.length ≤ 1048576) :
    Calls Try.prog 10 #[.string ⟨s.toArray⟩] w fun e w' => ∃ v, e = .returned v ∧ RowAt w' v ((recS s).map strV) ∧ Below w.heap.size w w' := by
  by_cases h0 : s = []
  · subst h0
    have HO := Lib.hid (owns_new w)
    go_enter Try.func10, Try.ntmps10
    go_wp2_with fail
    go_ret
    exact ⟨_, rfl, owns_row HO.out (Nat.zero_le _), bx_box w _⟩
  · have HSP := Lib.hid (specSplit_any ⟨s.toArray⟩ ⟨#[32]⟩ w (by simpa [ByteArray.size] using hs) (by decide))
    simp only [List.toList_toArray] at HSP
    have HE := Lib.hid (show recS s = splitL s [32] from if_neg h0)
    have hsz := splitL_len s [32]
    have HL := Lib.hid (show (splitL s [32]).length ≤ 4194304 by omega)
    have h0b : (s == []) = false := by simpa using h0
    rw [HE.out]
    unfold GivesRow at HSP
    clear h0 HE hsz
    generalize splitL s [32] = sl at *
    go_enter Try.func10, Try.ntmps10
    go_wp2_with fail
    refine HSP.out.mono ?_
    rintro e w1 ⟨v, rfl, ho, hb⟩
    have HB := Lib.hid hb
    have HR := Lib.hid (owns_row ho (by have := HL.out; omega))
    clear ho hb
    go_wp2_with fail
    go_ret
    exact ⟨_, rfl, HR.out, HB.out⟩
set_option maxRecDepth 100000 in
set_option maxHeartbeats 1600000 in
theorem specIsShapes_any (v : Value) (l : List (List UInt8)) (w : World) (hx : RowAt w v (l.map strV)) (hs : ∀ s ∈ l, s.length ≤ 1048576) :
    Calls Try.prog 5 #[v] w fun e w' => e = .returned (.bool (shapesB l)) ∧ Below w.heap.size w w' := by
  obtain ⟨a, c, rfl, hl, hcap⟩ := rowAt_cap hx
  simp only [List.length_map] at *
  have HX := Lib.hid hx
  have HS := Lib.hid hs
  have HQ := Lib.hid (show shapesB l = (decide (l.length = 3) && l.all shapeOk) from rfl)
  generalize shapesB l = q at *
  clear hx hs
  unfold maxLen at hl
  go_enter Try.func5, Try.ntmps5
  go_wp2
  go_loopw [4, 5, 6, 9] (fun _ _ _ i wr => ∃ k : Nat, k ≤ l.length ∧ i = .int .i64 k ∧ (l.take k).all shapeOk = true ∧ Below w.heap.size w wr) (fun _ _ _ i _ => l.length - (intOf i).toNat)
  case atStart => exact ⟨0, Nat.zero_le _, rfl, rfl, Below.refl _ _⟩
  case round =>
    obtain ⟨k, hk, rfl, ht, hbr⟩ := hrel
    have HB := Lib.hid hbr
    have HXr := Lib.hid (RowAt.below HX.out hbr (Nat.le_refl _))
    have HT := Lib.hid ht
    clear ht hbr
    by_cases hlt : k < l.length
    · obtain ⟨b, o, rfl, hbw, hrc⟩ := rowAt_cell HXr.out k (by simpa using hlt)
      clear hrc
      have d0 := rowAt_cellS HXr.out k (by simpa using hlt)
      simp only [List.getElem_map, strV] at d0
      have hsm := HS.out _ (List.getElem_mem hlt)
      have HL9 := Lib.hid (l9Recipe_any l[k] wr hsm)
      have HRF := Lib.hid (fun v W (h : RowAt W v ((recS l[k]).map strV)) => specRecipeFace_any v (recS l[k]) W h (by unfold recS; split; (intro s hs; cases hs); exact split_small hsm))
      have HY := Lib.hid (all_badS shapeOk l k hlt)
      have HN := Lib.hid (show shapeOk l[k] = true → (l.take (k + 1)).all shapeOk = true from fun h => by rw [all_takeS _ _ _ hlt, HT.out, h]; rfl)
      have HO := Lib.hid (show shapeOk l[k] = (decide (l[k] = []) || recB (recS l[k])) from by unfold shapeOk recS; split; (rename_i h; rw [decide_eq_true h]; rfl); rfl)
      generalize shapeOk l[k] = so at *
      generalize recB (recS l[k]) = rb at *
      generalize recI (recS l[k]) = ri at *
      generalize recS l[k] = rs at *
      generalize l[k] = s at *
      have hkl : (k : Int) < (l.length : Int) := by omega
      have hq0 : so = false → q = false := fun h => by rw [HQ.out, HY.out h, Bool.and_false]
      have HQ0 := Lib.hid hq0
      clear hq0 hsm
      go_wp2_with fail
      refine HL9.out.mono ?_
      rintro e w1 ⟨v1, rfl, hr, hb⟩
      have HB1 := Lib.hid (belS HB.out hb)
      have HR1 := Lib.hid hr
      clear hb hr
      go_wp2_with fail
      refine (HRF.out _ _ HR1.out).mono ?_
      rintro e w2 ⟨rfl, hb⟩
      have HB2 := Lib.hid (belS HB1.out hb)
      clear hb
      rcases s with _ | ⟨x, r⟩
      · have hso : so = true := by rw [HO.out]; rfl
        have HR := Lib.hid (HN.out hso)
        clear HO HY HN
        go_wp2_with fail
        exact ⟨⟨k + 1, by omega, by go_num, HR.out, HB2.out⟩, by simp [intOf]; omega⟩
      · have hso : so = rb := by rw [HO.out, decide_eq_false (by simp), Bool.false_or]
        clear HO
        subst hso
        cases so
        · have hqf := HQ0.out rfl
          subst hqf
          clear HY HN
          go_wp2_with fail
          go_ret
          exact ⟨rfl, HB2.out⟩
        · have HR := Lib.hid (HN.out rfl)
          clear HY HN
          go_wp2_with fail
          exact ⟨⟨k + 1, by omega, by go_num, HR.out, HB2.out⟩, by simp [intOf]; omega⟩
    · have hall : l.all shapeOk = true := by have h := HT.out; rwa [List.take_of_length_le (by omega)] at h
      have hq : q = decide (l.length = 3) := by rw [HQ.out, hall, Bool.and_true]
      have HE := Lib.hid (show decide (l.length = 3) = ((l.length : Int) == 3) from by rw [Bool.eq_iff_iff]; simp; omega)
      have hkl : ¬ (k : Int) < (l.length : Int) := by omega
      clear hall
      by_cases h3 : l.length = 3
      · have hb3 : ((l.length : Int) == 3) = true := by rw [h3]; rfl
        obtain rfl : q = true := by rw [hq]; exact decide_eq_true h3
        clear hq h3 HE
        go_wp2_with fail
        go_ret
        exact ⟨rfl, HB.out⟩
      · have hb3 : ((l.length : Int) == 3) = false := by rw [beq_eq_false_iff_ne]; omega
        obtain rfl : q = false := by rw [hq]; exact decide_eq_false h3
        clear hq h3 HE
        go_wp2_with fail
        go_ret
        exact ⟨rfl, HB.out⟩
end Go.Proofs.Ytaihdjdaamglnac
/- Rows of texts as rows of flat elements: the laws' helpers in that form. -/
namespace Go.Proofs.Ytaihdjdaamglnac
set_option linter.unusedVariables false
open Go.RowKit
theorem ownsF_str {w : World} {B : Nat} {v : Value} {x : List (List UInt8)} (h : Owns w B v x) : OwnsF cStr 9 1 w B v x := by unfold OwnsF; rw [cStr_map]; exact h
theorem owns_strF {w : World} {B : Nat} {v : Value} {x : List (List UInt8)} (h : OwnsF cStr 9 1 w B v x) : Owns w B v x := by unfold OwnsF at h; rw [cStr_map] at h; exact h
theorem givesF_str {x : List (List UInt8)} {w : World} {e : Ending} {w' : World} (h : GivesRow x w e w') : GivesF cStr 9 1 x w e w' := by
  obtain ⟨v, h1, h2, h3⟩ := h; exact ⟨v, h1, ownsF_str h2, h3⟩
theorem eqStringS_f (v u : Value) (x y : List (List UInt8)) (w : World) (hx : FlatAt cStr 1 w v x) (hy : FlatAt cStr 1 w u y) : Calls Try.prog 8 #[v, u] w fun e w' => e = .returned (.bool (decide (x = y))) ∧ Below w.heap.size w w' :=
  eqStringS_any v u x y w (row_of_flat hx) (row_of_flat hy)
theorem marksString_len (k : Int) (n : Nat) : (marks k n).length = n := marks_len k n
theorem szStringS_f (v : Value) (x : List (List UInt8)) (left : Int) (w : World) (hx : FlatAt cStr 1 w v x) (hs : ∀ s ∈ x, s.length ≤ maxLen) (h0 : 0 ≤ left) (h1 : left ≤ 1099511627776) :
    Calls Try.prog 4 #[v, .int .i64 left] w fun e w' => SzF ((x.length + sumF List.length x : Nat) : Int) left w e w' :=
  (szStringS_any v x left w (row_of_flat hx) hs h0 h1).mono fun e w' ⟨r, h1, h2, h3, h4⟩ => ⟨r, h1, h2, fun h => by rw [← total_sum]; have := h3 h; push_cast; omega, by subst h4; exact Below.refl _ _⟩
theorem toStringS_f (v : Value) (x : List (List UInt8)) (w : World) (hx : FlatAt cStr 1 w v x) (hm : x.length ≤ 2097152) :
    Calls Try.prog 6 #[v] w fun e w' => e = .returned (.slice (some ⟨w.heap.size, 0, none⟩) x.length x.length) ∧ OwnsF cStr 9 1 w' w.heap.size (.slice (some ⟨w.heap.size, 0, none⟩) x.length x.length) x ∧ Below w.heap.size w w' :=
  (toStringS_any v x w (row_of_flat hx) hm).mono fun e w' ⟨h1, h2, h3⟩ => ⟨h1, ownsF_str h2, h3⟩
theorem toStringS_g (v : Value) (x : List (List UInt8)) (w : World) (hx : FlatAt cStr 1 w v x) (hm : x.length ≤ 2097152) :
    Calls Try.prog 6 #[v] w fun e w' => GivesF cStr 9 1 x w e w' :=
  (toStringS_f v x w hx hm).mono fun e w' ⟨h1, h2, h3⟩ => ⟨_, h1, h2, h3⟩
end Go.Proofs.Ytaihdjdaamglnac
namespace Go.Proofs.Ytaihdjdaamglnac
set_option linter.unusedVariables false
set_option linter.unusedSimpArgs false
open Go.ChangeShapes Go.WideShapes Go.ChangeAt Go.RowKit Go.WideMaps Go.WideElems
open Go.ChangeMaps (open_string shut_string)
set_option maxRecDepth 100000 in
set_option maxHeartbeats 3200000 in
theorem exactIsShapes_any (v0 : Value) (x0 : List (List UInt8)) (w : World) (ar0 : RowAt w v0 (x0.map strV)) (g0 : ∀ d ∈ x0, d.length ≤ maxLen) (m : Int) (hm : w.cell? ⟨0, 0, none⟩ = some (.int .i64 m)) :
    Calls Try.prog 3 #[v0] w fun e w' => e = .returned (.bool true) ∧ Below w.heap.size w w' := by
  have HG := Lib.hid (World.block_lt_of_cell? w _ hm)
  have HM := Lib.hid hm
  clear hm
  have a0 := flat_of_row ar0
  clear ar0
  have A0 := Lib.hid a0
  have G0 := Lib.hid g0
  clear a0 g0
  go_enter Try.func3, Try.ntmps3
  go_wp2_with fail
  refine (szStringS_f v0 x0 1048576 _ (FlatAt.below A0.out (by repeat (first | exact Below.refl _ _ | refine Below.alloc ?_ (by simp; try omega) _ | refine Below.setCell ?_ (by simp; try omega) _ | refine belN ?_ _ | refine belD ?_)) (Nat.le_refl _)) G0.out (by omega) (by omega)).mono ?_
  rintro e w1 ⟨r0, rfl, hr0a, hr0b, hb0⟩
  have hb := below_step (w := w) (by repeat (first | exact Below.refl _ _ | refine Below.alloc ?_ (by simp; try omega) _ | refine Below.setCell ?_ (by simp; try omega) _ | refine belN ?_ _ | refine belD ?_)) hb0
  have Cw_w1 := Lib.hid hb
  have A0_w1 := Lib.hid (FlatAt.below A0.out hb (Nat.le_refl _))
  clear hb hb0
  by_cases hr0 : r0 < 0
  · clear hr0b
    go_wp2_with fail
    go_ret
    exact ⟨rfl, below_to Cw_w1.out (by repeat (first | exact Below.refl _ _ | refine Below.alloc ?_ (by simp; try omega) _ | refine Below.setCell ?_ (by simp; try omega) _ | refine belN ?_ _ | refine belD ?_))⟩
  · have hs0 := hr0b (by omega)
    clear hr0b
    have HSZ := Lib.hid (show (x0.length + sumF List.length x0) ≤ 1048576 by push_cast; omega)
    clear hs0
    have HSM0 := Lib.hid (show x0.length ≤ 1048576 by have h := HSZ.out; omega)
    have HZ := Lib.hid (show ∀ s ∈ x0, s.length ≤ 1048576 from fun s hs => by have h := HSZ.out; have h2 := sumF_mem List.length x0 s hs; omega)
    have HSP := Lib.hid (fun v w1 (h : FlatAt cStr 1 w1 v x0) => specIsShapes_any v x0 w1 (row_of_flat h) HZ.out)
    have HIM := Lib.hid (fun v w1 (h : FlatAt cStr 1 w1 v x0) (hM : w1.cell? ⟨0, 0, none⟩ = some (.int .i64 m)) => implIsShapes_any v x0 m w1 hM (row_of_flat h) HZ.out)
    generalize shapesB x0 = b at *
    go_wp2_with fail
    refine (toStringS_g v0 x0 _ (FlatAt.below A0_w1.out (by repeat (first | exact Below.refl _ _ | refine Below.alloc ?_ (by simp; try omega) _ | refine Below.setCell ?_ (by simp; try omega) _ | refine belN ?_ _ | refine belD ?_)) (Nat.le_refl _)) (by have := HSM0.out; omega)).mono ?_
    rintro e w2 ⟨u1, rfl, ho, hb0⟩
    have hb := below_step (w := w1) (by repeat (first | exact Below.refl _ _ | refine Below.alloc ?_ (by simp; try omega) _ | refine Below.setCell ?_ (by simp; try omega) _ | refine belN ?_ _ | refine belD ?_)) hb0
    have Cw_w2 := Lib.hid (Cw_w1.out.trans (hb.mono Cw_w1.out.size))
    have A0_w2 := Lib.hid (FlatAt.below A0_w1.out hb (Nat.le_refl _))
    have ho := (show OwnsF cStr 9 1 _ _ _ x0 from ho)
    obtain ⟨LS1, hLS1, ho⟩ := own_lo ho
    try simp at hLS1
    have HLS1 := Lib.hid hLS1
    clear hLS1
    have S1 := Lib.hid (ownR_of ho)
    have S1a := Lib.hid (ownsF_at ho (by have := HSM0.out; omega))
    clear ho
    clear hb hb0
    go_wp2_with fail
    refine (HSP.out u1 _ (FlatAt.below S1a.out (by repeat (first | exact Below.refl _ _ | refine Below.alloc ?_ (by simp; try omega) _ | refine Below.setCell ?_ (by simp; try omega) _ | refine belN ?_ _ | refine belD ?_)) (Nat.le_refl _))).mono ?_
    rintro e w3 ⟨rfl, hb0⟩
    have hb := below_step (w := w2) (by repeat (first | exact Below.refl _ _ | refine Below.alloc ?_ (by simp; try omega) _ | refine Below.setCell ?_ (by simp; try omega) _ | refine belN ?_ _ | refine belD ?_)) hb0
    have Cw_w3 := Lib.hid (Cw_w2.out.trans (hb.mono Cw_w2.out.size))
    have A0_w3 := Lib.hid (FlatAt.below A0_w2.out hb (Nat.le_refl _))
    have S1a_w3 := Lib.hid (FlatAt.below S1a.out hb (Nat.le_refl _))
    have S1_w3 := Lib.hid (ownR_below S1.out hb (Nat.le_refl _))
    clear hb hb0
    go_wp2_with fail
    refine (toStringS_g v0 x0 _ (FlatAt.below A0_w3.out (by repeat (first | exact Below.refl _ _ | refine Below.alloc ?_ (by simp; try omega) _ | refine Below.setCell ?_ (by simp; try omega) _ | refine belN ?_ _ | refine belD ?_)) (Nat.le_refl _)) (by have := HSM0.out; omega)).mono ?_
    rintro e w4 ⟨u2, rfl, ho, hb0⟩
    have hb := below_step (w := w3) (by repeat (first | exact Below.refl _ _ | refine Below.alloc ?_ (by simp; try omega) _ | refine Below.setCell ?_ (by simp; try omega) _ | refine belN ?_ _ | refine belD ?_)) hb0
    have Cw_w4 := Lib.hid (Cw_w3.out.trans (hb.mono Cw_w3.out.size))
    have A0_w4 := Lib.hid (FlatAt.below A0_w3.out hb (Nat.le_refl _))
    have ho := (show OwnsF cStr 9 1 _ _ _ x0 from ho)
    obtain ⟨LX2, hLX2, ho⟩ := own_lo ho
    try simp at hLX2
    have HLX2 := Lib.hid hLX2
    clear hLX2
    have X2 := Lib.hid (ownR_of ho)
    have X2a := Lib.hid (ownsF_at ho (by have := HSM0.out; omega))
    clear ho
    clear hb hb0
    go_wp2_with fail
    refine (HIM.out u2 _ (FlatAt.below X2a.out (by repeat (first | exact Below.refl _ _ | refine Below.alloc ?_ (by simp; try omega) _ | refine Below.setCell ?_ (by simp; try omega) _ | refine belN ?_ _ | refine belD ?_)) (Nat.le_refl _)) (maxlen_at Cw_w4.out HG.out HM.out (by repeat (first | exact Below.refl _ _ | refine Below.alloc ?_ (by simp; try omega) _ | refine Below.setCell ?_ (by simp; try omega) _ | refine belN ?_ _ | refine belD ?_)))).mono ?_
    rintro e w5 ⟨rfl, hb0⟩
    have hb := below_step (w := w4) (by repeat (first | exact Below.refl _ _ | refine Below.alloc ?_ (by simp; try omega) _ | refine Below.setCell ?_ (by simp; try omega) _ | refine belN ?_ _ | refine belD ?_)) hb0
    have Cw_w5 := Lib.hid (Cw_w4.out.trans (hb.mono Cw_w4.out.size))
    have A0_w5 := Lib.hid (FlatAt.below A0_w4.out hb (Nat.le_refl _))
    have X2a_w5 := Lib.hid (FlatAt.below X2a.out hb (Nat.le_refl _))
    have X2_w5 := Lib.hid (ownR_below X2.out hb (Nat.le_refl _))
    clear hb hb0
    cases b
    all_goals
      go_wp2_with fail
      refine (toStringS_g v0 x0 _ (FlatAt.below A0_w5.out (by repeat (first | exact Below.refl _ _ | refine Below.alloc ?_ (by simp; try omega) _ | refine Below.setCell ?_ (by simp; try omega) _ | refine belN ?_ _ | refine belD ?_)) (Nat.le_refl _)) (by have := HSM0.out; omega)).mono ?_
      rintro e w6 ⟨u3, rfl, ho, hb0⟩
      have hb := below_step (w := w5) (by repeat (first | exact Below.refl _ _ | refine Below.alloc ?_ (by simp; try omega) _ | refine Below.setCell ?_ (by simp; try omega) _ | refine belN ?_ _ | refine belD ?_)) hb0
      have Cw_w6 := Lib.hid (Cw_w5.out.trans (hb.mono Cw_w5.out.size))
      have A0_w6 := Lib.hid (FlatAt.below A0_w5.out hb (Nat.le_refl _))
      have X2a_w6 := Lib.hid (FlatAt.below X2a_w5.out hb (Nat.le_refl _))
      have X2_w6 := Lib.hid (ownR_below X2_w5.out hb (Nat.le_refl _))
      have ho := (show OwnsF cStr 9 1 _ _ _ x0 from ho)
      obtain ⟨LZ3, hLZ3, ho⟩ := own_lo ho
      try simp at hLZ3
      have HLZ3 := Lib.hid hLZ3
      clear hLZ3
      have Z3 := Lib.hid (ownR_of ho)
      have Z3a := Lib.hid (ownsF_at ho (by have := HSM0.out; omega))
      clear ho
      clear hb hb0
      go_wp2_with fail
      refine (eqStringS_f u2 u3 x0 x0 _ (FlatAt.below X2a_w6.out (by repeat (first | exact Below.refl _ _ | refine Below.alloc ?_ (by simp; try omega) _ | refine Below.setCell ?_ (by simp; try omega) _ | refine belN ?_ _ | refine belD ?_)) (Nat.le_refl _)) (FlatAt.below Z3a.out (by repeat (first | exact Below.refl _ _ | refine Below.alloc ?_ (by simp; try omega) _ | refine Below.setCell ?_ (by simp; try omega) _ | refine belN ?_ _ | refine belD ?_)) (Nat.le_refl _))).mono ?_
      rintro e w7 ⟨rfl, hb0⟩
      have hb := below_step (w := w6) (by repeat (first | exact Below.refl _ _ | refine Below.alloc ?_ (by simp; try omega) _ | refine Below.setCell ?_ (by simp; try omega) _ | refine belN ?_ _ | refine belD ?_)) hb0
      have Cw_w7 := Lib.hid (Cw_w6.out.trans (hb.mono Cw_w6.out.size))
      have A0_w7 := Lib.hid (FlatAt.below A0_w6.out hb (Nat.le_refl _))
      have X2a_w7 := Lib.hid (FlatAt.below X2a_w6.out hb (Nat.le_refl _))
      have X2_w7 := Lib.hid (ownR_below X2_w6.out hb (Nat.le_refl _))
      have Z3a_w7 := Lib.hid (FlatAt.below Z3a.out hb (Nat.le_refl _))
      have Z3_w7 := Lib.hid (ownR_below Z3.out hb (Nat.le_refl _))
      rw [show decide (x0 = x0) = true by simp]
      clear hb hb0
      go_wp2_with fail
      go_ret
      exact ⟨rfl, below_to Cw_w7.out (by repeat (first | exact Below.refl _ _ | refine Below.alloc ?_ (by simp; try omega) _ | refine Below.setCell ?_ (by simp; try omega) _ | refine belN ?_ _ | refine belD ?_))⟩
set_option maxRecDepth 100000 in
theorem fnExactIsShapes_lifted (os : Os) (started : os.Started) (H : Type) (enc : TypeId × Value → H) :
    ReturnsInHanded {} Try.checked os 3 .any (Rows.fnExactIsShapesSpec.pre6 enc Try.prog Try.f3 Rows.fnExactIsShapesRow.domain false) (Rows.fnExactIsShapesSpec.post enc Try.prog Try.f3 false true false false) := by
  refine returnsInHanded_of_change_shaped (C := Try.checked) ownK started (by kernel_rfl) Try.func3
    (ChangeSpec.witness6 (enc := enc) (C := Try.checked) false ⟨#[], #[.slice none 0 0], []⟩ 8 (by kernel_rfl) (by kernel_rfl) (by kernel_rfl) (by kernel_rfl)) ?_
  intro W base args ds gs before hval0 hW _ _ hsh _
  have hval : ∀ (j : Nat) t v, Try.f3.params[j]? = some t → args[j]? = some v → Value.okWide Try.prog W .any base t v := hval0
  have hW' := hW
  obtain ⟨p, q, hA0, _, rfl, _, _⟩ := hW
  have hA : DataW.TrodAll enc Try.prog W 0 (fun _ => true) true Try.f3.params.toList args.toList ds p := hA0
  rw [Try.params3] at hA hval
  obtain ⟨v0, vs0, d0, ds0, p0, q0, hargs, rfl, rfl, h0, r0⟩ := trodAll_cons hA
  obtain ⟨rfl, rfl, rfl⟩ := trodAll_nil r0
  obtain rfl : args = #[v0] := by cases args; simp_all
  obtain ⟨l0, w0, z0⟩ := open_strRowL Try.underlying22 Try.underlying9 (by kernel_rfl) (hval 0 22 v0 rfl rfl) h0
  clear hA0 hval0
  obtain ⟨m, hm⟩ := Try.laysM143.s1_3 W hsh
  refine (exactIsShapes_any v0 l0 W w0 z0 m hm).mono fun e W1 ⟨he, hb⟩ => ?_
  subst he
  exact ⟨_, rfl, law_post laidK rfl (by kernel_rfl) Try.underlying4 (by kernel_rfl) (fun ds h => by match ds, h with | [_], _ => rfl) hW' hb⟩
theorem fnExactIsShapes_closed : joinedFacts Try.prog 3 Try.f3 Rows.fnExactIsShapesSpec Rows.fnExactIsShapesRow = true := by unfold joinedFacts; rw [mayEnter_k, liftsFinal_k, make_k]; kernel_rfl
theorem fnExactIsShapes_holds : Rows.FnExactIsShapesSaid :=
  OpenClaim.holds_of_wide 3 Try.f3 rfl rfl rfl rfl rfl rfl rfl ⟨rfl, rfl, rfl, rfl, rfl⟩ rfl rfl rfl rfl rfl (by kernel_rfl) Try.func3 fnExactIsShapes_closed
    (of_decide_eq_true (by kernel_rfl)) (by unfold Func.isWrapper; first | (rw [if_pos (by decide +kernel)]; kernel_rfl) | (rw [if_neg (by decide +kernel)]; exact ⟨rfl, rfl⟩))
    (fun os started H enc _ => fnExactIsShapes_lifted os started H enc)
end Go.Proofs.Ytaihdjdaamglnac
