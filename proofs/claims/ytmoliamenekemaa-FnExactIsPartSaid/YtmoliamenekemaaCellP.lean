/- Cells, plain: which lists are cells, how they are written and read; the lenient reading held against the writing is the strict one. -/
import Derived.Test.YtmoliamenekemaaTCell
import Derived.Test.YtmoliamenekemaaSplitP
import Derived.Test.YtmoliamenekemaaL01d
import Derived.Test.YtmoliamenekemaaAscP
namespace Go.Proofs.Ytmoliamenekemaa
set_option linter.unusedVariables false
open Go.RowKit
instance : Inhabited CellD := ⟨⟨[], 0⟩⟩
def numB (n : Int) : Bool := decide (0 ≤ n) && decide (n ≤ 999)
def okAt (l : List CellD) (i : Nat) : Bool := nameB (l.getD i default).fKey && numB (l.getD i default).fValue && (decide (i = 0) || Op.bytesLess (l.getD (i - 1) default).fKey (l.getD i default).fKey)
def okTo (l : List CellD) (k : Nat) : Bool := (List.range k).all (okAt l)
def cellsB (l : List CellD) : Bool := decide (l.length ≤ 4) && okTo l l.length
theorem okTo_zero (l : List CellD) : okTo l 0 = true := rfl
theorem okTo_succ (l : List CellD) (k : Nat) : okTo l (k + 1) = (okTo l k && okAt l k) := by simp [okTo, List.range_succ]
theorem okTo_le (l : List CellD) (k m : Nat) (h : k ≤ m) (hm : okTo l m = true) : okTo l k = true := by
  unfold okTo at *
  rw [List.all_eq_true] at *
  intro i hi
  exact hm i (by rw [List.mem_range] at *; omega)
theorem okTo_at (l : List CellD) (k i : Nat) (h : okTo l k = true) (hi : i < k) : okAt l i = true := by
  unfold okTo at h; rw [List.all_eq_true] at h; exact h i (by rw [List.mem_range]; exact hi)
theorem cellsB_bad (l : List CellD) (k : Nat) (hk : k < l.length) (h : okAt l k = false) : cellsB l = false := by
  cases hc : cellsB l with
  | false => rfl
  | true =>
    simp only [cellsB, Bool.and_eq_true] at hc
    rw [okTo_at l _ k hc.2 hk] at h; exact absurd h (by simp)
theorem cellsB_long (l : List CellD) (h : 4 < l.length) : cellsB l = false := by unfold cellsB; rw [show decide (l.length ≤ 4) = false by simpa using h]; rfl
theorem cellsB_end (l : List CellD) (h : okTo l l.length = true) : cellsB l = decide (l.length ≤ 4) := by unfold cellsB; rw [h, Bool.and_true]
theorem cellsB_len {l : List CellD} (h : cellsB l = true) : l.length ≤ 4 := by simp only [cellsB, Bool.and_eq_true, decide_eq_true_iff] at h; exact h.1
theorem cellsB_mem {l : List CellD} (h : cellsB l = true) : ∀ d ∈ l, nameB d.fKey = true ∧ numB d.fValue = true := by
  intro d hd
  obtain ⟨i, hi, rfl⟩ := List.mem_iff_getElem.1 hd
  simp only [cellsB, Bool.and_eq_true] at h
  have := okTo_at l _ i h.2 hi
  simp only [okAt, Bool.and_eq_true] at this
  rw [List.getD_eq_getElem?_getD, List.getElem?_eq_getElem hi] at this
  exact this.1
theorem getD_at (l : List CellD) (i : Nat) (h : i < l.length) : l.getD i default = l[i] := by rw [List.getD_eq_getElem?_getD, List.getElem?_eq_getElem h]; rfl
theorem okAt_of (l : List CellD) (i : Nat) (h : i < l.length) (x y z : Bool) (hx : nameB (l[i]).fKey = x) (hy : numB (l[i]).fValue = y) (hz : (decide (i = 0) || Op.bytesLess (l.getD (i - 1) default).fKey (l[i]).fKey) = z) : okAt l i = (x && y && z) := by
  unfold okAt; rw [getD_at l i h, hx, hy, hz]
/-- a cell as a text -/
def cellT (d : CellD) : List UInt8 := d.fKey ++ 61 :: numL d.fValue
def fmtC (l : List CellD) : List UInt8 := if cellsB l = true then (if l = [] then [45] else joinL (l.map cellT) [44]) else []
theorem nameB_all {l : List UInt8} (h : nameB l = true) (c : UInt8) (hc : c ∈ l) : (isLet c.toNat || isDig c.toNat) = true := by
  simp only [nameB, Bool.and_eq_true, nmB, List.all_eq_true] at h
  exact h.2 c hc
theorem nameB_no {l : List UInt8} (h : nameB l = true) (c : UInt8) (hc : (isLet c.toNat || isDig c.toNat) = false) : c ∉ l := fun hm => by rw [nameB_all h c hm] at hc; simp at hc
theorem numL_no (n : Nat) (c : UInt8) (hc : digB c = false) : c ∉ numL n := fun hm => by
  have := List.all_eq_true.1 (numL_dig n) c hm
  rw [this] at hc; simp at hc
theorem numB_nat {n : Int} (h : numB n = true) : ∃ k : Nat, n = k ∧ k ≤ 999 := by
  simp only [numB, Bool.and_eq_true, decide_eq_true_iff] at h
  exact ⟨n.toNat, by omega, by omega⟩
theorem parse_num {n : Int} (h : numB n = true) : pnum (numL n) = n ∧ pok (numL n) = true := by
  obtain ⟨k, rfl, hk⟩ := numB_nat h
  exact pnum_some (parseL_some hk rfl)
theorem cellT_cut {d : CellD} (h : nameB d.fKey = true) : Lib.cut (cellT d) [61] = (d.fKey, numL d.fValue, true) := cut_some (nameB_no h 61 (by decide))
theorem cellT_no {d : CellD} (h : nameB d.fKey = true) (h2 : numB d.fValue = true) : (44 : UInt8) ∉ cellT d := by
  obtain ⟨k, e, hk⟩ := numB_nat h2
  unfold cellT
  rw [e]
  intro hm
  rcases List.mem_append.1 hm with hm | hm
  · exact nameB_no h 44 (by decide) hm
  · rcases List.mem_cons.1 hm with hm | hm
    · exact absurd hm (by decide)
    · exact numL_no k 44 (by decide) hm
theorem cellT_split {d : CellD} (h : nameB d.fKey = true) (h2 : numB d.fValue = true) : splitL (cellT d) [61] = [d.fKey, numL d.fValue] := by
  obtain ⟨k, e, hk⟩ := numB_nat h2
  have : cellT d = joinL [d.fKey, numL d.fValue] [61] := by rw [joinL_two]; rfl
  rw [this]
  refine splitL_joinL 61 _ (by simp) ?_
  intro p hp
  simp only [List.mem_cons, List.not_mem_nil, or_false] at hp
  rcases hp with rfl | rfl
  · exact nameB_no h 61 (by decide)
  · rw [e]; exact numL_no k 61 (by decide)
/-- the program's lenient reading of one cell, of a text -/
def rdC (t : List UInt8) : CellD := ⟨(Lib.cut t [61]).1, pnum (Lib.cut t [61]).2.1⟩
def rdCs (s : List UInt8) : List CellD := if s = [45] then [] else (splitL s [44]).map rdC
/-- what is read: the cells that are written so -/
def prsB (s : List UInt8) : Bool := cellsB (rdCs s) && decide (fmtC (rdCs s) = s)
def prsC (s : List UInt8) : List CellD := if prsB s = true then rdCs s else []
/-- the model's reading of the first k parts -/
def oneB (t : List UInt8) : Bool := decide ((splitL t [61]).length = 2) && pok ((splitL t [61]).getD 1 [])
def oneC (t : List UInt8) : CellD := ⟨(splitL t [61]).getD 0 [], pnum ((splitL t [61]).getD 1 [])⟩
theorem oneB_cell {t : List UInt8} (h : oneB t = true) : cellT (oneC t) = t ∧ rdC t = oneC t := by
  simp only [oneB, Bool.and_eq_true, decide_eq_true_iff] at h
  obtain ⟨a, b, e⟩ : ∃ a b, splitL t [61] = [a, b] := by
    match splitL t [61], h.1 with
    | [a, b], _ => exact ⟨a, b, rfl⟩
  obtain ⟨e2, hna⟩ := split_two e
  have hb : pok b = true := by have := h.2; rw [e] at this; exact this
  unfold oneC
  rw [e]
  simp only [List.getD_cons_zero, List.getD_cons_succ]
  unfold pok at hb
  obtain ⟨n, hn⟩ := Option.isSome_iff_exists.1 hb
  obtain ⟨p1, p2⟩ := pnum_some hn
  obtain ⟨n1, n2⟩ := parseL_iff hn
  refine ⟨?_, ?_⟩
  · unfold cellT; simp only; rw [p1, n2]; exact e2.symm
  · unfold rdC; rw [e2, cut_some hna]
theorem prs_strict (s : List UInt8) (hs : s ≠ [45]) : prsB s = ((splitL s [44]).all oneB && cellsB ((splitL s [44]).map oneC)) := by
  have hne := splitL_ne s 44
  have hr : rdCs s = (splitL s [44]).map rdC := if_neg hs
  cases hR : ((splitL s [44]).all oneB && cellsB ((splitL s [44]).map oneC)) with
  | true =>
    simp only [Bool.and_eq_true, List.all_eq_true] at hR
    obtain ⟨h1, h2⟩ := hR
    have e1 : (splitL s [44]).map rdC = (splitL s [44]).map oneC := List.map_congr_left fun t ht => (oneB_cell (h1 t ht)).2
    have e2 : ((splitL s [44]).map oneC).map cellT = splitL s [44] := by
      rw [List.map_map]
      conv => rhs; rw [← List.map_id (splitL s [44])]
      exact List.map_congr_left fun t ht => (oneB_cell (h1 t ht)).1
    unfold prsB
    rw [hr, e1, h2, Bool.true_and, decide_eq_true_iff]
    unfold fmtC
    rw [if_pos h2, if_neg (by simpa using hne), e2, join_splitL]
  | false =>
    cases hL : prsB s with
    | false => rfl
    | true =>
      simp only [prsB, Bool.and_eq_true, decide_eq_true_iff, hr] at hL
      obtain ⟨h1, h2⟩ := hL
      have hmem := cellsB_mem h1
      generalize hl : (splitL s [44]).map rdC = l at *
      have hl0 : l ≠ [] := by rw [← hl]; simpa using hne
      unfold fmtC at h2
      rw [if_pos h1, if_neg hl0] at h2
      have hsp : splitL s [44] = l.map cellT := by
        rw [← h2]
        refine splitL_joinL 44 _ (by simpa using hl0) ?_
        intro p hp
        obtain ⟨d, hd, rfl⟩ := List.mem_map.1 hp
        exact cellT_no (hmem d hd).1 (hmem d hd).2
      have h3 : (splitL s [44]).all oneB = true := by
        rw [hsp, List.all_eq_true]
        intro p hp
        obtain ⟨d, hd, rfl⟩ := List.mem_map.1 hp
        unfold oneB
        rw [cellT_split (hmem d hd).1 (hmem d hd).2]
        simpa using (parse_num (hmem d hd).2).2
      have h4 : (splitL s [44]).map oneC = l := by
        rw [hsp, List.map_map]
        conv => rhs; rw [← List.map_id l]
        refine List.map_congr_left fun d hd => ?_
        simp only [Function.comp, oneC]
        rw [cellT_split (hmem d hd).1 (hmem d hd).2]
        simp only [List.getD_cons_zero, List.getD_cons_succ]
        rw [(parse_num (hmem d hd).2).1]
        rfl
      rw [h3, h4, h1] at hR
      exact absurd hR (by simp)
theorem prsC_yes {s : List UInt8} (h : prsB s = true) : prsC s = rdCs s := if_pos h
theorem prsC_no {s : List UInt8} (h : prsB s = false) : prsC s = [] := if_neg (by simp [h])
theorem prsB_dash : prsB [45] = true := by unfold prsB rdCs; rw [if_pos rfl]; rfl
theorem prsC_strict {s : List UInt8} (hs : s ≠ [45]) (h : prsB s = true) : prsC s = (splitL s [44]).map oneC := by
  rw [prsC_yes h]
  rw [prs_strict s hs, Bool.and_eq_true, List.all_eq_true] at h
  unfold rdCs
  rw [if_neg hs]
  exact List.map_congr_left fun t ht => (oneB_cell (h.1 t ht)).2
theorem prsC_fmt {s : List UInt8} (h : prsB s = true) : cellsB (prsC s) = true ∧ fmtC (prsC s) = s := by
  rw [prsC_yes h]
  simp only [prsB, Bool.and_eq_true, decide_eq_true_iff] at h; exact h
theorem fmtC_dash {l : List CellD} (h : cellsB l = true) (he : fmtC l = [45]) : l = [] := by
  by_cases hl : l = []
  · exact hl
  · exfalso
    have hm := cellsB_mem h
    unfold fmtC at he
    rw [if_pos h, if_neg hl] at he
    cases l with
    | nil => exact hl rfl
    | cons d r =>
      have hk := (hm d List.mem_cons_self).1
      have h1 : 1 ≤ d.fKey.length := by simp only [nameB, Bool.and_eq_true, decide_eq_true_iff] at hk; omega
      have h2 : 1 ≤ (numL d.fValue).length := by
        obtain ⟨k, e, _⟩ := numB_nat (hm d List.mem_cons_self).2
        rw [e]; exact List.length_pos_iff.2 (numL_ne k)
      have : (joinL ((d :: r).map cellT) [44]).length = 1 := by rw [he]; rfl
      rw [List.map_cons] at this
      by_cases hr : r = []
      · subst hr; simp only [List.map_nil] at this; rw [joinL_one] at this; unfold cellT at this; simp at this; omega
      · rw [joinL_cons _ _ _ (by simpa using hr)] at this; unfold cellT at this; simp at this; omega
/-- what is written is read again -/
theorem prs_fmt {l : List CellD} (h : cellsB l = true) : prsB (fmtC l) = true ∧ prsC (fmtC l) = l := by
  have key : rdCs (fmtC l) = l := by
    by_cases hd : fmtC l = [45]
    · rw [fmtC_dash h hd]; rfl
    · have hl : l ≠ [] := by rintro rfl; exact hd rfl
      have hm := cellsB_mem h
      unfold rdCs
      rw [if_neg hd]
      have e : fmtC l = joinL (l.map cellT) [44] := by unfold fmtC; rw [if_pos h, if_neg hl]
      rw [e, splitL_joinL 44 _ (by simpa using hl) (by
        intro p hp
        obtain ⟨d, hd, rfl⟩ := List.mem_map.1 hp
        exact cellT_no (hm d hd).1 (hm d hd).2), List.map_map]
      conv => rhs; rw [← List.map_id l]
      refine List.map_congr_left fun d hd => ?_
      simp only [Function.comp, rdC]
      rw [cellT_cut (hm d hd).1]
      simp only
      rw [(parse_num (hm d hd).2).1]
      rfl
  have hp : prsB (fmtC l) = true := by unfold prsB; rw [key, h]; simp
  exact ⟨hp, by rw [prsC_yes hp, key]⟩
end Go.Proofs.Ytmoliamenekemaa
