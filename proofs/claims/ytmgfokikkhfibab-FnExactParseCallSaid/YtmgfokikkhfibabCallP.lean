/- ParseCall, plain: the program's lenient reading and the model's, each held against the writing, accept the same texts. -/
import Derived.Test.YtmgfokikkhfibabFmt1
import Derived.Test.YtmgfokikkhfibabCells3
namespace Go.Proofs.Ytmgfokikkhfibab
set_option linter.unusedVariables false
open Go.RowKit
/-- the program's reading -/
def rdI (s : List UInt8) : CallD :=
  let c := Lib.cut s [32]
  let c2 := if takesK c.1 = true then Lib.cut c.2.1 [32] else ([], c.2.1, false)
  ⟨c.1, c2.1, if takesV c.1 = true then pnum c2.2.1 else 0, if takesT c.1 = true then c2.2.1 else []⟩
/-- the model's reading -/
def rdS (s : List UInt8) : CallD :=
  let p := splitL s [32]
  let m := p.getD 0 []
  let last := p.getD (p.length - 1) []
  ⟨m, if m = mGet then last else if m = mPut then joinL ((p.take (p.length - min 1 (p.length - 1))).drop 1) [32] else [],
    if m = mPut then pnum last else if m = mHear then pnum last else 0, if m = mLoad then joinL (p.drop 1) [32] else []⟩
theorem split_head {a r : List UInt8} {c : UInt8} (ha : c ∉ a) : ∃ q, splitL (a ++ c :: r) [c] = a :: q ∧ q ≠ [] ∧ joinL q [c] = r := by
  have e : splitL (a ++ c :: r) [c] = a :: splitF [c] (a ++ c :: r).length r := by
    have e3 : (a ++ c :: r).drop (a.length + [c].length) = r := by simp [List.drop_append]
    have e4 : (a ++ c :: r).take a.length = a := by simp
    unfold splitL; rw [if_neg (by simp), splitF_some _ a.length (index_some1 ha), e3, e4]
  refine ⟨_, e, splitF_ne _ _ _, ?_⟩
  exact join_split [c] _ r
theorem num32 (z : Nat) : (32 : UInt8) ∉ numL z := numL_no z 32 (by decide)
theorem name32 {l : List UInt8} (h : nameB l = true) : (32 : UInt8) ∉ l := nameB_no h 32 (by decide)
theorem cut_m1 (a r : List UInt8) (h : (32 : UInt8) ∉ a) : Lib.cut (joinL [a, r] [32]) [32] = (a, r, true) := by rw [joinL_two]; exact cut_some h
theorem cut_m0 (a : List UInt8) (h : (32 : UInt8) ∉ a) : Lib.cut (joinL [a] [32]) [32] = (a, [], false) := by rw [joinL_one]; exact cut_none h
theorem cut_m2 (a b r : List UInt8) (h : (32 : UInt8) ∉ a) : Lib.cut (joinL [a, b, r] [32]) [32] = (a, joinL [b, r] [32], true) := by
  rw [joinL_cons a [b, r] [32] (by simp), List.append_assoc, List.singleton_append]; exact cut_some h
theorem rdI_fmt {d : CallD} (h : callB d = true) : rdI (fmtCall d) = d := by
  obtain ⟨p1, p2, p3, p4, p5⟩ := callB_parts h
  rw [fmtCall_yes h]
  obtain ⟨m, key, v, text⟩ := d
  simp only at *
  rcases meth_cases m with rfl | rfl | rfl | rfl | rfl | rfl | rfl | rfl | rfl | ⟨hw, _⟩
  · obtain rfl := p2 rfl; obtain rfl := p4 rfl; obtain rfl := p5 rfl
    show rdI (joinL [mStart] [32]) = _
    unfold rdI; rw [cut_m0 mStart (by decide)]; rfl
  · obtain rfl := p2 rfl; obtain rfl := p4 rfl; obtain rfl := p5 rfl
    show rdI (joinL [mStop] [32]) = _
    unfold rdI; rw [cut_m0 mStop (by decide)]; rfl
  · have hk := name32 (p1 rfl); obtain rfl := p4 rfl; obtain rfl := p5 rfl
    show rdI (joinL [mGet, key] [32]) = _
    unfold rdI; rw [cut_m1 mGet key (by decide)]
    simp only
    rw [if_pos (show takesK mGet = true from rfl), cut_none hk]; rfl
  · have hk := name32 (p1 rfl); obtain ⟨z, hz, hz9⟩ := numB_nat (p3 rfl); subst hz; obtain rfl := p5 rfl
    show rdI (joinL [mPut, key, numL z] [32]) = _
    unfold rdI; rw [cut_m2 mPut key (numL z) (by decide)]
    simp only
    rw [if_pos (show takesK mPut = true from rfl), cut_m1 key (numL z) hk]
    simp only
    rw [(parse_num (p3 rfl)).1]; rfl
  · obtain rfl := p2 rfl; obtain rfl := p4 rfl; obtain rfl := p5 rfl
    show rdI (joinL [mTell] [32]) = _
    unfold rdI; rw [cut_m0 mTell (by decide)]; rfl
  · obtain rfl := p2 rfl; obtain ⟨z, hz, hz9⟩ := numB_nat (p3 rfl); subst hz; obtain rfl := p5 rfl
    show rdI (joinL [mHear, numL z] [32]) = _
    unfold rdI; rw [cut_m1 mHear (numL z) (by decide)]
    simp only
    rw [if_neg (show ¬ takesK mHear = true by decide)]
    simp only
    rw [(parse_num (p3 rfl)).1]; rfl
  · obtain rfl := p2 rfl; obtain rfl := p4 rfl
    show rdI (joinL [mLoad, text] [32]) = _
    unfold rdI; rw [cut_m1 mLoad text (by decide)]; rfl
  · obtain rfl := p2 rfl; obtain rfl := p4 rfl; obtain rfl := p5 rfl
    show rdI (joinL [mSave] [32]) = _
    unfold rdI; rw [cut_m0 mSave (by decide)]; rfl
  · obtain rfl := p2 rfl; obtain rfl := p4 rfl; obtain rfl := p5 rfl
    show rdI (joinL [mHeal] [32]) = _
    unfold rdI; rw [cut_m0 mHeal (by decide)]; rfl
  · exfalso; unfold callB at h; simp only at h; rw [hw] at h; simp at h
theorem rdS_fmt {d : CallD} (h : callB d = true) : rdS (fmtCall d) = d := by
  obtain ⟨p1, p2, p3, p4, p5⟩ := callB_parts h
  rw [fmtCall_yes h]
  obtain ⟨m, key, v, text⟩ := d
  simp only at *
  have one : ∀ a : List UInt8, (32 : UInt8) ∉ a → splitL (joinL [a] [32]) [32] = [a] := fun a ha => splitL_joinL 32 [a] (by simp) (by simpa using ha)
  have two : ∀ a b : List UInt8, (32 : UInt8) ∉ a → (32 : UInt8) ∉ b → splitL (joinL [a, b] [32]) [32] = [a, b] := fun a b ha hb => splitL_joinL 32 [a, b] (by simp) (by simp; exact ⟨ha, hb⟩)
  have three : ∀ a b c : List UInt8, (32 : UInt8) ∉ a → (32 : UInt8) ∉ b → (32 : UInt8) ∉ c → splitL (joinL [a, b, c] [32]) [32] = [a, b, c] := fun a b c ha hb hc => splitL_joinL 32 [a, b, c] (by simp) (by simp; exact ⟨ha, hb, hc⟩)
  rcases meth_cases m with rfl | rfl | rfl | rfl | rfl | rfl | rfl | rfl | rfl | ⟨hw, _⟩
  · obtain rfl := p2 rfl; obtain rfl := p4 rfl; obtain rfl := p5 rfl
    show rdS (joinL [mStart] [32]) = _
    unfold rdS; rw [one mStart (by decide)]; rfl
  · obtain rfl := p2 rfl; obtain rfl := p4 rfl; obtain rfl := p5 rfl
    show rdS (joinL [mStop] [32]) = _
    unfold rdS; rw [one mStop (by decide)]; rfl
  · have hk := name32 (p1 rfl); obtain rfl := p4 rfl; obtain rfl := p5 rfl
    show rdS (joinL [mGet, key] [32]) = _
    unfold rdS; rw [two mGet key (by decide) hk]; rfl
  · have hk := name32 (p1 rfl); obtain ⟨z, hz, hz9⟩ := numB_nat (p3 rfl); subst hz; obtain rfl := p5 rfl
    have hp := (parse_num (p3 rfl)).1
    show rdS (joinL [mPut, key, numL z] [32]) = _
    unfold rdS; rw [three mPut key (numL z) (by decide) hk (num32 z)]
    show (⟨mPut, joinL [key] [32], pnum (numL z), []⟩ : CallD) = _
    rw [joinL_one, hp]
  · obtain rfl := p2 rfl; obtain rfl := p4 rfl; obtain rfl := p5 rfl
    show rdS (joinL [mTell] [32]) = _
    unfold rdS; rw [one mTell (by decide)]; rfl
  · obtain rfl := p2 rfl; obtain ⟨z, hz, hz9⟩ := numB_nat (p3 rfl); subst hz; obtain rfl := p5 rfl
    have hp := (parse_num (p3 rfl)).1
    show rdS (joinL [mHear, numL z] [32]) = _
    unfold rdS; rw [two mHear (numL z) (by decide) (num32 z)]
    show (⟨mHear, [], pnum (numL z), []⟩ : CallD) = _
    rw [hp]
  · obtain rfl := p2 rfl; obtain rfl := p4 rfl
    show rdS (joinL [mLoad, text] [32]) = _
    rw [joinL_two]
    obtain ⟨q, e, _, hj⟩ := split_head (a := mLoad) (r := text) (c := 32) (by decide)
    unfold rdS; rw [e]
    show (⟨mLoad, [], 0, joinL q [32]⟩ : CallD) = _
    rw [hj]
  · obtain rfl := p2 rfl; obtain rfl := p4 rfl; obtain rfl := p5 rfl
    show rdS (joinL [mSave] [32]) = _
    unfold rdS; rw [one mSave (by decide)]; rfl
  · obtain rfl := p2 rfl; obtain rfl := p4 rfl; obtain rfl := p5 rfl
    show rdS (joinL [mHeal] [32]) = _
    unfold rdS; rw [one mHeal (by decide)]; rfl
  · exfalso; unfold callB at h; simp only at h; rw [hw] at h; simp at h
def prsKB (s : List UInt8) : Bool := callB (rdI s) && decide (fmtCall (rdI s) = s)
def prsK (s : List UInt8) : CallD := if prsKB s = true then rdI s else ⟨[], [], 0, []⟩
theorem prsK_yes {s : List UInt8} (h : prsKB s = true) : prsK s = rdI s := if_pos h
theorem prsK_no {s : List UInt8} (h : prsKB s = false) : prsK s = ⟨[], [], 0, []⟩ := if_neg (by simp [h])
theorem fmtCall_ne {d : CallD} (h : callB d = true) : fmtCall d ≠ [] := by
  rw [fmtCall_yes h]
  have hm : d.fMethod ≠ [] := by
    intro e
    unfold callB at h
    rw [e] at h
    exact absurd h (by simp [show wantF [] = 0 from rfl])
  intro e
  have h1 := joinK_part (wordsC d) [32] (wordsC d).length 0 (by simp [wordsC]) (Nat.le_refl _)
  rw [show joinK (wordsC d) [32] (wordsC d).length = [] from e] at h1
  have : (wordsC d).getD 0 [] = d.fMethod := by simp [wordsC]
  rw [this] at h1
  exact hm (List.eq_nil_of_length_eq_zero (by simpa using h1))
theorem prsKB_spec (s : List UInt8) : prsKB s = (decide (fmtCall (rdS s) = s) && !s.isEmpty) := by
  rw [Bool.eq_iff_iff]
  constructor
  · intro h
    simp only [prsKB, Bool.and_eq_true, decide_eq_true_iff] at h
    have e : rdS s = rdI s := by conv => lhs; rw [← h.2]
                                 exact rdS_fmt h.1
    have hne := fmtCall_ne h.1
    rw [h.2] at hne
    rw [e, Bool.and_eq_true, decide_eq_true_iff]
    exact ⟨h.2, by cases s with | nil => exact absurd rfl hne | cons a r => rfl⟩
  · intro h
    rw [Bool.and_eq_true, decide_eq_true_iff] at h
    have hc : callB (rdS s) = true := by
      cases hc : callB (rdS s) with
      | true => rfl
      | false => have := h.1; rw [fmtCall_no hc] at this; rw [← this] at h; simp at h
    have e : rdI s = rdS s := by conv => lhs; rw [← h.1]
                                 exact rdI_fmt hc
    simp only [prsKB, Bool.and_eq_true, decide_eq_true_iff]
    rw [e]; exact ⟨hc, h.1⟩
theorem prsK_spec {s : List UInt8} (h : prsKB s = true) : prsK s = rdS s := by
  rw [prsK_yes h]
  simp only [prsKB, Bool.and_eq_true, decide_eq_true_iff] at h
  have e : rdS s = rdI s := by conv => lhs; rw [← h.2]
                               exact rdS_fmt h.1
  exact e.symm
theorem prsK_fmt {d : CallD} (h : callB d = true) : prsKB (fmtCall d) = true ∧ prsK (fmtCall d) = d := by
  have e := rdI_fmt h
  have : prsKB (fmtCall d) = true := by unfold prsKB; rw [e, h]; simp
  exact ⟨this, by rw [prsK_yes this, e]⟩
theorem prsK_ok {s : List UInt8} (h : prsKB s = true) : callB (prsK s) = true ∧ fmtCall (prsK s) = s := by
  rw [prsK_yes h]
  simp only [prsKB, Bool.and_eq_true, decide_eq_true_iff] at h; exact h
end Go.Proofs.Ytmgfokikkhfibab
