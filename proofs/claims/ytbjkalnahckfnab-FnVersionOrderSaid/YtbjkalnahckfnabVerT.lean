/- Versions as texts: the plain side. -/
import Derived.Test.YtbjkalnahckfnabVerP
import Derived.Test.YtbjkalnahckfnabSplitP
import Derived.Test.YtbjkalnahckfnabL01d
namespace Go.Proofs.Ytbjkalnahckfnab
set_option linter.unusedVariables false
open Go.RowKit
/-- the lenient reading -/
def rdV (s : List UInt8) : VersionD := ⟨pnum (Lib.cut s [46]).1, pnum (Lib.cut s [46]).2.1⟩
def prsVB (s : List UInt8) : Bool := verB (rdV s) && decide (fmtVer (rdV s) = s)
def prsV (s : List UInt8) : VersionD := if prsVB s = true then rdV s else ⟨0, 0⟩
theorem prsV_yes {s : List UInt8} (h : prsVB s = true) : prsV s = rdV s := if_pos h
theorem prsV_no {s : List UInt8} (h : prsVB s = false) : prsV s = ⟨0, 0⟩ := if_neg (by simp [h])
theorem vnB_nat {n : Int} (h : vnB n = true) : ∃ k : Nat, n = k ∧ k ≤ 99 := by
  have := of_decide_eq_true h; exact ⟨n.toNat, by omega, by omega⟩
theorem verB_parts {d : VersionD} (h : verB d = true) : vnB d.fMajor = true ∧ vnB d.fMinor = true := by simpa [verB] using h
theorem fmtVer_yes {d : VersionD} (h : verB d = true) : fmtVer d = joinL [numL d.fMajor, numL d.fMinor] [46] := by rw [joinL_two]; exact if_pos h
theorem fmtVer_no {d : VersionD} (h : verB d = false) : fmtVer d = [] := if_neg (by simp [h])
theorem numL_no46 (n : Nat) : (46 : UInt8) ∉ numL n := fun hm => by
  have h := List.all_eq_true.1 (numL_dig n) _ hm
  exact absurd h (by decide)
theorem vn_no46 {n : Int} (h : vnB n = true) : (46 : UInt8) ∉ numL n := by obtain ⟨k, rfl, _⟩ := vnB_nat h; exact numL_no46 k
theorem vn_len {n : Int} (h : vnB n = true) : (numL n).length ≤ 3 := by obtain ⟨k, rfl, hk⟩ := vnB_nat h; exact numL_len (by omega)
theorem vn_parse {n : Int} (h : vnB n = true) : pnum (numL n) = n := by
  obtain ⟨k, rfl, hk⟩ := vnB_nat h
  exact (pnum_some (parseL_some (by omega) rfl)).1
/-- the parts of a written version -/
theorem fmtVer_split {d : VersionD} (h : verB d = true) : splitL (fmtVer d) [46] = [numL d.fMajor, numL d.fMinor] := by
  obtain ⟨h1, h2⟩ := verB_parts h
  rw [fmtVer_yes h]
  refine splitL_joinL 46 _ (by simp) fun p hp => ?_
  simp only [List.mem_cons, List.not_mem_nil, or_false] at hp
  rcases hp with rfl | rfl
  · exact vn_no46 h1
  · exact vn_no46 h2
theorem fmtVer_len (d : VersionD) : (fmtVer d).length ≤ 7 := by
  cases h : verB d with
  | false => rw [fmtVer_no h]; simp
  | true =>
    obtain ⟨h1, h2⟩ := verB_parts h
    have := vn_len h1; have := vn_len h2
    rw [fmtVer_yes h, joinL_two]; simp; omega
/-- the model's reading -/
theorem prsV_two {s a b : List UInt8} (h : splitL s [46] = [a, b]) : rdV s = ⟨pnum a, pnum b⟩ ∧ prsVB s = decide (fmtVer ⟨pnum a, pnum b⟩ = s) := by
  obtain ⟨e, hn⟩ := split_two h
  have hr : rdV s = ⟨pnum a, pnum b⟩ := by unfold rdV; rw [e, cut_some hn]
  refine ⟨hr, ?_⟩
  unfold prsVB
  rw [hr]
  cases hv : verB ⟨pnum a, pnum b⟩ with
  | true => simp
  | false =>
    rw [fmtVer_no hv, e]
    simp
theorem prsV_other {s : List UInt8} (h : (splitL s [46]).length ≠ 2) : prsVB s = false := by
  cases hp : prsVB s with
  | false => rfl
  | true =>
    simp only [prsVB, Bool.and_eq_true, decide_eq_true_eq] at hp
    have := fmtVer_split hp.1
    rw [hp.2] at this
    rw [this] at h; simp at h
/-- what is written is read -/
theorem prs_fmtVer {d : VersionD} (h : verB d = true) : rdV (fmtVer d) = d ∧ prsVB (fmtVer d) = true := by
  obtain ⟨h1, h2⟩ := verB_parts h
  obtain ⟨e1, e2⟩ := prsV_two (fmtVer_split h)
  rw [vn_parse h1, vn_parse h2] at e1 e2
  exact ⟨e1, by rw [e2]; simp⟩
end Go.Proofs.Ytbjkalnahckfnab
