/- Contracts of chapter 2: FormatFace. -/
import Derived.Test.YtbjkalnahckfnabFace4
import Derived.Test.YtbjkalnahckfnabJoin
namespace Go.Proofs.Ytbjkalnahckfnab
set_option linter.unusedVariables false
open Go.RowKit
/-- what FormatFace writes -/
def fmtF (f : Int) : List UInt8 := if f = 0 then [110, 111, 110, 101] else joinL (namesF f) [43]
theorem total_abN (L : List Nat) : total (L.map abN) ≤ 4 * L.length := by
  induction L with
  | nil => simp [total]
  | cons a r ih => have := abN_len a; simp only [List.map_cons, total, List.length_cons]; omega
theorem names_small (L : List Nat) (h : L.length ≤ 6) : (joinL (L.map abN) [43]).length ≤ 100 := by
  have h1 := joinK_len (L.map abN) [43] (L.map abN).length (Nat.le_refl _)
  have h2 := total_abN L
  rw [List.take_length] at h1
  simp only [List.length_map, List.length_cons, List.length_nil] at h1
  unfold joinL
  rw [List.length_map]; omega
theorem fmtF_len (f : Int) : (fmtF f).length ≤ 100 := by
  unfold fmtF; split
  · simp
  · exact names_small _ (abilL_len f)
theorem getElem_intsN (L : List Nat) (j : Nat) (h : j < L.length) : (intsN L)[j]'(by rw [intsN_len]; exact h) = ((L[j] : Nat) : Int) := by simp [intsN]
theorem map_snoc (L : List Nat) (j : Nat) (h : j < L.length) : (L.take (j + 1)).map abN = (L.take j).map abN ++ [abN L[j]] := by
  rw [List.take_succ_eq_append_getElem h, List.map_append]; rfl
theorem joinL_nil (sep : List UInt8) : joinL [] sep = [] := rfl
theorem isF_zero : isF 0 = true := rfl
theorem fmtF_non {f : Int} (h : isF f = false) : fmtF f = [] := by
  unfold fmtF
  rw [if_neg (by rintro rfl; rw [isF_zero] at h; cases h)]
  unfold namesF
  rw [abilL_no h]; rfl
theorem abN_snoc {f : Int} {k : Nat} (h : hasI f k = true) : (abilK f (k + 1)).map abN = (abilK f k).map abN ++ [abN k] := by rw [abilK_succ, if_pos h, List.map_append]; rfl
end Go.Proofs.Ytbjkalnahckfnab
