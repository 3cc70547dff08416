/- Offers, plain: which are valid. -/
import Derived.Test.YtbofplofpggdlaaTOffer
import Derived.Test.YtbofplofpggdlaaVer2
import Derived.Test.YtbofplofpggdlaaFaceP
namespace Go.Proofs.Ytbofplofpggdlaa
set_option linter.unusedVariables false
open Go.RowKit
/-- the version at i is valid, and greater than the one before -/
def okAtV (l : List VersionD) (i : Nat) : Bool := verB (l.getD i default) && (decide (i = 0) || decide (cmpV (l.getD (i - 1) default) (l.getD i default) < 0))
def okToV (l : List VersionD) (k : Nat) : Bool := (List.range k).all (okAtV l)
def versB (l : List VersionD) : Bool := decide (l.length ≤ 4) && okToV l l.length
def offerB (d : OfferD) : Bool := isF d.fFace && versB d.fVersions
theorem okToV_zero (l : List VersionD) : okToV l 0 = true := rfl
theorem okToV_succ (l : List VersionD) (k : Nat) : okToV l (k + 1) = (okToV l k && okAtV l k) := by simp [okToV, List.range_succ]
theorem okToV_at (l : List VersionD) (k i : Nat) (h : okToV l k = true) (hi : i < k) : okAtV l i = true := by
  unfold okToV at h; rw [List.all_eq_true] at h; exact h i (by rw [List.mem_range]; exact hi)
theorem versB_bad (l : List VersionD) (k : Nat) (hk : k < l.length) (h : okAtV l k = false) : versB l = false := by
  cases hc : versB l with
  | false => rfl
  | true =>
    simp only [versB, Bool.and_eq_true] at hc
    rw [okToV_at l _ k hc.2 hk] at h; exact absurd h (by simp)
theorem versB_long (l : List VersionD) (h : 4 < l.length) : versB l = false := by unfold versB; rw [show decide (l.length ≤ 4) = false by simpa using h]; rfl
theorem versB_end (l : List VersionD) (h : okToV l l.length = true) : versB l = decide (l.length ≤ 4) := by unfold versB; rw [h, Bool.and_true]
theorem versB_len {l : List VersionD} (h : versB l = true) : l.length ≤ 4 := by simp only [versB, Bool.and_eq_true, decide_eq_true_iff] at h; exact h.1
theorem getD_V (l : List VersionD) (i : Nat) (h : i < l.length) : l.getD i default = l[i] := by rw [List.getD_eq_getElem?_getD, List.getElem?_eq_getElem h]; rfl
theorem okAtV_zero (l : List VersionD) (h : 0 < l.length) : okAtV l 0 = verB l[0] := by unfold okAtV; rw [getD_V l 0 h]; simp
theorem okAtV_succ (l : List VersionD) (j : Nat) (h : j + 1 < l.length) : okAtV l (j + 1) = (verB l[j + 1] && decide (cmpV l[j] l[j + 1] < 0)) := by
  unfold okAtV; rw [getD_V l (j + 1) h, show j + 1 - 1 = j by omega, getD_V l j (by omega)]; simp
end Go.Proofs.Ytbofplofpggdlaa
