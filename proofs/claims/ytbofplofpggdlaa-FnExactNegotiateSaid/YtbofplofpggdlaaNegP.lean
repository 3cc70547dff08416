/- Deals, plain. -/
import Derived.Test.YtbofplofpggdlaaOfferP
import Derived.Test.YtbofplofpggdlaaFaceQ
namespace Go.Proofs.Ytbofplofpggdlaa
set_option linter.unusedVariables false
open Go.RowKit
theorem cmpV_zero {a b : VersionD} : cmpV a b = 0 ↔ a = b := by
  rcases cmpV_cases a b with ⟨h, e⟩ | ⟨h, e⟩ | ⟨h, e⟩
  · rw [e]; constructor
    · intro h; omega
    · intro h2; subst h2; omega
  · rw [e]; simp [h]
  · rw [e]; constructor
    · intro h; omega
    · intro h2; subst h2; omega
theorem cmpV_lt {a b : VersionD} : cmpV a b < 0 ↔ (a.fMajor < b.fMajor ∨ a.fMajor = b.fMajor ∧ a.fMinor < b.fMinor) := by
  rcases cmpV_cases a b with ⟨h, e⟩ | ⟨h, e⟩ | ⟨h, e⟩ <;> rw [e]
  · simp [h]
  · subst h; simp
  · constructor
    · intro h; omega
    · intro h; omega
theorem cmpV_trans {a b c : VersionD} (h : cmpV a b < 0) (k : cmpV b c < 0) : cmpV a c < 0 := by
  rw [cmpV_lt] at *; omega
theorem cmpV_self (a : VersionD) : cmpV a a = 0 := cmpV_zero.2 rfl
/-- in ascending order -/
def SortedV (l : List VersionD) : Prop := ∀ i j, i < j → j < l.length → cmpV (l.getD i default) (l.getD j default) < 0
theorem sorted_of {l : List VersionD} (h : versB l = true) : SortedV l := by
  have hok : ∀ j, j + 1 < l.length → cmpV (l.getD j default) (l.getD (j + 1) default) < 0 := by
    intro j hj
    simp only [versB, Bool.and_eq_true] at h
    have h2 := okToV_at l _ (j + 1) h.2 hj
    rw [okAtV_succ l j hj, Bool.and_eq_true, decide_eq_true_iff] at h2
    rw [getD_V l j (by omega), getD_V l (j + 1) hj]
    exact h2.2
  intro i j hij
  obtain ⟨d, rfl⟩ : ∃ d, j = i + 1 + d := ⟨j - i - 1, by omega⟩
  clear hij
  induction d with
  | zero => intro hj; exact hok i hj
  | succ d ih => intro hj; exact cmpV_trans (ih (by omega)) (hok (i + 1 + d) (by omega))
def inV (l : List VersionD) (v : VersionD) : Bool := decide (v ∈ l)
theorem inV_of {l : List VersionD} {v : VersionD} {m : Nat} (hs : SortedV l) (hm : m ≤ l.length) (h1 : ∀ t, t < m → cmpV (l.getD t default) v < 0) (h2 : ∀ t, m ≤ t → t < l.length → ¬ cmpV (l.getD t default) v < 0) :
    inV l v = (decide (m < l.length) && decide (cmpV (l.getD m default) v = 0)) := by
  unfold inV
  rw [Bool.eq_iff_iff]
  simp only [Bool.and_eq_true, decide_eq_true_eq]
  constructor
  · intro hv
    obtain ⟨a, ha, rfl⟩ := List.getElem_of_mem hv
    have e0 : cmpV (l.getD a default) l[a] = 0 := by rw [getD_V l a ha]; exact cmpV_self _
    have hma : m ≤ a := by
      refine Nat.le_of_not_lt fun h => ?_
      have := h1 a h; omega
    have ham : a ≤ m := by
      refine Nat.le_of_not_lt fun h => ?_
      have h3 := hs m a h ha
      rw [getD_V l a ha] at h3
      exact h2 m (Nat.le_refl _) (by omega) h3
    have : a = m := by omega
    subst this
    exact ⟨ha, e0⟩
  · rintro ⟨hlt, h3⟩
    rw [getD_V l m hlt, cmpV_zero] at h3
    rw [← h3]; exact List.getElem_mem hlt
def allHaveB (l : List OfferD) (v : VersionD) : Bool := l.all fun x => inV x.fVersions v
def comV : List OfferD → List VersionD
  | [] => []
  | x :: r => x.fVersions.filter (allHaveB (x :: r))
def comF (l : List OfferD) : Int := l.foldl (fun f x => bothF f x.fFace) 63
structure DealD where
  fMajor : Int
  fMinor : Int
  fFace : Int
deriving DecidableEq
def dealOf (l : List OfferD) : Option VersionD → DealD
  | none => ⟨0, 0, 0⟩
  | some v => ⟨v.fMajor, v.fMinor, bothF (comF l) (allowF v)⟩
def dealO (l : List OfferD) : Option VersionD := if l.all offerB = true then (comV l).getLast? else none
def dealV (l : List OfferD) : DealD := dealOf l (dealO l)
def dealB (l : List OfferD) : Bool := (dealO l).isSome
theorem comF_face (l : List OfferD) : isF (comF l) = true := by
  unfold comF
  have : ∀ (f : Int), isF f = true → isF (l.foldl (fun f x => bothF f x.fFace) f) = true := by
    induction l with
    | nil => intro f h; exact h
    | cons x r ih =>
      intro f h
      refine ih _ ?_
      have h6 : 0 ≤ bothF f x.fFace ∧ bothF f x.fFace ≤ 63 := by unfold bothF; split; exact madeK_6 _; omega
      unfold isF; exact decide_eq_true h6
  exact this 63 rfl
end Go.Proofs.Ytbofplofpggdlaa
