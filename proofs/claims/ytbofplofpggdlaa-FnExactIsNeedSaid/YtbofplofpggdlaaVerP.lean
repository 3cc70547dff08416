/- Versions as numbers: the plain side. -/
import Derived.Test.YtbofplofpggdlaaFaceP
import Derived.Test.YtbofplofpggdlaaNum
import Derived.Test.YtbofplofpggdlaaTVersion
import Derived.Lib.Small
namespace Go.Proofs.Ytbofplofpggdlaa
set_option linter.unusedVariables false
open Go.RowKit
instance : Inhabited VersionD := ⟨⟨0, 0⟩⟩
def vnB (n : Int) : Bool := decide (0 ≤ n ∧ n ≤ 99)
def verB (d : VersionD) : Bool := vnB d.fMajor && vnB d.fMinor
/-- -1, 0 or 1: Major first, then Minor -/
def cmpV (a b : VersionD) : Int := if a.fMajor = b.fMajor then Lib.compareInt a.fMinor b.fMinor else Lib.compareInt a.fMajor b.fMajor
def meetsB (a b : VersionD) : Bool := decide (a.fMajor = b.fMajor) && decide (b.fMinor ≤ a.fMinor)
def fmtVer (d : VersionD) : List UInt8 := if verB d = true then numL d.fMajor ++ 46 :: numL d.fMinor else []
def sinceN : Nat → VersionD
  | 0 => ⟨1, 0⟩
  | 1 => ⟨1, 0⟩
  | 2 => ⟨1, 1⟩
  | 3 => ⟨1, 2⟩
  | 4 => ⟨2, 0⟩
  | 5 => ⟨2, 1⟩
  | _ => ⟨0, 0⟩
def sinceI (k : Int) : VersionD := if k < 0 then ⟨0, 0⟩ else sinceN k.toNat
def abB (k : Int) : Bool := decide (0 ≤ k ∧ k < 6)
def sinV (k : Int) : Value := .tuple #[vVersion (sinceI k), .bool (abB k)]
def allowP (v : VersionD) (k : Nat) : Bool := decide (cmpV (sinceN k) v ≤ 0)
def allowF (v : VersionD) : Int := if verB v = true then madeK (allowP v) 6 else 0
/-- the least version that allows the abilities of f below k -/
def leastK (f : Int) : Nat → VersionD
  | 0 => ⟨0, 0⟩
  | k + 1 => if hasI f k = true then sinceN k else leastK f k
def leastV (f : Int) : VersionD := if isF f = true then leastK f 6 else ⟨0, 0⟩
theorem sinceI_out {k : Int} (h : k < 0 ∨ 6 ≤ k) : sinceI k = ⟨0, 0⟩ ∧ abB k = false := by
  refine ⟨?_, decide_eq_false (by omega)⟩
  unfold sinceI
  split
  · rfl
  · obtain ⟨m, hm⟩ : ∃ m, k.toNat = m + 6 := ⟨k.toNat - 6, by omega⟩
    rw [hm]; rfl
theorem sinceI_nat (k : Nat) : sinceI (k : Int) = sinceN k := by unfold sinceI; rw [if_neg (by omega)]; simp
theorem cmpI_self (a : Int) : Lib.compareInt a a = 0 := by unfold Lib.compareInt; rw [if_neg (by omega), if_neg (by omega)]
theorem cmpI_cases (a b : Int) : (a < b ∧ Lib.compareInt a b = -1) ∨ (a = b ∧ Lib.compareInt a b = 0) ∨ (b < a ∧ Lib.compareInt a b = 1) := by
  unfold Lib.compareInt
  rcases Int.lt_trichotomy a b with h | h | h
  · exact Or.inl ⟨h, if_pos h⟩
  · exact Or.inr (Or.inl ⟨h, by rw [if_neg (by omega), if_neg (by omega)]⟩)
  · exact Or.inr (Or.inr ⟨h, by rw [if_neg (by omega), if_pos (by omega)]⟩)
/-- what the order says, in numbers -/
theorem cmpV_cases (a b : VersionD) : ((a.fMajor < b.fMajor ∨ a.fMajor = b.fMajor ∧ a.fMinor < b.fMinor) ∧ cmpV a b = -1) ∨ (a = b ∧ cmpV a b = 0) ∨ ((b.fMajor < a.fMajor ∨ a.fMajor = b.fMajor ∧ b.fMinor < a.fMinor) ∧ cmpV a b = 1) := by
  obtain ⟨a0, a1⟩ := a
  obtain ⟨b0, b1⟩ := b
  unfold cmpV
  simp only
  by_cases h : a0 = b0
  · subst h
    rw [if_pos rfl]
    rcases cmpI_cases a1 b1 with ⟨h1, h2⟩ | ⟨h1, h2⟩ | ⟨h1, h2⟩
    · exact Or.inl ⟨Or.inr ⟨rfl, h1⟩, h2⟩
    · exact Or.inr (Or.inl ⟨by rw [h1], h2⟩)
    · exact Or.inr (Or.inr ⟨Or.inr ⟨rfl, h1⟩, h2⟩)
  · rw [if_neg h]
    rcases cmpI_cases a0 b0 with ⟨h1, h2⟩ | ⟨h1, h2⟩ | ⟨h1, h2⟩
    · exact Or.inl ⟨Or.inl h1, h2⟩
    · exact absurd h1 h
    · exact Or.inr (Or.inr ⟨Or.inl h1, h2⟩)
theorem meetsB_cmp (a b : VersionD) : meetsB a b = (decide (a.fMajor = b.fMajor) && decide (0 ≤ cmpV a b)) := by
  unfold meetsB
  rcases cmpV_cases a b with ⟨h, e⟩ | ⟨h, e⟩ | ⟨h, e⟩ <;> rw [e, Bool.eq_iff_iff] <;> simp only [Bool.and_eq_true, decide_eq_true_eq]
  · omega
  · subst h; simp
  · omega
end Go.Proofs.Ytbofplofpggdlaa
