/- Contracts of chapter 5: LeastVersion, the model's; the plain side of the program's. -/
import Derived.Test.YtbofplofpggdlaaVer5
import Derived.Test.YtbofplofpggdlaaVar2
import Derived.Test.YtbofplofpggdlaaFace4
namespace Go.Proofs.Ytbofplofpggdlaa
set_option linter.unusedVariables false
open Go.RowKit
theorem leastK_is (f : Int) : ∀ k, leastK f k = ⟨0, 0⟩ ∨ ∃ j, j < k ∧ leastK f k = sinceN j := by
  intro k
  induction k with
  | zero => exact Or.inl rfl
  | succ k ih =>
    unfold leastK
    split
    · exact Or.inr ⟨k, by omega, rfl⟩
    · rcases ih with h | ⟨j, h1, h2⟩
      · exact Or.inl h
      · exact Or.inr ⟨j, by omega, h2⟩
theorem since_le : ∀ k : Fin 6, (0 < cmpV (sinceN k) ⟨0, 0⟩) ∧ ∀ j : Fin 6, j < k → (0 < cmpV (sinceN k) (sinceN j) ∨ sinceN k = sinceN j) := by decide
theorem leastK_step (f : Int) (k : Nat) (hk : k < 6) : leastK f (k + 1) = if hasI f k = true ∧ 0 < cmpV (sinceN k) (leastK f k) then sinceN k else leastK f k := by
  have hs := since_le ⟨k, hk⟩
  show (if hasI f k = true then sinceN k else leastK f k) = _
  by_cases hh : hasI f k = true
  · rw [if_pos hh]
    rcases leastK_is f k with h | ⟨j, h1, h2⟩
    · rw [h, if_pos ⟨hh, hs.1⟩]
    · rw [h2]
      rcases hs.2 ⟨j, by omega⟩ h1 with h3 | h3
      · rw [if_pos ⟨hh, h3⟩]
      · simp only at h3
        by_cases hc : hasI f k = true ∧ 0 < cmpV (sinceN k) (sinceN j)
        · rw [if_pos hc]
        · rw [if_neg hc, h3]
  · rw [if_neg hh, if_neg (by simp [hh])]
theorem leastV_no {f : Int} (h : isF f = false) : leastV f = ⟨0, 0⟩ := if_neg (by simp [h])
theorem leastV_yes {f : Int} (h : isF f = true) : leastV f = leastK f 6 := if_pos h
/-- what both give -/
def GivesLeast (f : Int) (w : World) (e : Ending) (w' : World) : Prop := e = .returned (.tuple #[vVersion (leastV f), .bool (isF f)]) ∧ Below w.heap.size w w'
end Go.Proofs.Ytbofplofpggdlaa
