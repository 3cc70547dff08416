/- Version: what the laws' own helpers do with it. Written by gen/flat.py. -/
import Derived.Test.YtmoliamenekemaaFlat
import Derived.StillTailTactics
namespace Go.Proofs.Ytmoliamenekemaa
set_option linter.unusedVariables false
open Go.RowKit
structure VersionD where
  fMajor : Int
  fMinor : Int
deriving DecidableEq
def okVersion (d : VersionD) : Prop := (-9223372036854775808 ≤ d.fMajor ∧ d.fMajor ≤ 9223372036854775807) ∧ (-9223372036854775808 ≤ d.fMinor ∧ d.fMinor ≤ 9223372036854775807)
def vVersion (d : VersionD) : Value := .agg #[.int .i64 d.fMajor, .int .i64 d.fMinor]
def cVersion (d : VersionD) : List Value := [.int .i64 d.fMajor, .int .i64 d.fMinor]
theorem cVersion_len (d : VersionD) : (cVersion d).length = 2 := rfl
theorem cVersion_one (d : VersionD) : ∀ u ∈ cVersion d, u.oneCell' = true := by intro u hu; simp only [cVersion, List.mem_cons, List.not_mem_nil, or_false] at hu; rcases hu with rfl | rfl <;> rfl
def zVersion (d : VersionD) : Nat := 0
def marksVersion (k : Int) (n : Nat) : List VersionD := (List.range n).map fun i : Nat => ⟨k + i * 2, k + i * 2 + 1⟩
theorem marksVersion_len (k : Int) (n : Nat) : (marksVersion k n).length = n := by simp [marksVersion]
theorem marksVersion_get (k : Int) (n i : Nat) (h : i < n) : (marksVersion k n)[i]'(by rw [marksVersion_len]; exact h) = ⟨k + i * 2, k + i * 2 + 1⟩ := by simp [marksVersion]
end Go.Proofs.Ytmoliamenekemaa
