/- Call: what the laws' own helpers do with it. Written by gen/flat.py. -/
import Derived.Test.YtmoliamenekemaaFlat
import Derived.StillTailTactics
namespace Go.Proofs.Ytmoliamenekemaa
set_option linter.unusedVariables false
open Go.RowKit
structure CallD where
  fMethod : List UInt8
  fKey : List UInt8
  fValue : Int
  fText : List UInt8
deriving DecidableEq
def okCall (d : CallD) : Prop := (d.fMethod.length ≤ maxLen) ∧ (d.fKey.length ≤ maxLen) ∧ (-9223372036854775808 ≤ d.fValue ∧ d.fValue ≤ 9223372036854775807) ∧ (d.fText.length ≤ maxLen)
def vCall (d : CallD) : Value := .agg #[.string ⟨d.fMethod.toArray⟩, .string ⟨d.fKey.toArray⟩, .int .i64 d.fValue, .string ⟨d.fText.toArray⟩]
def cCall (d : CallD) : List Value := [.string ⟨d.fMethod.toArray⟩, .string ⟨d.fKey.toArray⟩, .int .i64 d.fValue, .string ⟨d.fText.toArray⟩]
theorem cCall_len (d : CallD) : (cCall d).length = 4 := rfl
theorem cCall_one (d : CallD) : ∀ u ∈ cCall d, u.oneCell' = true := by intro u hu; simp only [cCall, List.mem_cons, List.not_mem_nil, or_false] at hu; rcases hu with rfl | rfl | rfl | rfl <;> rfl
def zCall (d : CallD) : Nat := d.fMethod.length + d.fKey.length + d.fText.length
def marksCall (k : Int) (n : Nat) : List CallD := (List.range n).map fun i : Nat => ⟨markL (k + i * 4), markL (k + i * 4 + 1), k + i * 4 + 1 + 1, markL (k + i * 4 + 1 + 1 + 1)⟩
theorem marksCall_len (k : Int) (n : Nat) : (marksCall k n).length = n := by simp [marksCall]
theorem marksCall_get (k : Int) (n i : Nat) (h : i < n) : (marksCall k n)[i]'(by rw [marksCall_len]; exact h) = ⟨markL (k + i * 4), markL (k + i * 4 + 1), k + i * 4 + 1 + 1, markL (k + i * 4 + 1 + 1 + 1)⟩ := by simp [marksCall]
end Go.Proofs.Ytmoliamenekemaa
