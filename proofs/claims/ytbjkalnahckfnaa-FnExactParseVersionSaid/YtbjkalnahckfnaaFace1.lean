/- Contracts of chapter 2, the functions that only reckon. -/
import Derived.Test.YtbjkalnahckfnaaFaceP
import Derived.Test.YtbjkalnahckfnaaL01a
import Derived.Test.YtbjkalnahckfnaaLaw
import Derived.WalkSpells
import Derived.WalkLawsBesides
import Derived.Lib.Hide
import Derived.Lib.Bytes
import Derived.Deep.QuietTactic
import Derived.BigQuiet
namespace Go.Proofs.Ytbjkalnahckfnaa
set_option linter.unusedVariables false
open Go.RowKit
theorem ret_strL {a b : List UInt8} (h : a = b) : Ending.returned (.string ⟨a.toArray⟩) = .returned (.string ⟨b.toArray⟩) := by rw [h]
def selB (how : Int) (x y : Bool) : Bool := (decide (how = 0) && x && y) || (decide (how = 1) && (x || y)) || (decide (how = 2) && x && !y)
def madeF (how a b : Int) : Int := if isF a = true ∧ isF b = true then madeK (fun k => selB how (hasI a k) (hasI b k)) 6 else 0
theorem madeF_no (how a b : Int) (h : isF a = false ∨ isF b = false) : madeF how a b = 0 := by
  unfold madeF; rw [if_neg]; rintro ⟨h1, h2⟩; rcases h with h | h <;> simp_all
theorem w64 {x : Int} (h0 : -9223372036854775808 ≤ x) (h1 : x ≤ 9223372036854775807) : wrap64 x = x := by unfold wrap64; omega
theorem pow_bd (k : Nat) (hk : k < 6) : (0 : Int) < 2 ^ k ∧ (2 : Int) ^ k ≤ 32 := by
  rcases (show k = 0 ∨ k = 1 ∨ k = 2 ∨ k = 3 ∨ k = 4 ∨ k = 5 by omega) with rfl | rfl | rfl | rfl | rfl | rfl <;> decide
theorem pow_of (k : Nat) (hk : k < 6) : wrap64 (2 ^ k) = 2 ^ k := by have := pow_bd k hk; exact w64 (by omega) (by omega)
theorem sum_pow (z : Int) (k : Nat) (hk : k < 6) (h0 : 0 ≤ z) (h1 : z ≤ 63) : wrap64 (z + wrap64 (2 ^ k)) = z + 2 ^ k := by
  have := pow_bd k hk; rw [pow_of k hk]; exact w64 (by omega) (by omega)
end Go.Proofs.Ytbjkalnahckfnaa
