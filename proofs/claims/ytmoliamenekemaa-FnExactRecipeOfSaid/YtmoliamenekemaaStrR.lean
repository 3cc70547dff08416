/- Rows of texts as rows of flat elements: the laws' helpers in that form. -/
import Derived.Test.YtmoliamenekemaaRep
import Derived.Test.YtmoliamenekemaaLaw5
namespace Go.Proofs.Ytmoliamenekemaa
set_option linter.unusedVariables false
open Go.RowKit
theorem ownsF_str {w : World} {B : Nat} {v : Value} {x : List (List UInt8)} (h : Owns w B v x) : OwnsF cStr 9 1 w B v x := by unfold OwnsF; rw [cStr_map]; exact h
theorem owns_strF {w : World} {B : Nat} {v : Value} {x : List (List UInt8)} (h : OwnsF cStr 9 1 w B v x) : Owns w B v x := by unfold OwnsF at h; rw [cStr_map] at h; exact h
theorem givesF_str {x : List (List UInt8)} {w : World} {e : Ending} {w' : World} (h : GivesRow x w e w') : GivesF cStr 9 1 x w e w' := by
  obtain ⟨v, h1, h2, h3⟩ := h; exact ⟨v, h1, ownsF_str h2, h3⟩
theorem eqStringS_f (v u : Value) (x y : List (List UInt8)) (w : World) (hx : FlatAt cStr 1 w v x) (hy : FlatAt cStr 1 w u y) : Calls Try.prog 20 #[v, u] w fun e w' => e = .returned (.bool (decide (x = y))) ∧ Below w.heap.size w w' :=
  eqStringS_any v u x y w (row_of_flat hx) (row_of_flat hy)
theorem marksString_len (k : Int) (n : Nat) : (marks k n).length = n := marks_len k n
theorem markStringS_f (B : Nat) (v : Value) (x : List (List UInt8)) (k : Int) (w : World) (hO : OwnsF cStr 9 1 w B v x) (hm : x.length ≤ 4194304) (h0 : 1 ≤ k) (h1 : k ≤ 4194304) :
    Calls Try.prog 21 #[v, .int .i64 k] w fun e w' => e = .returned (.int .i64 (k + x.length)) ∧ OwnsF cStr 9 1 w' B v (marks k x.length) ∧ w.grownBy w' v.ownBlock :=
  (markStringS_any B v x k w (owns_strF hO) hm h0 h1).mono fun e w' ⟨h1, h2, h3⟩ => ⟨h1, ownsF_str h2, h3⟩
theorem heldStringS_f (v : Value) (n : Nat) (k : Int) (w : World) (hR : FlatAt cStr 1 w v (marks k n)) (hm : n ≤ 4194304) (h0 : 1 ≤ k) (h1 : k ≤ 4194304) :
    Calls Try.prog 22 #[v, .int .i64 k] w fun e w' => e = .returned (.int .i64 (k + n)) ∧ Below w.heap.size w w' :=
  heldStringS_any v n k w (row_of_flat hR) hm h0 h1
end Go.Proofs.Ytmoliamenekemaa
