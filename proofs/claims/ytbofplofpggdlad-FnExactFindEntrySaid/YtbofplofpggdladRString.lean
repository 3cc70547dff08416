/- Texts: how it reads, and what the laws' own helpers do with it. Written by gen/deep.py. -/
import Derived.Test.YtbofplofpggdladRep
namespace Go.Proofs.Ytbofplofpggdlad
set_option linter.unusedVariables false
set_option linter.unusedSimpArgs false
open Go.RowKit
theorem toStringS_d (v : Value) (x : List (List UInt8)) (w : World) (hx : SliceAt rStr 1 0 w v x) (hm : x.length + sumF List.length x ≤ 2097152) : Calls Try.prog 21 #[v] w fun e w' => GivesS rStr 1 x w e w' :=
  (toStringS_any v x w (row_of_slice hx) (by omega)).mono fun e w' ⟨h1, h2, h3⟩ => ⟨_, h1, slice_of_owns h2 (by omega), h3⟩
theorem szStringS_d (v : Value) (x : List (List UInt8)) (left : Int) (w : World) (hx : SliceAt rStr 1 0 w v x) (hs : ∀ s ∈ x, s.length ≤ maxLen) (h0 : 0 ≤ left) (h1 : left ≤ 1099511627776) : Calls Try.prog 15 #[v, .int .i64 left] w fun e w' => SzF (x.length + sumF List.length x) left w e w' :=
  (szStringS_any v x left w (row_of_slice hx) hs h0 h1).mono fun e w' ⟨r, h1, h2, h3, h4⟩ => ⟨r, h1, h2, fun h => by rw [← total_sum]; have := h3 h; push_cast; omega, by subst h4; exact Below.refl _ _⟩
theorem eqStringS_d (v u : Value) (x y : List (List UInt8)) (w : World) (hx : SliceAt rStr 1 0 w v x) (hy : SliceAt rStr 1 0 w u y) : Calls Try.prog 25 #[v, u] w fun e w' => e = .returned (.bool (decide (x = y))) ∧ Below w.heap.size w w' :=
  eqStringS_any v u x y w (row_of_slice hx) (row_of_slice hy)
end Go.Proofs.Ytbofplofpggdlad
