/- Layer: how it reads, and what the laws' own helpers do with it. Written by gen/deep.py. -/
import Derived.Test.YtmoliamenekemaaRep
import Derived.Test.YtmoliamenekemaaTLayer
namespace Go.Proofs.Ytmoliamenekemaa
set_option linter.unusedVariables false
set_option linter.unusedSimpArgs false
open Go.RowKit
theorem toLayerS_d (v : Value) (x : List LayerD) (w : World) (hx : SliceAt (rFlat cLayer) 2 0 w v x) (hm : x.length + sumF zLayer x ≤ 2097152) : Calls Try.prog 39 #[v] w fun e w' => GivesS (rFlat cLayer) 2 x w e w' :=
  (toLayerS_any v x w (flatAt_of_slice cLayer_len (by decide) hx) (by omega)).mono fun e w' ⟨h1, h2, h3⟩ => ⟨_, h1, sliceAt_of_owns cLayer_len h2 (by omega), h3⟩
theorem szLayerS_d (v : Value) (x : List LayerD) (left : Int) (w : World) (hx : SliceAt (rFlat cLayer) 2 0 w v x) (hs : ∀ d ∈ x, okLayer d) (h0 : 0 ≤ left) (h1 : left ≤ 1099511627776) : Calls Try.prog 33 #[v, .int .i64 left] w fun e w' => SzF (x.length + sumF zLayer x) left w e w' :=
  szLayerS_any v x left w (flatAt_of_slice cLayer_len (by decide) hx) hs h0 h1
theorem eqLayerS_d (v u : Value) (x y : List LayerD) (w : World) (hx : SliceAt (rFlat cLayer) 2 0 w v x) (hy : SliceAt (rFlat cLayer) 2 0 w u y) : Calls Try.prog 47 #[v, u] w fun e w' => e = .returned (.bool (decide (x = y))) ∧ Below w.heap.size w w' :=
  eqLayerS_any v u x y w (flatAt_of_slice cLayer_len (by decide) hx) (flatAt_of_slice cLayer_len (by decide) hy)
end Go.Proofs.Ytmoliamenekemaa
