/- Need: how it reads, and what the laws' own helpers do with it. Written by gen/deep.py. -/
import Derived.Test.YtbofplofpggdladRep
import Derived.Test.YtbofplofpggdladTNeed
namespace Go.Proofs.Ytbofplofpggdlad
set_option linter.unusedVariables false
set_option linter.unusedSimpArgs false
open Go.RowKit
theorem toNeedS_d (v : Value) (x : List NeedD) (w : World) (hx : SliceAt (rFlat cNeed) 4 0 w v x) (hm : x.length + sumF zNeed x ≤ 2097152) : Calls Try.prog 23 #[v] w fun e w' => GivesS (rFlat cNeed) 4 x w e w' :=
  (toNeedS_any v x w (flatAt_of_slice cNeed_len (by decide) hx) (by omega)).mono fun e w' ⟨h1, h2, h3⟩ => ⟨_, h1, sliceAt_of_owns cNeed_len h2 (by omega), h3⟩
theorem szNeedS_d (v : Value) (x : List NeedD) (left : Int) (w : World) (hx : SliceAt (rFlat cNeed) 4 0 w v x) (hs : ∀ d ∈ x, okNeed d) (h0 : 0 ≤ left) (h1 : left ≤ 1099511627776) : Calls Try.prog 16 #[v, .int .i64 left] w fun e w' => SzF (x.length + sumF zNeed x) left w e w' :=
  szNeedS_any v x left w (flatAt_of_slice cNeed_len (by decide) hx) hs h0 h1
theorem eqNeedS_d (v u : Value) (x y : List NeedD) (w : World) (hx : SliceAt (rFlat cNeed) 4 0 w v x) (hy : SliceAt (rFlat cNeed) 4 0 w u y) : Calls Try.prog 27 #[v, u] w fun e w' => e = .returned (.bool (decide (x = y))) ∧ Below w.heap.size w w' :=
  eqNeedS_any v u x y w (flatAt_of_slice cNeed_len (by decide) hx) (flatAt_of_slice cNeed_len (by decide) hy)
end Go.Proofs.Ytbofplofpggdlad
