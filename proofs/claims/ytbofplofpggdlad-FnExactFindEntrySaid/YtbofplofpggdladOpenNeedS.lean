/- Arguments opened: slices of needs. -/
import Derived.Test.YtbofplofpggdladOpenNeed
namespace Go.Proofs.Ytbofplofpggdlad
set_option linter.unusedVariables false
open Go.ChangeShapes Go.WideShapes Go.ChangeAt Go.RowKit Go.WideMaps Go.WideElems
open Go.Deep
section
variable {H : Type} {enc : TypeId × Value → H} {W : World}
set_option maxRecDepth 100000 in
theorem openS_Need {n : Nat} {v : Value} {x : DataW H × List MemPlace} (h : DataW.trod enc Try.prog W 0 (fun _ => true) true n 25 [v] = some x) : ∃ l : List NeedD, FlatAt cNeed 4 W v l ∧ ∀ d ∈ l, okNeed d :=
  haveI : Inhabited NeedD := ⟨⟨0, [], 0, 0⟩⟩
  open_flat cNeed_len (by decide) Try.underlying25 (by kernel_rfl) (fun _ _ _ h => open_Need h) h
end
end Go.Proofs.Ytbofplofpggdlad
