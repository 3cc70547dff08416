/- What both ParseCalls give. -/
import Derived.Test.YtmgfokikkhfibabCallP
namespace Go.Proofs.Ytmgfokikkhfibab
open Go.RowKit
def GivesCall (d : CallD) (b : Bool) (w : World) (e : Ending) (w' : World) : Prop := e = .returned (.tuple #[vCall d, .bool b]) ∧ Below w.heap.size w w'
end Go.Proofs.Ytmgfokikkhfibab
