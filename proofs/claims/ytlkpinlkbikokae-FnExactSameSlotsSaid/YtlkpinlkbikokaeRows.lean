/-
  No cell of these rows narrows 'for every input' (looked for: loops, veiled, ifaces, maps, wideKeys, modest, calm, conditions, laid).
  DERIVED. THE GIVEN ROWS OF THIS SEAT. 2 by the template 'for every input the law returns true; each argument reads behind the call as it read before'; 0 by the template 'total and deterministic' (their statements: YtlkpinlkbikokaeTotals.lean).
  GIVEN WITH THE SEED: the statements are not yours to turn. If you find one false, say at which input.
  Laid BY PROGRAM, IN A SANDBOX (cutbox-rows.mjs): the forced cells as the released guide's own fill.sh prints them over the translation 5cb5022df4080f49… (all of the seat's roots in one cut). By AI agents, Wed Nov 11 2026. No macro, syntax, notation, axiom, sorry.
-/
import Derived.Test.YtlkpinlkbikokaeChecked
import GoSem.Claim
import GoSem.ClaimJoined
import GoSem.ClaimMapViews
import Derived.JoinedTies
import Derived.KernelRfl
namespace Go.Proofs.Ytlkpinlkbikokae
/- THE CELL 'sum', in the pinned program and in every row, IS THE sha256 OF THE DUMP (.gsa) THAT YtlkpinlkbikokaeProg.lean LOADS. Nothing in Lean hashes anything: it is a label: what it is worth is what the hold of that sum in a sandbox is worth. -/
noncomputable def Try.pinned : Pinned := { name := "ytlkpinlkbikokae", sum := "5cb5022df4080f493a77fa79dbf6925492dd65f77164ac4ef08455e63937800a", checked := Try.checked }
namespace Rows
def none {H : Type} : Left H := { results := [], args := [] }

/-- 'laws.FnExactIsSlots': WHATEVER THE INPUT: true; the input reads as it did. -/
def fnExactIsSlotsSpec : ChangeSpec := { name := "fnExactIsSlots", fn := fun _ => fun
  | [d] => { results := [.lit (.bool true)], args := [d] }
  | _ => none }
def fnExactIsSlotsRow : OpenClaim := { program := "ytlkpinlkbikokae", sum := "5cb5022df4080f493a77fa79dbf6925492dd65f77164ac4ef08455e63937800a", func := "loop.example/g03016/laws.FnExactIsSlots", spec := "fnExactIsSlots", unfollowed := true, recurses := true, apart := false }
def FnExactIsSlotsSaid : Prop := fnExactIsSlotsRow.holds Try.pinned (OpenSpec.ofChange fnExactIsSlotsSpec)

/-- ITS FALSE NEIGHBOUR: 'it returns false'. Refute it at one input. -/
def fnExactIsSlotsWrong : ChangeSpec := { name := "fnExactIsSlots", fn := fun _ => fun
  | [d] => { results := [.lit (.bool false)], args := [d] }
  | _ => none }
def FnExactIsSlotsWrongFalsely : Prop := fnExactIsSlotsRow.holds Try.pinned (OpenSpec.ofChange fnExactIsSlotsWrong)

/-- 'laws.FnExactSameSlots': WHATEVER THE INPUT: true; the input reads as it did. -/
def fnExactSameSlotsSpec : ChangeSpec := { name := "fnExactSameSlots", fn := fun _ => fun
  | [d1, d2] => { results := [.lit (.bool true)], args := [d1, d2] }
  | _ => none }
def fnExactSameSlotsRow : OpenClaim := { program := "ytlkpinlkbikokae", sum := "5cb5022df4080f493a77fa79dbf6925492dd65f77164ac4ef08455e63937800a", func := "loop.example/g03016/laws.FnExactSameSlots", spec := "fnExactSameSlots", unfollowed := true, recurses := true, apart := false }
def FnExactSameSlotsSaid : Prop := fnExactSameSlotsRow.holds Try.pinned (OpenSpec.ofChange fnExactSameSlotsSpec)

/-- ITS FALSE NEIGHBOUR: 'it returns false'. Refute it at one input. -/
def fnExactSameSlotsWrong : ChangeSpec := { name := "fnExactSameSlots", fn := fun _ => fun
  | [d1, d2] => { results := [.lit (.bool false)], args := [d1, d2] }
  | _ => none }
def FnExactSameSlotsWrongFalsely : Prop := fnExactSameSlotsRow.holds Try.pinned (OpenSpec.ofChange fnExactSameSlotsWrong)

/- THE SECOND FORM. 'bulk': how many values and letters a reading holds, each counted each time it is reached (what is shared counts as often as it is met; a slice's spare places count too). A statement '..UptoSaid' is the law's where the arguments, and the package variables that the reading takes, are together of bulk at most 1048576: NARROWER than '..Said'. Prove '..Said' where nothing that the law and all that it calls make is longer than what came in: it says more and counts as full. Else prove '..UptoSaid'. A law counts once. -/
mutual
def uptoBulk {H : Type} : DataW H → Nat
  | .lit (.string bytes) => bytes.length + 1
  | .lit _ => 1
  | .nil => 1
  | .ptr d => uptoBulk d + 1
  | .slice elems spare => uptoBulkAll elems + uptoBulkAll spare + 1
  | .agg parts => uptoBulkAll parts + 1
  | .iface _ d => uptoBulk d + 1
  | .map entries => uptoBulkEntries entries + 1
  | .held _ => 1
def uptoBulkAll {H : Type} : List (DataW H) → Nat
  | [] => 0
  | d :: r => uptoBulk d + uptoBulkAll r
def uptoBulkEntries {H : Type} : List (Lit × DataW H) → Nat
  | [] => 0
  | x :: r => uptoBulkEntry x + uptoBulkEntries r
def uptoBulkEntry {H : Type} : Lit × DataW H → Nat
  | (.string bytes, d) => bytes.length + uptoBulk d + 1
  | (_, d) => uptoBulk d + 1
 end
def uptoSmall : (H : Type) → List (DataW H) → Bool := fun _ ds => decide (uptoBulkAll ds ≤ 1048576)
def OpenSpec.upto (s : _root_.Go.ChangeSpec) : _root_.Go.OpenSpec := { _root_.Go.OpenSpec.ofChange s with cond := some uptoSmall }

/-- 'laws.FnExactIsSlots', WHERE WHAT IT READS IS OF BULK AT MOST 1048576: true; the input reads as it did. -/
def fnExactIsSlotsUptoRow : OpenClaim := { program := "ytlkpinlkbikokae", sum := "5cb5022df4080f493a77fa79dbf6925492dd65f77164ac4ef08455e63937800a", func := "loop.example/g03016/laws.FnExactIsSlots", spec := "fnExactIsSlots", unfollowed := true, recurses := true, apart := false, narrowed := true }
def FnExactIsSlotsUptoSaid : Prop := fnExactIsSlotsUptoRow.holds Try.pinned (OpenSpec.upto fnExactIsSlotsSpec)

/-- 'laws.FnExactSameSlots', WHERE WHAT IT READS IS OF BULK AT MOST 1048576: true; the input reads as it did. -/
def fnExactSameSlotsUptoRow : OpenClaim := { program := "ytlkpinlkbikokae", sum := "5cb5022df4080f493a77fa79dbf6925492dd65f77164ac4ef08455e63937800a", func := "loop.example/g03016/laws.FnExactSameSlots", spec := "fnExactSameSlots", unfollowed := true, recurses := true, apart := false, narrowed := true }
def FnExactSameSlotsUptoSaid : Prop := fnExactSameSlotsUptoRow.holds Try.pinned (OpenSpec.upto fnExactSameSlotsSpec)

end Rows
end Go.Proofs.Ytlkpinlkbikokae
