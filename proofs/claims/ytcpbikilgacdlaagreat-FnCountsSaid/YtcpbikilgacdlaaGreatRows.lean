/-
  No cell of these rows narrows 'for every input' (looked for: loops, veiled, ifaces, maps, wideKeys, modest, calm, conditions, laid).
  DERIVED. THE GIVEN ROWS OF THIS SEAT. 12 by the template 'for every input the law returns true; each argument reads behind the call as it read before'; 0 by the template 'total and deterministic' (their statements: YtcpbikilgacdlaaGreatTotals.lean).
  GIVEN WITH THE SEED: the statements are not yours to turn. If you find one false, say at which input.
  Laid BY PROGRAM, IN A SANDBOX (cutbox-rows.mjs): the forced cells as the released guide's own fill.sh prints them over the translation 6fbe717051ac4064… (all of the seat's roots in one cut). By AI agents, Wed Nov 11 2026. No macro, syntax, notation, axiom, sorry.
-/
import Derived.Test.YtcpbikilgacdlaaGreatChecked
import GoSem.Claim
import GoSem.ClaimJoined
import GoSem.ClaimMapViews
import Derived.JoinedTies
import Derived.KernelRfl
namespace Go.Proofs.YtcpbikilgacdlaaGreat
/- THE CELL 'sum', in the pinned program and in every row, IS THE sha256 OF THE DUMP (.gsa) THAT YtcpbikilgacdlaaGreatProg.lean LOADS. Nothing in Lean hashes anything: it is a label: what it is worth is what the hold of that sum in a sandbox is worth. -/
noncomputable def Tryz.pinned : Pinned := { name := "ytcpbikilgacdlaagreat", sum := "6fbe717051ac4064ab1b7683b1b3452c8243c844aa6e88fa966804a4a07a7267", checked := Tryz.checked }
namespace Rows
def none {H : Type} : Left H := { results := [], args := [] }

/-- 'laws.FnExactCallPart': WHATEVER THE INPUT: true; the input reads as it did. -/
def fnExactCallPartSpec : ChangeSpec := { name := "fnExactCallPart", fn := fun _ => fun
  | [d1, d2] => { results := [.lit (.bool true)], args := [d1, d2] }
  | _ => none }
def fnExactCallPartRow : OpenClaim := { program := "ytcpbikilgacdlaagreat", sum := "6fbe717051ac4064ab1b7683b1b3452c8243c844aa6e88fa966804a4a07a7267", func := "loop.example/g03016/laws.FnExactCallPart", spec := "fnExactCallPart", inPlace := ["internal/abi.NoEscape"], unfollowed := true, recurses := true, apart := false }
def FnExactCallPartSaid : Prop := fnExactCallPartRow.holds Tryz.pinned (OpenSpec.ofChange fnExactCallPartSpec)

/-- ITS FALSE NEIGHBOUR: 'it returns false'. Refute it at one input. -/
def fnExactCallPartWrong : ChangeSpec := { name := "fnExactCallPart", fn := fun _ => fun
  | [d1, d2] => { results := [.lit (.bool false)], args := [d1, d2] }
  | _ => none }
def FnExactCallPartWrongFalsely : Prop := fnExactCallPartRow.holds Tryz.pinned (OpenSpec.ofChange fnExactCallPartWrong)

/-- 'laws.FnExactCallParts': WHATEVER THE INPUT: true; the input reads as it did. -/
def fnExactCallPartsSpec : ChangeSpec := { name := "fnExactCallParts", fn := fun _ => fun
  | [d1, d2] => { results := [.lit (.bool true)], args := [d1, d2] }
  | _ => none }
def fnExactCallPartsRow : OpenClaim := { program := "ytcpbikilgacdlaagreat", sum := "6fbe717051ac4064ab1b7683b1b3452c8243c844aa6e88fa966804a4a07a7267", func := "loop.example/g03016/laws.FnExactCallParts", spec := "fnExactCallParts", inPlace := ["internal/abi.NoEscape"], unfollowed := true, recurses := true, apart := false }
def FnExactCallPartsSaid : Prop := fnExactCallPartsRow.holds Tryz.pinned (OpenSpec.ofChange fnExactCallPartsSpec)

/-- ITS FALSE NEIGHBOUR: 'it returns false'. Refute it at one input. -/
def fnExactCallPartsWrong : ChangeSpec := { name := "fnExactCallParts", fn := fun _ => fun
  | [d1, d2] => { results := [.lit (.bool false)], args := [d1, d2] }
  | _ => none }
def FnExactCallPartsWrongFalsely : Prop := fnExactCallPartsRow.holds Tryz.pinned (OpenSpec.ofChange fnExactCallPartsWrong)

/-- 'laws.FnExactCallCores': WHATEVER THE INPUT: true; the input reads as it did. -/
def fnExactCallCoresSpec : ChangeSpec := { name := "fnExactCallCores", fn := fun _ => fun
  | [d1, d2] => { results := [.lit (.bool true)], args := [d1, d2] }
  | _ => none }
def fnExactCallCoresRow : OpenClaim := { program := "ytcpbikilgacdlaagreat", sum := "6fbe717051ac4064ab1b7683b1b3452c8243c844aa6e88fa966804a4a07a7267", func := "loop.example/g03016/laws.FnExactCallCores", spec := "fnExactCallCores", inPlace := ["internal/abi.NoEscape"], unfollowed := true, recurses := true, apart := false }
def FnExactCallCoresSaid : Prop := fnExactCallCoresRow.holds Tryz.pinned (OpenSpec.ofChange fnExactCallCoresSpec)

/-- ITS FALSE NEIGHBOUR: 'it returns false'. Refute it at one input. -/
def fnExactCallCoresWrong : ChangeSpec := { name := "fnExactCallCores", fn := fun _ => fun
  | [d1, d2] => { results := [.lit (.bool false)], args := [d1, d2] }
  | _ => none }
def FnExactCallCoresWrongFalsely : Prop := fnExactCallCoresRow.holds Tryz.pinned (OpenSpec.ofChange fnExactCallCoresWrong)

/-- 'laws.FnPartWants': WHATEVER THE INPUT: true; the input reads as it did. -/
def fnPartWantsSpec : ChangeSpec := { name := "fnPartWants", fn := fun _ => fun
  | [d] => { results := [.lit (.bool true)], args := [d] }
  | _ => none }
def fnPartWantsRow : OpenClaim := { program := "ytcpbikilgacdlaagreat", sum := "6fbe717051ac4064ab1b7683b1b3452c8243c844aa6e88fa966804a4a07a7267", func := "loop.example/g03016/laws.FnPartWants", spec := "fnPartWants", inPlace := ["internal/abi.NoEscape"], unfollowed := true, recurses := true, apart := false }
def FnPartWantsSaid : Prop := fnPartWantsRow.holds Tryz.pinned (OpenSpec.ofChange fnPartWantsSpec)

/-- ITS FALSE NEIGHBOUR: 'it returns false'. Refute it at one input. -/
def fnPartWantsWrong : ChangeSpec := { name := "fnPartWants", fn := fun _ => fun
  | [d] => { results := [.lit (.bool false)], args := [d] }
  | _ => none }
def FnPartWantsWrongFalsely : Prop := fnPartWantsRow.holds Tryz.pinned (OpenSpec.ofChange fnPartWantsWrong)

/-- 'laws.FnPartKeeps': WHATEVER THE INPUT: true; the input reads as it did. -/
def fnPartKeepsSpec : ChangeSpec := { name := "fnPartKeeps", fn := fun _ => fun
  | [d] => { results := [.lit (.bool true)], args := [d] }
  | _ => none }
def fnPartKeepsRow : OpenClaim := { program := "ytcpbikilgacdlaagreat", sum := "6fbe717051ac4064ab1b7683b1b3452c8243c844aa6e88fa966804a4a07a7267", func := "loop.example/g03016/laws.FnPartKeeps", spec := "fnPartKeeps", inPlace := ["internal/abi.NoEscape"], unfollowed := true, recurses := true, apart := false }
def FnPartKeepsSaid : Prop := fnPartKeepsRow.holds Tryz.pinned (OpenSpec.ofChange fnPartKeepsSpec)

/-- ITS FALSE NEIGHBOUR: 'it returns false'. Refute it at one input. -/
def fnPartKeepsWrong : ChangeSpec := { name := "fnPartKeeps", fn := fun _ => fun
  | [d] => { results := [.lit (.bool false)], args := [d] }
  | _ => none }
def FnPartKeepsWrongFalsely : Prop := fnPartKeepsRow.holds Tryz.pinned (OpenSpec.ofChange fnPartKeepsWrong)

/-- 'laws.FnDoor': WHATEVER THE INPUT: true; the input reads as it did. -/
def fnDoorSpec : ChangeSpec := { name := "fnDoor", fn := fun _ => fun
  | [d] => { results := [.lit (.bool true)], args := [d] }
  | _ => none }
def fnDoorRow : OpenClaim := { program := "ytcpbikilgacdlaagreat", sum := "6fbe717051ac4064ab1b7683b1b3452c8243c844aa6e88fa966804a4a07a7267", func := "loop.example/g03016/laws.FnDoor", spec := "fnDoor", inPlace := ["internal/abi.NoEscape"], unfollowed := true, recurses := true, apart := false }
def FnDoorSaid : Prop := fnDoorRow.holds Tryz.pinned (OpenSpec.ofChange fnDoorSpec)

/-- ITS FALSE NEIGHBOUR: 'it returns false'. Refute it at one input. -/
def fnDoorWrong : ChangeSpec := { name := "fnDoor", fn := fun _ => fun
  | [d] => { results := [.lit (.bool false)], args := [d] }
  | _ => none }
def FnDoorWrongFalsely : Prop := fnDoorRow.holds Tryz.pinned (OpenSpec.ofChange fnDoorWrong)

/-- 'laws.FnThrough': WHATEVER THE INPUT: true; the input reads as it did. -/
def fnThroughSpec : ChangeSpec := { name := "fnThrough", fn := fun _ => fun
  | [d] => { results := [.lit (.bool true)], args := [d] }
  | _ => none }
def fnThroughRow : OpenClaim := { program := "ytcpbikilgacdlaagreat", sum := "6fbe717051ac4064ab1b7683b1b3452c8243c844aa6e88fa966804a4a07a7267", func := "loop.example/g03016/laws.FnThrough", spec := "fnThrough", inPlace := ["internal/abi.NoEscape"], unfollowed := true, recurses := true, apart := false }
def FnThroughSaid : Prop := fnThroughRow.holds Tryz.pinned (OpenSpec.ofChange fnThroughSpec)

/-- ITS FALSE NEIGHBOUR: 'it returns false'. Refute it at one input. -/
def fnThroughWrong : ChangeSpec := { name := "fnThrough", fn := fun _ => fun
  | [d] => { results := [.lit (.bool false)], args := [d] }
  | _ => none }
def FnThroughWrongFalsely : Prop := fnThroughRow.holds Tryz.pinned (OpenSpec.ofChange fnThroughWrong)

/-- 'laws.FnReads': WHATEVER THE INPUT: true; the input reads as it did. -/
def fnReadsSpec : ChangeSpec := { name := "fnReads", fn := fun _ => fun
  | [d] => { results := [.lit (.bool true)], args := [d] }
  | _ => none }
def fnReadsRow : OpenClaim := { program := "ytcpbikilgacdlaagreat", sum := "6fbe717051ac4064ab1b7683b1b3452c8243c844aa6e88fa966804a4a07a7267", func := "loop.example/g03016/laws.FnReads", spec := "fnReads", inPlace := ["internal/abi.NoEscape"], unfollowed := true, recurses := true, apart := false }
def FnReadsSaid : Prop := fnReadsRow.holds Tryz.pinned (OpenSpec.ofChange fnReadsSpec)

/-- ITS FALSE NEIGHBOUR: 'it returns false'. Refute it at one input. -/
def fnReadsWrong : ChangeSpec := { name := "fnReads", fn := fun _ => fun
  | [d] => { results := [.lit (.bool false)], args := [d] }
  | _ => none }
def FnReadsWrongFalsely : Prop := fnReadsRow.holds Tryz.pinned (OpenSpec.ofChange fnReadsWrong)

/-- 'laws.FnCounts': WHATEVER THE INPUT: true; the input reads as it did. -/
def fnCountsSpec : ChangeSpec := { name := "fnCounts", fn := fun _ => fun
  | [d] => { results := [.lit (.bool true)], args := [d] }
  | _ => none }
def fnCountsRow : OpenClaim := { program := "ytcpbikilgacdlaagreat", sum := "6fbe717051ac4064ab1b7683b1b3452c8243c844aa6e88fa966804a4a07a7267", func := "loop.example/g03016/laws.FnCounts", spec := "fnCounts", inPlace := ["internal/abi.NoEscape"], unfollowed := true, recurses := true, apart := false }
def FnCountsSaid : Prop := fnCountsRow.holds Tryz.pinned (OpenSpec.ofChange fnCountsSpec)

/-- ITS FALSE NEIGHBOUR: 'it returns false'. Refute it at one input. -/
def fnCountsWrong : ChangeSpec := { name := "fnCounts", fn := fun _ => fun
  | [d] => { results := [.lit (.bool false)], args := [d] }
  | _ => none }
def FnCountsWrongFalsely : Prop := fnCountsRow.holds Tryz.pinned (OpenSpec.ofChange fnCountsWrong)

/-- 'laws.FnLazy': WHATEVER THE INPUT: true; the input reads as it did. -/
def fnLazySpec : ChangeSpec := { name := "fnLazy", fn := fun _ => fun
  | [d] => { results := [.lit (.bool true)], args := [d] }
  | _ => none }
def fnLazyRow : OpenClaim := { program := "ytcpbikilgacdlaagreat", sum := "6fbe717051ac4064ab1b7683b1b3452c8243c844aa6e88fa966804a4a07a7267", func := "loop.example/g03016/laws.FnLazy", spec := "fnLazy", inPlace := ["internal/abi.NoEscape"], unfollowed := true, recurses := true, apart := false }
def FnLazySaid : Prop := fnLazyRow.holds Tryz.pinned (OpenSpec.ofChange fnLazySpec)

/-- ITS FALSE NEIGHBOUR: 'it returns false'. Refute it at one input. -/
def fnLazyWrong : ChangeSpec := { name := "fnLazy", fn := fun _ => fun
  | [d] => { results := [.lit (.bool false)], args := [d] }
  | _ => none }
def FnLazyWrongFalsely : Prop := fnLazyRow.holds Tryz.pinned (OpenSpec.ofChange fnLazyWrong)

/-- 'laws.FnTwice': WHATEVER THE INPUT: true; the input reads as it did. -/
def fnTwiceSpec : ChangeSpec := { name := "fnTwice", fn := fun _ => fun
  | [d] => { results := [.lit (.bool true)], args := [d] }
  | _ => none }
def fnTwiceRow : OpenClaim := { program := "ytcpbikilgacdlaagreat", sum := "6fbe717051ac4064ab1b7683b1b3452c8243c844aa6e88fa966804a4a07a7267", func := "loop.example/g03016/laws.FnTwice", spec := "fnTwice", inPlace := ["internal/abi.NoEscape"], unfollowed := true, recurses := true, apart := false }
def FnTwiceSaid : Prop := fnTwiceRow.holds Tryz.pinned (OpenSpec.ofChange fnTwiceSpec)

/-- ITS FALSE NEIGHBOUR: 'it returns false'. Refute it at one input. -/
def fnTwiceWrong : ChangeSpec := { name := "fnTwice", fn := fun _ => fun
  | [d] => { results := [.lit (.bool false)], args := [d] }
  | _ => none }
def FnTwiceWrongFalsely : Prop := fnTwiceRow.holds Tryz.pinned (OpenSpec.ofChange fnTwiceWrong)

/-- 'laws.FnHears': WHATEVER THE INPUT: true; the input reads as it did. -/
def fnHearsSpec : ChangeSpec := { name := "fnHears", fn := fun _ => fun
  | [d] => { results := [.lit (.bool true)], args := [d] }
  | _ => none }
def fnHearsRow : OpenClaim := { program := "ytcpbikilgacdlaagreat", sum := "6fbe717051ac4064ab1b7683b1b3452c8243c844aa6e88fa966804a4a07a7267", func := "loop.example/g03016/laws.FnHears", spec := "fnHears", inPlace := ["internal/abi.NoEscape"], unfollowed := true, recurses := true, apart := false }
def FnHearsSaid : Prop := fnHearsRow.holds Tryz.pinned (OpenSpec.ofChange fnHearsSpec)

/-- ITS FALSE NEIGHBOUR: 'it returns false'. Refute it at one input. -/
def fnHearsWrong : ChangeSpec := { name := "fnHears", fn := fun _ => fun
  | [d] => { results := [.lit (.bool false)], args := [d] }
  | _ => none }
def FnHearsWrongFalsely : Prop := fnHearsRow.holds Tryz.pinned (OpenSpec.ofChange fnHearsWrong)

/- THE SECOND FORM. 'bulk': how many values and letters a reading holds, each counted each time it is reached (what is shared counts as often as it is met; a slice's spare places count too). A statement '..UptoSaid' is the law's where the arguments, and the package variables that the reading takes, are together of bulk at most 1048576: NARROWER than '..Said'. Prove '..Said' where nothing that the law and all that it calls make is longer than what came in: it says more and counts as full. Else prove '..UptoSaid'. A law counts once. -/
mutual
def uptoBulk {H : Type} : DataW H → Nat
  | .lit (.string bytes) => bytes.length + 1
  | .lit _ => 1
  | .nil => 1
  | .ptr d => uptoBulk d + 1
  | .slice elems spare => uptoBulkAll elems + uptoBulkAll spare + 1
  | .agg parts => uptoBulkAll parts + 1
  | .iface _ d => uptoBulk d + 1
  | .map entries => uptoBulkEntries entries + 1
  | .held _ => 1
def uptoBulkAll {H : Type} : List (DataW H) → Nat
  | [] => 0
  | d :: r => uptoBulk d + uptoBulkAll r
def uptoBulkEntries {H : Type} : List (Lit × DataW H) → Nat
  | [] => 0
  | x :: r => uptoBulkEntry x + uptoBulkEntries r
def uptoBulkEntry {H : Type} : Lit × DataW H → Nat
  | (.string bytes, d) => bytes.length + uptoBulk d + 1
  | (_, d) => uptoBulk d + 1
 end
def uptoSmall : (H : Type) → List (DataW H) → Bool := fun _ ds => decide (uptoBulkAll ds ≤ 1048576)
def OpenSpec.upto (s : _root_.Go.ChangeSpec) : _root_.Go.OpenSpec := { _root_.Go.OpenSpec.ofChange s with cond := some uptoSmall }

/-- 'laws.FnExactCallPart', WHERE WHAT IT READS IS OF BULK AT MOST 1048576: true; the input reads as it did. -/
def fnExactCallPartUptoRow : OpenClaim := { program := "ytcpbikilgacdlaagreat", sum := "6fbe717051ac4064ab1b7683b1b3452c8243c844aa6e88fa966804a4a07a7267", func := "loop.example/g03016/laws.FnExactCallPart", spec := "fnExactCallPart", inPlace := ["internal/abi.NoEscape"], unfollowed := true, recurses := true, apart := false, narrowed := true }
def FnExactCallPartUptoSaid : Prop := fnExactCallPartUptoRow.holds Tryz.pinned (OpenSpec.upto fnExactCallPartSpec)

/-- 'laws.FnExactCallParts', WHERE WHAT IT READS IS OF BULK AT MOST 1048576: true; the input reads as it did. -/
def fnExactCallPartsUptoRow : OpenClaim := { program := "ytcpbikilgacdlaagreat", sum := "6fbe717051ac4064ab1b7683b1b3452c8243c844aa6e88fa966804a4a07a7267", func := "loop.example/g03016/laws.FnExactCallParts", spec := "fnExactCallParts", inPlace := ["internal/abi.NoEscape"], unfollowed := true, recurses := true, apart := false, narrowed := true }
def FnExactCallPartsUptoSaid : Prop := fnExactCallPartsUptoRow.holds Tryz.pinned (OpenSpec.upto fnExactCallPartsSpec)

/-- 'laws.FnExactCallCores', WHERE WHAT IT READS IS OF BULK AT MOST 1048576: true; the input reads as it did. -/
def fnExactCallCoresUptoRow : OpenClaim := { program := "ytcpbikilgacdlaagreat", sum := "6fbe717051ac4064ab1b7683b1b3452c8243c844aa6e88fa966804a4a07a7267", func := "loop.example/g03016/laws.FnExactCallCores", spec := "fnExactCallCores", inPlace := ["internal/abi.NoEscape"], unfollowed := true, recurses := true, apart := false, narrowed := true }
def FnExactCallCoresUptoSaid : Prop := fnExactCallCoresUptoRow.holds Tryz.pinned (OpenSpec.upto fnExactCallCoresSpec)

/-- 'laws.FnPartWants', WHERE WHAT IT READS IS OF BULK AT MOST 1048576: true; the input reads as it did. -/
def fnPartWantsUptoRow : OpenClaim := { program := "ytcpbikilgacdlaagreat", sum := "6fbe717051ac4064ab1b7683b1b3452c8243c844aa6e88fa966804a4a07a7267", func := "loop.example/g03016/laws.FnPartWants", spec := "fnPartWants", inPlace := ["internal/abi.NoEscape"], unfollowed := true, recurses := true, apart := false, narrowed := true }
def FnPartWantsUptoSaid : Prop := fnPartWantsUptoRow.holds Tryz.pinned (OpenSpec.upto fnPartWantsSpec)

/-- 'laws.FnPartKeeps', WHERE WHAT IT READS IS OF BULK AT MOST 1048576: true; the input reads as it did. -/
def fnPartKeepsUptoRow : OpenClaim := { program := "ytcpbikilgacdlaagreat", sum := "6fbe717051ac4064ab1b7683b1b3452c8243c844aa6e88fa966804a4a07a7267", func := "loop.example/g03016/laws.FnPartKeeps", spec := "fnPartKeeps", inPlace := ["internal/abi.NoEscape"], unfollowed := true, recurses := true, apart := false, narrowed := true }
def FnPartKeepsUptoSaid : Prop := fnPartKeepsUptoRow.holds Tryz.pinned (OpenSpec.upto fnPartKeepsSpec)

/-- 'laws.FnDoor', WHERE WHAT IT READS IS OF BULK AT MOST 1048576: true; the input reads as it did. -/
def fnDoorUptoRow : OpenClaim := { program := "ytcpbikilgacdlaagreat", sum := "6fbe717051ac4064ab1b7683b1b3452c8243c844aa6e88fa966804a4a07a7267", func := "loop.example/g03016/laws.FnDoor", spec := "fnDoor", inPlace := ["internal/abi.NoEscape"], unfollowed := true, recurses := true, apart := false, narrowed := true }
def FnDoorUptoSaid : Prop := fnDoorUptoRow.holds Tryz.pinned (OpenSpec.upto fnDoorSpec)

/-- 'laws.FnThrough', WHERE WHAT IT READS IS OF BULK AT MOST 1048576: true; the input reads as it did. -/
def fnThroughUptoRow : OpenClaim := { program := "ytcpbikilgacdlaagreat", sum := "6fbe717051ac4064ab1b7683b1b3452c8243c844aa6e88fa966804a4a07a7267", func := "loop.example/g03016/laws.FnThrough", spec := "fnThrough", inPlace := ["internal/abi.NoEscape"], unfollowed := true, recurses := true, apart := false, narrowed := true }
def FnThroughUptoSaid : Prop := fnThroughUptoRow.holds Tryz.pinned (OpenSpec.upto fnThroughSpec)

/-- 'laws.FnReads', WHERE WHAT IT READS IS OF BULK AT MOST 1048576: true; the input reads as it did. -/
def fnReadsUptoRow : OpenClaim := { program := "ytcpbikilgacdlaagreat", sum := "6fbe717051ac4064ab1b7683b1b3452c8243c844aa6e88fa966804a4a07a7267", func := "loop.example/g03016/laws.FnReads", spec := "fnReads", inPlace := ["internal/abi.NoEscape"], unfollowed := true, recurses := true, apart := false, narrowed := true }
def FnReadsUptoSaid : Prop := fnReadsUptoRow.holds Tryz.pinned (OpenSpec.upto fnReadsSpec)

/-- 'laws.FnCounts', WHERE WHAT IT READS IS OF BULK AT MOST 1048576: true; the input reads as it did. -/
def fnCountsUptoRow : OpenClaim := { program := "ytcpbikilgacdlaagreat", sum := "6fbe717051ac4064ab1b7683b1b3452c8243c844aa6e88fa966804a4a07a7267", func := "loop.example/g03016/laws.FnCounts", spec := "fnCounts", inPlace := ["internal/abi.NoEscape"], unfollowed := true, recurses := true, apart := false, narrowed := true }
def FnCountsUptoSaid : Prop := fnCountsUptoRow.holds Tryz.pinned (OpenSpec.upto fnCountsSpec)

/-- 'laws.FnLazy', WHERE WHAT IT READS IS OF BULK AT MOST 1048576: true; the input reads as it did. -/
def fnLazyUptoRow : OpenClaim := { program := "ytcpbikilgacdlaagreat", sum := "6fbe717051ac4064ab1b7683b1b3452c8243c844aa6e88fa966804a4a07a7267", func := "loop.example/g03016/laws.FnLazy", spec := "fnLazy", inPlace := ["internal/abi.NoEscape"], unfollowed := true, recurses := true, apart := false, narrowed := true }
def FnLazyUptoSaid : Prop := fnLazyUptoRow.holds Tryz.pinned (OpenSpec.upto fnLazySpec)

/-- 'laws.FnTwice', WHERE WHAT IT READS IS OF BULK AT MOST 1048576: true; the input reads as it did. -/
def fnTwiceUptoRow : OpenClaim := { program := "ytcpbikilgacdlaagreat", sum := "6fbe717051ac4064ab1b7683b1b3452c8243c844aa6e88fa966804a4a07a7267", func := "loop.example/g03016/laws.FnTwice", spec := "fnTwice", inPlace := ["internal/abi.NoEscape"], unfollowed := true, recurses := true, apart := false, narrowed := true }
def FnTwiceUptoSaid : Prop := fnTwiceUptoRow.holds Tryz.pinned (OpenSpec.upto fnTwiceSpec)

/-- 'laws.FnHears', WHERE WHAT IT READS IS OF BULK AT MOST 1048576: true; the input reads as it did. -/
def fnHearsUptoRow : OpenClaim := { program := "ytcpbikilgacdlaagreat", sum := "6fbe717051ac4064ab1b7683b1b3452c8243c844aa6e88fa966804a4a07a7267", func := "loop.example/g03016/laws.FnHears", spec := "fnHears", inPlace := ["internal/abi.NoEscape"], unfollowed := true, recurses := true, apart := false, narrowed := true }
def FnHearsUptoSaid : Prop := fnHearsUptoRow.holds Tryz.pinned (OpenSpec.upto fnHearsSpec)

end Rows
end Go.Proofs.YtcpbikilgacdlaaGreat
