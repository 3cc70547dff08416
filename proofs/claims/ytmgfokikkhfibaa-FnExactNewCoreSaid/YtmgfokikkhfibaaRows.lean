/-
  No cell of these rows narrows 'for every input' (looked for: loops, veiled, ifaces, maps, wideKeys, modest, calm, conditions, laid).
  DERIVED. THE GIVEN ROWS OF THIS SEAT. 6 by the template 'for every input the law returns true; each argument reads behind the call as it read before'; 0 by the template 'total and deterministic' (their statements: YtmgfokikkhfibaaTotals.lean).
  GIVEN WITH THE SEED: the statements are not yours to turn. If you find one false, say at which input.
  Laid BY PROGRAM, IN A SANDBOX (cutbox-rows.mjs): the forced cells as the released guide's own fill.sh prints them over the translation 9ec40a0210a30dca… (all of the seat's roots in one cut). By AI agents, Wed Nov 11 2026. No macro, syntax, notation, axiom, sorry.
-/
import Derived.Test.YtmgfokikkhfibaaChecked
import GoSem.Claim
import GoSem.ClaimJoined
import GoSem.ClaimMapViews
import Derived.JoinedTies
import Derived.KernelRfl
namespace Go.Proofs.Ytmgfokikkhfibaa
/- THE CELL 'sum', in the pinned program and in every row, IS THE sha256 OF THE DUMP (.gsa) THAT YtmgfokikkhfibaaProg.lean LOADS. Nothing in Lean hashes anything: it is a label: what it is worth is what the hold of that sum in a sandbox is worth. -/
noncomputable def Try.pinned : Pinned := { name := "ytmgfokikkhfibaa", sum := "9ec40a0210a30dca90bdecfa7accd4623605b35744449435f84f3bf15cb7a69b", checked := Try.checked }
namespace Rows
def none {H : Type} : Left H := { results := [], args := [] }

/-- 'laws.FnExactKindFace': WHATEVER THE INPUT: true; the input reads as it did. -/
def fnExactKindFaceSpec : ChangeSpec := { name := "fnExactKindFace", fn := fun _ => fun
  | [d] => { results := [.lit (.bool true)], args := [d] }
  | _ => none }
def fnExactKindFaceRow : OpenClaim := { program := "ytmgfokikkhfibaa", sum := "9ec40a0210a30dca90bdecfa7accd4623605b35744449435f84f3bf15cb7a69b", func := "loop.example/g03016/laws.FnExactKindFace", spec := "fnExactKindFace", apart := false }
def FnExactKindFaceSaid : Prop := fnExactKindFaceRow.holds Try.pinned (OpenSpec.ofChange fnExactKindFaceSpec)

/-- ITS FALSE NEIGHBOUR: 'it returns false'. Refute it at one input. -/
def fnExactKindFaceWrong : ChangeSpec := { name := "fnExactKindFace", fn := fun _ => fun
  | [d] => { results := [.lit (.bool false)], args := [d] }
  | _ => none }
def FnExactKindFaceWrongFalsely : Prop := fnExactKindFaceRow.holds Try.pinned (OpenSpec.ofChange fnExactKindFaceWrong)

/-- 'laws.FnExactIsCells': WHATEVER THE INPUT: true; the input reads as it did. -/
def fnExactIsCellsSpec : ChangeSpec := { name := "fnExactIsCells", fn := fun _ => fun
  | [d] => { results := [.lit (.bool true)], args := [d] }
  | _ => none }
def fnExactIsCellsRow : OpenClaim := { program := "ytmgfokikkhfibaa", sum := "9ec40a0210a30dca90bdecfa7accd4623605b35744449435f84f3bf15cb7a69b", func := "loop.example/g03016/laws.FnExactIsCells", spec := "fnExactIsCells", apart := false }
def FnExactIsCellsSaid : Prop := fnExactIsCellsRow.holds Try.pinned (OpenSpec.ofChange fnExactIsCellsSpec)

/-- ITS FALSE NEIGHBOUR: 'it returns false'. Refute it at one input. -/
def fnExactIsCellsWrong : ChangeSpec := { name := "fnExactIsCells", fn := fun _ => fun
  | [d] => { results := [.lit (.bool false)], args := [d] }
  | _ => none }
def FnExactIsCellsWrongFalsely : Prop := fnExactIsCellsRow.holds Try.pinned (OpenSpec.ofChange fnExactIsCellsWrong)

/-- 'laws.FnExactFormatCells': WHATEVER THE INPUT: true; the input reads as it did. -/
def fnExactFormatCellsSpec : ChangeSpec := { name := "fnExactFormatCells", fn := fun _ => fun
  | [d] => { results := [.lit (.bool true)], args := [d] }
  | _ => none }
def fnExactFormatCellsRow : OpenClaim := { program := "ytmgfokikkhfibaa", sum := "9ec40a0210a30dca90bdecfa7accd4623605b35744449435f84f3bf15cb7a69b", func := "loop.example/g03016/laws.FnExactFormatCells", spec := "fnExactFormatCells", inPlace := ["internal/abi.NoEscape"], recurses := true, apart := false }
def FnExactFormatCellsSaid : Prop := fnExactFormatCellsRow.holds Try.pinned (OpenSpec.ofChange fnExactFormatCellsSpec)

/-- ITS FALSE NEIGHBOUR: 'it returns false'. Refute it at one input. -/
def fnExactFormatCellsWrong : ChangeSpec := { name := "fnExactFormatCells", fn := fun _ => fun
  | [d] => { results := [.lit (.bool false)], args := [d] }
  | _ => none }
def FnExactFormatCellsWrongFalsely : Prop := fnExactFormatCellsRow.holds Try.pinned (OpenSpec.ofChange fnExactFormatCellsWrong)

/-- 'laws.FnExactParseCells': WHATEVER THE INPUT: true; the input reads as it did. -/
def fnExactParseCellsSpec : ChangeSpec := { name := "fnExactParseCells", fn := fun _ => fun
  | [d] => { results := [.lit (.bool true)], args := [d] }
  | _ => none }
def fnExactParseCellsRow : OpenClaim := { program := "ytmgfokikkhfibaa", sum := "9ec40a0210a30dca90bdecfa7accd4623605b35744449435f84f3bf15cb7a69b", func := "loop.example/g03016/laws.FnExactParseCells", spec := "fnExactParseCells", inPlace := ["internal/abi.NoEscape", "internal/bytealg.IndexByteString", "internal/bytealg.IndexString"], recurses := true, named := ["internal/bytealg.MaxLen"], apart := false }
def FnExactParseCellsSaid : Prop := fnExactParseCellsRow.holds Try.pinned (OpenSpec.ofChange fnExactParseCellsSpec)

/-- ITS FALSE NEIGHBOUR: 'it returns false'. Refute it at one input. -/
def fnExactParseCellsWrong : ChangeSpec := { name := "fnExactParseCells", fn := fun _ => fun
  | [d] => { results := [.lit (.bool false)], args := [d] }
  | _ => none }
def FnExactParseCellsWrongFalsely : Prop := fnExactParseCellsRow.holds Try.pinned (OpenSpec.ofChange fnExactParseCellsWrong)

/-- 'laws.FnExactNewCore': WHATEVER THE INPUT: true; the input reads as it did. -/
def fnExactNewCoreSpec : ChangeSpec := { name := "fnExactNewCore", fn := fun _ => fun
  | [d] => { results := [.lit (.bool true)], args := [d] }
  | _ => none }
def fnExactNewCoreRow : OpenClaim := { program := "ytmgfokikkhfibaa", sum := "9ec40a0210a30dca90bdecfa7accd4623605b35744449435f84f3bf15cb7a69b", func := "loop.example/g03016/laws.FnExactNewCore", spec := "fnExactNewCore", inPlace := ["internal/abi.NoEscape"], apart := false }
def FnExactNewCoreSaid : Prop := fnExactNewCoreRow.holds Try.pinned (OpenSpec.ofChange fnExactNewCoreSpec)

/-- ITS FALSE NEIGHBOUR: 'it returns false'. Refute it at one input. -/
def fnExactNewCoreWrong : ChangeSpec := { name := "fnExactNewCore", fn := fun _ => fun
  | [d] => { results := [.lit (.bool false)], args := [d] }
  | _ => none }
def FnExactNewCoreWrongFalsely : Prop := fnExactNewCoreRow.holds Try.pinned (OpenSpec.ofChange fnExactNewCoreWrong)

/-- 'laws.FnExactIsCore': WHATEVER THE INPUT: true; the input reads as it did. -/
def fnExactIsCoreSpec : ChangeSpec := { name := "fnExactIsCore", fn := fun _ => fun
  | [d] => { results := [.lit (.bool true)], args := [d] }
  | _ => none }
def fnExactIsCoreRow : OpenClaim := { program := "ytmgfokikkhfibaa", sum := "9ec40a0210a30dca90bdecfa7accd4623605b35744449435f84f3bf15cb7a69b", func := "loop.example/g03016/laws.FnExactIsCore", spec := "fnExactIsCore", apart := false }
def FnExactIsCoreSaid : Prop := fnExactIsCoreRow.holds Try.pinned (OpenSpec.ofChange fnExactIsCoreSpec)

/-- ITS FALSE NEIGHBOUR: 'it returns false'. Refute it at one input. -/
def fnExactIsCoreWrong : ChangeSpec := { name := "fnExactIsCore", fn := fun _ => fun
  | [d] => { results := [.lit (.bool false)], args := [d] }
  | _ => none }
def FnExactIsCoreWrongFalsely : Prop := fnExactIsCoreRow.holds Try.pinned (OpenSpec.ofChange fnExactIsCoreWrong)

/- THE SECOND FORM. 'bulk': how many values and letters a reading holds, each counted each time it is reached (what is shared counts as often as it is met; a slice's spare places count too). A statement '..UptoSaid' is the law's where the arguments, and the package variables that the reading takes, are together of bulk at most 1048576: NARROWER than '..Said'. Prove '..Said' where nothing that the law and all that it calls make is longer than what came in: it says more and counts as full. Else prove '..UptoSaid'. A law counts once. -/
mutual
def uptoBulk {H : Type} : DataW H → Nat
  | .lit (.string bytes) => bytes.length + 1
  | .lit _ => 1
  | .nil => 1
  | .ptr d => uptoBulk d + 1
  | .slice elems spare => uptoBulkAll elems + uptoBulkAll spare + 1
  | .agg parts => uptoBulkAll parts + 1
  | .iface _ d => uptoBulk d + 1
  | .map entries => uptoBulkEntries entries + 1
  | .held _ => 1
def uptoBulkAll {H : Type} : List (DataW H) → Nat
  | [] => 0
  | d :: r => uptoBulk d + uptoBulkAll r
def uptoBulkEntries {H : Type} : List (Lit × DataW H) → Nat
  | [] => 0
  | x :: r => uptoBulkEntry x + uptoBulkEntries r
def uptoBulkEntry {H : Type} : Lit × DataW H → Nat
  | (.string bytes, d) => bytes.length + uptoBulk d + 1
  | (_, d) => uptoBulk d + 1
 end
def uptoSmall : (H : Type) → List (DataW H) → Bool := fun _ ds => decide (uptoBulkAll ds ≤ 1048576)
def OpenSpec.upto (s : _root_.Go.ChangeSpec) : _root_.Go.OpenSpec := { _root_.Go.OpenSpec.ofChange s with cond := some uptoSmall }

/-- 'laws.FnExactKindFace', WHERE WHAT IT READS IS OF BULK AT MOST 1048576: true; the input reads as it did. -/
def fnExactKindFaceUptoRow : OpenClaim := { program := "ytmgfokikkhfibaa", sum := "9ec40a0210a30dca90bdecfa7accd4623605b35744449435f84f3bf15cb7a69b", func := "loop.example/g03016/laws.FnExactKindFace", spec := "fnExactKindFace", apart := false, narrowed := true }
def FnExactKindFaceUptoSaid : Prop := fnExactKindFaceUptoRow.holds Try.pinned (OpenSpec.upto fnExactKindFaceSpec)

/-- 'laws.FnExactIsCells', WHERE WHAT IT READS IS OF BULK AT MOST 1048576: true; the input reads as it did. -/
def fnExactIsCellsUptoRow : OpenClaim := { program := "ytmgfokikkhfibaa", sum := "9ec40a0210a30dca90bdecfa7accd4623605b35744449435f84f3bf15cb7a69b", func := "loop.example/g03016/laws.FnExactIsCells", spec := "fnExactIsCells", apart := false, narrowed := true }
def FnExactIsCellsUptoSaid : Prop := fnExactIsCellsUptoRow.holds Try.pinned (OpenSpec.upto fnExactIsCellsSpec)

/-- 'laws.FnExactFormatCells', WHERE WHAT IT READS IS OF BULK AT MOST 1048576: true; the input reads as it did. -/
def fnExactFormatCellsUptoRow : OpenClaim := { program := "ytmgfokikkhfibaa", sum := "9ec40a0210a30dca90bdecfa7accd4623605b35744449435f84f3bf15cb7a69b", func := "loop.example/g03016/laws.FnExactFormatCells", spec := "fnExactFormatCells", inPlace := ["internal/abi.NoEscape"], recurses := true, apart := false, narrowed := true }
def FnExactFormatCellsUptoSaid : Prop := fnExactFormatCellsUptoRow.holds Try.pinned (OpenSpec.upto fnExactFormatCellsSpec)

/-- 'laws.FnExactParseCells', WHERE WHAT IT READS IS OF BULK AT MOST 1048576: true; the input reads as it did. -/
def fnExactParseCellsUptoRow : OpenClaim := { program := "ytmgfokikkhfibaa", sum := "9ec40a0210a30dca90bdecfa7accd4623605b35744449435f84f3bf15cb7a69b", func := "loop.example/g03016/laws.FnExactParseCells", spec := "fnExactParseCells", inPlace := ["internal/abi.NoEscape", "internal/bytealg.IndexByteString", "internal/bytealg.IndexString"], recurses := true, named := ["internal/bytealg.MaxLen"], apart := false, narrowed := true }
def FnExactParseCellsUptoSaid : Prop := fnExactParseCellsUptoRow.holds Try.pinned (OpenSpec.upto fnExactParseCellsSpec)

/-- 'laws.FnExactNewCore', WHERE WHAT IT READS IS OF BULK AT MOST 1048576: true; the input reads as it did. -/
def fnExactNewCoreUptoRow : OpenClaim := { program := "ytmgfokikkhfibaa", sum := "9ec40a0210a30dca90bdecfa7accd4623605b35744449435f84f3bf15cb7a69b", func := "loop.example/g03016/laws.FnExactNewCore", spec := "fnExactNewCore", inPlace := ["internal/abi.NoEscape"], apart := false, narrowed := true }
def FnExactNewCoreUptoSaid : Prop := fnExactNewCoreUptoRow.holds Try.pinned (OpenSpec.upto fnExactNewCoreSpec)

/-- 'laws.FnExactIsCore', WHERE WHAT IT READS IS OF BULK AT MOST 1048576: true; the input reads as it did. -/
def fnExactIsCoreUptoRow : OpenClaim := { program := "ytmgfokikkhfibaa", sum := "9ec40a0210a30dca90bdecfa7accd4623605b35744449435f84f3bf15cb7a69b", func := "loop.example/g03016/laws.FnExactIsCore", spec := "fnExactIsCore", apart := false, narrowed := true }
def FnExactIsCoreUptoSaid : Prop := fnExactIsCoreUptoRow.holds Try.pinned (OpenSpec.upto fnExactIsCoreSpec)

end Rows
end Go.Proofs.Ytmgfokikkhfibaa
