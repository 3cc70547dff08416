/-
  No cell of these rows narrows 'for every input' (looked for: loops, veiled, ifaces, maps, wideKeys, modest, calm, conditions, laid).
  DERIVED. THE GIVEN ROWS OF THIS SEAT. 6 by the template 'for every input the law returns true; each argument reads behind the call as it read before'; 0 by the template 'total and deterministic' (their statements: YtbofplofpggdlabTotals.lean).
  GIVEN WITH THE SEED: the statements are not yours to turn. If you find one false, say at which input.
  Laid BY PROGRAM, IN A SANDBOX (cutbox-rows.mjs): the forced cells as the released guide's own fill.sh prints them over the translation 841a64781c44c9cb… (all of the seat's roots in one cut). By AI agents, Wed Nov 11 2026. No macro, syntax, notation, axiom, sorry.
-/
import Derived.Test.YtbofplofpggdlabChecked
import GoSem.Claim
import GoSem.ClaimJoined
import GoSem.ClaimMapViews
import Derived.JoinedTies
import Derived.KernelRfl
namespace Go.Proofs.Ytbofplofpggdlab
/- THE CELL 'sum', in the pinned program and in every row, IS THE sha256 OF THE DUMP (.gsa) THAT YtbofplofpggdlabProg.lean LOADS. Nothing in Lean hashes anything: it is a label: what it is worth is what the hold of that sum in a sandbox is worth. -/
noncomputable def Try.pinned : Pinned := { name := "ytbofplofpggdlab", sum := "841a64781c44c9cb8e9ecd339c467de53ebe9fb6893eb01c4b96d0e908f014cd", checked := Try.checked }
namespace Rows
def none {H : Type} : Left H := { results := [], args := [] }

/-- 'laws.FnExactFaceOf': WHATEVER THE INPUT: true; the input reads as it did. -/
def fnExactFaceOfSpec : ChangeSpec := { name := "fnExactFaceOf", fn := fun _ => fun
  | [d] => { results := [.lit (.bool true)], args := [d] }
  | _ => none }
def fnExactFaceOfRow : OpenClaim := { program := "ytbofplofpggdlab", sum := "841a64781c44c9cb8e9ecd339c467de53ebe9fb6893eb01c4b96d0e908f014cd", func := "loop.example/g03016/laws.FnExactFaceOf", spec := "fnExactFaceOf", apart := false }
def FnExactFaceOfSaid : Prop := fnExactFaceOfRow.holds Try.pinned (OpenSpec.ofChange fnExactFaceOfSpec)

/-- ITS FALSE NEIGHBOUR: 'it returns false'. Refute it at one input. -/
def fnExactFaceOfWrong : ChangeSpec := { name := "fnExactFaceOf", fn := fun _ => fun
  | [d] => { results := [.lit (.bool false)], args := [d] }
  | _ => none }
def FnExactFaceOfWrongFalsely : Prop := fnExactFaceOfRow.holds Try.pinned (OpenSpec.ofChange fnExactFaceOfWrong)

/-- 'laws.FnExactIsPart': WHATEVER THE INPUT: true; the input reads as it did. -/
def fnExactIsPartSpec : ChangeSpec := { name := "fnExactIsPart", fn := fun _ => fun
  | [d] => { results := [.lit (.bool true)], args := [d] }
  | _ => none }
def fnExactIsPartRow : OpenClaim := { program := "ytbofplofpggdlab", sum := "841a64781c44c9cb8e9ecd339c467de53ebe9fb6893eb01c4b96d0e908f014cd", func := "loop.example/g03016/laws.FnExactIsPart", spec := "fnExactIsPart", apart := false }
def FnExactIsPartSaid : Prop := fnExactIsPartRow.holds Try.pinned (OpenSpec.ofChange fnExactIsPartSpec)

/-- ITS FALSE NEIGHBOUR: 'it returns false'. Refute it at one input. -/
def fnExactIsPartWrong : ChangeSpec := { name := "fnExactIsPart", fn := fun _ => fun
  | [d] => { results := [.lit (.bool false)], args := [d] }
  | _ => none }
def FnExactIsPartWrongFalsely : Prop := fnExactIsPartRow.holds Try.pinned (OpenSpec.ofChange fnExactIsPartWrong)

/-- 'laws.FnExactNewPart': WHATEVER THE INPUT: true; the input reads as it did. -/
def fnExactNewPartSpec : ChangeSpec := { name := "fnExactNewPart", fn := fun _ => fun
  | [d] => { results := [.lit (.bool true)], args := [d] }
  | _ => none }
def fnExactNewPartRow : OpenClaim := { program := "ytbofplofpggdlab", sum := "841a64781c44c9cb8e9ecd339c467de53ebe9fb6893eb01c4b96d0e908f014cd", func := "loop.example/g03016/laws.FnExactNewPart", spec := "fnExactNewPart", inPlace := ["internal/abi.NoEscape"], apart := false }
def FnExactNewPartSaid : Prop := fnExactNewPartRow.holds Try.pinned (OpenSpec.ofChange fnExactNewPartSpec)

/-- ITS FALSE NEIGHBOUR: 'it returns false'. Refute it at one input. -/
def fnExactNewPartWrong : ChangeSpec := { name := "fnExactNewPart", fn := fun _ => fun
  | [d] => { results := [.lit (.bool false)], args := [d] }
  | _ => none }
def FnExactNewPartWrongFalsely : Prop := fnExactNewPartRow.holds Try.pinned (OpenSpec.ofChange fnExactNewPartWrong)

/-- 'laws.FnExactUnwrap': WHATEVER THE INPUT: true; the input reads as it did. -/
def fnExactUnwrapSpec : ChangeSpec := { name := "fnExactUnwrap", fn := fun _ => fun
  | [d] => { results := [.lit (.bool true)], args := [d] }
  | _ => none }
def fnExactUnwrapRow : OpenClaim := { program := "ytbofplofpggdlab", sum := "841a64781c44c9cb8e9ecd339c467de53ebe9fb6893eb01c4b96d0e908f014cd", func := "loop.example/g03016/laws.FnExactUnwrap", spec := "fnExactUnwrap", inPlace := ["internal/abi.NoEscape"], apart := false }
def FnExactUnwrapSaid : Prop := fnExactUnwrapRow.holds Try.pinned (OpenSpec.ofChange fnExactUnwrapSpec)

/-- ITS FALSE NEIGHBOUR: 'it returns false'. Refute it at one input. -/
def fnExactUnwrapWrong : ChangeSpec := { name := "fnExactUnwrap", fn := fun _ => fun
  | [d] => { results := [.lit (.bool false)], args := [d] }
  | _ => none }
def FnExactUnwrapWrongFalsely : Prop := fnExactUnwrapRow.holds Try.pinned (OpenSpec.ofChange fnExactUnwrapWrong)

/-- 'laws.FnExactRecipeOf': WHATEVER THE INPUT: true; the input reads as it did. -/
def fnExactRecipeOfSpec : ChangeSpec := { name := "fnExactRecipeOf", fn := fun _ => fun
  | [d] => { results := [.lit (.bool true)], args := [d] }
  | _ => none }
def fnExactRecipeOfRow : OpenClaim := { program := "ytbofplofpggdlab", sum := "841a64781c44c9cb8e9ecd339c467de53ebe9fb6893eb01c4b96d0e908f014cd", func := "loop.example/g03016/laws.FnExactRecipeOf", spec := "fnExactRecipeOf", inPlace := ["internal/abi.NoEscape"], apart := false }
def FnExactRecipeOfSaid : Prop := fnExactRecipeOfRow.holds Try.pinned (OpenSpec.ofChange fnExactRecipeOfSpec)

/-- ITS FALSE NEIGHBOUR: 'it returns false'. Refute it at one input. -/
def fnExactRecipeOfWrong : ChangeSpec := { name := "fnExactRecipeOf", fn := fun _ => fun
  | [d] => { results := [.lit (.bool false)], args := [d] }
  | _ => none }
def FnExactRecipeOfWrongFalsely : Prop := fnExactRecipeOfRow.holds Try.pinned (OpenSpec.ofChange fnExactRecipeOfWrong)

/-- 'laws.FnExactSamePart': WHATEVER THE INPUT: true; the input reads as it did. -/
def fnExactSamePartSpec : ChangeSpec := { name := "fnExactSamePart", fn := fun _ => fun
  | [d1, d2] => { results := [.lit (.bool true)], args := [d1, d2] }
  | _ => none }
def fnExactSamePartRow : OpenClaim := { program := "ytbofplofpggdlab", sum := "841a64781c44c9cb8e9ecd339c467de53ebe9fb6893eb01c4b96d0e908f014cd", func := "loop.example/g03016/laws.FnExactSamePart", spec := "fnExactSamePart", apart := false }
def FnExactSamePartSaid : Prop := fnExactSamePartRow.holds Try.pinned (OpenSpec.ofChange fnExactSamePartSpec)

/-- ITS FALSE NEIGHBOUR: 'it returns false'. Refute it at one input. -/
def fnExactSamePartWrong : ChangeSpec := { name := "fnExactSamePart", fn := fun _ => fun
  | [d1, d2] => { results := [.lit (.bool false)], args := [d1, d2] }
  | _ => none }
def FnExactSamePartWrongFalsely : Prop := fnExactSamePartRow.holds Try.pinned (OpenSpec.ofChange fnExactSamePartWrong)

/- THE SECOND FORM. 'bulk': how many values and letters a reading holds, each counted each time it is reached (what is shared counts as often as it is met; a slice's spare places count too). A statement '..UptoSaid' is the law's where the arguments, and the package variables that the reading takes, are together of bulk at most 1048576: NARROWER than '..Said'. Prove '..Said' where nothing that the law and all that it calls make is longer than what came in: it says more and counts as full. Else prove '..UptoSaid'. A law counts once. -/
mutual
def uptoBulk {H : Type} : DataW H → Nat
  | .lit (.string bytes) => bytes.length + 1
  | .lit _ => 1
  | .nil => 1
  | .ptr d => uptoBulk d + 1
  | .slice elems spare => uptoBulkAll elems + uptoBulkAll spare + 1
  | .agg parts => uptoBulkAll parts + 1
  | .iface _ d => uptoBulk d + 1
  | .map entries => uptoBulkEntries entries + 1
  | .held _ => 1
def uptoBulkAll {H : Type} : List (DataW H) → Nat
  | [] => 0
  | d :: r => uptoBulk d + uptoBulkAll r
def uptoBulkEntries {H : Type} : List (Lit × DataW H) → Nat
  | [] => 0
  | x :: r => uptoBulkEntry x + uptoBulkEntries r
def uptoBulkEntry {H : Type} : Lit × DataW H → Nat
  | (.string bytes, d) => bytes.length + uptoBulk d + 1
  | (_, d) => uptoBulk d + 1
 end
def uptoSmall : (H : Type) → List (DataW H) → Bool := fun _ ds => decide (uptoBulkAll ds ≤ 1048576)
def OpenSpec.upto (s : _root_.Go.ChangeSpec) : _root_.Go.OpenSpec := { _root_.Go.OpenSpec.ofChange s with cond := some uptoSmall }

/-- 'laws.FnExactFaceOf', WHERE WHAT IT READS IS OF BULK AT MOST 1048576: true; the input reads as it did. -/
def fnExactFaceOfUptoRow : OpenClaim := { program := "ytbofplofpggdlab", sum := "841a64781c44c9cb8e9ecd339c467de53ebe9fb6893eb01c4b96d0e908f014cd", func := "loop.example/g03016/laws.FnExactFaceOf", spec := "fnExactFaceOf", apart := false, narrowed := true }
def FnExactFaceOfUptoSaid : Prop := fnExactFaceOfUptoRow.holds Try.pinned (OpenSpec.upto fnExactFaceOfSpec)

/-- 'laws.FnExactIsPart', WHERE WHAT IT READS IS OF BULK AT MOST 1048576: true; the input reads as it did. -/
def fnExactIsPartUptoRow : OpenClaim := { program := "ytbofplofpggdlab", sum := "841a64781c44c9cb8e9ecd339c467de53ebe9fb6893eb01c4b96d0e908f014cd", func := "loop.example/g03016/laws.FnExactIsPart", spec := "fnExactIsPart", apart := false, narrowed := true }
def FnExactIsPartUptoSaid : Prop := fnExactIsPartUptoRow.holds Try.pinned (OpenSpec.upto fnExactIsPartSpec)

/-- 'laws.FnExactNewPart', WHERE WHAT IT READS IS OF BULK AT MOST 1048576: true; the input reads as it did. -/
def fnExactNewPartUptoRow : OpenClaim := { program := "ytbofplofpggdlab", sum := "841a64781c44c9cb8e9ecd339c467de53ebe9fb6893eb01c4b96d0e908f014cd", func := "loop.example/g03016/laws.FnExactNewPart", spec := "fnExactNewPart", inPlace := ["internal/abi.NoEscape"], apart := false, narrowed := true }
def FnExactNewPartUptoSaid : Prop := fnExactNewPartUptoRow.holds Try.pinned (OpenSpec.upto fnExactNewPartSpec)

/-- 'laws.FnExactUnwrap', WHERE WHAT IT READS IS OF BULK AT MOST 1048576: true; the input reads as it did. -/
def fnExactUnwrapUptoRow : OpenClaim := { program := "ytbofplofpggdlab", sum := "841a64781c44c9cb8e9ecd339c467de53ebe9fb6893eb01c4b96d0e908f014cd", func := "loop.example/g03016/laws.FnExactUnwrap", spec := "fnExactUnwrap", inPlace := ["internal/abi.NoEscape"], apart := false, narrowed := true }
def FnExactUnwrapUptoSaid : Prop := fnExactUnwrapUptoRow.holds Try.pinned (OpenSpec.upto fnExactUnwrapSpec)

/-- 'laws.FnExactRecipeOf', WHERE WHAT IT READS IS OF BULK AT MOST 1048576: true; the input reads as it did. -/
def fnExactRecipeOfUptoRow : OpenClaim := { program := "ytbofplofpggdlab", sum := "841a64781c44c9cb8e9ecd339c467de53ebe9fb6893eb01c4b96d0e908f014cd", func := "loop.example/g03016/laws.FnExactRecipeOf", spec := "fnExactRecipeOf", inPlace := ["internal/abi.NoEscape"], apart := false, narrowed := true }
def FnExactRecipeOfUptoSaid : Prop := fnExactRecipeOfUptoRow.holds Try.pinned (OpenSpec.upto fnExactRecipeOfSpec)

/-- 'laws.FnExactSamePart', WHERE WHAT IT READS IS OF BULK AT MOST 1048576: true; the input reads as it did. -/
def fnExactSamePartUptoRow : OpenClaim := { program := "ytbofplofpggdlab", sum := "841a64781c44c9cb8e9ecd339c467de53ebe9fb6893eb01c4b96d0e908f014cd", func := "loop.example/g03016/laws.FnExactSamePart", spec := "fnExactSamePart", apart := false, narrowed := true }
def FnExactSamePartUptoSaid : Prop := fnExactSamePartUptoRow.holds Try.pinned (OpenSpec.upto fnExactSamePartSpec)

end Rows
end Go.Proofs.Ytbofplofpggdlab
