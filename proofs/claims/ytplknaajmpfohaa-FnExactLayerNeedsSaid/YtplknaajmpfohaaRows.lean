/-
  No cell of these rows narrows 'for every input' (looked for: loops, veiled, ifaces, maps, wideKeys, modest, calm, conditions, laid).
  DERIVED. THE GIVEN ROWS OF THIS SEAT. 6 by the template 'for every input the law returns true; each argument reads behind the call as it read before'; 0 by the template 'total and deterministic' (their statements: YtplknaajmpfohaaTotals.lean).
  GIVEN WITH THE SEED: the statements are not yours to turn. If you find one false, say at which input.
  Laid BY PROGRAM, IN A SANDBOX (cutbox-rows.mjs): the forced cells as the released guide's own fill.sh prints them over the translation 383e5ae8f854d228… (all of the seat's roots in one cut). By AI agents, Wed Nov 11 2026. No macro, syntax, notation, axiom, sorry.
-/
import Derived.Test.YtplknaajmpfohaaChecked
import GoSem.Claim
import GoSem.ClaimJoined
import GoSem.ClaimMapViews
import Derived.JoinedTies
import Derived.KernelRfl
namespace Go.Proofs.Ytplknaajmpfohaa
/- THE CELL 'sum', in the pinned program and in every row, IS THE sha256 OF THE DUMP (.gsa) THAT YtplknaajmpfohaaProg.lean LOADS. Nothing in Lean hashes anything: it is a label: what it is worth is what the hold of that sum in a sandbox is worth. -/
noncomputable def Try.pinned : Pinned := { name := "ytplknaajmpfohaa", sum := "383e5ae8f854d228011f8432cb3f70f929d58cc7e6965de647015d73d0da54db", checked := Try.checked }
namespace Rows
def none {H : Type} : Left H := { results := [], args := [] }

/-- 'laws.FnExactLayerNeeds': WHATEVER THE INPUT: true; the input reads as it did. -/
def fnExactLayerNeedsSpec : ChangeSpec := { name := "fnExactLayerNeeds", fn := fun _ => fun
  | [d] => { results := [.lit (.bool true)], args := [d] }
  | _ => none }
def fnExactLayerNeedsRow : OpenClaim := { program := "ytplknaajmpfohaa", sum := "383e5ae8f854d228011f8432cb3f70f929d58cc7e6965de647015d73d0da54db", func := "loop.example/g03016/laws.FnExactLayerNeeds", spec := "fnExactLayerNeeds", apart := false }
def FnExactLayerNeedsSaid : Prop := fnExactLayerNeedsRow.holds Try.pinned (OpenSpec.ofChange fnExactLayerNeedsSpec)

/-- ITS FALSE NEIGHBOUR: 'it returns false'. Refute it at one input. -/
def fnExactLayerNeedsWrong : ChangeSpec := { name := "fnExactLayerNeeds", fn := fun _ => fun
  | [d] => { results := [.lit (.bool false)], args := [d] }
  | _ => none }
def FnExactLayerNeedsWrongFalsely : Prop := fnExactLayerNeedsRow.holds Try.pinned (OpenSpec.ofChange fnExactLayerNeedsWrong)

/-- 'laws.FnExactLayerGives': WHATEVER THE INPUT: true; the input reads as it did. -/
def fnExactLayerGivesSpec : ChangeSpec := { name := "fnExactLayerGives", fn := fun _ => fun
  | [d] => { results := [.lit (.bool true)], args := [d] }
  | _ => none }
def fnExactLayerGivesRow : OpenClaim := { program := "ytplknaajmpfohaa", sum := "383e5ae8f854d228011f8432cb3f70f929d58cc7e6965de647015d73d0da54db", func := "loop.example/g03016/laws.FnExactLayerGives", spec := "fnExactLayerGives", apart := false }
def FnExactLayerGivesSaid : Prop := fnExactLayerGivesRow.holds Try.pinned (OpenSpec.ofChange fnExactLayerGivesSpec)

/-- ITS FALSE NEIGHBOUR: 'it returns false'. Refute it at one input. -/
def fnExactLayerGivesWrong : ChangeSpec := { name := "fnExactLayerGives", fn := fun _ => fun
  | [d] => { results := [.lit (.bool false)], args := [d] }
  | _ => none }
def FnExactLayerGivesWrongFalsely : Prop := fnExactLayerGivesRow.holds Try.pinned (OpenSpec.ofChange fnExactLayerGivesWrong)

/-- 'laws.FnExactFaceOf': WHATEVER THE INPUT: true; the input reads as it did. -/
def fnExactFaceOfSpec : ChangeSpec := { name := "fnExactFaceOf", fn := fun _ => fun
  | [d] => { results := [.lit (.bool true)], args := [d] }
  | _ => none }
def fnExactFaceOfRow : OpenClaim := { program := "ytplknaajmpfohaa", sum := "383e5ae8f854d228011f8432cb3f70f929d58cc7e6965de647015d73d0da54db", func := "loop.example/g03016/laws.FnExactFaceOf", spec := "fnExactFaceOf", apart := false }
def FnExactFaceOfSaid : Prop := fnExactFaceOfRow.holds Try.pinned (OpenSpec.ofChange fnExactFaceOfSpec)

/-- ITS FALSE NEIGHBOUR: 'it returns false'. Refute it at one input. -/
def fnExactFaceOfWrong : ChangeSpec := { name := "fnExactFaceOf", fn := fun _ => fun
  | [d] => { results := [.lit (.bool false)], args := [d] }
  | _ => none }
def FnExactFaceOfWrongFalsely : Prop := fnExactFaceOfRow.holds Try.pinned (OpenSpec.ofChange fnExactFaceOfWrong)

/-- 'laws.FnExactIsPart': WHATEVER THE INPUT: true; the input reads as it did. -/
def fnExactIsPartSpec : ChangeSpec := { name := "fnExactIsPart", fn := fun _ => fun
  | [d] => { results := [.lit (.bool true)], args := [d] }
  | _ => none }
def fnExactIsPartRow : OpenClaim := { program := "ytplknaajmpfohaa", sum := "383e5ae8f854d228011f8432cb3f70f929d58cc7e6965de647015d73d0da54db", func := "loop.example/g03016/laws.FnExactIsPart", spec := "fnExactIsPart", apart := false }
def FnExactIsPartSaid : Prop := fnExactIsPartRow.holds Try.pinned (OpenSpec.ofChange fnExactIsPartSpec)

/-- ITS FALSE NEIGHBOUR: 'it returns false'. Refute it at one input. -/
def fnExactIsPartWrong : ChangeSpec := { name := "fnExactIsPart", fn := fun _ => fun
  | [d] => { results := [.lit (.bool false)], args := [d] }
  | _ => none }
def FnExactIsPartWrongFalsely : Prop := fnExactIsPartRow.holds Try.pinned (OpenSpec.ofChange fnExactIsPartWrong)

/-- 'laws.FnExactNewPart': WHATEVER THE INPUT: true; the input reads as it did. -/
def fnExactNewPartSpec : ChangeSpec := { name := "fnExactNewPart", fn := fun _ => fun
  | [d] => { results := [.lit (.bool true)], args := [d] }
  | _ => none }
def fnExactNewPartRow : OpenClaim := { program := "ytplknaajmpfohaa", sum := "383e5ae8f854d228011f8432cb3f70f929d58cc7e6965de647015d73d0da54db", func := "loop.example/g03016/laws.FnExactNewPart", spec := "fnExactNewPart", inPlace := ["internal/abi.NoEscape"], apart := false }
def FnExactNewPartSaid : Prop := fnExactNewPartRow.holds Try.pinned (OpenSpec.ofChange fnExactNewPartSpec)

/-- ITS FALSE NEIGHBOUR: 'it returns false'. Refute it at one input. -/
def fnExactNewPartWrong : ChangeSpec := { name := "fnExactNewPart", fn := fun _ => fun
  | [d] => { results := [.lit (.bool false)], args := [d] }
  | _ => none }
def FnExactNewPartWrongFalsely : Prop := fnExactNewPartRow.holds Try.pinned (OpenSpec.ofChange fnExactNewPartWrong)

/-- 'laws.FnExactUnwrap': WHATEVER THE INPUT: true; the input reads as it did. -/
def fnExactUnwrapSpec : ChangeSpec := { name := "fnExactUnwrap", fn := fun _ => fun
  | [d] => { results := [.lit (.bool true)], args := [d] }
  | _ => none }
def fnExactUnwrapRow : OpenClaim := { program := "ytplknaajmpfohaa", sum := "383e5ae8f854d228011f8432cb3f70f929d58cc7e6965de647015d73d0da54db", func := "loop.example/g03016/laws.FnExactUnwrap", spec := "fnExactUnwrap", inPlace := ["internal/abi.NoEscape"], apart := false }
def FnExactUnwrapSaid : Prop := fnExactUnwrapRow.holds Try.pinned (OpenSpec.ofChange fnExactUnwrapSpec)

/-- ITS FALSE NEIGHBOUR: 'it returns false'. Refute it at one input. -/
def fnExactUnwrapWrong : ChangeSpec := { name := "fnExactUnwrap", fn := fun _ => fun
  | [d] => { results := [.lit (.bool false)], args := [d] }
  | _ => none }
def FnExactUnwrapWrongFalsely : Prop := fnExactUnwrapRow.holds Try.pinned (OpenSpec.ofChange fnExactUnwrapWrong)

/- THE SECOND FORM. 'bulk': how many values and letters a reading holds, each counted each time it is reached (what is shared counts as often as it is met; a slice's spare places count too). A statement '..UptoSaid' is the law's where the arguments, and the package variables that the reading takes, are together of bulk at most 1048576: NARROWER than '..Said'. Prove '..Said' where nothing that the law and all that it calls make is longer than what came in: it says more and counts as full. Else prove '..UptoSaid'. A law counts once. -/
mutual
def uptoBulk {H : Type} : DataW H → Nat
  | .lit (.string bytes) => bytes.length + 1
  | .lit _ => 1
  | .nil => 1
  | .ptr d => uptoBulk d + 1
  | .slice elems spare => uptoBulkAll elems + uptoBulkAll spare + 1
  | .agg parts => uptoBulkAll parts + 1
  | .iface _ d => uptoBulk d + 1
  | .map entries => uptoBulkEntries entries + 1
  | .held _ => 1
def uptoBulkAll {H : Type} : List (DataW H) → Nat
  | [] => 0
  | d :: r => uptoBulk d + uptoBulkAll r
def uptoBulkEntries {H : Type} : List (Lit × DataW H) → Nat
  | [] => 0
  | x :: r => uptoBulkEntry x + uptoBulkEntries r
def uptoBulkEntry {H : Type} : Lit × DataW H → Nat
  | (.string bytes, d) => bytes.length + uptoBulk d + 1
  | (_, d) => uptoBulk d + 1
 end
def uptoSmall : (H : Type) → List (DataW H) → Bool := fun _ ds => decide (uptoBulkAll ds ≤ 1048576)
def OpenSpec.upto (s : _root_.Go.ChangeSpec) : _root_.Go.OpenSpec := { _root_.Go.OpenSpec.ofChange s with cond := some uptoSmall }

/-- 'laws.FnExactLayerNeeds', WHERE WHAT IT READS IS OF BULK AT MOST 1048576: true; the input reads as it did. -/
def fnExactLayerNeedsUptoRow : OpenClaim := { program := "ytplknaajmpfohaa", sum := "383e5ae8f854d228011f8432cb3f70f929d58cc7e6965de647015d73d0da54db", func := "loop.example/g03016/laws.FnExactLayerNeeds", spec := "fnExactLayerNeeds", apart := false, narrowed := true }
def FnExactLayerNeedsUptoSaid : Prop := fnExactLayerNeedsUptoRow.holds Try.pinned (OpenSpec.upto fnExactLayerNeedsSpec)

/-- 'laws.FnExactLayerGives', WHERE WHAT IT READS IS OF BULK AT MOST 1048576: true; the input reads as it did. -/
def fnExactLayerGivesUptoRow : OpenClaim := { program := "ytplknaajmpfohaa", sum := "383e5ae8f854d228011f8432cb3f70f929d58cc7e6965de647015d73d0da54db", func := "loop.example/g03016/laws.FnExactLayerGives", spec := "fnExactLayerGives", apart := false, narrowed := true }
def FnExactLayerGivesUptoSaid : Prop := fnExactLayerGivesUptoRow.holds Try.pinned (OpenSpec.upto fnExactLayerGivesSpec)

/-- 'laws.FnExactFaceOf', WHERE WHAT IT READS IS OF BULK AT MOST 1048576: true; the input reads as it did. -/
def fnExactFaceOfUptoRow : OpenClaim := { program := "ytplknaajmpfohaa", sum := "383e5ae8f854d228011f8432cb3f70f929d58cc7e6965de647015d73d0da54db", func := "loop.example/g03016/laws.FnExactFaceOf", spec := "fnExactFaceOf", apart := false, narrowed := true }
def FnExactFaceOfUptoSaid : Prop := fnExactFaceOfUptoRow.holds Try.pinned (OpenSpec.upto fnExactFaceOfSpec)

/-- 'laws.FnExactIsPart', WHERE WHAT IT READS IS OF BULK AT MOST 1048576: true; the input reads as it did. -/
def fnExactIsPartUptoRow : OpenClaim := { program := "ytplknaajmpfohaa", sum := "383e5ae8f854d228011f8432cb3f70f929d58cc7e6965de647015d73d0da54db", func := "loop.example/g03016/laws.FnExactIsPart", spec := "fnExactIsPart", apart := false, narrowed := true }
def FnExactIsPartUptoSaid : Prop := fnExactIsPartUptoRow.holds Try.pinned (OpenSpec.upto fnExactIsPartSpec)

/-- 'laws.FnExactNewPart', WHERE WHAT IT READS IS OF BULK AT MOST 1048576: true; the input reads as it did. -/
def fnExactNewPartUptoRow : OpenClaim := { program := "ytplknaajmpfohaa", sum := "383e5ae8f854d228011f8432cb3f70f929d58cc7e6965de647015d73d0da54db", func := "loop.example/g03016/laws.FnExactNewPart", spec := "fnExactNewPart", inPlace := ["internal/abi.NoEscape"], apart := false, narrowed := true }
def FnExactNewPartUptoSaid : Prop := fnExactNewPartUptoRow.holds Try.pinned (OpenSpec.upto fnExactNewPartSpec)

/-- 'laws.FnExactUnwrap', WHERE WHAT IT READS IS OF BULK AT MOST 1048576: true; the input reads as it did. -/
def fnExactUnwrapUptoRow : OpenClaim := { program := "ytplknaajmpfohaa", sum := "383e5ae8f854d228011f8432cb3f70f929d58cc7e6965de647015d73d0da54db", func := "loop.example/g03016/laws.FnExactUnwrap", spec := "fnExactUnwrap", inPlace := ["internal/abi.NoEscape"], apart := false, narrowed := true }
def FnExactUnwrapUptoSaid : Prop := fnExactUnwrapUptoRow.holds Try.pinned (OpenSpec.upto fnExactUnwrapSpec)

end Rows
end Go.Proofs.Ytplknaajmpfohaa
