/-
  No cell of these rows narrows 'for every input' (looked for: loops, veiled, ifaces, maps, wideKeys, modest, calm, conditions, laid).
  DERIVED. THE GIVEN ROWS OF THIS SEAT. 6 by the template 'for every input the law returns true; each argument reads behind the call as it read before'; 0 by the template 'total and deterministic' (their statements: YtgbfpodimbkmdaaTotals.lean).
  GIVEN WITH THE SEED: the statements are not yours to turn. If you find one false, say at which input.
  Laid BY PROGRAM, IN A SANDBOX (cutbox-rows.mjs): the forced cells as the released guide's own fill.sh prints them over the translation 4e0951fc3df4d0de… (all of the seat's roots in one cut). By AI agents, Wed Nov 11 2026. No macro, syntax, notation, axiom, sorry.
-/
import Derived.Test.YtgbfpodimbkmdaaChecked
import GoSem.Claim
import GoSem.ClaimJoined
import GoSem.ClaimMapViews
import Derived.JoinedTies
import Derived.KernelRfl
namespace Go.Proofs.Ytgbfpodimbkmdaa
/- THE CELL 'sum', in the pinned program and in every row, IS THE sha256 OF THE DUMP (.gsa) THAT YtgbfpodimbkmdaaProg.lean LOADS. Nothing in Lean hashes anything: it is a label: what it is worth is what the hold of that sum in a sandbox is worth. -/
noncomputable def Try.pinned : Pinned := { name := "ytgbfpodimbkmdaa", sum := "4e0951fc3df4d0dea34bf6f58e71bdc8cda8564bee0278a573bc1597057d78b1", checked := Try.checked }
namespace Rows
def none {H : Type} : Left H := { results := [], args := [] }

/-- 'laws.FnExactAbilityOfMethod': WHATEVER THE INPUT: true; the input reads as it did. -/
def fnExactAbilityOfMethodSpec : ChangeSpec := { name := "fnExactAbilityOfMethod", fn := fun _ => fun
  | [d] => { results := [.lit (.bool true)], args := [d] }
  | _ => none }
def fnExactAbilityOfMethodRow : OpenClaim := { program := "ytgbfpodimbkmdaa", sum := "4e0951fc3df4d0dea34bf6f58e71bdc8cda8564bee0278a573bc1597057d78b1", func := "loop.example/g03016/laws.FnExactAbilityOfMethod", spec := "fnExactAbilityOfMethod", apart := false }
def FnExactAbilityOfMethodSaid : Prop := fnExactAbilityOfMethodRow.holds Try.pinned (OpenSpec.ofChange fnExactAbilityOfMethodSpec)

/-- ITS FALSE NEIGHBOUR: 'it returns false'. Refute it at one input. -/
def fnExactAbilityOfMethodWrong : ChangeSpec := { name := "fnExactAbilityOfMethod", fn := fun _ => fun
  | [d] => { results := [.lit (.bool false)], args := [d] }
  | _ => none }
def FnExactAbilityOfMethodWrongFalsely : Prop := fnExactAbilityOfMethodRow.holds Try.pinned (OpenSpec.ofChange fnExactAbilityOfMethodWrong)

/-- 'laws.FnExactCountFace': WHATEVER THE INPUT: true; the input reads as it did. -/
def fnExactCountFaceSpec : ChangeSpec := { name := "fnExactCountFace", fn := fun _ => fun
  | [d] => { results := [.lit (.bool true)], args := [d] }
  | _ => none }
def fnExactCountFaceRow : OpenClaim := { program := "ytgbfpodimbkmdaa", sum := "4e0951fc3df4d0dea34bf6f58e71bdc8cda8564bee0278a573bc1597057d78b1", func := "loop.example/g03016/laws.FnExactCountFace", spec := "fnExactCountFace", apart := false }
def FnExactCountFaceSaid : Prop := fnExactCountFaceRow.holds Try.pinned (OpenSpec.ofChange fnExactCountFaceSpec)

/-- ITS FALSE NEIGHBOUR: 'it returns false'. Refute it at one input. -/
def fnExactCountFaceWrong : ChangeSpec := { name := "fnExactCountFace", fn := fun _ => fun
  | [d] => { results := [.lit (.bool false)], args := [d] }
  | _ => none }
def FnExactCountFaceWrongFalsely : Prop := fnExactCountFaceRow.holds Try.pinned (OpenSpec.ofChange fnExactCountFaceWrong)

/-- 'laws.FnExactFormatFace': WHATEVER THE INPUT: true; the input reads as it did. -/
def fnExactFormatFaceSpec : ChangeSpec := { name := "fnExactFormatFace", fn := fun _ => fun
  | [d] => { results := [.lit (.bool true)], args := [d] }
  | _ => none }
def fnExactFormatFaceRow : OpenClaim := { program := "ytgbfpodimbkmdaa", sum := "4e0951fc3df4d0dea34bf6f58e71bdc8cda8564bee0278a573bc1597057d78b1", func := "loop.example/g03016/laws.FnExactFormatFace", spec := "fnExactFormatFace", inPlace := ["internal/abi.NoEscape"], apart := false }
def FnExactFormatFaceSaid : Prop := fnExactFormatFaceRow.holds Try.pinned (OpenSpec.ofChange fnExactFormatFaceSpec)

/-- ITS FALSE NEIGHBOUR: 'it returns false'. Refute it at one input. -/
def fnExactFormatFaceWrong : ChangeSpec := { name := "fnExactFormatFace", fn := fun _ => fun
  | [d] => { results := [.lit (.bool false)], args := [d] }
  | _ => none }
def FnExactFormatFaceWrongFalsely : Prop := fnExactFormatFaceRow.holds Try.pinned (OpenSpec.ofChange fnExactFormatFaceWrong)

/-- 'laws.FnExactParseFace': WHATEVER THE INPUT: true; the input reads as it did. -/
def fnExactParseFaceSpec : ChangeSpec := { name := "fnExactParseFace", fn := fun _ => fun
  | [d] => { results := [.lit (.bool true)], args := [d] }
  | _ => none }
def fnExactParseFaceRow : OpenClaim := { program := "ytgbfpodimbkmdaa", sum := "4e0951fc3df4d0dea34bf6f58e71bdc8cda8564bee0278a573bc1597057d78b1", func := "loop.example/g03016/laws.FnExactParseFace", spec := "fnExactParseFace", inPlace := ["internal/abi.NoEscape"], apart := false }
def FnExactParseFaceSaid : Prop := fnExactParseFaceRow.holds Try.pinned (OpenSpec.ofChange fnExactParseFaceSpec)

/-- ITS FALSE NEIGHBOUR: 'it returns false'. Refute it at one input. -/
def fnExactParseFaceWrong : ChangeSpec := { name := "fnExactParseFace", fn := fun _ => fun
  | [d] => { results := [.lit (.bool false)], args := [d] }
  | _ => none }
def FnExactParseFaceWrongFalsely : Prop := fnExactParseFaceRow.holds Try.pinned (OpenSpec.ofChange fnExactParseFaceWrong)

/-- 'laws.FnFaceText': WHATEVER THE INPUT: true; the input reads as it did. -/
def fnFaceTextSpec : ChangeSpec := { name := "fnFaceText", fn := fun _ => fun
  | [d] => { results := [.lit (.bool true)], args := [d] }
  | _ => none }
def fnFaceTextRow : OpenClaim := { program := "ytgbfpodimbkmdaa", sum := "4e0951fc3df4d0dea34bf6f58e71bdc8cda8564bee0278a573bc1597057d78b1", func := "loop.example/g03016/laws.FnFaceText", spec := "fnFaceText", inPlace := ["internal/abi.NoEscape"], apart := false }
def FnFaceTextSaid : Prop := fnFaceTextRow.holds Try.pinned (OpenSpec.ofChange fnFaceTextSpec)

/-- ITS FALSE NEIGHBOUR: 'it returns false'. Refute it at one input. -/
def fnFaceTextWrong : ChangeSpec := { name := "fnFaceText", fn := fun _ => fun
  | [d] => { results := [.lit (.bool false)], args := [d] }
  | _ => none }
def FnFaceTextWrongFalsely : Prop := fnFaceTextRow.holds Try.pinned (OpenSpec.ofChange fnFaceTextWrong)

/-- 'laws.FnExactFaceOfMethods': WHATEVER THE INPUT: true; the input reads as it did. -/
def fnExactFaceOfMethodsSpec : ChangeSpec := { name := "fnExactFaceOfMethods", fn := fun _ => fun
  | [d] => { results := [.lit (.bool true)], args := [d] }
  | _ => none }
def fnExactFaceOfMethodsRow : OpenClaim := { program := "ytgbfpodimbkmdaa", sum := "4e0951fc3df4d0dea34bf6f58e71bdc8cda8564bee0278a573bc1597057d78b1", func := "loop.example/g03016/laws.FnExactFaceOfMethods", spec := "fnExactFaceOfMethods", apart := false }
def FnExactFaceOfMethodsSaid : Prop := fnExactFaceOfMethodsRow.holds Try.pinned (OpenSpec.ofChange fnExactFaceOfMethodsSpec)

/-- ITS FALSE NEIGHBOUR: 'it returns false'. Refute it at one input. -/
def fnExactFaceOfMethodsWrong : ChangeSpec := { name := "fnExactFaceOfMethods", fn := fun _ => fun
  | [d] => { results := [.lit (.bool false)], args := [d] }
  | _ => none }
def FnExactFaceOfMethodsWrongFalsely : Prop := fnExactFaceOfMethodsRow.holds Try.pinned (OpenSpec.ofChange fnExactFaceOfMethodsWrong)

/- THE SECOND FORM. 'bulk': how many values and letters a reading holds, each counted each time it is reached (what is shared counts as often as it is met; a slice's spare places count too). A statement '..UptoSaid' is the law's where the arguments, and the package variables that the reading takes, are together of bulk at most 1048576: NARROWER than '..Said'. Prove '..Said' where nothing that the law and all that it calls make is longer than what came in: it says more and counts as full. Else prove '..UptoSaid'. A law counts once. -/
mutual
def uptoBulk {H : Type} : DataW H → Nat
  | .lit (.string bytes) => bytes.length + 1
  | .lit _ => 1
  | .nil => 1
  | .ptr d => uptoBulk d + 1
  | .slice elems spare => uptoBulkAll elems + uptoBulkAll spare + 1
  | .agg parts => uptoBulkAll parts + 1
  | .iface _ d => uptoBulk d + 1
  | .map entries => uptoBulkEntries entries + 1
  | .held _ => 1
def uptoBulkAll {H : Type} : List (DataW H) → Nat
  | [] => 0
  | d :: r => uptoBulk d + uptoBulkAll r
def uptoBulkEntries {H : Type} : List (Lit × DataW H) → Nat
  | [] => 0
  | x :: r => uptoBulkEntry x + uptoBulkEntries r
def uptoBulkEntry {H : Type} : Lit × DataW H → Nat
  | (.string bytes, d) => bytes.length + uptoBulk d + 1
  | (_, d) => uptoBulk d + 1
 end
def uptoSmall : (H : Type) → List (DataW H) → Bool := fun _ ds => decide (uptoBulkAll ds ≤ 1048576)
def OpenSpec.upto (s : _root_.Go.ChangeSpec) : _root_.Go.OpenSpec := { _root_.Go.OpenSpec.ofChange s with cond := some uptoSmall }

/-- 'laws.FnExactAbilityOfMethod', WHERE WHAT IT READS IS OF BULK AT MOST 1048576: true; the input reads as it did. -/
def fnExactAbilityOfMethodUptoRow : OpenClaim := { program := "ytgbfpodimbkmdaa", sum := "4e0951fc3df4d0dea34bf6f58e71bdc8cda8564bee0278a573bc1597057d78b1", func := "loop.example/g03016/laws.FnExactAbilityOfMethod", spec := "fnExactAbilityOfMethod", apart := false, narrowed := true }
def FnExactAbilityOfMethodUptoSaid : Prop := fnExactAbilityOfMethodUptoRow.holds Try.pinned (OpenSpec.upto fnExactAbilityOfMethodSpec)

/-- 'laws.FnExactCountFace', WHERE WHAT IT READS IS OF BULK AT MOST 1048576: true; the input reads as it did. -/
def fnExactCountFaceUptoRow : OpenClaim := { program := "ytgbfpodimbkmdaa", sum := "4e0951fc3df4d0dea34bf6f58e71bdc8cda8564bee0278a573bc1597057d78b1", func := "loop.example/g03016/laws.FnExactCountFace", spec := "fnExactCountFace", apart := false, narrowed := true }
def FnExactCountFaceUptoSaid : Prop := fnExactCountFaceUptoRow.holds Try.pinned (OpenSpec.upto fnExactCountFaceSpec)

/-- 'laws.FnExactFormatFace', WHERE WHAT IT READS IS OF BULK AT MOST 1048576: true; the input reads as it did. -/
def fnExactFormatFaceUptoRow : OpenClaim := { program := "ytgbfpodimbkmdaa", sum := "4e0951fc3df4d0dea34bf6f58e71bdc8cda8564bee0278a573bc1597057d78b1", func := "loop.example/g03016/laws.FnExactFormatFace", spec := "fnExactFormatFace", inPlace := ["internal/abi.NoEscape"], apart := false, narrowed := true }
def FnExactFormatFaceUptoSaid : Prop := fnExactFormatFaceUptoRow.holds Try.pinned (OpenSpec.upto fnExactFormatFaceSpec)

/-- 'laws.FnExactParseFace', WHERE WHAT IT READS IS OF BULK AT MOST 1048576: true; the input reads as it did. -/
def fnExactParseFaceUptoRow : OpenClaim := { program := "ytgbfpodimbkmdaa", sum := "4e0951fc3df4d0dea34bf6f58e71bdc8cda8564bee0278a573bc1597057d78b1", func := "loop.example/g03016/laws.FnExactParseFace", spec := "fnExactParseFace", inPlace := ["internal/abi.NoEscape"], apart := false, narrowed := true }
def FnExactParseFaceUptoSaid : Prop := fnExactParseFaceUptoRow.holds Try.pinned (OpenSpec.upto fnExactParseFaceSpec)

/-- 'laws.FnFaceText', WHERE WHAT IT READS IS OF BULK AT MOST 1048576: true; the input reads as it did. -/
def fnFaceTextUptoRow : OpenClaim := { program := "ytgbfpodimbkmdaa", sum := "4e0951fc3df4d0dea34bf6f58e71bdc8cda8564bee0278a573bc1597057d78b1", func := "loop.example/g03016/laws.FnFaceText", spec := "fnFaceText", inPlace := ["internal/abi.NoEscape"], apart := false, narrowed := true }
def FnFaceTextUptoSaid : Prop := fnFaceTextUptoRow.holds Try.pinned (OpenSpec.upto fnFaceTextSpec)

/-- 'laws.FnExactFaceOfMethods', WHERE WHAT IT READS IS OF BULK AT MOST 1048576: true; the input reads as it did. -/
def fnExactFaceOfMethodsUptoRow : OpenClaim := { program := "ytgbfpodimbkmdaa", sum := "4e0951fc3df4d0dea34bf6f58e71bdc8cda8564bee0278a573bc1597057d78b1", func := "loop.example/g03016/laws.FnExactFaceOfMethods", spec := "fnExactFaceOfMethods", apart := false, narrowed := true }
def FnExactFaceOfMethodsUptoSaid : Prop := fnExactFaceOfMethodsUptoRow.holds Try.pinned (OpenSpec.upto fnExactFaceOfMethodsSpec)

end Rows
end Go.Proofs.Ytgbfpodimbkmdaa
