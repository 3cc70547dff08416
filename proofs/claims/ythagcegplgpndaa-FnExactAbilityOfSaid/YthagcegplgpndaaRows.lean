/-
  No cell of these rows narrows 'for every input' (looked for: loops, veiled, ifaces, maps, wideKeys, modest, calm, conditions, laid).
  DERIVED. THE GIVEN ROWS OF THIS SEAT. 19 by the template 'for every input the law returns true; each argument reads behind the call as it read before'; 0 by the template 'total and deterministic' (their statements: YthagcegplgpndaaTotals.lean).
  GIVEN WITH THE SEED: the statements are not yours to turn. If you find one false, say at which input.
  Laid BY PROGRAM, IN A SANDBOX (cutbox-rows.mjs): the forced cells as the released guide's own fill.sh prints them over the translation 7a7dd4025ed9419a… (all of the seat's roots in one cut). By AI agents, Wed Nov 11 2026. No macro, syntax, notation, axiom, sorry.
-/
import Derived.Test.YthagcegplgpndaaChecked
import GoSem.Claim
import GoSem.ClaimJoined
import GoSem.ClaimMapViews
import Derived.JoinedTies
import Derived.KernelRfl
namespace Go.Proofs.Ythagcegplgpndaa
/- THE CELL 'sum', in the pinned program and in every row, IS THE sha256 OF THE DUMP (.gsa) THAT YthagcegplgpndaaProg.lean LOADS. Nothing in Lean hashes anything: it is a label: what it is worth is what the hold of that sum in a sandbox is worth. -/
noncomputable def Try.pinned : Pinned := { name := "ythagcegplgpndaa", sum := "7a7dd4025ed9419aba6f285659c4423fe84f1c9096a38d4bf632499b871ac255", checked := Try.checked }
namespace Rows
def none {H : Type} : Left H := { results := [], args := [] }

/-- 'laws.FnExactAbilityName': WHATEVER THE INPUT: true; the input reads as it did. -/
def fnExactAbilityNameSpec : ChangeSpec := { name := "fnExactAbilityName", fn := fun _ => fun
  | [d] => { results := [.lit (.bool true)], args := [d] }
  | _ => none }
def fnExactAbilityNameRow : OpenClaim := { program := "ythagcegplgpndaa", sum := "7a7dd4025ed9419aba6f285659c4423fe84f1c9096a38d4bf632499b871ac255", func := "loop.example/g03016/laws.FnExactAbilityName", spec := "fnExactAbilityName", apart := false }
def FnExactAbilityNameSaid : Prop := fnExactAbilityNameRow.holds Try.pinned (OpenSpec.ofChange fnExactAbilityNameSpec)

/-- ITS FALSE NEIGHBOUR: 'it returns false'. Refute it at one input. -/
def fnExactAbilityNameWrong : ChangeSpec := { name := "fnExactAbilityName", fn := fun _ => fun
  | [d] => { results := [.lit (.bool false)], args := [d] }
  | _ => none }
def FnExactAbilityNameWrongFalsely : Prop := fnExactAbilityNameRow.holds Try.pinned (OpenSpec.ofChange fnExactAbilityNameWrong)

/-- 'laws.FnExactAbilityOf': WHATEVER THE INPUT: true; the input reads as it did. -/
def fnExactAbilityOfSpec : ChangeSpec := { name := "fnExactAbilityOf", fn := fun _ => fun
  | [d] => { results := [.lit (.bool true)], args := [d] }
  | _ => none }
def fnExactAbilityOfRow : OpenClaim := { program := "ythagcegplgpndaa", sum := "7a7dd4025ed9419aba6f285659c4423fe84f1c9096a38d4bf632499b871ac255", func := "loop.example/g03016/laws.FnExactAbilityOf", spec := "fnExactAbilityOf", apart := false }
def FnExactAbilityOfSaid : Prop := fnExactAbilityOfRow.holds Try.pinned (OpenSpec.ofChange fnExactAbilityOfSpec)

/-- ITS FALSE NEIGHBOUR: 'it returns false'. Refute it at one input. -/
def fnExactAbilityOfWrong : ChangeSpec := { name := "fnExactAbilityOf", fn := fun _ => fun
  | [d] => { results := [.lit (.bool false)], args := [d] }
  | _ => none }
def FnExactAbilityOfWrongFalsely : Prop := fnExactAbilityOfRow.holds Try.pinned (OpenSpec.ofChange fnExactAbilityOfWrong)

/-- 'laws.FnExactAbilityOfMethod': WHATEVER THE INPUT: true; the input reads as it did. -/
def fnExactAbilityOfMethodSpec : ChangeSpec := { name := "fnExactAbilityOfMethod", fn := fun _ => fun
  | [d] => { results := [.lit (.bool true)], args := [d] }
  | _ => none }
def fnExactAbilityOfMethodRow : OpenClaim := { program := "ythagcegplgpndaa", sum := "7a7dd4025ed9419aba6f285659c4423fe84f1c9096a38d4bf632499b871ac255", func := "loop.example/g03016/laws.FnExactAbilityOfMethod", spec := "fnExactAbilityOfMethod", apart := false }
def FnExactAbilityOfMethodSaid : Prop := fnExactAbilityOfMethodRow.holds Try.pinned (OpenSpec.ofChange fnExactAbilityOfMethodSpec)

/-- ITS FALSE NEIGHBOUR: 'it returns false'. Refute it at one input. -/
def fnExactAbilityOfMethodWrong : ChangeSpec := { name := "fnExactAbilityOfMethod", fn := fun _ => fun
  | [d] => { results := [.lit (.bool false)], args := [d] }
  | _ => none }
def FnExactAbilityOfMethodWrongFalsely : Prop := fnExactAbilityOfMethodRow.holds Try.pinned (OpenSpec.ofChange fnExactAbilityOfMethodWrong)

/-- 'laws.FnExactIsFace': WHATEVER THE INPUT: true; the input reads as it did. -/
def fnExactIsFaceSpec : ChangeSpec := { name := "fnExactIsFace", fn := fun _ => fun
  | [d] => { results := [.lit (.bool true)], args := [d] }
  | _ => none }
def fnExactIsFaceRow : OpenClaim := { program := "ythagcegplgpndaa", sum := "7a7dd4025ed9419aba6f285659c4423fe84f1c9096a38d4bf632499b871ac255", func := "loop.example/g03016/laws.FnExactIsFace", spec := "fnExactIsFace", apart := false }
def FnExactIsFaceSaid : Prop := fnExactIsFaceRow.holds Try.pinned (OpenSpec.ofChange fnExactIsFaceSpec)

/-- ITS FALSE NEIGHBOUR: 'it returns false'. Refute it at one input. -/
def fnExactIsFaceWrong : ChangeSpec := { name := "fnExactIsFace", fn := fun _ => fun
  | [d] => { results := [.lit (.bool false)], args := [d] }
  | _ => none }
def FnExactIsFaceWrongFalsely : Prop := fnExactIsFaceRow.holds Try.pinned (OpenSpec.ofChange fnExactIsFaceWrong)

/-- 'laws.FnExactOffers': WHATEVER THE INPUT: true; the input reads as it did. -/
def fnExactOffersSpec : ChangeSpec := { name := "fnExactOffers", fn := fun _ => fun
  | [d1, d2] => { results := [.lit (.bool true)], args := [d1, d2] }
  | _ => none }
def fnExactOffersRow : OpenClaim := { program := "ythagcegplgpndaa", sum := "7a7dd4025ed9419aba6f285659c4423fe84f1c9096a38d4bf632499b871ac255", func := "loop.example/g03016/laws.FnExactOffers", spec := "fnExactOffers", apart := false }
def FnExactOffersSaid : Prop := fnExactOffersRow.holds Try.pinned (OpenSpec.ofChange fnExactOffersSpec)

/-- ITS FALSE NEIGHBOUR: 'it returns false'. Refute it at one input. -/
def fnExactOffersWrong : ChangeSpec := { name := "fnExactOffers", fn := fun _ => fun
  | [d1, d2] => { results := [.lit (.bool false)], args := [d1, d2] }
  | _ => none }
def FnExactOffersWrongFalsely : Prop := fnExactOffersRow.holds Try.pinned (OpenSpec.ofChange fnExactOffersWrong)

/-- 'laws.FnExactBothFaces': WHATEVER THE INPUT: true; the input reads as it did. -/
def fnExactBothFacesSpec : ChangeSpec := { name := "fnExactBothFaces", fn := fun _ => fun
  | [d1, d2] => { results := [.lit (.bool true)], args := [d1, d2] }
  | _ => none }
def fnExactBothFacesRow : OpenClaim := { program := "ythagcegplgpndaa", sum := "7a7dd4025ed9419aba6f285659c4423fe84f1c9096a38d4bf632499b871ac255", func := "loop.example/g03016/laws.FnExactBothFaces", spec := "fnExactBothFaces", apart := false }
def FnExactBothFacesSaid : Prop := fnExactBothFacesRow.holds Try.pinned (OpenSpec.ofChange fnExactBothFacesSpec)

/-- ITS FALSE NEIGHBOUR: 'it returns false'. Refute it at one input. -/
def fnExactBothFacesWrong : ChangeSpec := { name := "fnExactBothFaces", fn := fun _ => fun
  | [d1, d2] => { results := [.lit (.bool false)], args := [d1, d2] }
  | _ => none }
def FnExactBothFacesWrongFalsely : Prop := fnExactBothFacesRow.holds Try.pinned (OpenSpec.ofChange fnExactBothFacesWrong)

/-- 'laws.FnExactEitherFace': WHATEVER THE INPUT: true; the input reads as it did. -/
def fnExactEitherFaceSpec : ChangeSpec := { name := "fnExactEitherFace", fn := fun _ => fun
  | [d1, d2] => { results := [.lit (.bool true)], args := [d1, d2] }
  | _ => none }
def fnExactEitherFaceRow : OpenClaim := { program := "ythagcegplgpndaa", sum := "7a7dd4025ed9419aba6f285659c4423fe84f1c9096a38d4bf632499b871ac255", func := "loop.example/g03016/laws.FnExactEitherFace", spec := "fnExactEitherFace", apart := false }
def FnExactEitherFaceSaid : Prop := fnExactEitherFaceRow.holds Try.pinned (OpenSpec.ofChange fnExactEitherFaceSpec)

/-- ITS FALSE NEIGHBOUR: 'it returns false'. Refute it at one input. -/
def fnExactEitherFaceWrong : ChangeSpec := { name := "fnExactEitherFace", fn := fun _ => fun
  | [d1, d2] => { results := [.lit (.bool false)], args := [d1, d2] }
  | _ => none }
def FnExactEitherFaceWrongFalsely : Prop := fnExactEitherFaceRow.holds Try.pinned (OpenSpec.ofChange fnExactEitherFaceWrong)

/-- 'laws.FnExactLacking': WHATEVER THE INPUT: true; the input reads as it did. -/
def fnExactLackingSpec : ChangeSpec := { name := "fnExactLacking", fn := fun _ => fun
  | [d1, d2] => { results := [.lit (.bool true)], args := [d1, d2] }
  | _ => none }
def fnExactLackingRow : OpenClaim := { program := "ythagcegplgpndaa", sum := "7a7dd4025ed9419aba6f285659c4423fe84f1c9096a38d4bf632499b871ac255", func := "loop.example/g03016/laws.FnExactLacking", spec := "fnExactLacking", apart := false }
def FnExactLackingSaid : Prop := fnExactLackingRow.holds Try.pinned (OpenSpec.ofChange fnExactLackingSpec)

/-- ITS FALSE NEIGHBOUR: 'it returns false'. Refute it at one input. -/
def fnExactLackingWrong : ChangeSpec := { name := "fnExactLacking", fn := fun _ => fun
  | [d1, d2] => { results := [.lit (.bool false)], args := [d1, d2] }
  | _ => none }
def FnExactLackingWrongFalsely : Prop := fnExactLackingRow.holds Try.pinned (OpenSpec.ofChange fnExactLackingWrong)

/-- 'laws.FnExactCountFace': WHATEVER THE INPUT: true; the input reads as it did. -/
def fnExactCountFaceSpec : ChangeSpec := { name := "fnExactCountFace", fn := fun _ => fun
  | [d] => { results := [.lit (.bool true)], args := [d] }
  | _ => none }
def fnExactCountFaceRow : OpenClaim := { program := "ythagcegplgpndaa", sum := "7a7dd4025ed9419aba6f285659c4423fe84f1c9096a38d4bf632499b871ac255", func := "loop.example/g03016/laws.FnExactCountFace", spec := "fnExactCountFace", apart := false }
def FnExactCountFaceSaid : Prop := fnExactCountFaceRow.holds Try.pinned (OpenSpec.ofChange fnExactCountFaceSpec)

/-- ITS FALSE NEIGHBOUR: 'it returns false'. Refute it at one input. -/
def fnExactCountFaceWrong : ChangeSpec := { name := "fnExactCountFace", fn := fun _ => fun
  | [d] => { results := [.lit (.bool false)], args := [d] }
  | _ => none }
def FnExactCountFaceWrongFalsely : Prop := fnExactCountFaceRow.holds Try.pinned (OpenSpec.ofChange fnExactCountFaceWrong)

/-- 'laws.FnExactFormatFace': WHATEVER THE INPUT: true; the input reads as it did. -/
def fnExactFormatFaceSpec : ChangeSpec := { name := "fnExactFormatFace", fn := fun _ => fun
  | [d] => { results := [.lit (.bool true)], args := [d] }
  | _ => none }
def fnExactFormatFaceRow : OpenClaim := { program := "ythagcegplgpndaa", sum := "7a7dd4025ed9419aba6f285659c4423fe84f1c9096a38d4bf632499b871ac255", func := "loop.example/g03016/laws.FnExactFormatFace", spec := "fnExactFormatFace", inPlace := ["internal/abi.NoEscape"], apart := false }
def FnExactFormatFaceSaid : Prop := fnExactFormatFaceRow.holds Try.pinned (OpenSpec.ofChange fnExactFormatFaceSpec)

/-- ITS FALSE NEIGHBOUR: 'it returns false'. Refute it at one input. -/
def fnExactFormatFaceWrong : ChangeSpec := { name := "fnExactFormatFace", fn := fun _ => fun
  | [d] => { results := [.lit (.bool false)], args := [d] }
  | _ => none }
def FnExactFormatFaceWrongFalsely : Prop := fnExactFormatFaceRow.holds Try.pinned (OpenSpec.ofChange fnExactFormatFaceWrong)

/-- 'laws.FnExactParseFace': WHATEVER THE INPUT: true; the input reads as it did. -/
def fnExactParseFaceSpec : ChangeSpec := { name := "fnExactParseFace", fn := fun _ => fun
  | [d] => { results := [.lit (.bool true)], args := [d] }
  | _ => none }
def fnExactParseFaceRow : OpenClaim := { program := "ythagcegplgpndaa", sum := "7a7dd4025ed9419aba6f285659c4423fe84f1c9096a38d4bf632499b871ac255", func := "loop.example/g03016/laws.FnExactParseFace", spec := "fnExactParseFace", inPlace := ["internal/abi.NoEscape"], apart := false }
def FnExactParseFaceSaid : Prop := fnExactParseFaceRow.holds Try.pinned (OpenSpec.ofChange fnExactParseFaceSpec)

/-- ITS FALSE NEIGHBOUR: 'it returns false'. Refute it at one input. -/
def fnExactParseFaceWrong : ChangeSpec := { name := "fnExactParseFace", fn := fun _ => fun
  | [d] => { results := [.lit (.bool false)], args := [d] }
  | _ => none }
def FnExactParseFaceWrongFalsely : Prop := fnExactParseFaceRow.holds Try.pinned (OpenSpec.ofChange fnExactParseFaceWrong)

/-- 'laws.FnExactMethodsOf': WHATEVER THE INPUT: true; the input reads as it did. -/
def fnExactMethodsOfSpec : ChangeSpec := { name := "fnExactMethodsOf", fn := fun _ => fun
  | [d] => { results := [.lit (.bool true)], args := [d] }
  | _ => none }
def fnExactMethodsOfRow : OpenClaim := { program := "ythagcegplgpndaa", sum := "7a7dd4025ed9419aba6f285659c4423fe84f1c9096a38d4bf632499b871ac255", func := "loop.example/g03016/laws.FnExactMethodsOf", spec := "fnExactMethodsOf", inPlace := ["internal/abi.NoEscape"], recurses := true, apart := false }
def FnExactMethodsOfSaid : Prop := fnExactMethodsOfRow.holds Try.pinned (OpenSpec.ofChange fnExactMethodsOfSpec)

/-- ITS FALSE NEIGHBOUR: 'it returns false'. Refute it at one input. -/
def fnExactMethodsOfWrong : ChangeSpec := { name := "fnExactMethodsOf", fn := fun _ => fun
  | [d] => { results := [.lit (.bool false)], args := [d] }
  | _ => none }
def FnExactMethodsOfWrongFalsely : Prop := fnExactMethodsOfRow.holds Try.pinned (OpenSpec.ofChange fnExactMethodsOfWrong)

/-- 'laws.FnExactFaceOfMethods': WHATEVER THE INPUT: true; the input reads as it did. -/
def fnExactFaceOfMethodsSpec : ChangeSpec := { name := "fnExactFaceOfMethods", fn := fun _ => fun
  | [d] => { results := [.lit (.bool true)], args := [d] }
  | _ => none }
def fnExactFaceOfMethodsRow : OpenClaim := { program := "ythagcegplgpndaa", sum := "7a7dd4025ed9419aba6f285659c4423fe84f1c9096a38d4bf632499b871ac255", func := "loop.example/g03016/laws.FnExactFaceOfMethods", spec := "fnExactFaceOfMethods", apart := false }
def FnExactFaceOfMethodsSaid : Prop := fnExactFaceOfMethodsRow.holds Try.pinned (OpenSpec.ofChange fnExactFaceOfMethodsSpec)

/-- ITS FALSE NEIGHBOUR: 'it returns false'. Refute it at one input. -/
def fnExactFaceOfMethodsWrong : ChangeSpec := { name := "fnExactFaceOfMethods", fn := fun _ => fun
  | [d] => { results := [.lit (.bool false)], args := [d] }
  | _ => none }
def FnExactFaceOfMethodsWrongFalsely : Prop := fnExactFaceOfMethodsRow.holds Try.pinned (OpenSpec.ofChange fnExactFaceOfMethodsWrong)

/-- 'laws.FnExactFacesUnder': WHATEVER THE INPUT: true; the input reads as it did. -/
def fnExactFacesUnderSpec : ChangeSpec := { name := "fnExactFacesUnder", fn := fun _ => fun
  | [d] => { results := [.lit (.bool true)], args := [d] }
  | _ => none }
def fnExactFacesUnderRow : OpenClaim := { program := "ythagcegplgpndaa", sum := "7a7dd4025ed9419aba6f285659c4423fe84f1c9096a38d4bf632499b871ac255", func := "loop.example/g03016/laws.FnExactFacesUnder", spec := "fnExactFacesUnder", apart := false }
def FnExactFacesUnderSaid : Prop := fnExactFacesUnderRow.holds Try.pinned (OpenSpec.ofChange fnExactFacesUnderSpec)

/-- ITS FALSE NEIGHBOUR: 'it returns false'. Refute it at one input. -/
def fnExactFacesUnderWrong : ChangeSpec := { name := "fnExactFacesUnder", fn := fun _ => fun
  | [d] => { results := [.lit (.bool false)], args := [d] }
  | _ => none }
def FnExactFacesUnderWrongFalsely : Prop := fnExactFacesUnderRow.holds Try.pinned (OpenSpec.ofChange fnExactFacesUnderWrong)

/-- 'laws.FnOffers': WHATEVER THE INPUT: true; the input reads as it did. -/
def fnOffersSpec : ChangeSpec := { name := "fnOffers", fn := fun _ => fun
  | [d] => { results := [.lit (.bool true)], args := [d] }
  | _ => none }
def fnOffersRow : OpenClaim := { program := "ythagcegplgpndaa", sum := "7a7dd4025ed9419aba6f285659c4423fe84f1c9096a38d4bf632499b871ac255", func := "loop.example/g03016/laws.FnOffers", spec := "fnOffers", apart := false }
def FnOffersSaid : Prop := fnOffersRow.holds Try.pinned (OpenSpec.ofChange fnOffersSpec)

/-- ITS FALSE NEIGHBOUR: 'it returns false'. Refute it at one input. -/
def fnOffersWrong : ChangeSpec := { name := "fnOffers", fn := fun _ => fun
  | [d] => { results := [.lit (.bool false)], args := [d] }
  | _ => none }
def FnOffersWrongFalsely : Prop := fnOffersRow.holds Try.pinned (OpenSpec.ofChange fnOffersWrong)

/-- 'laws.FnFaceSets': WHATEVER THE INPUT: true; the input reads as it did. -/
def fnFaceSetsSpec : ChangeSpec := { name := "fnFaceSets", fn := fun _ => fun
  | [d] => { results := [.lit (.bool true)], args := [d] }
  | _ => none }
def fnFaceSetsRow : OpenClaim := { program := "ythagcegplgpndaa", sum := "7a7dd4025ed9419aba6f285659c4423fe84f1c9096a38d4bf632499b871ac255", func := "loop.example/g03016/laws.FnFaceSets", spec := "fnFaceSets", apart := false }
def FnFaceSetsSaid : Prop := fnFaceSetsRow.holds Try.pinned (OpenSpec.ofChange fnFaceSetsSpec)

/-- ITS FALSE NEIGHBOUR: 'it returns false'. Refute it at one input. -/
def fnFaceSetsWrong : ChangeSpec := { name := "fnFaceSets", fn := fun _ => fun
  | [d] => { results := [.lit (.bool false)], args := [d] }
  | _ => none }
def FnFaceSetsWrongFalsely : Prop := fnFaceSetsRow.holds Try.pinned (OpenSpec.ofChange fnFaceSetsWrong)

/-- 'laws.FnMethods': WHATEVER THE INPUT: true; the input reads as it did. -/
def fnMethodsSpec : ChangeSpec := { name := "fnMethods", fn := fun _ => fun
  | [d] => { results := [.lit (.bool true)], args := [d] }
  | _ => none }
def fnMethodsRow : OpenClaim := { program := "ythagcegplgpndaa", sum := "7a7dd4025ed9419aba6f285659c4423fe84f1c9096a38d4bf632499b871ac255", func := "loop.example/g03016/laws.FnMethods", spec := "fnMethods", inPlace := ["internal/abi.NoEscape"], recurses := true, apart := false }
def FnMethodsSaid : Prop := fnMethodsRow.holds Try.pinned (OpenSpec.ofChange fnMethodsSpec)

/-- ITS FALSE NEIGHBOUR: 'it returns false'. Refute it at one input. -/
def fnMethodsWrong : ChangeSpec := { name := "fnMethods", fn := fun _ => fun
  | [d] => { results := [.lit (.bool false)], args := [d] }
  | _ => none }
def FnMethodsWrongFalsely : Prop := fnMethodsRow.holds Try.pinned (OpenSpec.ofChange fnMethodsWrong)

/-- 'laws.FnFaceText': WHATEVER THE INPUT: true; the input reads as it did. -/
def fnFaceTextSpec : ChangeSpec := { name := "fnFaceText", fn := fun _ => fun
  | [d] => { results := [.lit (.bool true)], args := [d] }
  | _ => none }
def fnFaceTextRow : OpenClaim := { program := "ythagcegplgpndaa", sum := "7a7dd4025ed9419aba6f285659c4423fe84f1c9096a38d4bf632499b871ac255", func := "loop.example/g03016/laws.FnFaceText", spec := "fnFaceText", inPlace := ["internal/abi.NoEscape"], apart := false }
def FnFaceTextSaid : Prop := fnFaceTextRow.holds Try.pinned (OpenSpec.ofChange fnFaceTextSpec)

/-- ITS FALSE NEIGHBOUR: 'it returns false'. Refute it at one input. -/
def fnFaceTextWrong : ChangeSpec := { name := "fnFaceText", fn := fun _ => fun
  | [d] => { results := [.lit (.bool false)], args := [d] }
  | _ => none }
def FnFaceTextWrongFalsely : Prop := fnFaceTextRow.holds Try.pinned (OpenSpec.ofChange fnFaceTextWrong)

/-- 'laws.FnUnder': WHATEVER THE INPUT: true; the input reads as it did. -/
def fnUnderSpec : ChangeSpec := { name := "fnUnder", fn := fun _ => fun
  | [d] => { results := [.lit (.bool true)], args := [d] }
  | _ => none }
def fnUnderRow : OpenClaim := { program := "ythagcegplgpndaa", sum := "7a7dd4025ed9419aba6f285659c4423fe84f1c9096a38d4bf632499b871ac255", func := "loop.example/g03016/laws.FnUnder", spec := "fnUnder", apart := false }
def FnUnderSaid : Prop := fnUnderRow.holds Try.pinned (OpenSpec.ofChange fnUnderSpec)

/-- ITS FALSE NEIGHBOUR: 'it returns false'. Refute it at one input. -/
def fnUnderWrong : ChangeSpec := { name := "fnUnder", fn := fun _ => fun
  | [d] => { results := [.lit (.bool false)], args := [d] }
  | _ => none }
def FnUnderWrongFalsely : Prop := fnUnderRow.holds Try.pinned (OpenSpec.ofChange fnUnderWrong)

/- THE SECOND FORM. 'bulk': how many values and letters a reading holds, each counted each time it is reached (what is shared counts as often as it is met; a slice's spare places count too). A statement '..UptoSaid' is the law's where the arguments, and the package variables that the reading takes, are together of bulk at most 1048576: NARROWER than '..Said'. Prove '..Said' where nothing that the law and all that it calls make is longer than what came in: it says more and counts as full. Else prove '..UptoSaid'. A law counts once. -/
mutual
def uptoBulk {H : Type} : DataW H → Nat
  | .lit (.string bytes) => bytes.length + 1
  | .lit _ => 1
  | .nil => 1
  | .ptr d => uptoBulk d + 1
  | .slice elems spare => uptoBulkAll elems + uptoBulkAll spare + 1
  | .agg parts => uptoBulkAll parts + 1
  | .iface _ d => uptoBulk d + 1
  | .map entries => uptoBulkEntries entries + 1
  | .held _ => 1
def uptoBulkAll {H : Type} : List (DataW H) → Nat
  | [] => 0
  | d :: r => uptoBulk d + uptoBulkAll r
def uptoBulkEntries {H : Type} : List (Lit × DataW H) → Nat
  | [] => 0
  | x :: r => uptoBulkEntry x + uptoBulkEntries r
def uptoBulkEntry {H : Type} : Lit × DataW H → Nat
  | (.string bytes, d) => bytes.length + uptoBulk d + 1
  | (_, d) => uptoBulk d + 1
 end
def uptoSmall : (H : Type) → List (DataW H) → Bool := fun _ ds => decide (uptoBulkAll ds ≤ 1048576)
def OpenSpec.upto (s : _root_.Go.ChangeSpec) : _root_.Go.OpenSpec := { _root_.Go.OpenSpec.ofChange s with cond := some uptoSmall }

/-- 'laws.FnExactAbilityName', WHERE WHAT IT READS IS OF BULK AT MOST 1048576: true; the input reads as it did. -/
def fnExactAbilityNameUptoRow : OpenClaim := { program := "ythagcegplgpndaa", sum := "7a7dd4025ed9419aba6f285659c4423fe84f1c9096a38d4bf632499b871ac255", func := "loop.example/g03016/laws.FnExactAbilityName", spec := "fnExactAbilityName", apart := false, narrowed := true }
def FnExactAbilityNameUptoSaid : Prop := fnExactAbilityNameUptoRow.holds Try.pinned (OpenSpec.upto fnExactAbilityNameSpec)

/-- 'laws.FnExactAbilityOf', WHERE WHAT IT READS IS OF BULK AT MOST 1048576: true; the input reads as it did. -/
def fnExactAbilityOfUptoRow : OpenClaim := { program := "ythagcegplgpndaa", sum := "7a7dd4025ed9419aba6f285659c4423fe84f1c9096a38d4bf632499b871ac255", func := "loop.example/g03016/laws.FnExactAbilityOf", spec := "fnExactAbilityOf", apart := false, narrowed := true }
def FnExactAbilityOfUptoSaid : Prop := fnExactAbilityOfUptoRow.holds Try.pinned (OpenSpec.upto fnExactAbilityOfSpec)

/-- 'laws.FnExactAbilityOfMethod', WHERE WHAT IT READS IS OF BULK AT MOST 1048576: true; the input reads as it did. -/
def fnExactAbilityOfMethodUptoRow : OpenClaim := { program := "ythagcegplgpndaa", sum := "7a7dd4025ed9419aba6f285659c4423fe84f1c9096a38d4bf632499b871ac255", func := "loop.example/g03016/laws.FnExactAbilityOfMethod", spec := "fnExactAbilityOfMethod", apart := false, narrowed := true }
def FnExactAbilityOfMethodUptoSaid : Prop := fnExactAbilityOfMethodUptoRow.holds Try.pinned (OpenSpec.upto fnExactAbilityOfMethodSpec)

/-- 'laws.FnExactIsFace', WHERE WHAT IT READS IS OF BULK AT MOST 1048576: true; the input reads as it did. -/
def fnExactIsFaceUptoRow : OpenClaim := { program := "ythagcegplgpndaa", sum := "7a7dd4025ed9419aba6f285659c4423fe84f1c9096a38d4bf632499b871ac255", func := "loop.example/g03016/laws.FnExactIsFace", spec := "fnExactIsFace", apart := false, narrowed := true }
def FnExactIsFaceUptoSaid : Prop := fnExactIsFaceUptoRow.holds Try.pinned (OpenSpec.upto fnExactIsFaceSpec)

/-- 'laws.FnExactOffers', WHERE WHAT IT READS IS OF BULK AT MOST 1048576: true; the input reads as it did. -/
def fnExactOffersUptoRow : OpenClaim := { program := "ythagcegplgpndaa", sum := "7a7dd4025ed9419aba6f285659c4423fe84f1c9096a38d4bf632499b871ac255", func := "loop.example/g03016/laws.FnExactOffers", spec := "fnExactOffers", apart := false, narrowed := true }
def FnExactOffersUptoSaid : Prop := fnExactOffersUptoRow.holds Try.pinned (OpenSpec.upto fnExactOffersSpec)

/-- 'laws.FnExactBothFaces', WHERE WHAT IT READS IS OF BULK AT MOST 1048576: true; the input reads as it did. -/
def fnExactBothFacesUptoRow : OpenClaim := { program := "ythagcegplgpndaa", sum := "7a7dd4025ed9419aba6f285659c4423fe84f1c9096a38d4bf632499b871ac255", func := "loop.example/g03016/laws.FnExactBothFaces", spec := "fnExactBothFaces", apart := false, narrowed := true }
def FnExactBothFacesUptoSaid : Prop := fnExactBothFacesUptoRow.holds Try.pinned (OpenSpec.upto fnExactBothFacesSpec)

/-- 'laws.FnExactEitherFace', WHERE WHAT IT READS IS OF BULK AT MOST 1048576: true; the input reads as it did. -/
def fnExactEitherFaceUptoRow : OpenClaim := { program := "ythagcegplgpndaa", sum := "7a7dd4025ed9419aba6f285659c4423fe84f1c9096a38d4bf632499b871ac255", func := "loop.example/g03016/laws.FnExactEitherFace", spec := "fnExactEitherFace", apart := false, narrowed := true }
def FnExactEitherFaceUptoSaid : Prop := fnExactEitherFaceUptoRow.holds Try.pinned (OpenSpec.upto fnExactEitherFaceSpec)

/-- 'laws.FnExactLacking', WHERE WHAT IT READS IS OF BULK AT MOST 1048576: true; the input reads as it did. -/
def fnExactLackingUptoRow : OpenClaim := { program := "ythagcegplgpndaa", sum := "7a7dd4025ed9419aba6f285659c4423fe84f1c9096a38d4bf632499b871ac255", func := "loop.example/g03016/laws.FnExactLacking", spec := "fnExactLacking", apart := false, narrowed := true }
def FnExactLackingUptoSaid : Prop := fnExactLackingUptoRow.holds Try.pinned (OpenSpec.upto fnExactLackingSpec)

/-- 'laws.FnExactCountFace', WHERE WHAT IT READS IS OF BULK AT MOST 1048576: true; the input reads as it did. -/
def fnExactCountFaceUptoRow : OpenClaim := { program := "ythagcegplgpndaa", sum := "7a7dd4025ed9419aba6f285659c4423fe84f1c9096a38d4bf632499b871ac255", func := "loop.example/g03016/laws.FnExactCountFace", spec := "fnExactCountFace", apart := false, narrowed := true }
def FnExactCountFaceUptoSaid : Prop := fnExactCountFaceUptoRow.holds Try.pinned (OpenSpec.upto fnExactCountFaceSpec)

/-- 'laws.FnExactFormatFace', WHERE WHAT IT READS IS OF BULK AT MOST 1048576: true; the input reads as it did. -/
def fnExactFormatFaceUptoRow : OpenClaim := { program := "ythagcegplgpndaa", sum := "7a7dd4025ed9419aba6f285659c4423fe84f1c9096a38d4bf632499b871ac255", func := "loop.example/g03016/laws.FnExactFormatFace", spec := "fnExactFormatFace", inPlace := ["internal/abi.NoEscape"], apart := false, narrowed := true }
def FnExactFormatFaceUptoSaid : Prop := fnExactFormatFaceUptoRow.holds Try.pinned (OpenSpec.upto fnExactFormatFaceSpec)

/-- 'laws.FnExactParseFace', WHERE WHAT IT READS IS OF BULK AT MOST 1048576: true; the input reads as it did. -/
def fnExactParseFaceUptoRow : OpenClaim := { program := "ythagcegplgpndaa", sum := "7a7dd4025ed9419aba6f285659c4423fe84f1c9096a38d4bf632499b871ac255", func := "loop.example/g03016/laws.FnExactParseFace", spec := "fnExactParseFace", inPlace := ["internal/abi.NoEscape"], apart := false, narrowed := true }
def FnExactParseFaceUptoSaid : Prop := fnExactParseFaceUptoRow.holds Try.pinned (OpenSpec.upto fnExactParseFaceSpec)

/-- 'laws.FnExactMethodsOf', WHERE WHAT IT READS IS OF BULK AT MOST 1048576: true; the input reads as it did. -/
def fnExactMethodsOfUptoRow : OpenClaim := { program := "ythagcegplgpndaa", sum := "7a7dd4025ed9419aba6f285659c4423fe84f1c9096a38d4bf632499b871ac255", func := "loop.example/g03016/laws.FnExactMethodsOf", spec := "fnExactMethodsOf", inPlace := ["internal/abi.NoEscape"], recurses := true, apart := false, narrowed := true }
def FnExactMethodsOfUptoSaid : Prop := fnExactMethodsOfUptoRow.holds Try.pinned (OpenSpec.upto fnExactMethodsOfSpec)

/-- 'laws.FnExactFaceOfMethods', WHERE WHAT IT READS IS OF BULK AT MOST 1048576: true; the input reads as it did. -/
def fnExactFaceOfMethodsUptoRow : OpenClaim := { program := "ythagcegplgpndaa", sum := "7a7dd4025ed9419aba6f285659c4423fe84f1c9096a38d4bf632499b871ac255", func := "loop.example/g03016/laws.FnExactFaceOfMethods", spec := "fnExactFaceOfMethods", apart := false, narrowed := true }
def FnExactFaceOfMethodsUptoSaid : Prop := fnExactFaceOfMethodsUptoRow.holds Try.pinned (OpenSpec.upto fnExactFaceOfMethodsSpec)

/-- 'laws.FnExactFacesUnder', WHERE WHAT IT READS IS OF BULK AT MOST 1048576: true; the input reads as it did. -/
def fnExactFacesUnderUptoRow : OpenClaim := { program := "ythagcegplgpndaa", sum := "7a7dd4025ed9419aba6f285659c4423fe84f1c9096a38d4bf632499b871ac255", func := "loop.example/g03016/laws.FnExactFacesUnder", spec := "fnExactFacesUnder", apart := false, narrowed := true }
def FnExactFacesUnderUptoSaid : Prop := fnExactFacesUnderUptoRow.holds Try.pinned (OpenSpec.upto fnExactFacesUnderSpec)

/-- 'laws.FnOffers', WHERE WHAT IT READS IS OF BULK AT MOST 1048576: true; the input reads as it did. -/
def fnOffersUptoRow : OpenClaim := { program := "ythagcegplgpndaa", sum := "7a7dd4025ed9419aba6f285659c4423fe84f1c9096a38d4bf632499b871ac255", func := "loop.example/g03016/laws.FnOffers", spec := "fnOffers", apart := false, narrowed := true }
def FnOffersUptoSaid : Prop := fnOffersUptoRow.holds Try.pinned (OpenSpec.upto fnOffersSpec)

/-- 'laws.FnFaceSets', WHERE WHAT IT READS IS OF BULK AT MOST 1048576: true; the input reads as it did. -/
def fnFaceSetsUptoRow : OpenClaim := { program := "ythagcegplgpndaa", sum := "7a7dd4025ed9419aba6f285659c4423fe84f1c9096a38d4bf632499b871ac255", func := "loop.example/g03016/laws.FnFaceSets", spec := "fnFaceSets", apart := false, narrowed := true }
def FnFaceSetsUptoSaid : Prop := fnFaceSetsUptoRow.holds Try.pinned (OpenSpec.upto fnFaceSetsSpec)

/-- 'laws.FnMethods', WHERE WHAT IT READS IS OF BULK AT MOST 1048576: true; the input reads as it did. -/
def fnMethodsUptoRow : OpenClaim := { program := "ythagcegplgpndaa", sum := "7a7dd4025ed9419aba6f285659c4423fe84f1c9096a38d4bf632499b871ac255", func := "loop.example/g03016/laws.FnMethods", spec := "fnMethods", inPlace := ["internal/abi.NoEscape"], recurses := true, apart := false, narrowed := true }
def FnMethodsUptoSaid : Prop := fnMethodsUptoRow.holds Try.pinned (OpenSpec.upto fnMethodsSpec)

/-- 'laws.FnFaceText', WHERE WHAT IT READS IS OF BULK AT MOST 1048576: true; the input reads as it did. -/
def fnFaceTextUptoRow : OpenClaim := { program := "ythagcegplgpndaa", sum := "7a7dd4025ed9419aba6f285659c4423fe84f1c9096a38d4bf632499b871ac255", func := "loop.example/g03016/laws.FnFaceText", spec := "fnFaceText", inPlace := ["internal/abi.NoEscape"], apart := false, narrowed := true }
def FnFaceTextUptoSaid : Prop := fnFaceTextUptoRow.holds Try.pinned (OpenSpec.upto fnFaceTextSpec)

/-- 'laws.FnUnder', WHERE WHAT IT READS IS OF BULK AT MOST 1048576: true; the input reads as it did. -/
def fnUnderUptoRow : OpenClaim := { program := "ythagcegplgpndaa", sum := "7a7dd4025ed9419aba6f285659c4423fe84f1c9096a38d4bf632499b871ac255", func := "loop.example/g03016/laws.FnUnder", spec := "fnUnder", apart := false, narrowed := true }
def FnUnderUptoSaid : Prop := fnUnderUptoRow.holds Try.pinned (OpenSpec.upto fnUnderSpec)

end Rows
end Go.Proofs.Ythagcegplgpndaa
