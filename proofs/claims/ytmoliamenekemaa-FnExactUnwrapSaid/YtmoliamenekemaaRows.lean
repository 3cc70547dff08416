/-
  No cell of these rows narrows 'for every input' (looked for: loops, veiled, ifaces, maps, wideKeys, modest, calm, conditions, laid).
  DERIVED. THE GIVEN ROWS OF THIS SEAT. 6 by the template 'for every input the law returns true; each argument reads behind the call as it read before'; 0 by the template 'total and deterministic' (their statements: YtmoliamenekemaaTotals.lean).
  GIVEN WITH THE SEED: the statements are not yours to turn. If you find one false, say at which input.
  Laid BY PROGRAM, IN A SANDBOX (cutbox-rows.mjs): the forced cells as the released guide's own fill.sh prints them over the translation cfdebf2ae5c7d784… (all of the seat's roots in one cut). By AI agents, Wed Nov 11 2026. No macro, syntax, notation, axiom, sorry.
-/
import Derived.Test.YtmoliamenekemaaChecked
import GoSem.Claim
import GoSem.ClaimJoined
import GoSem.ClaimMapViews
import Derived.JoinedTies
import Derived.KernelRfl
namespace Go.Proofs.Ytmoliamenekemaa
/- THE CELL 'sum', in the pinned program and in every row, IS THE sha256 OF THE DUMP (.gsa) THAT YtmoliamenekemaaProg.lean LOADS. Nothing in Lean hashes anything: it is a label: what it is worth is what the hold of that sum in a sandbox is worth. -/
noncomputable def Try.pinned : Pinned := { name := "ytmoliamenekemaa", sum := "cfdebf2ae5c7d78478d2878879d5f73330d8b8df77342362e08fef45571922e2", checked := Try.checked }
namespace Rows
def none {H : Type} : Left H := { results := [], args := [] }

/-- 'laws.FnExactIsPart': WHATEVER THE INPUT: true; the input reads as it did. -/
def fnExactIsPartSpec : ChangeSpec := { name := "fnExactIsPart", fn := fun _ => fun
  | [d] => { results := [.lit (.bool true)], args := [d] }
  | _ => none }
def fnExactIsPartRow : OpenClaim := { program := "ytmoliamenekemaa", sum := "cfdebf2ae5c7d78478d2878879d5f73330d8b8df77342362e08fef45571922e2", func := "loop.example/g03016/laws.FnExactIsPart", spec := "fnExactIsPart", apart := false }
def FnExactIsPartSaid : Prop := fnExactIsPartRow.holds Try.pinned (OpenSpec.ofChange fnExactIsPartSpec)

/-- ITS FALSE NEIGHBOUR: 'it returns false'. Refute it at one input. -/
def fnExactIsPartWrong : ChangeSpec := { name := "fnExactIsPart", fn := fun _ => fun
  | [d] => { results := [.lit (.bool false)], args := [d] }
  | _ => none }
def FnExactIsPartWrongFalsely : Prop := fnExactIsPartRow.holds Try.pinned (OpenSpec.ofChange fnExactIsPartWrong)

/-- 'laws.FnExactUnwrap': WHATEVER THE INPUT: true; the input reads as it did. -/
def fnExactUnwrapSpec : ChangeSpec := { name := "fnExactUnwrap", fn := fun _ => fun
  | [d] => { results := [.lit (.bool true)], args := [d] }
  | _ => none }
def fnExactUnwrapRow : OpenClaim := { program := "ytmoliamenekemaa", sum := "cfdebf2ae5c7d78478d2878879d5f73330d8b8df77342362e08fef45571922e2", func := "loop.example/g03016/laws.FnExactUnwrap", spec := "fnExactUnwrap", inPlace := ["internal/abi.NoEscape"], apart := false }
def FnExactUnwrapSaid : Prop := fnExactUnwrapRow.holds Try.pinned (OpenSpec.ofChange fnExactUnwrapSpec)

/-- ITS FALSE NEIGHBOUR: 'it returns false'. Refute it at one input. -/
def fnExactUnwrapWrong : ChangeSpec := { name := "fnExactUnwrap", fn := fun _ => fun
  | [d] => { results := [.lit (.bool false)], args := [d] }
  | _ => none }
def FnExactUnwrapWrongFalsely : Prop := fnExactUnwrapRow.holds Try.pinned (OpenSpec.ofChange fnExactUnwrapWrong)

/-- 'laws.FnExactRecipeOf': WHATEVER THE INPUT: true; the input reads as it did. -/
def fnExactRecipeOfSpec : ChangeSpec := { name := "fnExactRecipeOf", fn := fun _ => fun
  | [d] => { results := [.lit (.bool true)], args := [d] }
  | _ => none }
def fnExactRecipeOfRow : OpenClaim := { program := "ytmoliamenekemaa", sum := "cfdebf2ae5c7d78478d2878879d5f73330d8b8df77342362e08fef45571922e2", func := "loop.example/g03016/laws.FnExactRecipeOf", spec := "fnExactRecipeOf", inPlace := ["internal/abi.NoEscape"], apart := false }
def FnExactRecipeOfSaid : Prop := fnExactRecipeOfRow.holds Try.pinned (OpenSpec.ofChange fnExactRecipeOfSpec)

/-- ITS FALSE NEIGHBOUR: 'it returns false'. Refute it at one input. -/
def fnExactRecipeOfWrong : ChangeSpec := { name := "fnExactRecipeOf", fn := fun _ => fun
  | [d] => { results := [.lit (.bool false)], args := [d] }
  | _ => none }
def FnExactRecipeOfWrongFalsely : Prop := fnExactRecipeOfRow.holds Try.pinned (OpenSpec.ofChange fnExactRecipeOfWrong)

/-- 'laws.FnExactRecipeFace': WHATEVER THE INPUT: true; the input reads as it did. -/
def fnExactRecipeFaceSpec : ChangeSpec := { name := "fnExactRecipeFace", fn := fun _ => fun
  | [d] => { results := [.lit (.bool true)], args := [d] }
  | _ => none }
def fnExactRecipeFaceRow : OpenClaim := { program := "ytmoliamenekemaa", sum := "cfdebf2ae5c7d78478d2878879d5f73330d8b8df77342362e08fef45571922e2", func := "loop.example/g03016/laws.FnExactRecipeFace", spec := "fnExactRecipeFace", inPlace := ["internal/abi.NoEscape"], unfollowed := true, recurses := true, apart := false }
def FnExactRecipeFaceSaid : Prop := fnExactRecipeFaceRow.holds Try.pinned (OpenSpec.ofChange fnExactRecipeFaceSpec)

/-- ITS FALSE NEIGHBOUR: 'it returns false'. Refute it at one input. -/
def fnExactRecipeFaceWrong : ChangeSpec := { name := "fnExactRecipeFace", fn := fun _ => fun
  | [d] => { results := [.lit (.bool false)], args := [d] }
  | _ => none }
def FnExactRecipeFaceWrongFalsely : Prop := fnExactRecipeFaceRow.holds Try.pinned (OpenSpec.ofChange fnExactRecipeFaceWrong)

/-- 'laws.FnExactMakePart': WHATEVER THE INPUT: true; the input reads as it did. -/
def fnExactMakePartSpec : ChangeSpec := { name := "fnExactMakePart", fn := fun _ => fun
  | [d] => { results := [.lit (.bool true)], args := [d] }
  | _ => none }
def fnExactMakePartRow : OpenClaim := { program := "ytmoliamenekemaa", sum := "cfdebf2ae5c7d78478d2878879d5f73330d8b8df77342362e08fef45571922e2", func := "loop.example/g03016/laws.FnExactMakePart", spec := "fnExactMakePart", inPlace := ["internal/abi.NoEscape"], unfollowed := true, recurses := true, apart := false }
def FnExactMakePartSaid : Prop := fnExactMakePartRow.holds Try.pinned (OpenSpec.ofChange fnExactMakePartSpec)

/-- ITS FALSE NEIGHBOUR: 'it returns false'. Refute it at one input. -/
def fnExactMakePartWrong : ChangeSpec := { name := "fnExactMakePart", fn := fun _ => fun
  | [d] => { results := [.lit (.bool false)], args := [d] }
  | _ => none }
def FnExactMakePartWrongFalsely : Prop := fnExactMakePartRow.holds Try.pinned (OpenSpec.ofChange fnExactMakePartWrong)

/-- 'laws.FnExactWrap': WHATEVER THE INPUT: true; the input reads as it did. -/
def fnExactWrapSpec : ChangeSpec := { name := "fnExactWrap", fn := fun _ => fun
  | [d1, d2] => { results := [.lit (.bool true)], args := [d1, d2] }
  | _ => none }
def fnExactWrapRow : OpenClaim := { program := "ytmoliamenekemaa", sum := "cfdebf2ae5c7d78478d2878879d5f73330d8b8df77342362e08fef45571922e2", func := "loop.example/g03016/laws.FnExactWrap", spec := "fnExactWrap", inPlace := ["internal/abi.NoEscape"], unfollowed := true, recurses := true, apart := false }
def FnExactWrapSaid : Prop := fnExactWrapRow.holds Try.pinned (OpenSpec.ofChange fnExactWrapSpec)

/-- ITS FALSE NEIGHBOUR: 'it returns false'. Refute it at one input. -/
def fnExactWrapWrong : ChangeSpec := { name := "fnExactWrap", fn := fun _ => fun
  | [d1, d2] => { results := [.lit (.bool false)], args := [d1, d2] }
  | _ => none }
def FnExactWrapWrongFalsely : Prop := fnExactWrapRow.holds Try.pinned (OpenSpec.ofChange fnExactWrapWrong)

/- THE SECOND FORM. 'bulk': how many values and letters a reading holds, each counted each time it is reached (what is shared counts as often as it is met; a slice's spare places count too). A statement '..UptoSaid' is the law's where the arguments, and the package variables that the reading takes, are together of bulk at most 1048576: NARROWER than '..Said'. Prove '..Said' where nothing that the law and all that it calls make is longer than what came in: it says more and counts as full. Else prove '..UptoSaid'. A law counts once. -/
mutual
def uptoBulk {H : Type} : DataW H → Nat
  | .lit (.string bytes) => bytes.length + 1
  | .lit _ => 1
  | .nil => 1
  | .ptr d => uptoBulk d + 1
  | .slice elems spare => uptoBulkAll elems + uptoBulkAll spare + 1
  | .agg parts => uptoBulkAll parts + 1
  | .iface _ d => uptoBulk d + 1
  | .map entries => uptoBulkEntries entries + 1
  | .held _ => 1
def uptoBulkAll {H : Type} : List (DataW H) → Nat
  | [] => 0
  | d :: r => uptoBulk d + uptoBulkAll r
def uptoBulkEntries {H : Type} : List (Lit × DataW H) → Nat
  | [] => 0
  | x :: r => uptoBulkEntry x + uptoBulkEntries r
def uptoBulkEntry {H : Type} : Lit × DataW H → Nat
  | (.string bytes, d) => bytes.length + uptoBulk d + 1
  | (_, d) => uptoBulk d + 1
 end
def uptoSmall : (H : Type) → List (DataW H) → Bool := fun _ ds => decide (uptoBulkAll ds ≤ 1048576)
def OpenSpec.upto (s : _root_.Go.ChangeSpec) : _root_.Go.OpenSpec := { _root_.Go.OpenSpec.ofChange s with cond := some uptoSmall }

/-- 'laws.FnExactIsPart', WHERE WHAT IT READS IS OF BULK AT MOST 1048576: true; the input reads as it did. -/
def fnExactIsPartUptoRow : OpenClaim := { program := "ytmoliamenekemaa", sum := "cfdebf2ae5c7d78478d2878879d5f73330d8b8df77342362e08fef45571922e2", func := "loop.example/g03016/laws.FnExactIsPart", spec := "fnExactIsPart", apart := false, narrowed := true }
def FnExactIsPartUptoSaid : Prop := fnExactIsPartUptoRow.holds Try.pinned (OpenSpec.upto fnExactIsPartSpec)

/-- 'laws.FnExactUnwrap', WHERE WHAT IT READS IS OF BULK AT MOST 1048576: true; the input reads as it did. -/
def fnExactUnwrapUptoRow : OpenClaim := { program := "ytmoliamenekemaa", sum := "cfdebf2ae5c7d78478d2878879d5f73330d8b8df77342362e08fef45571922e2", func := "loop.example/g03016/laws.FnExactUnwrap", spec := "fnExactUnwrap", inPlace := ["internal/abi.NoEscape"], apart := false, narrowed := true }
def FnExactUnwrapUptoSaid : Prop := fnExactUnwrapUptoRow.holds Try.pinned (OpenSpec.upto fnExactUnwrapSpec)

/-- 'laws.FnExactRecipeOf', WHERE WHAT IT READS IS OF BULK AT MOST 1048576: true; the input reads as it did. -/
def fnExactRecipeOfUptoRow : OpenClaim := { program := "ytmoliamenekemaa", sum := "cfdebf2ae5c7d78478d2878879d5f73330d8b8df77342362e08fef45571922e2", func := "loop.example/g03016/laws.FnExactRecipeOf", spec := "fnExactRecipeOf", inPlace := ["internal/abi.NoEscape"], apart := false, narrowed := true }
def FnExactRecipeOfUptoSaid : Prop := fnExactRecipeOfUptoRow.holds Try.pinned (OpenSpec.upto fnExactRecipeOfSpec)

/-- 'laws.FnExactRecipeFace', WHERE WHAT IT READS IS OF BULK AT MOST 1048576: true; the input reads as it did. -/
def fnExactRecipeFaceUptoRow : OpenClaim := { program := "ytmoliamenekemaa", sum := "cfdebf2ae5c7d78478d2878879d5f73330d8b8df77342362e08fef45571922e2", func := "loop.example/g03016/laws.FnExactRecipeFace", spec := "fnExactRecipeFace", inPlace := ["internal/abi.NoEscape"], unfollowed := true, recurses := true, apart := false, narrowed := true }
def FnExactRecipeFaceUptoSaid : Prop := fnExactRecipeFaceUptoRow.holds Try.pinned (OpenSpec.upto fnExactRecipeFaceSpec)

/-- 'laws.FnExactMakePart', WHERE WHAT IT READS IS OF BULK AT MOST 1048576: true; the input reads as it did. -/
def fnExactMakePartUptoRow : OpenClaim := { program := "ytmoliamenekemaa", sum := "cfdebf2ae5c7d78478d2878879d5f73330d8b8df77342362e08fef45571922e2", func := "loop.example/g03016/laws.FnExactMakePart", spec := "fnExactMakePart", inPlace := ["internal/abi.NoEscape"], unfollowed := true, recurses := true, apart := false, narrowed := true }
def FnExactMakePartUptoSaid : Prop := fnExactMakePartUptoRow.holds Try.pinned (OpenSpec.upto fnExactMakePartSpec)

/-- 'laws.FnExactWrap', WHERE WHAT IT READS IS OF BULK AT MOST 1048576: true; the input reads as it did. -/
def fnExactWrapUptoRow : OpenClaim := { program := "ytmoliamenekemaa", sum := "cfdebf2ae5c7d78478d2878879d5f73330d8b8df77342362e08fef45571922e2", func := "loop.example/g03016/laws.FnExactWrap", spec := "fnExactWrap", inPlace := ["internal/abi.NoEscape"], unfollowed := true, recurses := true, apart := false, narrowed := true }
def FnExactWrapUptoSaid : Prop := fnExactWrapUptoRow.holds Try.pinned (OpenSpec.upto fnExactWrapSpec)

end Rows
end Go.Proofs.Ytmoliamenekemaa
