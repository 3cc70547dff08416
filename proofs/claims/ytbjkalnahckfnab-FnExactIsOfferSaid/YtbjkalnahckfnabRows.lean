/-
  No cell of these rows narrows 'for every input' (looked for: loops, veiled, ifaces, maps, wideKeys, modest, calm, conditions, laid).
  DERIVED. THE GIVEN ROWS OF THIS SEAT. 6 by the template 'for every input the law returns true; each argument reads behind the call as it read before'; 0 by the template 'total and deterministic' (their statements: YtbjkalnahckfnabTotals.lean).
  GIVEN WITH THE SEED: the statements are not yours to turn. If you find one false, say at which input.
  Laid BY PROGRAM, IN A SANDBOX (cutbox-rows.mjs): the forced cells as the released guide's own fill.sh prints them over the translation a35e4999c1f18d8a… (all of the seat's roots in one cut). By AI agents, Wed Nov 11 2026. No macro, syntax, notation, axiom, sorry.
-/
import Derived.Test.YtbjkalnahckfnabChecked
import GoSem.Claim
import GoSem.ClaimJoined
import GoSem.ClaimMapViews
import Derived.JoinedTies
import Derived.KernelRfl
namespace Go.Proofs.Ytbjkalnahckfnab
/- THE CELL 'sum', in the pinned program and in every row, IS THE sha256 OF THE DUMP (.gsa) THAT YtbjkalnahckfnabProg.lean LOADS. Nothing in Lean hashes anything: it is a label: what it is worth is what the hold of that sum in a sandbox is worth. -/
noncomputable def Try.pinned : Pinned := { name := "ytbjkalnahckfnab", sum := "a35e4999c1f18d8a66d9c67283c1d0426e1bfd756cea6d4a7e9d38bfb336c3eb", checked := Try.checked }
namespace Rows
def none {H : Type} : Left H := { results := [], args := [] }

/-- 'laws.FnExactAllowedFace': WHATEVER THE INPUT: true; the input reads as it did. -/
def fnExactAllowedFaceSpec : ChangeSpec := { name := "fnExactAllowedFace", fn := fun _ => fun
  | [d] => { results := [.lit (.bool true)], args := [d] }
  | _ => none }
def fnExactAllowedFaceRow : OpenClaim := { program := "ytbjkalnahckfnab", sum := "a35e4999c1f18d8a66d9c67283c1d0426e1bfd756cea6d4a7e9d38bfb336c3eb", func := "loop.example/g03016/laws.FnExactAllowedFace", spec := "fnExactAllowedFace", apart := false }
def FnExactAllowedFaceSaid : Prop := fnExactAllowedFaceRow.holds Try.pinned (OpenSpec.ofChange fnExactAllowedFaceSpec)

/-- ITS FALSE NEIGHBOUR: 'it returns false'. Refute it at one input. -/
def fnExactAllowedFaceWrong : ChangeSpec := { name := "fnExactAllowedFace", fn := fun _ => fun
  | [d] => { results := [.lit (.bool false)], args := [d] }
  | _ => none }
def FnExactAllowedFaceWrongFalsely : Prop := fnExactAllowedFaceRow.holds Try.pinned (OpenSpec.ofChange fnExactAllowedFaceWrong)

/-- 'laws.FnExactLeastVersion': WHATEVER THE INPUT: true; the input reads as it did. -/
def fnExactLeastVersionSpec : ChangeSpec := { name := "fnExactLeastVersion", fn := fun _ => fun
  | [d] => { results := [.lit (.bool true)], args := [d] }
  | _ => none }
def fnExactLeastVersionRow : OpenClaim := { program := "ytbjkalnahckfnab", sum := "a35e4999c1f18d8a66d9c67283c1d0426e1bfd756cea6d4a7e9d38bfb336c3eb", func := "loop.example/g03016/laws.FnExactLeastVersion", spec := "fnExactLeastVersion", unfollowed := true, recurses := true, apart := false }
def FnExactLeastVersionSaid : Prop := fnExactLeastVersionRow.holds Try.pinned (OpenSpec.ofChange fnExactLeastVersionSpec)

/-- ITS FALSE NEIGHBOUR: 'it returns false'. Refute it at one input. -/
def fnExactLeastVersionWrong : ChangeSpec := { name := "fnExactLeastVersion", fn := fun _ => fun
  | [d] => { results := [.lit (.bool false)], args := [d] }
  | _ => none }
def FnExactLeastVersionWrongFalsely : Prop := fnExactLeastVersionRow.holds Try.pinned (OpenSpec.ofChange fnExactLeastVersionWrong)

/-- 'laws.FnExactGainsOf': WHATEVER THE INPUT: true; the input reads as it did. -/
def fnExactGainsOfSpec : ChangeSpec := { name := "fnExactGainsOf", fn := fun _ => fun
  | [d1, d2] => { results := [.lit (.bool true)], args := [d1, d2] }
  | _ => none }
def fnExactGainsOfRow : OpenClaim := { program := "ytbjkalnahckfnab", sum := "a35e4999c1f18d8a66d9c67283c1d0426e1bfd756cea6d4a7e9d38bfb336c3eb", func := "loop.example/g03016/laws.FnExactGainsOf", spec := "fnExactGainsOf", apart := false }
def FnExactGainsOfSaid : Prop := fnExactGainsOfRow.holds Try.pinned (OpenSpec.ofChange fnExactGainsOfSpec)

/-- ITS FALSE NEIGHBOUR: 'it returns false'. Refute it at one input. -/
def fnExactGainsOfWrong : ChangeSpec := { name := "fnExactGainsOf", fn := fun _ => fun
  | [d1, d2] => { results := [.lit (.bool false)], args := [d1, d2] }
  | _ => none }
def FnExactGainsOfWrongFalsely : Prop := fnExactGainsOfRow.holds Try.pinned (OpenSpec.ofChange fnExactGainsOfWrong)

/-- 'laws.FnExactIsOffer': WHATEVER THE INPUT: true; the input reads as it did. -/
def fnExactIsOfferSpec : ChangeSpec := { name := "fnExactIsOffer", fn := fun _ => fun
  | [d] => { results := [.lit (.bool true)], args := [d] }
  | _ => none }
def fnExactIsOfferRow : OpenClaim := { program := "ytbjkalnahckfnab", sum := "a35e4999c1f18d8a66d9c67283c1d0426e1bfd756cea6d4a7e9d38bfb336c3eb", func := "loop.example/g03016/laws.FnExactIsOffer", spec := "fnExactIsOffer", apart := false }
def FnExactIsOfferSaid : Prop := fnExactIsOfferRow.holds Try.pinned (OpenSpec.ofChange fnExactIsOfferSpec)

/-- ITS FALSE NEIGHBOUR: 'it returns false'. Refute it at one input. -/
def fnExactIsOfferWrong : ChangeSpec := { name := "fnExactIsOffer", fn := fun _ => fun
  | [d] => { results := [.lit (.bool false)], args := [d] }
  | _ => none }
def FnExactIsOfferWrongFalsely : Prop := fnExactIsOfferRow.holds Try.pinned (OpenSpec.ofChange fnExactIsOfferWrong)

/-- 'laws.FnVersionOrder': WHATEVER THE INPUT: true; the input reads as it did. -/
def fnVersionOrderSpec : ChangeSpec := { name := "fnVersionOrder", fn := fun _ => fun
  | [d] => { results := [.lit (.bool true)], args := [d] }
  | _ => none }
def fnVersionOrderRow : OpenClaim := { program := "ytbjkalnahckfnab", sum := "a35e4999c1f18d8a66d9c67283c1d0426e1bfd756cea6d4a7e9d38bfb336c3eb", func := "loop.example/g03016/laws.FnVersionOrder", spec := "fnVersionOrder", inPlace := ["internal/abi.NoEscape", "internal/bytealg.IndexByteString", "internal/bytealg.IndexString"], recurses := true, named := ["internal/bytealg.MaxLen"], apart := false }
def FnVersionOrderSaid : Prop := fnVersionOrderRow.holds Try.pinned (OpenSpec.ofChange fnVersionOrderSpec)

/-- ITS FALSE NEIGHBOUR: 'it returns false'. Refute it at one input. -/
def fnVersionOrderWrong : ChangeSpec := { name := "fnVersionOrder", fn := fun _ => fun
  | [d] => { results := [.lit (.bool false)], args := [d] }
  | _ => none }
def FnVersionOrderWrongFalsely : Prop := fnVersionOrderRow.holds Try.pinned (OpenSpec.ofChange fnVersionOrderWrong)

/-- 'laws.FnAllowed': WHATEVER THE INPUT: true; the input reads as it did. -/
def fnAllowedSpec : ChangeSpec := { name := "fnAllowed", fn := fun _ => fun
  | [d] => { results := [.lit (.bool true)], args := [d] }
  | _ => none }
def fnAllowedRow : OpenClaim := { program := "ytbjkalnahckfnab", sum := "a35e4999c1f18d8a66d9c67283c1d0426e1bfd756cea6d4a7e9d38bfb336c3eb", func := "loop.example/g03016/laws.FnAllowed", spec := "fnAllowed", unfollowed := true, recurses := true, apart := false }
def FnAllowedSaid : Prop := fnAllowedRow.holds Try.pinned (OpenSpec.ofChange fnAllowedSpec)

/-- ITS FALSE NEIGHBOUR: 'it returns false'. Refute it at one input. -/
def fnAllowedWrong : ChangeSpec := { name := "fnAllowed", fn := fun _ => fun
  | [d] => { results := [.lit (.bool false)], args := [d] }
  | _ => none }
def FnAllowedWrongFalsely : Prop := fnAllowedRow.holds Try.pinned (OpenSpec.ofChange fnAllowedWrong)

/- THE SECOND FORM. 'bulk': how many values and letters a reading holds, each counted each time it is reached (what is shared counts as often as it is met; a slice's spare places count too). A statement '..UptoSaid' is the law's where the arguments, and the package variables that the reading takes, are together of bulk at most 1048576: NARROWER than '..Said'. Prove '..Said' where nothing that the law and all that it calls make is longer than what came in: it says more and counts as full. Else prove '..UptoSaid'. A law counts once. -/
mutual
def uptoBulk {H : Type} : DataW H → Nat
  | .lit (.string bytes) => bytes.length + 1
  | .lit _ => 1
  | .nil => 1
  | .ptr d => uptoBulk d + 1
  | .slice elems spare => uptoBulkAll elems + uptoBulkAll spare + 1
  | .agg parts => uptoBulkAll parts + 1
  | .iface _ d => uptoBulk d + 1
  | .map entries => uptoBulkEntries entries + 1
  | .held _ => 1
def uptoBulkAll {H : Type} : List (DataW H) → Nat
  | [] => 0
  | d :: r => uptoBulk d + uptoBulkAll r
def uptoBulkEntries {H : Type} : List (Lit × DataW H) → Nat
  | [] => 0
  | x :: r => uptoBulkEntry x + uptoBulkEntries r
def uptoBulkEntry {H : Type} : Lit × DataW H → Nat
  | (.string bytes, d) => bytes.length + uptoBulk d + 1
  | (_, d) => uptoBulk d + 1
 end
def uptoSmall : (H : Type) → List (DataW H) → Bool := fun _ ds => decide (uptoBulkAll ds ≤ 1048576)
def OpenSpec.upto (s : _root_.Go.ChangeSpec) : _root_.Go.OpenSpec := { _root_.Go.OpenSpec.ofChange s with cond := some uptoSmall }

/-- 'laws.FnExactAllowedFace', WHERE WHAT IT READS IS OF BULK AT MOST 1048576: true; the input reads as it did. -/
def fnExactAllowedFaceUptoRow : OpenClaim := { program := "ytbjkalnahckfnab", sum := "a35e4999c1f18d8a66d9c67283c1d0426e1bfd756cea6d4a7e9d38bfb336c3eb", func := "loop.example/g03016/laws.FnExactAllowedFace", spec := "fnExactAllowedFace", apart := false, narrowed := true }
def FnExactAllowedFaceUptoSaid : Prop := fnExactAllowedFaceUptoRow.holds Try.pinned (OpenSpec.upto fnExactAllowedFaceSpec)

/-- 'laws.FnExactLeastVersion', WHERE WHAT IT READS IS OF BULK AT MOST 1048576: true; the input reads as it did. -/
def fnExactLeastVersionUptoRow : OpenClaim := { program := "ytbjkalnahckfnab", sum := "a35e4999c1f18d8a66d9c67283c1d0426e1bfd756cea6d4a7e9d38bfb336c3eb", func := "loop.example/g03016/laws.FnExactLeastVersion", spec := "fnExactLeastVersion", unfollowed := true, recurses := true, apart := false, narrowed := true }
def FnExactLeastVersionUptoSaid : Prop := fnExactLeastVersionUptoRow.holds Try.pinned (OpenSpec.upto fnExactLeastVersionSpec)

/-- 'laws.FnExactGainsOf', WHERE WHAT IT READS IS OF BULK AT MOST 1048576: true; the input reads as it did. -/
def fnExactGainsOfUptoRow : OpenClaim := { program := "ytbjkalnahckfnab", sum := "a35e4999c1f18d8a66d9c67283c1d0426e1bfd756cea6d4a7e9d38bfb336c3eb", func := "loop.example/g03016/laws.FnExactGainsOf", spec := "fnExactGainsOf", apart := false, narrowed := true }
def FnExactGainsOfUptoSaid : Prop := fnExactGainsOfUptoRow.holds Try.pinned (OpenSpec.upto fnExactGainsOfSpec)

/-- 'laws.FnExactIsOffer', WHERE WHAT IT READS IS OF BULK AT MOST 1048576: true; the input reads as it did. -/
def fnExactIsOfferUptoRow : OpenClaim := { program := "ytbjkalnahckfnab", sum := "a35e4999c1f18d8a66d9c67283c1d0426e1bfd756cea6d4a7e9d38bfb336c3eb", func := "loop.example/g03016/laws.FnExactIsOffer", spec := "fnExactIsOffer", apart := false, narrowed := true }
def FnExactIsOfferUptoSaid : Prop := fnExactIsOfferUptoRow.holds Try.pinned (OpenSpec.upto fnExactIsOfferSpec)

/-- 'laws.FnVersionOrder', WHERE WHAT IT READS IS OF BULK AT MOST 1048576: true; the input reads as it did. -/
def fnVersionOrderUptoRow : OpenClaim := { program := "ytbjkalnahckfnab", sum := "a35e4999c1f18d8a66d9c67283c1d0426e1bfd756cea6d4a7e9d38bfb336c3eb", func := "loop.example/g03016/laws.FnVersionOrder", spec := "fnVersionOrder", inPlace := ["internal/abi.NoEscape", "internal/bytealg.IndexByteString", "internal/bytealg.IndexString"], recurses := true, named := ["internal/bytealg.MaxLen"], apart := false, narrowed := true }
def FnVersionOrderUptoSaid : Prop := fnVersionOrderUptoRow.holds Try.pinned (OpenSpec.upto fnVersionOrderSpec)

/-- 'laws.FnAllowed', WHERE WHAT IT READS IS OF BULK AT MOST 1048576: true; the input reads as it did. -/
def fnAllowedUptoRow : OpenClaim := { program := "ytbjkalnahckfnab", sum := "a35e4999c1f18d8a66d9c67283c1d0426e1bfd756cea6d4a7e9d38bfb336c3eb", func := "loop.example/g03016/laws.FnAllowed", spec := "fnAllowed", unfollowed := true, recurses := true, apart := false, narrowed := true }
def FnAllowedUptoSaid : Prop := fnAllowedUptoRow.holds Try.pinned (OpenSpec.upto fnAllowedSpec)

end Rows
end Go.Proofs.Ytbjkalnahckfnab
