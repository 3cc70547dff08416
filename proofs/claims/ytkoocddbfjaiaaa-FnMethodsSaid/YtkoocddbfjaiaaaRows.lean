/-
  No cell of these rows narrows 'for every input' (looked for: loops, veiled, ifaces, maps, wideKeys, modest, calm, conditions, laid).
  DERIVED. THE GIVEN ROWS OF THIS SEAT. 6 by the template 'for every input the law returns true; each argument reads behind the call as it read before'; 0 by the template 'total and deterministic' (their statements: YtkoocddbfjaiaaaTotals.lean).
  GIVEN WITH THE SEED: the statements are not yours to turn. If you find one false, say at which input.
  Laid BY PROGRAM, IN A SANDBOX (cutbox-rows.mjs): the forced cells as the released guide's own fill.sh prints them over the translation d9a5ac133980385a… (all of the seat's roots in one cut). By AI agents, Wed Nov 11 2026. No macro, syntax, notation, axiom, sorry.
-/
import Derived.Test.YtkoocddbfjaiaaaChecked
import GoSem.Claim
import GoSem.ClaimJoined
import GoSem.ClaimMapViews
import Derived.JoinedTies
import Derived.KernelRfl
namespace Go.Proofs.Ytkoocddbfjaiaaa
/- THE CELL 'sum', in the pinned program and in every row, IS THE sha256 OF THE DUMP (.gsa) THAT YtkoocddbfjaiaaaProg.lean LOADS. Nothing in Lean hashes anything: it is a label: what it is worth is what the hold of that sum in a sandbox is worth. -/
noncomputable def Try.pinned : Pinned := { name := "ytkoocddbfjaiaaa", sum := "d9a5ac133980385aa90b4e6dfb5beb64c76caafbadcf5c36a30b2194102ede7f", checked := Try.checked }
namespace Rows
def none {H : Type} : Left H := { results := [], args := [] }

/-- 'laws.FnExactMethodsOf': WHATEVER THE INPUT: true; the input reads as it did. -/
def fnExactMethodsOfSpec : ChangeSpec := { name := "fnExactMethodsOf", fn := fun _ => fun
  | [d] => { results := [.lit (.bool true)], args := [d] }
  | _ => none }
def fnExactMethodsOfRow : OpenClaim := { program := "ytkoocddbfjaiaaa", sum := "d9a5ac133980385aa90b4e6dfb5beb64c76caafbadcf5c36a30b2194102ede7f", func := "loop.example/g03016/laws.FnExactMethodsOf", spec := "fnExactMethodsOf", inPlace := ["internal/abi.NoEscape"], recurses := true, apart := false }
def FnExactMethodsOfSaid : Prop := fnExactMethodsOfRow.holds Try.pinned (OpenSpec.ofChange fnExactMethodsOfSpec)

/-- ITS FALSE NEIGHBOUR: 'it returns false'. Refute it at one input. -/
def fnExactMethodsOfWrong : ChangeSpec := { name := "fnExactMethodsOf", fn := fun _ => fun
  | [d] => { results := [.lit (.bool false)], args := [d] }
  | _ => none }
def FnExactMethodsOfWrongFalsely : Prop := fnExactMethodsOfRow.holds Try.pinned (OpenSpec.ofChange fnExactMethodsOfWrong)

/-- 'laws.FnExactFacesUnder': WHATEVER THE INPUT: true; the input reads as it did. -/
def fnExactFacesUnderSpec : ChangeSpec := { name := "fnExactFacesUnder", fn := fun _ => fun
  | [d] => { results := [.lit (.bool true)], args := [d] }
  | _ => none }
def fnExactFacesUnderRow : OpenClaim := { program := "ytkoocddbfjaiaaa", sum := "d9a5ac133980385aa90b4e6dfb5beb64c76caafbadcf5c36a30b2194102ede7f", func := "loop.example/g03016/laws.FnExactFacesUnder", spec := "fnExactFacesUnder", apart := false }
def FnExactFacesUnderSaid : Prop := fnExactFacesUnderRow.holds Try.pinned (OpenSpec.ofChange fnExactFacesUnderSpec)

/-- ITS FALSE NEIGHBOUR: 'it returns false'. Refute it at one input. -/
def fnExactFacesUnderWrong : ChangeSpec := { name := "fnExactFacesUnder", fn := fun _ => fun
  | [d] => { results := [.lit (.bool false)], args := [d] }
  | _ => none }
def FnExactFacesUnderWrongFalsely : Prop := fnExactFacesUnderRow.holds Try.pinned (OpenSpec.ofChange fnExactFacesUnderWrong)

/-- 'laws.FnOffers': WHATEVER THE INPUT: true; the input reads as it did. -/
def fnOffersSpec : ChangeSpec := { name := "fnOffers", fn := fun _ => fun
  | [d] => { results := [.lit (.bool true)], args := [d] }
  | _ => none }
def fnOffersRow : OpenClaim := { program := "ytkoocddbfjaiaaa", sum := "d9a5ac133980385aa90b4e6dfb5beb64c76caafbadcf5c36a30b2194102ede7f", func := "loop.example/g03016/laws.FnOffers", spec := "fnOffers", apart := false }
def FnOffersSaid : Prop := fnOffersRow.holds Try.pinned (OpenSpec.ofChange fnOffersSpec)

/-- ITS FALSE NEIGHBOUR: 'it returns false'. Refute it at one input. -/
def fnOffersWrong : ChangeSpec := { name := "fnOffers", fn := fun _ => fun
  | [d] => { results := [.lit (.bool false)], args := [d] }
  | _ => none }
def FnOffersWrongFalsely : Prop := fnOffersRow.holds Try.pinned (OpenSpec.ofChange fnOffersWrong)

/-- 'laws.FnFaceSets': WHATEVER THE INPUT: true; the input reads as it did. -/
def fnFaceSetsSpec : ChangeSpec := { name := "fnFaceSets", fn := fun _ => fun
  | [d] => { results := [.lit (.bool true)], args := [d] }
  | _ => none }
def fnFaceSetsRow : OpenClaim := { program := "ytkoocddbfjaiaaa", sum := "d9a5ac133980385aa90b4e6dfb5beb64c76caafbadcf5c36a30b2194102ede7f", func := "loop.example/g03016/laws.FnFaceSets", spec := "fnFaceSets", apart := false }
def FnFaceSetsSaid : Prop := fnFaceSetsRow.holds Try.pinned (OpenSpec.ofChange fnFaceSetsSpec)

/-- ITS FALSE NEIGHBOUR: 'it returns false'. Refute it at one input. -/
def fnFaceSetsWrong : ChangeSpec := { name := "fnFaceSets", fn := fun _ => fun
  | [d] => { results := [.lit (.bool false)], args := [d] }
  | _ => none }
def FnFaceSetsWrongFalsely : Prop := fnFaceSetsRow.holds Try.pinned (OpenSpec.ofChange fnFaceSetsWrong)

/-- 'laws.FnMethods': WHATEVER THE INPUT: true; the input reads as it did. -/
def fnMethodsSpec : ChangeSpec := { name := "fnMethods", fn := fun _ => fun
  | [d] => { results := [.lit (.bool true)], args := [d] }
  | _ => none }
def fnMethodsRow : OpenClaim := { program := "ytkoocddbfjaiaaa", sum := "d9a5ac133980385aa90b4e6dfb5beb64c76caafbadcf5c36a30b2194102ede7f", func := "loop.example/g03016/laws.FnMethods", spec := "fnMethods", inPlace := ["internal/abi.NoEscape"], recurses := true, apart := false }
def FnMethodsSaid : Prop := fnMethodsRow.holds Try.pinned (OpenSpec.ofChange fnMethodsSpec)

/-- ITS FALSE NEIGHBOUR: 'it returns false'. Refute it at one input. -/
def fnMethodsWrong : ChangeSpec := { name := "fnMethods", fn := fun _ => fun
  | [d] => { results := [.lit (.bool false)], args := [d] }
  | _ => none }
def FnMethodsWrongFalsely : Prop := fnMethodsRow.holds Try.pinned (OpenSpec.ofChange fnMethodsWrong)

/-- 'laws.FnUnder': WHATEVER THE INPUT: true; the input reads as it did. -/
def fnUnderSpec : ChangeSpec := { name := "fnUnder", fn := fun _ => fun
  | [d] => { results := [.lit (.bool true)], args := [d] }
  | _ => none }
def fnUnderRow : OpenClaim := { program := "ytkoocddbfjaiaaa", sum := "d9a5ac133980385aa90b4e6dfb5beb64c76caafbadcf5c36a30b2194102ede7f", func := "loop.example/g03016/laws.FnUnder", spec := "fnUnder", apart := false }
def FnUnderSaid : Prop := fnUnderRow.holds Try.pinned (OpenSpec.ofChange fnUnderSpec)

/-- ITS FALSE NEIGHBOUR: 'it returns false'. Refute it at one input. -/
def fnUnderWrong : ChangeSpec := { name := "fnUnder", fn := fun _ => fun
  | [d] => { results := [.lit (.bool false)], args := [d] }
  | _ => none }
def FnUnderWrongFalsely : Prop := fnUnderRow.holds Try.pinned (OpenSpec.ofChange fnUnderWrong)

/- THE SECOND FORM. 'bulk': how many values and letters a reading holds, each counted each time it is reached (what is shared counts as often as it is met; a slice's spare places count too). A statement '..UptoSaid' is the law's where the arguments, and the package variables that the reading takes, are together of bulk at most 1048576: NARROWER than '..Said'. Prove '..Said' where nothing that the law and all that it calls make is longer than what came in: it says more and counts as full. Else prove '..UptoSaid'. A law counts once. -/
mutual
def uptoBulk {H : Type} : DataW H → Nat
  | .lit (.string bytes) => bytes.length + 1
  | .lit _ => 1
  | .nil => 1
  | .ptr d => uptoBulk d + 1
  | .slice elems spare => uptoBulkAll elems + uptoBulkAll spare + 1
  | .agg parts => uptoBulkAll parts + 1
  | .iface _ d => uptoBulk d + 1
  | .map entries => uptoBulkEntries entries + 1
  | .held _ => 1
def uptoBulkAll {H : Type} : List (DataW H) → Nat
  | [] => 0
  | d :: r => uptoBulk d + uptoBulkAll r
def uptoBulkEntries {H : Type} : List (Lit × DataW H) → Nat
  | [] => 0
  | x :: r => uptoBulkEntry x + uptoBulkEntries r
def uptoBulkEntry {H : Type} : Lit × DataW H → Nat
  | (.string bytes, d) => bytes.length + uptoBulk d + 1
  | (_, d) => uptoBulk d + 1
 end
def uptoSmall : (H : Type) → List (DataW H) → Bool := fun _ ds => decide (uptoBulkAll ds ≤ 1048576)
def OpenSpec.upto (s : _root_.Go.ChangeSpec) : _root_.Go.OpenSpec := { _root_.Go.OpenSpec.ofChange s with cond := some uptoSmall }

/-- 'laws.FnExactMethodsOf', WHERE WHAT IT READS IS OF BULK AT MOST 1048576: true; the input reads as it did. -/
def fnExactMethodsOfUptoRow : OpenClaim := { program := "ytkoocddbfjaiaaa", sum := "d9a5ac133980385aa90b4e6dfb5beb64c76caafbadcf5c36a30b2194102ede7f", func := "loop.example/g03016/laws.FnExactMethodsOf", spec := "fnExactMethodsOf", inPlace := ["internal/abi.NoEscape"], recurses := true, apart := false, narrowed := true }
def FnExactMethodsOfUptoSaid : Prop := fnExactMethodsOfUptoRow.holds Try.pinned (OpenSpec.upto fnExactMethodsOfSpec)

/-- 'laws.FnExactFacesUnder', WHERE WHAT IT READS IS OF BULK AT MOST 1048576: true; the input reads as it did. -/
def fnExactFacesUnderUptoRow : OpenClaim := { program := "ytkoocddbfjaiaaa", sum := "d9a5ac133980385aa90b4e6dfb5beb64c76caafbadcf5c36a30b2194102ede7f", func := "loop.example/g03016/laws.FnExactFacesUnder", spec := "fnExactFacesUnder", apart := false, narrowed := true }
def FnExactFacesUnderUptoSaid : Prop := fnExactFacesUnderUptoRow.holds Try.pinned (OpenSpec.upto fnExactFacesUnderSpec)

/-- 'laws.FnOffers', WHERE WHAT IT READS IS OF BULK AT MOST 1048576: true; the input reads as it did. -/
def fnOffersUptoRow : OpenClaim := { program := "ytkoocddbfjaiaaa", sum := "d9a5ac133980385aa90b4e6dfb5beb64c76caafbadcf5c36a30b2194102ede7f", func := "loop.example/g03016/laws.FnOffers", spec := "fnOffers", apart := false, narrowed := true }
def FnOffersUptoSaid : Prop := fnOffersUptoRow.holds Try.pinned (OpenSpec.upto fnOffersSpec)

/-- 'laws.FnFaceSets', WHERE WHAT IT READS IS OF BULK AT MOST 1048576: true; the input reads as it did. -/
def fnFaceSetsUptoRow : OpenClaim := { program := "ytkoocddbfjaiaaa", sum := "d9a5ac133980385aa90b4e6dfb5beb64c76caafbadcf5c36a30b2194102ede7f", func := "loop.example/g03016/laws.FnFaceSets", spec := "fnFaceSets", apart := false, narrowed := true }
def FnFaceSetsUptoSaid : Prop := fnFaceSetsUptoRow.holds Try.pinned (OpenSpec.upto fnFaceSetsSpec)

/-- 'laws.FnMethods', WHERE WHAT IT READS IS OF BULK AT MOST 1048576: true; the input reads as it did. -/
def fnMethodsUptoRow : OpenClaim := { program := "ytkoocddbfjaiaaa", sum := "d9a5ac133980385aa90b4e6dfb5beb64c76caafbadcf5c36a30b2194102ede7f", func := "loop.example/g03016/laws.FnMethods", spec := "fnMethods", inPlace := ["internal/abi.NoEscape"], recurses := true, apart := false, narrowed := true }
def FnMethodsUptoSaid : Prop := fnMethodsUptoRow.holds Try.pinned (OpenSpec.upto fnMethodsSpec)

/-- 'laws.FnUnder', WHERE WHAT IT READS IS OF BULK AT MOST 1048576: true; the input reads as it did. -/
def fnUnderUptoRow : OpenClaim := { program := "ytkoocddbfjaiaaa", sum := "d9a5ac133980385aa90b4e6dfb5beb64c76caafbadcf5c36a30b2194102ede7f", func := "loop.example/g03016/laws.FnUnder", spec := "fnUnder", apart := false, narrowed := true }
def FnUnderUptoSaid : Prop := fnUnderUptoRow.holds Try.pinned (OpenSpec.upto fnUnderSpec)

end Rows
end Go.Proofs.Ytkoocddbfjaiaaa
