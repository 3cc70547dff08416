/-
  No cell of these rows narrows 'for every input' (looked for: loops, veiled, ifaces, maps, wideKeys, modest, calm, conditions, laid).
  DERIVED. THE GIVEN ROWS OF THIS SEAT. 6 by the template 'for every input the law returns true; each argument reads behind the call as it read before'; 0 by the template 'total and deterministic' (their statements: YtaihdjdaamglnaaTotals.lean).
  GIVEN WITH THE SEED: the statements are not yours to turn. If you find one false, say at which input.
  Laid BY PROGRAM, IN A SANDBOX (cutbox-rows.mjs): the forced cells as the released guide's own fill.sh prints them over the translation 641fe610f436307d… (all of the seat's roots in one cut). By AI agents, Wed Nov 11 2026. No macro, syntax, notation, axiom, sorry.
-/
import Derived.Test.YtaihdjdaamglnaaChecked
import GoSem.Claim
import GoSem.ClaimJoined
import GoSem.ClaimMapViews
import Derived.JoinedTies
import Derived.KernelRfl
namespace Go.Proofs.Ytaihdjdaamglnaa
/- THE CELL 'sum', in the pinned program and in every row, IS THE sha256 OF THE DUMP (.gsa) THAT YtaihdjdaamglnaaProg.lean LOADS. Nothing in Lean hashes anything: it is a label: what it is worth is what the hold of that sum in a sandbox is worth. -/
noncomputable def Try.pinned : Pinned := { name := "ytaihdjdaamglnaa", sum := "641fe610f436307d873524745c6d1321d1dd18fa9500f8d98f80df076241541d", checked := Try.checked }
namespace Rows
def none {H : Type} : Left H := { results := [], args := [] }

/-- 'laws.FnWrapped': WHATEVER THE INPUT: true; the input reads as it did. -/
def fnWrappedSpec : ChangeSpec := { name := "fnWrapped", fn := fun _ => fun
  | [d] => { results := [.lit (.bool true)], args := [d] }
  | _ => none }
def fnWrappedRow : OpenClaim := { program := "ytaihdjdaamglnaa", sum := "641fe610f436307d873524745c6d1321d1dd18fa9500f8d98f80df076241541d", func := "loop.example/g03016/laws.FnWrapped", spec := "fnWrapped", inPlace := ["internal/abi.NoEscape"], unfollowed := true, recurses := true, apart := false }
def FnWrappedSaid : Prop := fnWrappedRow.holds Try.pinned (OpenSpec.ofChange fnWrappedSpec)

/-- ITS FALSE NEIGHBOUR: 'it returns false'. Refute it at one input. -/
def fnWrappedWrong : ChangeSpec := { name := "fnWrapped", fn := fun _ => fun
  | [d] => { results := [.lit (.bool false)], args := [d] }
  | _ => none }
def FnWrappedWrongFalsely : Prop := fnWrappedRow.holds Try.pinned (OpenSpec.ofChange fnWrappedWrong)

/-- 'laws.FnRecipes': WHATEVER THE INPUT: true; the input reads as it did. -/
def fnRecipesSpec : ChangeSpec := { name := "fnRecipes", fn := fun _ => fun
  | [d] => { results := [.lit (.bool true)], args := [d] }
  | _ => none }
def fnRecipesRow : OpenClaim := { program := "ytaihdjdaamglnaa", sum := "641fe610f436307d873524745c6d1321d1dd18fa9500f8d98f80df076241541d", func := "loop.example/g03016/laws.FnRecipes", spec := "fnRecipes", inPlace := ["internal/abi.NoEscape"], unfollowed := true, recurses := true, apart := false }
def FnRecipesSaid : Prop := fnRecipesRow.holds Try.pinned (OpenSpec.ofChange fnRecipesSpec)

/-- ITS FALSE NEIGHBOUR: 'it returns false'. Refute it at one input. -/
def fnRecipesWrong : ChangeSpec := { name := "fnRecipes", fn := fun _ => fun
  | [d] => { results := [.lit (.bool false)], args := [d] }
  | _ => none }
def FnRecipesWrongFalsely : Prop := fnRecipesRow.holds Try.pinned (OpenSpec.ofChange fnRecipesWrong)

/-- 'laws.FnDeal': WHATEVER THE INPUT: true; the input reads as it did. -/
def fnDealSpec : ChangeSpec := { name := "fnDeal", fn := fun _ => fun
  | [d] => { results := [.lit (.bool true)], args := [d] }
  | _ => none }
def fnDealRow : OpenClaim := { program := "ytaihdjdaamglnaa", sum := "641fe610f436307d873524745c6d1321d1dd18fa9500f8d98f80df076241541d", func := "loop.example/g03016/laws.FnDeal", spec := "fnDeal", unfollowed := true, recurses := true, apart := false }
def FnDealSaid : Prop := fnDealRow.holds Try.pinned (OpenSpec.ofChange fnDealSpec)

/-- ITS FALSE NEIGHBOUR: 'it returns false'. Refute it at one input. -/
def fnDealWrong : ChangeSpec := { name := "fnDeal", fn := fun _ => fun
  | [d] => { results := [.lit (.bool false)], args := [d] }
  | _ => none }
def FnDealWrongFalsely : Prop := fnDealRow.holds Try.pinned (OpenSpec.ofChange fnDealWrong)

/-- 'laws.FnDealSides': WHATEVER THE INPUT: true; the input reads as it did. -/
def fnDealSidesSpec : ChangeSpec := { name := "fnDealSides", fn := fun _ => fun
  | [d] => { results := [.lit (.bool true)], args := [d] }
  | _ => none }
def fnDealSidesRow : OpenClaim := { program := "ytaihdjdaamglnaa", sum := "641fe610f436307d873524745c6d1321d1dd18fa9500f8d98f80df076241541d", func := "loop.example/g03016/laws.FnDealSides", spec := "fnDealSides", unfollowed := true, recurses := true, apart := false }
def FnDealSidesSaid : Prop := fnDealSidesRow.holds Try.pinned (OpenSpec.ofChange fnDealSidesSpec)

/-- ITS FALSE NEIGHBOUR: 'it returns false'. Refute it at one input. -/
def fnDealSidesWrong : ChangeSpec := { name := "fnDealSides", fn := fun _ => fun
  | [d] => { results := [.lit (.bool false)], args := [d] }
  | _ => none }
def FnDealSidesWrongFalsely : Prop := fnDealSidesRow.holds Try.pinned (OpenSpec.ofChange fnDealSidesWrong)

/-- 'laws.FnDealMore': WHATEVER THE INPUT: true; the input reads as it did. -/
def fnDealMoreSpec : ChangeSpec := { name := "fnDealMore", fn := fun _ => fun
  | [d] => { results := [.lit (.bool true)], args := [d] }
  | _ => none }
def fnDealMoreRow : OpenClaim := { program := "ytaihdjdaamglnaa", sum := "641fe610f436307d873524745c6d1321d1dd18fa9500f8d98f80df076241541d", func := "loop.example/g03016/laws.FnDealMore", spec := "fnDealMore", unfollowed := true, recurses := true, apart := false }
def FnDealMoreSaid : Prop := fnDealMoreRow.holds Try.pinned (OpenSpec.ofChange fnDealMoreSpec)

/-- ITS FALSE NEIGHBOUR: 'it returns false'. Refute it at one input. -/
def fnDealMoreWrong : ChangeSpec := { name := "fnDealMore", fn := fun _ => fun
  | [d] => { results := [.lit (.bool false)], args := [d] }
  | _ => none }
def FnDealMoreWrongFalsely : Prop := fnDealMoreRow.holds Try.pinned (OpenSpec.ofChange fnDealMoreWrong)

/-- 'laws.FnExactEmptySlots': WHATEVER THE INPUT: true; the input reads as it did. -/
def fnExactEmptySlotsSpec : ChangeSpec := { name := "fnExactEmptySlots", fn := fun _ => fun
  | [] => { results := [.lit (.bool true)], args := [] }
  | _ => none }
def fnExactEmptySlotsRow : OpenClaim := { program := "ytaihdjdaamglnaa", sum := "641fe610f436307d873524745c6d1321d1dd18fa9500f8d98f80df076241541d", func := "loop.example/g03016/laws.FnExactEmptySlots", spec := "fnExactEmptySlots", apart := false }
def FnExactEmptySlotsSaid : Prop := fnExactEmptySlotsRow.holds Try.pinned (OpenSpec.ofChange fnExactEmptySlotsSpec)

/-- ITS FALSE NEIGHBOUR: 'it returns false'. Refute it at one input. -/
def fnExactEmptySlotsWrong : ChangeSpec := { name := "fnExactEmptySlots", fn := fun _ => fun
  | [] => { results := [.lit (.bool false)], args := [] }
  | _ => none }
def FnExactEmptySlotsWrongFalsely : Prop := fnExactEmptySlotsRow.holds Try.pinned (OpenSpec.ofChange fnExactEmptySlotsWrong)

/- THE SECOND FORM. 'bulk': how many values and letters a reading holds, each counted each time it is reached (what is shared counts as often as it is met; a slice's spare places count too). A statement '..UptoSaid' is the law's where the arguments, and the package variables that the reading takes, are together of bulk at most 1048576: NARROWER than '..Said'. Prove '..Said' where nothing that the law and all that it calls make is longer than what came in: it says more and counts as full. Else prove '..UptoSaid'. A law counts once. -/
mutual
def uptoBulk {H : Type} : DataW H → Nat
  | .lit (.string bytes) => bytes.length + 1
  | .lit _ => 1
  | .nil => 1
  | .ptr d => uptoBulk d + 1
  | .slice elems spare => uptoBulkAll elems + uptoBulkAll spare + 1
  | .agg parts => uptoBulkAll parts + 1
  | .iface _ d => uptoBulk d + 1
  | .map entries => uptoBulkEntries entries + 1
  | .held _ => 1
def uptoBulkAll {H : Type} : List (DataW H) → Nat
  | [] => 0
  | d :: r => uptoBulk d + uptoBulkAll r
def uptoBulkEntries {H : Type} : List (Lit × DataW H) → Nat
  | [] => 0
  | x :: r => uptoBulkEntry x + uptoBulkEntries r
def uptoBulkEntry {H : Type} : Lit × DataW H → Nat
  | (.string bytes, d) => bytes.length + uptoBulk d + 1
  | (_, d) => uptoBulk d + 1
 end
def uptoSmall : (H : Type) → List (DataW H) → Bool := fun _ ds => decide (uptoBulkAll ds ≤ 1048576)
def OpenSpec.upto (s : _root_.Go.ChangeSpec) : _root_.Go.OpenSpec := { _root_.Go.OpenSpec.ofChange s with cond := some uptoSmall }

/-- 'laws.FnWrapped', WHERE WHAT IT READS IS OF BULK AT MOST 1048576: true; the input reads as it did. -/
def fnWrappedUptoRow : OpenClaim := { program := "ytaihdjdaamglnaa", sum := "641fe610f436307d873524745c6d1321d1dd18fa9500f8d98f80df076241541d", func := "loop.example/g03016/laws.FnWrapped", spec := "fnWrapped", inPlace := ["internal/abi.NoEscape"], unfollowed := true, recurses := true, apart := false, narrowed := true }
def FnWrappedUptoSaid : Prop := fnWrappedUptoRow.holds Try.pinned (OpenSpec.upto fnWrappedSpec)

/-- 'laws.FnRecipes', WHERE WHAT IT READS IS OF BULK AT MOST 1048576: true; the input reads as it did. -/
def fnRecipesUptoRow : OpenClaim := { program := "ytaihdjdaamglnaa", sum := "641fe610f436307d873524745c6d1321d1dd18fa9500f8d98f80df076241541d", func := "loop.example/g03016/laws.FnRecipes", spec := "fnRecipes", inPlace := ["internal/abi.NoEscape"], unfollowed := true, recurses := true, apart := false, narrowed := true }
def FnRecipesUptoSaid : Prop := fnRecipesUptoRow.holds Try.pinned (OpenSpec.upto fnRecipesSpec)

/-- 'laws.FnDeal', WHERE WHAT IT READS IS OF BULK AT MOST 1048576: true; the input reads as it did. -/
def fnDealUptoRow : OpenClaim := { program := "ytaihdjdaamglnaa", sum := "641fe610f436307d873524745c6d1321d1dd18fa9500f8d98f80df076241541d", func := "loop.example/g03016/laws.FnDeal", spec := "fnDeal", unfollowed := true, recurses := true, apart := false, narrowed := true }
def FnDealUptoSaid : Prop := fnDealUptoRow.holds Try.pinned (OpenSpec.upto fnDealSpec)

/-- 'laws.FnDealSides', WHERE WHAT IT READS IS OF BULK AT MOST 1048576: true; the input reads as it did. -/
def fnDealSidesUptoRow : OpenClaim := { program := "ytaihdjdaamglnaa", sum := "641fe610f436307d873524745c6d1321d1dd18fa9500f8d98f80df076241541d", func := "loop.example/g03016/laws.FnDealSides", spec := "fnDealSides", unfollowed := true, recurses := true, apart := false, narrowed := true }
def FnDealSidesUptoSaid : Prop := fnDealSidesUptoRow.holds Try.pinned (OpenSpec.upto fnDealSidesSpec)

/-- 'laws.FnDealMore', WHERE WHAT IT READS IS OF BULK AT MOST 1048576: true; the input reads as it did. -/
def fnDealMoreUptoRow : OpenClaim := { program := "ytaihdjdaamglnaa", sum := "641fe610f436307d873524745c6d1321d1dd18fa9500f8d98f80df076241541d", func := "loop.example/g03016/laws.FnDealMore", spec := "fnDealMore", unfollowed := true, recurses := true, apart := false, narrowed := true }
def FnDealMoreUptoSaid : Prop := fnDealMoreUptoRow.holds Try.pinned (OpenSpec.upto fnDealMoreSpec)

/-- 'laws.FnExactEmptySlots', WHERE WHAT IT READS IS OF BULK AT MOST 1048576: true; the input reads as it did. -/
def fnExactEmptySlotsUptoRow : OpenClaim := { program := "ytaihdjdaamglnaa", sum := "641fe610f436307d873524745c6d1321d1dd18fa9500f8d98f80df076241541d", func := "loop.example/g03016/laws.FnExactEmptySlots", spec := "fnExactEmptySlots", apart := false, narrowed := true }
def FnExactEmptySlotsUptoSaid : Prop := fnExactEmptySlotsUptoRow.holds Try.pinned (OpenSpec.upto fnExactEmptySlotsSpec)

end Rows
end Go.Proofs.Ytaihdjdaamglnaa
