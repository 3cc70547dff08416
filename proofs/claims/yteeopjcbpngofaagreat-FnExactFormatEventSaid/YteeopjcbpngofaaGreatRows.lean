/-
  No cell of these rows narrows 'for every input' (looked for: loops, veiled, ifaces, maps, wideKeys, modest, calm, conditions, laid).
  DERIVED. THE GIVEN ROWS OF THIS SEAT. 8 by the template 'for every input the law returns true; each argument reads behind the call as it read before'; 0 by the template 'total and deterministic' (their statements: YteeopjcbpngofaaGreatTotals.lean).
  GIVEN WITH THE SEED: the statements are not yours to turn. If you find one false, say at which input.
  Laid BY PROGRAM, IN A SANDBOX (cutbox-rows.mjs): the forced cells as the released guide's own fill.sh prints them over the translation 79ba7f54cb57b788… (all of the seat's roots in one cut). By AI agents, Wed Nov 11 2026. No macro, syntax, notation, axiom, sorry.
-/
import Derived.Test.YteeopjcbpngofaaGreatChecked
import GoSem.Claim
import GoSem.ClaimJoined
import GoSem.ClaimMapViews
import Derived.JoinedTies
import Derived.KernelRfl
namespace Go.Proofs.YteeopjcbpngofaaGreat
/- THE CELL 'sum', in the pinned program and in every row, IS THE sha256 OF THE DUMP (.gsa) THAT YteeopjcbpngofaaGreatProg.lean LOADS. Nothing in Lean hashes anything: it is a label: what it is worth is what the hold of that sum in a sandbox is worth. -/
noncomputable def Tryz.pinned : Pinned := { name := "yteeopjcbpngofaagreat", sum := "79ba7f54cb57b7884edb9adbb98792a522c80e953b095a002f91034fed5af310", checked := Tryz.checked }
namespace Rows
def none {H : Type} : Left H := { results := [], args := [] }

/-- 'laws.FnExactFormatEvent': WHATEVER THE INPUT: true; the input reads as it did. -/
def fnExactFormatEventSpec : ChangeSpec := { name := "fnExactFormatEvent", fn := fun _ => fun
  | [d] => { results := [.lit (.bool true)], args := [d] }
  | _ => none }
def fnExactFormatEventRow : OpenClaim := { program := "yteeopjcbpngofaagreat", sum := "79ba7f54cb57b7884edb9adbb98792a522c80e953b095a002f91034fed5af310", func := "loop.example/g03016/laws.FnExactFormatEvent", spec := "fnExactFormatEvent", inPlace := ["internal/abi.NoEscape"], unfollowed := true, recurses := true, apart := false }
def FnExactFormatEventSaid : Prop := fnExactFormatEventRow.holds Tryz.pinned (OpenSpec.ofChange fnExactFormatEventSpec)

/-- ITS FALSE NEIGHBOUR: 'it returns false'. Refute it at one input. -/
def fnExactFormatEventWrong : ChangeSpec := { name := "fnExactFormatEvent", fn := fun _ => fun
  | [d] => { results := [.lit (.bool false)], args := [d] }
  | _ => none }
def FnExactFormatEventWrongFalsely : Prop := fnExactFormatEventRow.holds Tryz.pinned (OpenSpec.ofChange fnExactFormatEventWrong)

/-- 'laws.FnExactFillSlots': WHATEVER THE INPUT: true; the input reads as it did. -/
def fnExactFillSlotsSpec : ChangeSpec := { name := "fnExactFillSlots", fn := fun _ => fun
  | [d] => { results := [.lit (.bool true)], args := [d] }
  | _ => none }
def fnExactFillSlotsRow : OpenClaim := { program := "yteeopjcbpngofaagreat", sum := "79ba7f54cb57b7884edb9adbb98792a522c80e953b095a002f91034fed5af310", func := "loop.example/g03016/laws.FnExactFillSlots", spec := "fnExactFillSlots", inPlace := ["internal/abi.NoEscape"], unfollowed := true, recurses := true, apart := false }
def FnExactFillSlotsSaid : Prop := fnExactFillSlotsRow.holds Tryz.pinned (OpenSpec.ofChange fnExactFillSlotsSpec)

/-- ITS FALSE NEIGHBOUR: 'it returns false'. Refute it at one input. -/
def fnExactFillSlotsWrong : ChangeSpec := { name := "fnExactFillSlots", fn := fun _ => fun
  | [d] => { results := [.lit (.bool false)], args := [d] }
  | _ => none }
def FnExactFillSlotsWrongFalsely : Prop := fnExactFillSlotsRow.holds Tryz.pinned (OpenSpec.ofChange fnExactFillSlotsWrong)

/-- 'laws.FnExactLinksOf': WHATEVER THE INPUT: true; the input reads as it did. -/
def fnExactLinksOfSpec : ChangeSpec := { name := "fnExactLinksOf", fn := fun _ => fun
  | [d] => { results := [.lit (.bool true)], args := [d] }
  | _ => none }
def fnExactLinksOfRow : OpenClaim := { program := "yteeopjcbpngofaagreat", sum := "79ba7f54cb57b7884edb9adbb98792a522c80e953b095a002f91034fed5af310", func := "loop.example/g03016/laws.FnExactLinksOf", spec := "fnExactLinksOf", inPlace := ["internal/abi.NoEscape"], unfollowed := true, recurses := true, apart := false }
def FnExactLinksOfSaid : Prop := fnExactLinksOfRow.holds Tryz.pinned (OpenSpec.ofChange fnExactLinksOfSpec)

/-- ITS FALSE NEIGHBOUR: 'it returns false'. Refute it at one input. -/
def fnExactLinksOfWrong : ChangeSpec := { name := "fnExactLinksOf", fn := fun _ => fun
  | [d] => { results := [.lit (.bool false)], args := [d] }
  | _ => none }
def FnExactLinksOfWrongFalsely : Prop := fnExactLinksOfRow.holds Tryz.pinned (OpenSpec.ofChange fnExactLinksOfWrong)

/-- 'laws.FnExactMissingOf': WHATEVER THE INPUT: true; the input reads as it did. -/
def fnExactMissingOfSpec : ChangeSpec := { name := "fnExactMissingOf", fn := fun _ => fun
  | [d] => { results := [.lit (.bool true)], args := [d] }
  | _ => none }
def fnExactMissingOfRow : OpenClaim := { program := "yteeopjcbpngofaagreat", sum := "79ba7f54cb57b7884edb9adbb98792a522c80e953b095a002f91034fed5af310", func := "loop.example/g03016/laws.FnExactMissingOf", spec := "fnExactMissingOf", inPlace := ["internal/abi.NoEscape"], unfollowed := true, recurses := true, apart := false }
def FnExactMissingOfSaid : Prop := fnExactMissingOfRow.holds Tryz.pinned (OpenSpec.ofChange fnExactMissingOfSpec)

/-- ITS FALSE NEIGHBOUR: 'it returns false'. Refute it at one input. -/
def fnExactMissingOfWrong : ChangeSpec := { name := "fnExactMissingOf", fn := fun _ => fun
  | [d] => { results := [.lit (.bool false)], args := [d] }
  | _ => none }
def FnExactMissingOfWrongFalsely : Prop := fnExactMissingOfRow.holds Tryz.pinned (OpenSpec.ofChange fnExactMissingOfWrong)

/-- 'laws.FnExactReachOf': WHATEVER THE INPUT: true; the input reads as it did. -/
def fnExactReachOfSpec : ChangeSpec := { name := "fnExactReachOf", fn := fun _ => fun
  | [d1, d2] => { results := [.lit (.bool true)], args := [d1, d2] }
  | _ => none }
def fnExactReachOfRow : OpenClaim := { program := "yteeopjcbpngofaagreat", sum := "79ba7f54cb57b7884edb9adbb98792a522c80e953b095a002f91034fed5af310", func := "loop.example/g03016/laws.FnExactReachOf", spec := "fnExactReachOf", inPlace := ["internal/abi.NoEscape"], unfollowed := true, recurses := true, apart := false }
def FnExactReachOfSaid : Prop := fnExactReachOfRow.holds Tryz.pinned (OpenSpec.ofChange fnExactReachOfSpec)

/-- ITS FALSE NEIGHBOUR: 'it returns false'. Refute it at one input. -/
def fnExactReachOfWrong : ChangeSpec := { name := "fnExactReachOf", fn := fun _ => fun
  | [d1, d2] => { results := [.lit (.bool false)], args := [d1, d2] }
  | _ => none }
def FnExactReachOfWrongFalsely : Prop := fnExactReachOfRow.holds Tryz.pinned (OpenSpec.ofChange fnExactReachOfWrong)

/-- 'laws.FnExactNeedersOf': WHATEVER THE INPUT: true; the input reads as it did. -/
def fnExactNeedersOfSpec : ChangeSpec := { name := "fnExactNeedersOf", fn := fun _ => fun
  | [d1, d2] => { results := [.lit (.bool true)], args := [d1, d2] }
  | _ => none }
def fnExactNeedersOfRow : OpenClaim := { program := "yteeopjcbpngofaagreat", sum := "79ba7f54cb57b7884edb9adbb98792a522c80e953b095a002f91034fed5af310", func := "loop.example/g03016/laws.FnExactNeedersOf", spec := "fnExactNeedersOf", inPlace := ["internal/abi.NoEscape"], unfollowed := true, recurses := true, apart := false }
def FnExactNeedersOfSaid : Prop := fnExactNeedersOfRow.holds Tryz.pinned (OpenSpec.ofChange fnExactNeedersOfSpec)

/-- ITS FALSE NEIGHBOUR: 'it returns false'. Refute it at one input. -/
def fnExactNeedersOfWrong : ChangeSpec := { name := "fnExactNeedersOf", fn := fun _ => fun
  | [d1, d2] => { results := [.lit (.bool false)], args := [d1, d2] }
  | _ => none }
def FnExactNeedersOfWrongFalsely : Prop := fnExactNeedersOfRow.holds Tryz.pinned (OpenSpec.ofChange fnExactNeedersOfWrong)

/-- 'laws.FnExactStuckOf': WHATEVER THE INPUT: true; the input reads as it did. -/
def fnExactStuckOfSpec : ChangeSpec := { name := "fnExactStuckOf", fn := fun _ => fun
  | [d] => { results := [.lit (.bool true)], args := [d] }
  | _ => none }
def fnExactStuckOfRow : OpenClaim := { program := "yteeopjcbpngofaagreat", sum := "79ba7f54cb57b7884edb9adbb98792a522c80e953b095a002f91034fed5af310", func := "loop.example/g03016/laws.FnExactStuckOf", spec := "fnExactStuckOf", inPlace := ["internal/abi.NoEscape"], unfollowed := true, recurses := true, apart := false }
def FnExactStuckOfSaid : Prop := fnExactStuckOfRow.holds Tryz.pinned (OpenSpec.ofChange fnExactStuckOfSpec)

/-- ITS FALSE NEIGHBOUR: 'it returns false'. Refute it at one input. -/
def fnExactStuckOfWrong : ChangeSpec := { name := "fnExactStuckOf", fn := fun _ => fun
  | [d] => { results := [.lit (.bool false)], args := [d] }
  | _ => none }
def FnExactStuckOfWrongFalsely : Prop := fnExactStuckOfRow.holds Tryz.pinned (OpenSpec.ofChange fnExactStuckOfWrong)

/-- 'laws.FnExactStartOrder': WHATEVER THE INPUT: true; the input reads as it did. -/
def fnExactStartOrderSpec : ChangeSpec := { name := "fnExactStartOrder", fn := fun _ => fun
  | [d] => { results := [.lit (.bool true)], args := [d] }
  | _ => none }
def fnExactStartOrderRow : OpenClaim := { program := "yteeopjcbpngofaagreat", sum := "79ba7f54cb57b7884edb9adbb98792a522c80e953b095a002f91034fed5af310", func := "loop.example/g03016/laws.FnExactStartOrder", spec := "fnExactStartOrder", inPlace := ["internal/abi.NoEscape"], unfollowed := true, recurses := true, apart := false }
def FnExactStartOrderSaid : Prop := fnExactStartOrderRow.holds Tryz.pinned (OpenSpec.ofChange fnExactStartOrderSpec)

/-- ITS FALSE NEIGHBOUR: 'it returns false'. Refute it at one input. -/
def fnExactStartOrderWrong : ChangeSpec := { name := "fnExactStartOrder", fn := fun _ => fun
  | [d] => { results := [.lit (.bool false)], args := [d] }
  | _ => none }
def FnExactStartOrderWrongFalsely : Prop := fnExactStartOrderRow.holds Tryz.pinned (OpenSpec.ofChange fnExactStartOrderWrong)

/- THE SECOND FORM. 'bulk': how many values and letters a reading holds, each counted each time it is reached (what is shared counts as often as it is met; a slice's spare places count too). A statement '..UptoSaid' is the law's where the arguments, and the package variables that the reading takes, are together of bulk at most 1048576: NARROWER than '..Said'. Prove '..Said' where nothing that the law and all that it calls make is longer than what came in: it says more and counts as full. Else prove '..UptoSaid'. A law counts once. -/
mutual
def uptoBulk {H : Type} : DataW H → Nat
  | .lit (.string bytes) => bytes.length + 1
  | .lit _ => 1
  | .nil => 1
  | .ptr d => uptoBulk d + 1
  | .slice elems spare => uptoBulkAll elems + uptoBulkAll spare + 1
  | .agg parts => uptoBulkAll parts + 1
  | .iface _ d => uptoBulk d + 1
  | .map entries => uptoBulkEntries entries + 1
  | .held _ => 1
def uptoBulkAll {H : Type} : List (DataW H) → Nat
  | [] => 0
  | d :: r => uptoBulk d + uptoBulkAll r
def uptoBulkEntries {H : Type} : List (Lit × DataW H) → Nat
  | [] => 0
  | x :: r => uptoBulkEntry x + uptoBulkEntries r
def uptoBulkEntry {H : Type} : Lit × DataW H → Nat
  | (.string bytes, d) => bytes.length + uptoBulk d + 1
  | (_, d) => uptoBulk d + 1
 end
def uptoSmall : (H : Type) → List (DataW H) → Bool := fun _ ds => decide (uptoBulkAll ds ≤ 1048576)
def OpenSpec.upto (s : _root_.Go.ChangeSpec) : _root_.Go.OpenSpec := { _root_.Go.OpenSpec.ofChange s with cond := some uptoSmall }

/-- 'laws.FnExactFormatEvent', WHERE WHAT IT READS IS OF BULK AT MOST 1048576: true; the input reads as it did. -/
def fnExactFormatEventUptoRow : OpenClaim := { program := "yteeopjcbpngofaagreat", sum := "79ba7f54cb57b7884edb9adbb98792a522c80e953b095a002f91034fed5af310", func := "loop.example/g03016/laws.FnExactFormatEvent", spec := "fnExactFormatEvent", inPlace := ["internal/abi.NoEscape"], unfollowed := true, recurses := true, apart := false, narrowed := true }
def FnExactFormatEventUptoSaid : Prop := fnExactFormatEventUptoRow.holds Tryz.pinned (OpenSpec.upto fnExactFormatEventSpec)

/-- 'laws.FnExactFillSlots', WHERE WHAT IT READS IS OF BULK AT MOST 1048576: true; the input reads as it did. -/
def fnExactFillSlotsUptoRow : OpenClaim := { program := "yteeopjcbpngofaagreat", sum := "79ba7f54cb57b7884edb9adbb98792a522c80e953b095a002f91034fed5af310", func := "loop.example/g03016/laws.FnExactFillSlots", spec := "fnExactFillSlots", inPlace := ["internal/abi.NoEscape"], unfollowed := true, recurses := true, apart := false, narrowed := true }
def FnExactFillSlotsUptoSaid : Prop := fnExactFillSlotsUptoRow.holds Tryz.pinned (OpenSpec.upto fnExactFillSlotsSpec)

/-- 'laws.FnExactLinksOf', WHERE WHAT IT READS IS OF BULK AT MOST 1048576: true; the input reads as it did. -/
def fnExactLinksOfUptoRow : OpenClaim := { program := "yteeopjcbpngofaagreat", sum := "79ba7f54cb57b7884edb9adbb98792a522c80e953b095a002f91034fed5af310", func := "loop.example/g03016/laws.FnExactLinksOf", spec := "fnExactLinksOf", inPlace := ["internal/abi.NoEscape"], unfollowed := true, recurses := true, apart := false, narrowed := true }
def FnExactLinksOfUptoSaid : Prop := fnExactLinksOfUptoRow.holds Tryz.pinned (OpenSpec.upto fnExactLinksOfSpec)

/-- 'laws.FnExactMissingOf', WHERE WHAT IT READS IS OF BULK AT MOST 1048576: true; the input reads as it did. -/
def fnExactMissingOfUptoRow : OpenClaim := { program := "yteeopjcbpngofaagreat", sum := "79ba7f54cb57b7884edb9adbb98792a522c80e953b095a002f91034fed5af310", func := "loop.example/g03016/laws.FnExactMissingOf", spec := "fnExactMissingOf", inPlace := ["internal/abi.NoEscape"], unfollowed := true, recurses := true, apart := false, narrowed := true }
def FnExactMissingOfUptoSaid : Prop := fnExactMissingOfUptoRow.holds Tryz.pinned (OpenSpec.upto fnExactMissingOfSpec)

/-- 'laws.FnExactReachOf', WHERE WHAT IT READS IS OF BULK AT MOST 1048576: true; the input reads as it did. -/
def fnExactReachOfUptoRow : OpenClaim := { program := "yteeopjcbpngofaagreat", sum := "79ba7f54cb57b7884edb9adbb98792a522c80e953b095a002f91034fed5af310", func := "loop.example/g03016/laws.FnExactReachOf", spec := "fnExactReachOf", inPlace := ["internal/abi.NoEscape"], unfollowed := true, recurses := true, apart := false, narrowed := true }
def FnExactReachOfUptoSaid : Prop := fnExactReachOfUptoRow.holds Tryz.pinned (OpenSpec.upto fnExactReachOfSpec)

/-- 'laws.FnExactNeedersOf', WHERE WHAT IT READS IS OF BULK AT MOST 1048576: true; the input reads as it did. -/
def fnExactNeedersOfUptoRow : OpenClaim := { program := "yteeopjcbpngofaagreat", sum := "79ba7f54cb57b7884edb9adbb98792a522c80e953b095a002f91034fed5af310", func := "loop.example/g03016/laws.FnExactNeedersOf", spec := "fnExactNeedersOf", inPlace := ["internal/abi.NoEscape"], unfollowed := true, recurses := true, apart := false, narrowed := true }
def FnExactNeedersOfUptoSaid : Prop := fnExactNeedersOfUptoRow.holds Tryz.pinned (OpenSpec.upto fnExactNeedersOfSpec)

/-- 'laws.FnExactStuckOf', WHERE WHAT IT READS IS OF BULK AT MOST 1048576: true; the input reads as it did. -/
def fnExactStuckOfUptoRow : OpenClaim := { program := "yteeopjcbpngofaagreat", sum := "79ba7f54cb57b7884edb9adbb98792a522c80e953b095a002f91034fed5af310", func := "loop.example/g03016/laws.FnExactStuckOf", spec := "fnExactStuckOf", inPlace := ["internal/abi.NoEscape"], unfollowed := true, recurses := true, apart := false, narrowed := true }
def FnExactStuckOfUptoSaid : Prop := fnExactStuckOfUptoRow.holds Tryz.pinned (OpenSpec.upto fnExactStuckOfSpec)

/-- 'laws.FnExactStartOrder', WHERE WHAT IT READS IS OF BULK AT MOST 1048576: true; the input reads as it did. -/
def fnExactStartOrderUptoRow : OpenClaim := { program := "yteeopjcbpngofaagreat", sum := "79ba7f54cb57b7884edb9adbb98792a522c80e953b095a002f91034fed5af310", func := "loop.example/g03016/laws.FnExactStartOrder", spec := "fnExactStartOrder", inPlace := ["internal/abi.NoEscape"], unfollowed := true, recurses := true, apart := false, narrowed := true }
def FnExactStartOrderUptoSaid : Prop := fnExactStartOrderUptoRow.holds Tryz.pinned (OpenSpec.upto fnExactStartOrderSpec)

end Rows
end Go.Proofs.YteeopjcbpngofaaGreat
