/-
  No cell of these rows narrows 'for every input' (looked for: loops, veiled, ifaces, maps, wideKeys, modest, calm, conditions, laid).
  DERIVED. THE GIVEN ROWS OF THIS SEAT. 5 by the template 'for every input the law returns true; each argument reads behind the call as it read before'; 0 by the template 'total and deterministic' (their statements: YtlkpinlkbikokabGreatTotals.lean).
  GIVEN WITH THE SEED: the statements are not yours to turn. If you find one false, say at which input.
  Laid BY PROGRAM, IN A SANDBOX (cutbox-rows.mjs): the forced cells as the released guide's own fill.sh prints them over the translation 28f0cfc5c67e7179… (all of the seat's roots in one cut). By AI agents, Wed Nov 11 2026. No macro, syntax, notation, axiom, sorry.
-/
import Derived.Test.YtlkpinlkbikokabGreatChecked
import GoSem.Claim
import GoSem.ClaimJoined
import GoSem.ClaimMapViews
import Derived.JoinedTies
import Derived.KernelRfl
namespace Go.Proofs.YtlkpinlkbikokabGreat
/- THE CELL 'sum', in the pinned program and in every row, IS THE sha256 OF THE DUMP (.gsa) THAT YtlkpinlkbikokabGreatProg.lean LOADS. Nothing in Lean hashes anything: it is a label: what it is worth is what the hold of that sum in a sandbox is worth. -/
noncomputable def Tryz.pinned : Pinned := { name := "ytlkpinlkbikokabgreat", sum := "28f0cfc5c67e7179601ad570ff67fa4ca3f008c3e82d9e03c1392f1aeb5ed77b", checked := Tryz.checked }
namespace Rows
def none {H : Type} : Left H := { results := [], args := [] }

/-- 'laws.FnExactServes': WHATEVER THE INPUT: true; the input reads as it did. -/
def fnExactServesSpec : ChangeSpec := { name := "fnExactServes", fn := fun _ => fun
  | [d1, d2] => { results := [.lit (.bool true)], args := [d1, d2] }
  | _ => none }
def fnExactServesRow : OpenClaim := { program := "ytlkpinlkbikokabgreat", sum := "28f0cfc5c67e7179601ad570ff67fa4ca3f008c3e82d9e03c1392f1aeb5ed77b", func := "loop.example/g03016/laws.FnExactServes", spec := "fnExactServes", inPlace := ["internal/abi.NoEscape"], unfollowed := true, recurses := true, apart := false }
def FnExactServesSaid : Prop := fnExactServesRow.holds Tryz.pinned (OpenSpec.ofChange fnExactServesSpec)

/-- ITS FALSE NEIGHBOUR: 'it returns false'. Refute it at one input. -/
def fnExactServesWrong : ChangeSpec := { name := "fnExactServes", fn := fun _ => fun
  | [d1, d2] => { results := [.lit (.bool false)], args := [d1, d2] }
  | _ => none }
def FnExactServesWrongFalsely : Prop := fnExactServesRow.holds Tryz.pinned (OpenSpec.ofChange fnExactServesWrong)

/-- 'laws.FnExactProviderOf': WHATEVER THE INPUT: true; the input reads as it did. -/
def fnExactProviderOfSpec : ChangeSpec := { name := "fnExactProviderOf", fn := fun _ => fun
  | [d1, d2, d3] => { results := [.lit (.bool true)], args := [d1, d2, d3] }
  | _ => none }
def fnExactProviderOfRow : OpenClaim := { program := "ytlkpinlkbikokabgreat", sum := "28f0cfc5c67e7179601ad570ff67fa4ca3f008c3e82d9e03c1392f1aeb5ed77b", func := "loop.example/g03016/laws.FnExactProviderOf", spec := "fnExactProviderOf", inPlace := ["internal/abi.NoEscape"], unfollowed := true, recurses := true, apart := false }
def FnExactProviderOfSaid : Prop := fnExactProviderOfRow.holds Tryz.pinned (OpenSpec.ofChange fnExactProviderOfSpec)

/-- ITS FALSE NEIGHBOUR: 'it returns false'. Refute it at one input. -/
def fnExactProviderOfWrong : ChangeSpec := { name := "fnExactProviderOf", fn := fun _ => fun
  | [d1, d2, d3] => { results := [.lit (.bool false)], args := [d1, d2, d3] }
  | _ => none }
def FnExactProviderOfWrongFalsely : Prop := fnExactProviderOfRow.holds Tryz.pinned (OpenSpec.ofChange fnExactProviderOfWrong)

/-- 'laws.FnExactMissingOf': WHATEVER THE INPUT: true; the input reads as it did. -/
def fnExactMissingOfSpec : ChangeSpec := { name := "fnExactMissingOf", fn := fun _ => fun
  | [d] => { results := [.lit (.bool true)], args := [d] }
  | _ => none }
def fnExactMissingOfRow : OpenClaim := { program := "ytlkpinlkbikokabgreat", sum := "28f0cfc5c67e7179601ad570ff67fa4ca3f008c3e82d9e03c1392f1aeb5ed77b", func := "loop.example/g03016/laws.FnExactMissingOf", spec := "fnExactMissingOf", inPlace := ["internal/abi.NoEscape"], unfollowed := true, recurses := true, apart := false }
def FnExactMissingOfSaid : Prop := fnExactMissingOfRow.holds Tryz.pinned (OpenSpec.ofChange fnExactMissingOfSpec)

/-- ITS FALSE NEIGHBOUR: 'it returns false'. Refute it at one input. -/
def fnExactMissingOfWrong : ChangeSpec := { name := "fnExactMissingOf", fn := fun _ => fun
  | [d] => { results := [.lit (.bool false)], args := [d] }
  | _ => none }
def FnExactMissingOfWrongFalsely : Prop := fnExactMissingOfRow.holds Tryz.pinned (OpenSpec.ofChange fnExactMissingOfWrong)

/-- 'laws.FnExactFormatEntry': WHATEVER THE INPUT: true; the input reads as it did. -/
def fnExactFormatEntrySpec : ChangeSpec := { name := "fnExactFormatEntry", fn := fun _ => fun
  | [d] => { results := [.lit (.bool true)], args := [d] }
  | _ => none }
def fnExactFormatEntryRow : OpenClaim := { program := "ytlkpinlkbikokabgreat", sum := "28f0cfc5c67e7179601ad570ff67fa4ca3f008c3e82d9e03c1392f1aeb5ed77b", func := "loop.example/g03016/laws.FnExactFormatEntry", spec := "fnExactFormatEntry", inPlace := ["internal/abi.NoEscape"], unfollowed := true, recurses := true, apart := false }
def FnExactFormatEntrySaid : Prop := fnExactFormatEntryRow.holds Tryz.pinned (OpenSpec.ofChange fnExactFormatEntrySpec)

/-- ITS FALSE NEIGHBOUR: 'it returns false'. Refute it at one input. -/
def fnExactFormatEntryWrong : ChangeSpec := { name := "fnExactFormatEntry", fn := fun _ => fun
  | [d] => { results := [.lit (.bool false)], args := [d] }
  | _ => none }
def FnExactFormatEntryWrongFalsely : Prop := fnExactFormatEntryRow.holds Tryz.pinned (OpenSpec.ofChange fnExactFormatEntryWrong)

/-- 'laws.FnExactIsEvent': WHATEVER THE INPUT: true; the input reads as it did. -/
def fnExactIsEventSpec : ChangeSpec := { name := "fnExactIsEvent", fn := fun _ => fun
  | [d] => { results := [.lit (.bool true)], args := [d] }
  | _ => none }
def fnExactIsEventRow : OpenClaim := { program := "ytlkpinlkbikokabgreat", sum := "28f0cfc5c67e7179601ad570ff67fa4ca3f008c3e82d9e03c1392f1aeb5ed77b", func := "loop.example/g03016/laws.FnExactIsEvent", spec := "fnExactIsEvent", inPlace := ["internal/abi.NoEscape"], unfollowed := true, recurses := true, apart := false }
def FnExactIsEventSaid : Prop := fnExactIsEventRow.holds Tryz.pinned (OpenSpec.ofChange fnExactIsEventSpec)

/-- ITS FALSE NEIGHBOUR: 'it returns false'. Refute it at one input. -/
def fnExactIsEventWrong : ChangeSpec := { name := "fnExactIsEvent", fn := fun _ => fun
  | [d] => { results := [.lit (.bool false)], args := [d] }
  | _ => none }
def FnExactIsEventWrongFalsely : Prop := fnExactIsEventRow.holds Tryz.pinned (OpenSpec.ofChange fnExactIsEventWrong)

/- THE SECOND FORM. 'bulk': how many values and letters a reading holds, each counted each time it is reached (what is shared counts as often as it is met; a slice's spare places count too). A statement '..UptoSaid' is the law's where the arguments, and the package variables that the reading takes, are together of bulk at most 1048576: NARROWER than '..Said'. Prove '..Said' where nothing that the law and all that it calls make is longer than what came in: it says more and counts as full. Else prove '..UptoSaid'. A law counts once. -/
mutual
def uptoBulk {H : Type} : DataW H → Nat
  | .lit (.string bytes) => bytes.length + 1
  | .lit _ => 1
  | .nil => 1
  | .ptr d => uptoBulk d + 1
  | .slice elems spare => uptoBulkAll elems + uptoBulkAll spare + 1
  | .agg parts => uptoBulkAll parts + 1
  | .iface _ d => uptoBulk d + 1
  | .map entries => uptoBulkEntries entries + 1
  | .held _ => 1
def uptoBulkAll {H : Type} : List (DataW H) → Nat
  | [] => 0
  | d :: r => uptoBulk d + uptoBulkAll r
def uptoBulkEntries {H : Type} : List (Lit × DataW H) → Nat
  | [] => 0
  | x :: r => uptoBulkEntry x + uptoBulkEntries r
def uptoBulkEntry {H : Type} : Lit × DataW H → Nat
  | (.string bytes, d) => bytes.length + uptoBulk d + 1
  | (_, d) => uptoBulk d + 1
 end
def uptoSmall : (H : Type) → List (DataW H) → Bool := fun _ ds => decide (uptoBulkAll ds ≤ 1048576)
def OpenSpec.upto (s : _root_.Go.ChangeSpec) : _root_.Go.OpenSpec := { _root_.Go.OpenSpec.ofChange s with cond := some uptoSmall }

/-- 'laws.FnExactServes', WHERE WHAT IT READS IS OF BULK AT MOST 1048576: true; the input reads as it did. -/
def fnExactServesUptoRow : OpenClaim := { program := "ytlkpinlkbikokabgreat", sum := "28f0cfc5c67e7179601ad570ff67fa4ca3f008c3e82d9e03c1392f1aeb5ed77b", func := "loop.example/g03016/laws.FnExactServes", spec := "fnExactServes", inPlace := ["internal/abi.NoEscape"], unfollowed := true, recurses := true, apart := false, narrowed := true }
def FnExactServesUptoSaid : Prop := fnExactServesUptoRow.holds Tryz.pinned (OpenSpec.upto fnExactServesSpec)

/-- 'laws.FnExactProviderOf', WHERE WHAT IT READS IS OF BULK AT MOST 1048576: true; the input reads as it did. -/
def fnExactProviderOfUptoRow : OpenClaim := { program := "ytlkpinlkbikokabgreat", sum := "28f0cfc5c67e7179601ad570ff67fa4ca3f008c3e82d9e03c1392f1aeb5ed77b", func := "loop.example/g03016/laws.FnExactProviderOf", spec := "fnExactProviderOf", inPlace := ["internal/abi.NoEscape"], unfollowed := true, recurses := true, apart := false, narrowed := true }
def FnExactProviderOfUptoSaid : Prop := fnExactProviderOfUptoRow.holds Tryz.pinned (OpenSpec.upto fnExactProviderOfSpec)

/-- 'laws.FnExactMissingOf', WHERE WHAT IT READS IS OF BULK AT MOST 1048576: true; the input reads as it did. -/
def fnExactMissingOfUptoRow : OpenClaim := { program := "ytlkpinlkbikokabgreat", sum := "28f0cfc5c67e7179601ad570ff67fa4ca3f008c3e82d9e03c1392f1aeb5ed77b", func := "loop.example/g03016/laws.FnExactMissingOf", spec := "fnExactMissingOf", inPlace := ["internal/abi.NoEscape"], unfollowed := true, recurses := true, apart := false, narrowed := true }
def FnExactMissingOfUptoSaid : Prop := fnExactMissingOfUptoRow.holds Tryz.pinned (OpenSpec.upto fnExactMissingOfSpec)

/-- 'laws.FnExactFormatEntry', WHERE WHAT IT READS IS OF BULK AT MOST 1048576: true; the input reads as it did. -/
def fnExactFormatEntryUptoRow : OpenClaim := { program := "ytlkpinlkbikokabgreat", sum := "28f0cfc5c67e7179601ad570ff67fa4ca3f008c3e82d9e03c1392f1aeb5ed77b", func := "loop.example/g03016/laws.FnExactFormatEntry", spec := "fnExactFormatEntry", inPlace := ["internal/abi.NoEscape"], unfollowed := true, recurses := true, apart := false, narrowed := true }
def FnExactFormatEntryUptoSaid : Prop := fnExactFormatEntryUptoRow.holds Tryz.pinned (OpenSpec.upto fnExactFormatEntrySpec)

/-- 'laws.FnExactIsEvent', WHERE WHAT IT READS IS OF BULK AT MOST 1048576: true; the input reads as it did. -/
def fnExactIsEventUptoRow : OpenClaim := { program := "ytlkpinlkbikokabgreat", sum := "28f0cfc5c67e7179601ad570ff67fa4ca3f008c3e82d9e03c1392f1aeb5ed77b", func := "loop.example/g03016/laws.FnExactIsEvent", spec := "fnExactIsEvent", inPlace := ["internal/abi.NoEscape"], unfollowed := true, recurses := true, apart := false, narrowed := true }
def FnExactIsEventUptoSaid : Prop := fnExactIsEventUptoRow.holds Tryz.pinned (OpenSpec.upto fnExactIsEventSpec)

end Rows
end Go.Proofs.YtlkpinlkbikokabGreat
