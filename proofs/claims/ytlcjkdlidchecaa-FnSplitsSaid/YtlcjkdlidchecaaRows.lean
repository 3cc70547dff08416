/-
  No cell of these rows narrows 'for every input' (looked for: loops, veiled, ifaces, maps, wideKeys, modest, calm, conditions, laid).
  DERIVED. THE GIVEN ROWS OF THIS SEAT. 8 by the template 'for every input the law returns true; each argument reads behind the call as it read before'; 0 by the template 'total and deterministic' (their statements: YtlcjkdlidchecaaTotals.lean).
  GIVEN WITH THE SEED: the statements are not yours to turn. If you find one false, say at which input.
  Laid BY PROGRAM, IN A SANDBOX (cutbox-rows.mjs): the forced cells as the released guide's own fill.sh prints them over the translation 74af040356170a1f… (all of the seat's roots in one cut). By AI agents, Wed Nov 11 2026. No macro, syntax, notation, axiom, sorry.
-/
import Derived.Test.YtlcjkdlidchecaaChecked
import GoSem.Claim
import GoSem.ClaimJoined
import GoSem.ClaimMapViews
import Derived.JoinedTies
import Derived.KernelRfl
namespace Go.Proofs.Ytlcjkdlidchecaa
/- THE CELL 'sum', in the pinned program and in every row, IS THE sha256 OF THE DUMP (.gsa) THAT YtlcjkdlidchecaaProg.lean LOADS. Nothing in Lean hashes anything: it is a label: what it is worth is what the hold of that sum in a sandbox is worth. -/
noncomputable def Try.pinned : Pinned := { name := "ytlcjkdlidchecaa", sum := "74af040356170a1f84a5a4832e1a863616af9e4fdc39f41b98caec8b3217176a", checked := Try.checked }
namespace Rows
def none {H : Type} : Left H := { results := [], args := [] }

/-- 'laws.FnNumbers': WHATEVER THE INPUT: true; the input reads as it did. -/
def fnNumbersSpec : ChangeSpec := { name := "fnNumbers", fn := fun _ => fun
  | [d] => { results := [.lit (.bool true)], args := [d] }
  | _ => none }
def fnNumbersRow : OpenClaim := { program := "ytlcjkdlidchecaa", sum := "74af040356170a1f84a5a4832e1a863616af9e4fdc39f41b98caec8b3217176a", func := "loop.example/g03016/laws.FnNumbers", spec := "fnNumbers", inPlace := ["internal/abi.NoEscape"], recurses := true, apart := false }
def FnNumbersSaid : Prop := fnNumbersRow.holds Try.pinned (OpenSpec.ofChange fnNumbersSpec)

/-- ITS FALSE NEIGHBOUR: 'it returns false'. Refute it at one input. -/
def fnNumbersWrong : ChangeSpec := { name := "fnNumbers", fn := fun _ => fun
  | [d] => { results := [.lit (.bool false)], args := [d] }
  | _ => none }
def FnNumbersWrongFalsely : Prop := fnNumbersRow.holds Try.pinned (OpenSpec.ofChange fnNumbersWrong)

/-- 'laws.FnSplits': WHATEVER THE INPUT: true; the input reads as it did. -/
def fnSplitsSpec : ChangeSpec := { name := "fnSplits", fn := fun _ => fun
  | [d] => { results := [.lit (.bool true)], args := [d] }
  | _ => none }
def fnSplitsRow : OpenClaim := { program := "ytlcjkdlidchecaa", sum := "74af040356170a1f84a5a4832e1a863616af9e4fdc39f41b98caec8b3217176a", func := "loop.example/g03016/laws.FnSplits", spec := "fnSplits", inPlace := ["internal/abi.NoEscape", "internal/bytealg.IndexByteString", "internal/bytealg.IndexString"], recurses := true, named := ["internal/bytealg.MaxLen"], apart := false }
def FnSplitsSaid : Prop := fnSplitsRow.holds Try.pinned (OpenSpec.ofChange fnSplitsSpec)

/-- ITS FALSE NEIGHBOUR: 'it returns false'. Refute it at one input. -/
def fnSplitsWrong : ChangeSpec := { name := "fnSplits", fn := fun _ => fun
  | [d] => { results := [.lit (.bool false)], args := [d] }
  | _ => none }
def FnSplitsWrongFalsely : Prop := fnSplitsRow.holds Try.pinned (OpenSpec.ofChange fnSplitsWrong)

/-- 'laws.FnExactFormatNumber': WHATEVER THE INPUT: true; the input reads as it did. -/
def fnExactFormatNumberSpec : ChangeSpec := { name := "fnExactFormatNumber", fn := fun _ => fun
  | [d] => { results := [.lit (.bool true)], args := [d] }
  | _ => none }
def fnExactFormatNumberRow : OpenClaim := { program := "ytlcjkdlidchecaa", sum := "74af040356170a1f84a5a4832e1a863616af9e4fdc39f41b98caec8b3217176a", func := "loop.example/g03016/laws.FnExactFormatNumber", spec := "fnExactFormatNumber", inPlace := ["internal/abi.NoEscape"], recurses := true, apart := false }
def FnExactFormatNumberSaid : Prop := fnExactFormatNumberRow.holds Try.pinned (OpenSpec.ofChange fnExactFormatNumberSpec)

/-- ITS FALSE NEIGHBOUR: 'it returns false'. Refute it at one input. -/
def fnExactFormatNumberWrong : ChangeSpec := { name := "fnExactFormatNumber", fn := fun _ => fun
  | [d] => { results := [.lit (.bool false)], args := [d] }
  | _ => none }
def FnExactFormatNumberWrongFalsely : Prop := fnExactFormatNumberRow.holds Try.pinned (OpenSpec.ofChange fnExactFormatNumberWrong)

/-- 'laws.FnExactParseNumber': WHATEVER THE INPUT: true; the input reads as it did. -/
def fnExactParseNumberSpec : ChangeSpec := { name := "fnExactParseNumber", fn := fun _ => fun
  | [d] => { results := [.lit (.bool true)], args := [d] }
  | _ => none }
def fnExactParseNumberRow : OpenClaim := { program := "ytlcjkdlidchecaa", sum := "74af040356170a1f84a5a4832e1a863616af9e4fdc39f41b98caec8b3217176a", func := "loop.example/g03016/laws.FnExactParseNumber", spec := "fnExactParseNumber", recurses := true, apart := false }
def FnExactParseNumberSaid : Prop := fnExactParseNumberRow.holds Try.pinned (OpenSpec.ofChange fnExactParseNumberSpec)

/-- ITS FALSE NEIGHBOUR: 'it returns false'. Refute it at one input. -/
def fnExactParseNumberWrong : ChangeSpec := { name := "fnExactParseNumber", fn := fun _ => fun
  | [d] => { results := [.lit (.bool false)], args := [d] }
  | _ => none }
def FnExactParseNumberWrongFalsely : Prop := fnExactParseNumberRow.holds Try.pinned (OpenSpec.ofChange fnExactParseNumberWrong)

/-- 'laws.FnExactIsName': WHATEVER THE INPUT: true; the input reads as it did. -/
def fnExactIsNameSpec : ChangeSpec := { name := "fnExactIsName", fn := fun _ => fun
  | [d] => { results := [.lit (.bool true)], args := [d] }
  | _ => none }
def fnExactIsNameRow : OpenClaim := { program := "ytlcjkdlidchecaa", sum := "74af040356170a1f84a5a4832e1a863616af9e4fdc39f41b98caec8b3217176a", func := "loop.example/g03016/laws.FnExactIsName", spec := "fnExactIsName", apart := false }
def FnExactIsNameSaid : Prop := fnExactIsNameRow.holds Try.pinned (OpenSpec.ofChange fnExactIsNameSpec)

/-- ITS FALSE NEIGHBOUR: 'it returns false'. Refute it at one input. -/
def fnExactIsNameWrong : ChangeSpec := { name := "fnExactIsName", fn := fun _ => fun
  | [d] => { results := [.lit (.bool false)], args := [d] }
  | _ => none }
def FnExactIsNameWrongFalsely : Prop := fnExactIsNameRow.holds Try.pinned (OpenSpec.ofChange fnExactIsNameWrong)

/-- 'laws.FnExactSplitAt': WHATEVER THE INPUT: true; the input reads as it did. -/
def fnExactSplitAtSpec : ChangeSpec := { name := "fnExactSplitAt", fn := fun _ => fun
  | [d1, d2] => { results := [.lit (.bool true)], args := [d1, d2] }
  | _ => none }
def fnExactSplitAtRow : OpenClaim := { program := "ytlcjkdlidchecaa", sum := "74af040356170a1f84a5a4832e1a863616af9e4fdc39f41b98caec8b3217176a", func := "loop.example/g03016/laws.FnExactSplitAt", spec := "fnExactSplitAt", inPlace := ["internal/abi.NoEscape", "internal/bytealg.IndexByteString", "internal/bytealg.IndexString"], named := ["internal/bytealg.MaxLen"], apart := false }
def FnExactSplitAtSaid : Prop := fnExactSplitAtRow.holds Try.pinned (OpenSpec.ofChange fnExactSplitAtSpec)

/-- ITS FALSE NEIGHBOUR: 'it returns false'. Refute it at one input. -/
def fnExactSplitAtWrong : ChangeSpec := { name := "fnExactSplitAt", fn := fun _ => fun
  | [d1, d2] => { results := [.lit (.bool false)], args := [d1, d2] }
  | _ => none }
def FnExactSplitAtWrongFalsely : Prop := fnExactSplitAtRow.holds Try.pinned (OpenSpec.ofChange fnExactSplitAtWrong)

/-- 'laws.FnExactJoinWith': WHATEVER THE INPUT: true; the input reads as it did. -/
def fnExactJoinWithSpec : ChangeSpec := { name := "fnExactJoinWith", fn := fun _ => fun
  | [d1, d2] => { results := [.lit (.bool true)], args := [d1, d2] }
  | _ => none }
def fnExactJoinWithRow : OpenClaim := { program := "ytlcjkdlidchecaa", sum := "74af040356170a1f84a5a4832e1a863616af9e4fdc39f41b98caec8b3217176a", func := "loop.example/g03016/laws.FnExactJoinWith", spec := "fnExactJoinWith", inPlace := ["internal/abi.NoEscape"], apart := false }
def FnExactJoinWithSaid : Prop := fnExactJoinWithRow.holds Try.pinned (OpenSpec.ofChange fnExactJoinWithSpec)

/-- ITS FALSE NEIGHBOUR: 'it returns false'. Refute it at one input. -/
def fnExactJoinWithWrong : ChangeSpec := { name := "fnExactJoinWith", fn := fun _ => fun
  | [d1, d2] => { results := [.lit (.bool false)], args := [d1, d2] }
  | _ => none }
def FnExactJoinWithWrongFalsely : Prop := fnExactJoinWithRow.holds Try.pinned (OpenSpec.ofChange fnExactJoinWithWrong)

/-- 'laws.FnExactAscending': WHATEVER THE INPUT: true; the input reads as it did. -/
def fnExactAscendingSpec : ChangeSpec := { name := "fnExactAscending", fn := fun _ => fun
  | [d] => { results := [.lit (.bool true)], args := [d] }
  | _ => none }
def fnExactAscendingRow : OpenClaim := { program := "ytlcjkdlidchecaa", sum := "74af040356170a1f84a5a4832e1a863616af9e4fdc39f41b98caec8b3217176a", func := "loop.example/g03016/laws.FnExactAscending", spec := "fnExactAscending", inPlace := ["internal/abi.NoEscape"], recurses := true, apart := false }
def FnExactAscendingSaid : Prop := fnExactAscendingRow.holds Try.pinned (OpenSpec.ofChange fnExactAscendingSpec)

/-- ITS FALSE NEIGHBOUR: 'it returns false'. Refute it at one input. -/
def fnExactAscendingWrong : ChangeSpec := { name := "fnExactAscending", fn := fun _ => fun
  | [d] => { results := [.lit (.bool false)], args := [d] }
  | _ => none }
def FnExactAscendingWrongFalsely : Prop := fnExactAscendingRow.holds Try.pinned (OpenSpec.ofChange fnExactAscendingWrong)

/- THE SECOND FORM. 'bulk': how many values and letters a reading holds, each counted each time it is reached (what is shared counts as often as it is met; a slice's spare places count too). A statement '..UptoSaid' is the law's where the arguments, and the package variables that the reading takes, are together of bulk at most 1048576: NARROWER than '..Said'. Prove '..Said' where nothing that the law and all that it calls make is longer than what came in: it says more and counts as full. Else prove '..UptoSaid'. A law counts once. -/
mutual
def uptoBulk {H : Type} : DataW H → Nat
  | .lit (.string bytes) => bytes.length + 1
  | .lit _ => 1
  | .nil => 1
  | .ptr d => uptoBulk d + 1
  | .slice elems spare => uptoBulkAll elems + uptoBulkAll spare + 1
  | .agg parts => uptoBulkAll parts + 1
  | .iface _ d => uptoBulk d + 1
  | .map entries => uptoBulkEntries entries + 1
  | .held _ => 1
def uptoBulkAll {H : Type} : List (DataW H) → Nat
  | [] => 0
  | d :: r => uptoBulk d + uptoBulkAll r
def uptoBulkEntries {H : Type} : List (Lit × DataW H) → Nat
  | [] => 0
  | x :: r => uptoBulkEntry x + uptoBulkEntries r
def uptoBulkEntry {H : Type} : Lit × DataW H → Nat
  | (.string bytes, d) => bytes.length + uptoBulk d + 1
  | (_, d) => uptoBulk d + 1
 end
def uptoSmall : (H : Type) → List (DataW H) → Bool := fun _ ds => decide (uptoBulkAll ds ≤ 1048576)
def OpenSpec.upto (s : _root_.Go.ChangeSpec) : _root_.Go.OpenSpec := { _root_.Go.OpenSpec.ofChange s with cond := some uptoSmall }

/-- 'laws.FnNumbers', WHERE WHAT IT READS IS OF BULK AT MOST 1048576: true; the input reads as it did. -/
def fnNumbersUptoRow : OpenClaim := { program := "ytlcjkdlidchecaa", sum := "74af040356170a1f84a5a4832e1a863616af9e4fdc39f41b98caec8b3217176a", func := "loop.example/g03016/laws.FnNumbers", spec := "fnNumbers", inPlace := ["internal/abi.NoEscape"], recurses := true, apart := false, narrowed := true }
def FnNumbersUptoSaid : Prop := fnNumbersUptoRow.holds Try.pinned (OpenSpec.upto fnNumbersSpec)

/-- 'laws.FnSplits', WHERE WHAT IT READS IS OF BULK AT MOST 1048576: true; the input reads as it did. -/
def fnSplitsUptoRow : OpenClaim := { program := "ytlcjkdlidchecaa", sum := "74af040356170a1f84a5a4832e1a863616af9e4fdc39f41b98caec8b3217176a", func := "loop.example/g03016/laws.FnSplits", spec := "fnSplits", inPlace := ["internal/abi.NoEscape", "internal/bytealg.IndexByteString", "internal/bytealg.IndexString"], recurses := true, named := ["internal/bytealg.MaxLen"], apart := false, narrowed := true }
def FnSplitsUptoSaid : Prop := fnSplitsUptoRow.holds Try.pinned (OpenSpec.upto fnSplitsSpec)

/-- 'laws.FnExactFormatNumber', WHERE WHAT IT READS IS OF BULK AT MOST 1048576: true; the input reads as it did. -/
def fnExactFormatNumberUptoRow : OpenClaim := { program := "ytlcjkdlidchecaa", sum := "74af040356170a1f84a5a4832e1a863616af9e4fdc39f41b98caec8b3217176a", func := "loop.example/g03016/laws.FnExactFormatNumber", spec := "fnExactFormatNumber", inPlace := ["internal/abi.NoEscape"], recurses := true, apart := false, narrowed := true }
def FnExactFormatNumberUptoSaid : Prop := fnExactFormatNumberUptoRow.holds Try.pinned (OpenSpec.upto fnExactFormatNumberSpec)

/-- 'laws.FnExactParseNumber', WHERE WHAT IT READS IS OF BULK AT MOST 1048576: true; the input reads as it did. -/
def fnExactParseNumberUptoRow : OpenClaim := { program := "ytlcjkdlidchecaa", sum := "74af040356170a1f84a5a4832e1a863616af9e4fdc39f41b98caec8b3217176a", func := "loop.example/g03016/laws.FnExactParseNumber", spec := "fnExactParseNumber", recurses := true, apart := false, narrowed := true }
def FnExactParseNumberUptoSaid : Prop := fnExactParseNumberUptoRow.holds Try.pinned (OpenSpec.upto fnExactParseNumberSpec)

/-- 'laws.FnExactIsName', WHERE WHAT IT READS IS OF BULK AT MOST 1048576: true; the input reads as it did. -/
def fnExactIsNameUptoRow : OpenClaim := { program := "ytlcjkdlidchecaa", sum := "74af040356170a1f84a5a4832e1a863616af9e4fdc39f41b98caec8b3217176a", func := "loop.example/g03016/laws.FnExactIsName", spec := "fnExactIsName", apart := false, narrowed := true }
def FnExactIsNameUptoSaid : Prop := fnExactIsNameUptoRow.holds Try.pinned (OpenSpec.upto fnExactIsNameSpec)

/-- 'laws.FnExactSplitAt', WHERE WHAT IT READS IS OF BULK AT MOST 1048576: true; the input reads as it did. -/
def fnExactSplitAtUptoRow : OpenClaim := { program := "ytlcjkdlidchecaa", sum := "74af040356170a1f84a5a4832e1a863616af9e4fdc39f41b98caec8b3217176a", func := "loop.example/g03016/laws.FnExactSplitAt", spec := "fnExactSplitAt", inPlace := ["internal/abi.NoEscape", "internal/bytealg.IndexByteString", "internal/bytealg.IndexString"], named := ["internal/bytealg.MaxLen"], apart := false, narrowed := true }
def FnExactSplitAtUptoSaid : Prop := fnExactSplitAtUptoRow.holds Try.pinned (OpenSpec.upto fnExactSplitAtSpec)

/-- 'laws.FnExactJoinWith', WHERE WHAT IT READS IS OF BULK AT MOST 1048576: true; the input reads as it did. -/
def fnExactJoinWithUptoRow : OpenClaim := { program := "ytlcjkdlidchecaa", sum := "74af040356170a1f84a5a4832e1a863616af9e4fdc39f41b98caec8b3217176a", func := "loop.example/g03016/laws.FnExactJoinWith", spec := "fnExactJoinWith", inPlace := ["internal/abi.NoEscape"], apart := false, narrowed := true }
def FnExactJoinWithUptoSaid : Prop := fnExactJoinWithUptoRow.holds Try.pinned (OpenSpec.upto fnExactJoinWithSpec)

/-- 'laws.FnExactAscending', WHERE WHAT IT READS IS OF BULK AT MOST 1048576: true; the input reads as it did. -/
def fnExactAscendingUptoRow : OpenClaim := { program := "ytlcjkdlidchecaa", sum := "74af040356170a1f84a5a4832e1a863616af9e4fdc39f41b98caec8b3217176a", func := "loop.example/g03016/laws.FnExactAscending", spec := "fnExactAscending", inPlace := ["internal/abi.NoEscape"], recurses := true, apart := false, narrowed := true }
def FnExactAscendingUptoSaid : Prop := fnExactAscendingUptoRow.holds Try.pinned (OpenSpec.upto fnExactAscendingSpec)

end Rows
end Go.Proofs.Ytlcjkdlidchecaa
