/-
  No cell of these rows narrows 'for every input' (looked for: loops, veiled, ifaces, maps, wideKeys, modest, calm, conditions, laid).
  DERIVED. THE GIVEN ROWS OF THIS SEAT. 6 by the template 'for every input the law returns true; each argument reads behind the call as it read before'; 0 by the template 'total and deterministic' (their statements: YtbjkalnahckfnaaTotals.lean).
  GIVEN WITH THE SEED: the statements are not yours to turn. If you find one false, say at which input.
  Laid BY PROGRAM, IN A SANDBOX (cutbox-rows.mjs): the forced cells as the released guide's own fill.sh prints them over the translation 75fc40608f3e2e4b… (all of the seat's roots in one cut). By AI agents, Wed Nov 11 2026. No macro, syntax, notation, axiom, sorry.
-/
import Derived.Test.YtbjkalnahckfnaaChecked
import GoSem.Claim
import GoSem.ClaimJoined
import GoSem.ClaimMapViews
import Derived.JoinedTies
import Derived.KernelRfl
namespace Go.Proofs.Ytbjkalnahckfnaa
/- THE CELL 'sum', in the pinned program and in every row, IS THE sha256 OF THE DUMP (.gsa) THAT YtbjkalnahckfnaaProg.lean LOADS. Nothing in Lean hashes anything: it is a label: what it is worth is what the hold of that sum in a sandbox is worth. -/
noncomputable def Try.pinned : Pinned := { name := "ytbjkalnahckfnaa", sum := "75fc40608f3e2e4b44cd628fd143aa7eb8ab371845b8aee530969a9bd82ecbd0", checked := Try.checked }
namespace Rows
def none {H : Type} : Left H := { results := [], args := [] }

/-- 'laws.FnExactIsVersion': WHATEVER THE INPUT: true; the input reads as it did. -/
def fnExactIsVersionSpec : ChangeSpec := { name := "fnExactIsVersion", fn := fun _ => fun
  | [d] => { results := [.lit (.bool true)], args := [d] }
  | _ => none }
def fnExactIsVersionRow : OpenClaim := { program := "ytbjkalnahckfnaa", sum := "75fc40608f3e2e4b44cd628fd143aa7eb8ab371845b8aee530969a9bd82ecbd0", func := "loop.example/g03016/laws.FnExactIsVersion", spec := "fnExactIsVersion", apart := false }
def FnExactIsVersionSaid : Prop := fnExactIsVersionRow.holds Try.pinned (OpenSpec.ofChange fnExactIsVersionSpec)

/-- ITS FALSE NEIGHBOUR: 'it returns false'. Refute it at one input. -/
def fnExactIsVersionWrong : ChangeSpec := { name := "fnExactIsVersion", fn := fun _ => fun
  | [d] => { results := [.lit (.bool false)], args := [d] }
  | _ => none }
def FnExactIsVersionWrongFalsely : Prop := fnExactIsVersionRow.holds Try.pinned (OpenSpec.ofChange fnExactIsVersionWrong)

/-- 'laws.FnExactCompareVersions': WHATEVER THE INPUT: true; the input reads as it did. -/
def fnExactCompareVersionsSpec : ChangeSpec := { name := "fnExactCompareVersions", fn := fun _ => fun
  | [d1, d2] => { results := [.lit (.bool true)], args := [d1, d2] }
  | _ => none }
def fnExactCompareVersionsRow : OpenClaim := { program := "ytbjkalnahckfnaa", sum := "75fc40608f3e2e4b44cd628fd143aa7eb8ab371845b8aee530969a9bd82ecbd0", func := "loop.example/g03016/laws.FnExactCompareVersions", spec := "fnExactCompareVersions", apart := false }
def FnExactCompareVersionsSaid : Prop := fnExactCompareVersionsRow.holds Try.pinned (OpenSpec.ofChange fnExactCompareVersionsSpec)

/-- ITS FALSE NEIGHBOUR: 'it returns false'. Refute it at one input. -/
def fnExactCompareVersionsWrong : ChangeSpec := { name := "fnExactCompareVersions", fn := fun _ => fun
  | [d1, d2] => { results := [.lit (.bool false)], args := [d1, d2] }
  | _ => none }
def FnExactCompareVersionsWrongFalsely : Prop := fnExactCompareVersionsRow.holds Try.pinned (OpenSpec.ofChange fnExactCompareVersionsWrong)

/-- 'laws.FnExactMeets': WHATEVER THE INPUT: true; the input reads as it did. -/
def fnExactMeetsSpec : ChangeSpec := { name := "fnExactMeets", fn := fun _ => fun
  | [d1, d2] => { results := [.lit (.bool true)], args := [d1, d2] }
  | _ => none }
def fnExactMeetsRow : OpenClaim := { program := "ytbjkalnahckfnaa", sum := "75fc40608f3e2e4b44cd628fd143aa7eb8ab371845b8aee530969a9bd82ecbd0", func := "loop.example/g03016/laws.FnExactMeets", spec := "fnExactMeets", apart := false }
def FnExactMeetsSaid : Prop := fnExactMeetsRow.holds Try.pinned (OpenSpec.ofChange fnExactMeetsSpec)

/-- ITS FALSE NEIGHBOUR: 'it returns false'. Refute it at one input. -/
def fnExactMeetsWrong : ChangeSpec := { name := "fnExactMeets", fn := fun _ => fun
  | [d1, d2] => { results := [.lit (.bool false)], args := [d1, d2] }
  | _ => none }
def FnExactMeetsWrongFalsely : Prop := fnExactMeetsRow.holds Try.pinned (OpenSpec.ofChange fnExactMeetsWrong)

/-- 'laws.FnExactFormatVersion': WHATEVER THE INPUT: true; the input reads as it did. -/
def fnExactFormatVersionSpec : ChangeSpec := { name := "fnExactFormatVersion", fn := fun _ => fun
  | [d] => { results := [.lit (.bool true)], args := [d] }
  | _ => none }
def fnExactFormatVersionRow : OpenClaim := { program := "ytbjkalnahckfnaa", sum := "75fc40608f3e2e4b44cd628fd143aa7eb8ab371845b8aee530969a9bd82ecbd0", func := "loop.example/g03016/laws.FnExactFormatVersion", spec := "fnExactFormatVersion", inPlace := ["internal/abi.NoEscape"], recurses := true, apart := false }
def FnExactFormatVersionSaid : Prop := fnExactFormatVersionRow.holds Try.pinned (OpenSpec.ofChange fnExactFormatVersionSpec)

/-- ITS FALSE NEIGHBOUR: 'it returns false'. Refute it at one input. -/
def fnExactFormatVersionWrong : ChangeSpec := { name := "fnExactFormatVersion", fn := fun _ => fun
  | [d] => { results := [.lit (.bool false)], args := [d] }
  | _ => none }
def FnExactFormatVersionWrongFalsely : Prop := fnExactFormatVersionRow.holds Try.pinned (OpenSpec.ofChange fnExactFormatVersionWrong)

/-- 'laws.FnExactParseVersion': WHATEVER THE INPUT: true; the input reads as it did. -/
def fnExactParseVersionSpec : ChangeSpec := { name := "fnExactParseVersion", fn := fun _ => fun
  | [d] => { results := [.lit (.bool true)], args := [d] }
  | _ => none }
def fnExactParseVersionRow : OpenClaim := { program := "ytbjkalnahckfnaa", sum := "75fc40608f3e2e4b44cd628fd143aa7eb8ab371845b8aee530969a9bd82ecbd0", func := "loop.example/g03016/laws.FnExactParseVersion", spec := "fnExactParseVersion", inPlace := ["internal/bytealg.IndexByteString", "internal/bytealg.IndexString", "internal/abi.NoEscape"], recurses := true, named := ["internal/bytealg.MaxLen"], apart := false }
def FnExactParseVersionSaid : Prop := fnExactParseVersionRow.holds Try.pinned (OpenSpec.ofChange fnExactParseVersionSpec)

/-- ITS FALSE NEIGHBOUR: 'it returns false'. Refute it at one input. -/
def fnExactParseVersionWrong : ChangeSpec := { name := "fnExactParseVersion", fn := fun _ => fun
  | [d] => { results := [.lit (.bool false)], args := [d] }
  | _ => none }
def FnExactParseVersionWrongFalsely : Prop := fnExactParseVersionRow.holds Try.pinned (OpenSpec.ofChange fnExactParseVersionWrong)

/-- 'laws.FnExactSinceOf': WHATEVER THE INPUT: true; the input reads as it did. -/
def fnExactSinceOfSpec : ChangeSpec := { name := "fnExactSinceOf", fn := fun _ => fun
  | [d] => { results := [.lit (.bool true)], args := [d] }
  | _ => none }
def fnExactSinceOfRow : OpenClaim := { program := "ytbjkalnahckfnaa", sum := "75fc40608f3e2e4b44cd628fd143aa7eb8ab371845b8aee530969a9bd82ecbd0", func := "loop.example/g03016/laws.FnExactSinceOf", spec := "fnExactSinceOf", apart := false }
def FnExactSinceOfSaid : Prop := fnExactSinceOfRow.holds Try.pinned (OpenSpec.ofChange fnExactSinceOfSpec)

/-- ITS FALSE NEIGHBOUR: 'it returns false'. Refute it at one input. -/
def fnExactSinceOfWrong : ChangeSpec := { name := "fnExactSinceOf", fn := fun _ => fun
  | [d] => { results := [.lit (.bool false)], args := [d] }
  | _ => none }
def FnExactSinceOfWrongFalsely : Prop := fnExactSinceOfRow.holds Try.pinned (OpenSpec.ofChange fnExactSinceOfWrong)

/- THE SECOND FORM. 'bulk': how many values and letters a reading holds, each counted each time it is reached (what is shared counts as often as it is met; a slice's spare places count too). A statement '..UptoSaid' is the law's where the arguments, and the package variables that the reading takes, are together of bulk at most 1048576: NARROWER than '..Said'. Prove '..Said' where nothing that the law and all that it calls make is longer than what came in: it says more and counts as full. Else prove '..UptoSaid'. A law counts once. -/
mutual
def uptoBulk {H : Type} : DataW H → Nat
  | .lit (.string bytes) => bytes.length + 1
  | .lit _ => 1
  | .nil => 1
  | .ptr d => uptoBulk d + 1
  | .slice elems spare => uptoBulkAll elems + uptoBulkAll spare + 1
  | .agg parts => uptoBulkAll parts + 1
  | .iface _ d => uptoBulk d + 1
  | .map entries => uptoBulkEntries entries + 1
  | .held _ => 1
def uptoBulkAll {H : Type} : List (DataW H) → Nat
  | [] => 0
  | d :: r => uptoBulk d + uptoBulkAll r
def uptoBulkEntries {H : Type} : List (Lit × DataW H) → Nat
  | [] => 0
  | x :: r => uptoBulkEntry x + uptoBulkEntries r
def uptoBulkEntry {H : Type} : Lit × DataW H → Nat
  | (.string bytes, d) => bytes.length + uptoBulk d + 1
  | (_, d) => uptoBulk d + 1
 end
def uptoSmall : (H : Type) → List (DataW H) → Bool := fun _ ds => decide (uptoBulkAll ds ≤ 1048576)
def OpenSpec.upto (s : _root_.Go.ChangeSpec) : _root_.Go.OpenSpec := { _root_.Go.OpenSpec.ofChange s with cond := some uptoSmall }

/-- 'laws.FnExactIsVersion', WHERE WHAT IT READS IS OF BULK AT MOST 1048576: true; the input reads as it did. -/
def fnExactIsVersionUptoRow : OpenClaim := { program := "ytbjkalnahckfnaa", sum := "75fc40608f3e2e4b44cd628fd143aa7eb8ab371845b8aee530969a9bd82ecbd0", func := "loop.example/g03016/laws.FnExactIsVersion", spec := "fnExactIsVersion", apart := false, narrowed := true }
def FnExactIsVersionUptoSaid : Prop := fnExactIsVersionUptoRow.holds Try.pinned (OpenSpec.upto fnExactIsVersionSpec)

/-- 'laws.FnExactCompareVersions', WHERE WHAT IT READS IS OF BULK AT MOST 1048576: true; the input reads as it did. -/
def fnExactCompareVersionsUptoRow : OpenClaim := { program := "ytbjkalnahckfnaa", sum := "75fc40608f3e2e4b44cd628fd143aa7eb8ab371845b8aee530969a9bd82ecbd0", func := "loop.example/g03016/laws.FnExactCompareVersions", spec := "fnExactCompareVersions", apart := false, narrowed := true }
def FnExactCompareVersionsUptoSaid : Prop := fnExactCompareVersionsUptoRow.holds Try.pinned (OpenSpec.upto fnExactCompareVersionsSpec)

/-- 'laws.FnExactMeets', WHERE WHAT IT READS IS OF BULK AT MOST 1048576: true; the input reads as it did. -/
def fnExactMeetsUptoRow : OpenClaim := { program := "ytbjkalnahckfnaa", sum := "75fc40608f3e2e4b44cd628fd143aa7eb8ab371845b8aee530969a9bd82ecbd0", func := "loop.example/g03016/laws.FnExactMeets", spec := "fnExactMeets", apart := false, narrowed := true }
def FnExactMeetsUptoSaid : Prop := fnExactMeetsUptoRow.holds Try.pinned (OpenSpec.upto fnExactMeetsSpec)

/-- 'laws.FnExactFormatVersion', WHERE WHAT IT READS IS OF BULK AT MOST 1048576: true; the input reads as it did. -/
def fnExactFormatVersionUptoRow : OpenClaim := { program := "ytbjkalnahckfnaa", sum := "75fc40608f3e2e4b44cd628fd143aa7eb8ab371845b8aee530969a9bd82ecbd0", func := "loop.example/g03016/laws.FnExactFormatVersion", spec := "fnExactFormatVersion", inPlace := ["internal/abi.NoEscape"], recurses := true, apart := false, narrowed := true }
def FnExactFormatVersionUptoSaid : Prop := fnExactFormatVersionUptoRow.holds Try.pinned (OpenSpec.upto fnExactFormatVersionSpec)

/-- 'laws.FnExactParseVersion', WHERE WHAT IT READS IS OF BULK AT MOST 1048576: true; the input reads as it did. -/
def fnExactParseVersionUptoRow : OpenClaim := { program := "ytbjkalnahckfnaa", sum := "75fc40608f3e2e4b44cd628fd143aa7eb8ab371845b8aee530969a9bd82ecbd0", func := "loop.example/g03016/laws.FnExactParseVersion", spec := "fnExactParseVersion", inPlace := ["internal/bytealg.IndexByteString", "internal/bytealg.IndexString", "internal/abi.NoEscape"], recurses := true, named := ["internal/bytealg.MaxLen"], apart := false, narrowed := true }
def FnExactParseVersionUptoSaid : Prop := fnExactParseVersionUptoRow.holds Try.pinned (OpenSpec.upto fnExactParseVersionSpec)

/-- 'laws.FnExactSinceOf', WHERE WHAT IT READS IS OF BULK AT MOST 1048576: true; the input reads as it did. -/
def fnExactSinceOfUptoRow : OpenClaim := { program := "ytbjkalnahckfnaa", sum := "75fc40608f3e2e4b44cd628fd143aa7eb8ab371845b8aee530969a9bd82ecbd0", func := "loop.example/g03016/laws.FnExactSinceOf", spec := "fnExactSinceOf", apart := false, narrowed := true }
def FnExactSinceOfUptoSaid : Prop := fnExactSinceOfUptoRow.holds Try.pinned (OpenSpec.upto fnExactSinceOfSpec)

end Rows
end Go.Proofs.Ytbjkalnahckfnaa
