/-
  No cell of these rows narrows 'for every input' (looked for: loops, veiled, ifaces, maps, wideKeys, modest, calm, conditions, laid).
  DERIVED. THE GIVEN ROWS OF THIS SEAT. 6 by the template 'for every input the law returns true; each argument reads behind the call as it read before'; 0 by the template 'total and deterministic' (their statements: YtmgfokikkhfibabTotals.lean).
  GIVEN WITH THE SEED: the statements are not yours to turn. If you find one false, say at which input.
  Laid BY PROGRAM, IN A SANDBOX (cutbox-rows.mjs): the forced cells as the released guide's own fill.sh prints them over the translation d2559655900ac4b1… (all of the seat's roots in one cut). By AI agents, Wed Nov 11 2026. No macro, syntax, notation, axiom, sorry.
-/
import Derived.Test.YtmgfokikkhfibabChecked
import GoSem.Claim
import GoSem.ClaimJoined
import GoSem.ClaimMapViews
import Derived.JoinedTies
import Derived.KernelRfl
namespace Go.Proofs.Ytmgfokikkhfibab
/- THE CELL 'sum', in the pinned program and in every row, IS THE sha256 OF THE DUMP (.gsa) THAT YtmgfokikkhfibabProg.lean LOADS. Nothing in Lean hashes anything: it is a label: what it is worth is what the hold of that sum in a sandbox is worth. -/
noncomputable def Try.pinned : Pinned := { name := "ytmgfokikkhfibab", sum := "d2559655900ac4b1a4230ed4f57181b71d49b9b949e58785b656fe0348362d9a", checked := Try.checked }
namespace Rows
def none {H : Type} : Left H := { results := [], args := [] }

/-- 'laws.FnExactWantOf': WHATEVER THE INPUT: true; the input reads as it did. -/
def fnExactWantOfSpec : ChangeSpec := { name := "fnExactWantOf", fn := fun _ => fun
  | [d] => { results := [.lit (.bool true)], args := [d] }
  | _ => none }
def fnExactWantOfRow : OpenClaim := { program := "ytmgfokikkhfibab", sum := "d2559655900ac4b1a4230ed4f57181b71d49b9b949e58785b656fe0348362d9a", func := "loop.example/g03016/laws.FnExactWantOf", spec := "fnExactWantOf", apart := false }
def FnExactWantOfSaid : Prop := fnExactWantOfRow.holds Try.pinned (OpenSpec.ofChange fnExactWantOfSpec)

/-- ITS FALSE NEIGHBOUR: 'it returns false'. Refute it at one input. -/
def fnExactWantOfWrong : ChangeSpec := { name := "fnExactWantOf", fn := fun _ => fun
  | [d] => { results := [.lit (.bool false)], args := [d] }
  | _ => none }
def FnExactWantOfWrongFalsely : Prop := fnExactWantOfRow.holds Try.pinned (OpenSpec.ofChange fnExactWantOfWrong)

/-- 'laws.FnExactIsCall': WHATEVER THE INPUT: true; the input reads as it did. -/
def fnExactIsCallSpec : ChangeSpec := { name := "fnExactIsCall", fn := fun _ => fun
  | [d] => { results := [.lit (.bool true)], args := [d] }
  | _ => none }
def fnExactIsCallRow : OpenClaim := { program := "ytmgfokikkhfibab", sum := "d2559655900ac4b1a4230ed4f57181b71d49b9b949e58785b656fe0348362d9a", func := "loop.example/g03016/laws.FnExactIsCall", spec := "fnExactIsCall", apart := false }
def FnExactIsCallSaid : Prop := fnExactIsCallRow.holds Try.pinned (OpenSpec.ofChange fnExactIsCallSpec)

/-- ITS FALSE NEIGHBOUR: 'it returns false'. Refute it at one input. -/
def fnExactIsCallWrong : ChangeSpec := { name := "fnExactIsCall", fn := fun _ => fun
  | [d] => { results := [.lit (.bool false)], args := [d] }
  | _ => none }
def FnExactIsCallWrongFalsely : Prop := fnExactIsCallRow.holds Try.pinned (OpenSpec.ofChange fnExactIsCallWrong)

/-- 'laws.FnExactSameCore': WHATEVER THE INPUT: true; the input reads as it did. -/
def fnExactSameCoreSpec : ChangeSpec := { name := "fnExactSameCore", fn := fun _ => fun
  | [d1, d2] => { results := [.lit (.bool true)], args := [d1, d2] }
  | _ => none }
def fnExactSameCoreRow : OpenClaim := { program := "ytmgfokikkhfibab", sum := "d2559655900ac4b1a4230ed4f57181b71d49b9b949e58785b656fe0348362d9a", func := "loop.example/g03016/laws.FnExactSameCore", spec := "fnExactSameCore", apart := false }
def FnExactSameCoreSaid : Prop := fnExactSameCoreRow.holds Try.pinned (OpenSpec.ofChange fnExactSameCoreSpec)

/-- ITS FALSE NEIGHBOUR: 'it returns false'. Refute it at one input. -/
def fnExactSameCoreWrong : ChangeSpec := { name := "fnExactSameCore", fn := fun _ => fun
  | [d1, d2] => { results := [.lit (.bool false)], args := [d1, d2] }
  | _ => none }
def FnExactSameCoreWrongFalsely : Prop := fnExactSameCoreRow.holds Try.pinned (OpenSpec.ofChange fnExactSameCoreWrong)

/-- 'laws.FnExactFormatCall': WHATEVER THE INPUT: true; the input reads as it did. -/
def fnExactFormatCallSpec : ChangeSpec := { name := "fnExactFormatCall", fn := fun _ => fun
  | [d] => { results := [.lit (.bool true)], args := [d] }
  | _ => none }
def fnExactFormatCallRow : OpenClaim := { program := "ytmgfokikkhfibab", sum := "d2559655900ac4b1a4230ed4f57181b71d49b9b949e58785b656fe0348362d9a", func := "loop.example/g03016/laws.FnExactFormatCall", spec := "fnExactFormatCall", inPlace := ["internal/abi.NoEscape"], recurses := true, apart := false }
def FnExactFormatCallSaid : Prop := fnExactFormatCallRow.holds Try.pinned (OpenSpec.ofChange fnExactFormatCallSpec)

/-- ITS FALSE NEIGHBOUR: 'it returns false'. Refute it at one input. -/
def fnExactFormatCallWrong : ChangeSpec := { name := "fnExactFormatCall", fn := fun _ => fun
  | [d] => { results := [.lit (.bool false)], args := [d] }
  | _ => none }
def FnExactFormatCallWrongFalsely : Prop := fnExactFormatCallRow.holds Try.pinned (OpenSpec.ofChange fnExactFormatCallWrong)

/-- 'laws.FnExactParseCall': WHATEVER THE INPUT: true; the input reads as it did. -/
def fnExactParseCallSpec : ChangeSpec := { name := "fnExactParseCall", fn := fun _ => fun
  | [d] => { results := [.lit (.bool true)], args := [d] }
  | _ => none }
def fnExactParseCallRow : OpenClaim := { program := "ytmgfokikkhfibab", sum := "d2559655900ac4b1a4230ed4f57181b71d49b9b949e58785b656fe0348362d9a", func := "loop.example/g03016/laws.FnExactParseCall", spec := "fnExactParseCall", inPlace := ["internal/bytealg.IndexByteString", "internal/bytealg.IndexString", "internal/abi.NoEscape"], recurses := true, named := ["internal/bytealg.MaxLen"], apart := false }
def FnExactParseCallSaid : Prop := fnExactParseCallRow.holds Try.pinned (OpenSpec.ofChange fnExactParseCallSpec)

/-- ITS FALSE NEIGHBOUR: 'it returns false'. Refute it at one input. -/
def fnExactParseCallWrong : ChangeSpec := { name := "fnExactParseCall", fn := fun _ => fun
  | [d] => { results := [.lit (.bool false)], args := [d] }
  | _ => none }
def FnExactParseCallWrongFalsely : Prop := fnExactParseCallRow.holds Try.pinned (OpenSpec.ofChange fnExactParseCallWrong)

/-- 'laws.FnExactFormatReply': WHATEVER THE INPUT: true; the input reads as it did. -/
def fnExactFormatReplySpec : ChangeSpec := { name := "fnExactFormatReply", fn := fun _ => fun
  | [d] => { results := [.lit (.bool true)], args := [d] }
  | _ => none }
def fnExactFormatReplyRow : OpenClaim := { program := "ytmgfokikkhfibab", sum := "d2559655900ac4b1a4230ed4f57181b71d49b9b949e58785b656fe0348362d9a", func := "loop.example/g03016/laws.FnExactFormatReply", spec := "fnExactFormatReply", inPlace := ["internal/abi.NoEscape"], recurses := true, apart := false }
def FnExactFormatReplySaid : Prop := fnExactFormatReplyRow.holds Try.pinned (OpenSpec.ofChange fnExactFormatReplySpec)

/-- ITS FALSE NEIGHBOUR: 'it returns false'. Refute it at one input. -/
def fnExactFormatReplyWrong : ChangeSpec := { name := "fnExactFormatReply", fn := fun _ => fun
  | [d] => { results := [.lit (.bool false)], args := [d] }
  | _ => none }
def FnExactFormatReplyWrongFalsely : Prop := fnExactFormatReplyRow.holds Try.pinned (OpenSpec.ofChange fnExactFormatReplyWrong)

/- THE SECOND FORM. 'bulk': how many values and letters a reading holds, each counted each time it is reached (what is shared counts as often as it is met; a slice's spare places count too). A statement '..UptoSaid' is the law's where the arguments, and the package variables that the reading takes, are together of bulk at most 1048576: NARROWER than '..Said'. Prove '..Said' where nothing that the law and all that it calls make is longer than what came in: it says more and counts as full. Else prove '..UptoSaid'. A law counts once. -/
mutual
def uptoBulk {H : Type} : DataW H → Nat
  | .lit (.string bytes) => bytes.length + 1
  | .lit _ => 1
  | .nil => 1
  | .ptr d => uptoBulk d + 1
  | .slice elems spare => uptoBulkAll elems + uptoBulkAll spare + 1
  | .agg parts => uptoBulkAll parts + 1
  | .iface _ d => uptoBulk d + 1
  | .map entries => uptoBulkEntries entries + 1
  | .held _ => 1
def uptoBulkAll {H : Type} : List (DataW H) → Nat
  | [] => 0
  | d :: r => uptoBulk d + uptoBulkAll r
def uptoBulkEntries {H : Type} : List (Lit × DataW H) → Nat
  | [] => 0
  | x :: r => uptoBulkEntry x + uptoBulkEntries r
def uptoBulkEntry {H : Type} : Lit × DataW H → Nat
  | (.string bytes, d) => bytes.length + uptoBulk d + 1
  | (_, d) => uptoBulk d + 1
 end
def uptoSmall : (H : Type) → List (DataW H) → Bool := fun _ ds => decide (uptoBulkAll ds ≤ 1048576)
def OpenSpec.upto (s : _root_.Go.ChangeSpec) : _root_.Go.OpenSpec := { _root_.Go.OpenSpec.ofChange s with cond := some uptoSmall }

/-- 'laws.FnExactWantOf', WHERE WHAT IT READS IS OF BULK AT MOST 1048576: true; the input reads as it did. -/
def fnExactWantOfUptoRow : OpenClaim := { program := "ytmgfokikkhfibab", sum := "d2559655900ac4b1a4230ed4f57181b71d49b9b949e58785b656fe0348362d9a", func := "loop.example/g03016/laws.FnExactWantOf", spec := "fnExactWantOf", apart := false, narrowed := true }
def FnExactWantOfUptoSaid : Prop := fnExactWantOfUptoRow.holds Try.pinned (OpenSpec.upto fnExactWantOfSpec)

/-- 'laws.FnExactIsCall', WHERE WHAT IT READS IS OF BULK AT MOST 1048576: true; the input reads as it did. -/
def fnExactIsCallUptoRow : OpenClaim := { program := "ytmgfokikkhfibab", sum := "d2559655900ac4b1a4230ed4f57181b71d49b9b949e58785b656fe0348362d9a", func := "loop.example/g03016/laws.FnExactIsCall", spec := "fnExactIsCall", apart := false, narrowed := true }
def FnExactIsCallUptoSaid : Prop := fnExactIsCallUptoRow.holds Try.pinned (OpenSpec.upto fnExactIsCallSpec)

/-- 'laws.FnExactSameCore', WHERE WHAT IT READS IS OF BULK AT MOST 1048576: true; the input reads as it did. -/
def fnExactSameCoreUptoRow : OpenClaim := { program := "ytmgfokikkhfibab", sum := "d2559655900ac4b1a4230ed4f57181b71d49b9b949e58785b656fe0348362d9a", func := "loop.example/g03016/laws.FnExactSameCore", spec := "fnExactSameCore", apart := false, narrowed := true }
def FnExactSameCoreUptoSaid : Prop := fnExactSameCoreUptoRow.holds Try.pinned (OpenSpec.upto fnExactSameCoreSpec)

/-- 'laws.FnExactFormatCall', WHERE WHAT IT READS IS OF BULK AT MOST 1048576: true; the input reads as it did. -/
def fnExactFormatCallUptoRow : OpenClaim := { program := "ytmgfokikkhfibab", sum := "d2559655900ac4b1a4230ed4f57181b71d49b9b949e58785b656fe0348362d9a", func := "loop.example/g03016/laws.FnExactFormatCall", spec := "fnExactFormatCall", inPlace := ["internal/abi.NoEscape"], recurses := true, apart := false, narrowed := true }
def FnExactFormatCallUptoSaid : Prop := fnExactFormatCallUptoRow.holds Try.pinned (OpenSpec.upto fnExactFormatCallSpec)

/-- 'laws.FnExactParseCall', WHERE WHAT IT READS IS OF BULK AT MOST 1048576: true; the input reads as it did. -/
def fnExactParseCallUptoRow : OpenClaim := { program := "ytmgfokikkhfibab", sum := "d2559655900ac4b1a4230ed4f57181b71d49b9b949e58785b656fe0348362d9a", func := "loop.example/g03016/laws.FnExactParseCall", spec := "fnExactParseCall", inPlace := ["internal/bytealg.IndexByteString", "internal/bytealg.IndexString", "internal/abi.NoEscape"], recurses := true, named := ["internal/bytealg.MaxLen"], apart := false, narrowed := true }
def FnExactParseCallUptoSaid : Prop := fnExactParseCallUptoRow.holds Try.pinned (OpenSpec.upto fnExactParseCallSpec)

/-- 'laws.FnExactFormatReply', WHERE WHAT IT READS IS OF BULK AT MOST 1048576: true; the input reads as it did. -/
def fnExactFormatReplyUptoRow : OpenClaim := { program := "ytmgfokikkhfibab", sum := "d2559655900ac4b1a4230ed4f57181b71d49b9b949e58785b656fe0348362d9a", func := "loop.example/g03016/laws.FnExactFormatReply", spec := "fnExactFormatReply", inPlace := ["internal/abi.NoEscape"], recurses := true, apart := false, narrowed := true }
def FnExactFormatReplyUptoSaid : Prop := fnExactFormatReplyUptoRow.holds Try.pinned (OpenSpec.upto fnExactFormatReplySpec)

end Rows
end Go.Proofs.Ytmgfokikkhfibab
