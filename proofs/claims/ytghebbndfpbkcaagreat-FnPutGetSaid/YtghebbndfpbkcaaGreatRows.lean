/-
  No cell of these rows narrows 'for every input' (looked for: loops, veiled, ifaces, maps, wideKeys, modest, calm, conditions, laid).
  DERIVED. THE GIVEN ROWS OF THIS SEAT. 4 by the template 'for every input the law returns true; each argument reads behind the call as it read before'; 0 by the template 'total and deterministic' (their statements: YtghebbndfpbkcaaGreatTotals.lean).
  GIVEN WITH THE SEED: the statements are not yours to turn. If you find one false, say at which input.
  Laid BY PROGRAM, IN A SANDBOX (cutbox-rows.mjs): the forced cells as the released guide's own fill.sh prints them over the translation e04481e596522697… (all of the seat's roots in one cut). By AI agents, Wed Nov 11 2026. No macro, syntax, notation, axiom, sorry.
-/
import Derived.Test.YtghebbndfpbkcaaGreatChecked
import GoSem.Claim
import GoSem.ClaimJoined
import GoSem.ClaimMapViews
import Derived.JoinedTies
import Derived.KernelRfl
namespace Go.Proofs.YtghebbndfpbkcaaGreat
/- THE CELL 'sum', in the pinned program and in every row, IS THE sha256 OF THE DUMP (.gsa) THAT YtghebbndfpbkcaaGreatProg.lean LOADS. Nothing in Lean hashes anything: it is a label: what it is worth is what the hold of that sum in a sandbox is worth. -/
noncomputable def Tryz.pinned : Pinned := { name := "ytghebbndfpbkcaagreat", sum := "e04481e596522697718f7c56e064fd2d13ca546526622af382cac66cf1e46933", checked := Tryz.checked }
namespace Rows
def none {H : Type} : Left H := { results := [], args := [] }

/-- 'laws.FnPutGet': WHATEVER THE INPUT: true; the input reads as it did. -/
def fnPutGetSpec : ChangeSpec := { name := "fnPutGet", fn := fun _ => fun
  | [d] => { results := [.lit (.bool true)], args := [d] }
  | _ => none }
def fnPutGetRow : OpenClaim := { program := "ytghebbndfpbkcaagreat", sum := "e04481e596522697718f7c56e064fd2d13ca546526622af382cac66cf1e46933", func := "loop.example/g03016/laws.FnPutGet", spec := "fnPutGet", inPlace := ["internal/abi.NoEscape"], unfollowed := true, recurses := true, apart := false }
def FnPutGetSaid : Prop := fnPutGetRow.holds Tryz.pinned (OpenSpec.ofChange fnPutGetSpec)

/-- ITS FALSE NEIGHBOUR: 'it returns false'. Refute it at one input. -/
def fnPutGetWrong : ChangeSpec := { name := "fnPutGet", fn := fun _ => fun
  | [d] => { results := [.lit (.bool false)], args := [d] }
  | _ => none }
def FnPutGetWrongFalsely : Prop := fnPutGetRow.holds Tryz.pinned (OpenSpec.ofChange fnPutGetWrong)

/-- 'laws.FnSaveLoad': WHATEVER THE INPUT: true; the input reads as it did. -/
def fnSaveLoadSpec : ChangeSpec := { name := "fnSaveLoad", fn := fun _ => fun
  | [d] => { results := [.lit (.bool true)], args := [d] }
  | _ => none }
def fnSaveLoadRow : OpenClaim := { program := "ytghebbndfpbkcaagreat", sum := "e04481e596522697718f7c56e064fd2d13ca546526622af382cac66cf1e46933", func := "loop.example/g03016/laws.FnSaveLoad", spec := "fnSaveLoad", inPlace := ["internal/abi.NoEscape"], unfollowed := true, recurses := true, apart := false }
def FnSaveLoadSaid : Prop := fnSaveLoadRow.holds Tryz.pinned (OpenSpec.ofChange fnSaveLoadSpec)

/-- ITS FALSE NEIGHBOUR: 'it returns false'. Refute it at one input. -/
def fnSaveLoadWrong : ChangeSpec := { name := "fnSaveLoad", fn := fun _ => fun
  | [d] => { results := [.lit (.bool false)], args := [d] }
  | _ => none }
def FnSaveLoadWrongFalsely : Prop := fnSaveLoadRow.holds Tryz.pinned (OpenSpec.ofChange fnSaveLoadWrong)

/-- 'laws.FnExactCallCore': WHATEVER THE INPUT: true; the input reads as it did. -/
def fnExactCallCoreSpec : ChangeSpec := { name := "fnExactCallCore", fn := fun _ => fun
  | [d1, d2] => { results := [.lit (.bool true)], args := [d1, d2] }
  | _ => none }
def fnExactCallCoreRow : OpenClaim := { program := "ytghebbndfpbkcaagreat", sum := "e04481e596522697718f7c56e064fd2d13ca546526622af382cac66cf1e46933", func := "loop.example/g03016/laws.FnExactCallCore", spec := "fnExactCallCore", inPlace := ["internal/abi.NoEscape"], unfollowed := true, recurses := true, apart := false }
def FnExactCallCoreSaid : Prop := fnExactCallCoreRow.holds Tryz.pinned (OpenSpec.ofChange fnExactCallCoreSpec)

/-- ITS FALSE NEIGHBOUR: 'it returns false'. Refute it at one input. -/
def fnExactCallCoreWrong : ChangeSpec := { name := "fnExactCallCore", fn := fun _ => fun
  | [d1, d2] => { results := [.lit (.bool false)], args := [d1, d2] }
  | _ => none }
def FnExactCallCoreWrongFalsely : Prop := fnExactCallCoreRow.holds Tryz.pinned (OpenSpec.ofChange fnExactCallCoreWrong)

/-- 'laws.FnExactCallCores': WHATEVER THE INPUT: true; the input reads as it did. -/
def fnExactCallCoresSpec : ChangeSpec := { name := "fnExactCallCores", fn := fun _ => fun
  | [d1, d2] => { results := [.lit (.bool true)], args := [d1, d2] }
  | _ => none }
def fnExactCallCoresRow : OpenClaim := { program := "ytghebbndfpbkcaagreat", sum := "e04481e596522697718f7c56e064fd2d13ca546526622af382cac66cf1e46933", func := "loop.example/g03016/laws.FnExactCallCores", spec := "fnExactCallCores", inPlace := ["internal/abi.NoEscape"], unfollowed := true, recurses := true, apart := false }
def FnExactCallCoresSaid : Prop := fnExactCallCoresRow.holds Tryz.pinned (OpenSpec.ofChange fnExactCallCoresSpec)

/-- ITS FALSE NEIGHBOUR: 'it returns false'. Refute it at one input. -/
def fnExactCallCoresWrong : ChangeSpec := { name := "fnExactCallCores", fn := fun _ => fun
  | [d1, d2] => { results := [.lit (.bool false)], args := [d1, d2] }
  | _ => none }
def FnExactCallCoresWrongFalsely : Prop := fnExactCallCoresRow.holds Tryz.pinned (OpenSpec.ofChange fnExactCallCoresWrong)

/- THE SECOND FORM. 'bulk': how many values and letters a reading holds, each counted each time it is reached (what is shared counts as often as it is met; a slice's spare places count too). A statement '..UptoSaid' is the law's where the arguments, and the package variables that the reading takes, are together of bulk at most 1048576: NARROWER than '..Said'. Prove '..Said' where nothing that the law and all that it calls make is longer than what came in: it says more and counts as full. Else prove '..UptoSaid'. A law counts once. -/
mutual
def uptoBulk {H : Type} : DataW H → Nat
  | .lit (.string bytes) => bytes.length + 1
  | .lit _ => 1
  | .nil => 1
  | .ptr d => uptoBulk d + 1
  | .slice elems spare => uptoBulkAll elems + uptoBulkAll spare + 1
  | .agg parts => uptoBulkAll parts + 1
  | .iface _ d => uptoBulk d + 1
  | .map entries => uptoBulkEntries entries + 1
  | .held _ => 1
def uptoBulkAll {H : Type} : List (DataW H) → Nat
  | [] => 0
  | d :: r => uptoBulk d + uptoBulkAll r
def uptoBulkEntries {H : Type} : List (Lit × DataW H) → Nat
  | [] => 0
  | x :: r => uptoBulkEntry x + uptoBulkEntries r
def uptoBulkEntry {H : Type} : Lit × DataW H → Nat
  | (.string bytes, d) => bytes.length + uptoBulk d + 1
  | (_, d) => uptoBulk d + 1
 end
def uptoSmall : (H : Type) → List (DataW H) → Bool := fun _ ds => decide (uptoBulkAll ds ≤ 1048576)
def OpenSpec.upto (s : _root_.Go.ChangeSpec) : _root_.Go.OpenSpec := { _root_.Go.OpenSpec.ofChange s with cond := some uptoSmall }

/-- 'laws.FnPutGet', WHERE WHAT IT READS IS OF BULK AT MOST 1048576: true; the input reads as it did. -/
def fnPutGetUptoRow : OpenClaim := { program := "ytghebbndfpbkcaagreat", sum := "e04481e596522697718f7c56e064fd2d13ca546526622af382cac66cf1e46933", func := "loop.example/g03016/laws.FnPutGet", spec := "fnPutGet", inPlace := ["internal/abi.NoEscape"], unfollowed := true, recurses := true, apart := false, narrowed := true }
def FnPutGetUptoSaid : Prop := fnPutGetUptoRow.holds Tryz.pinned (OpenSpec.upto fnPutGetSpec)

/-- 'laws.FnSaveLoad', WHERE WHAT IT READS IS OF BULK AT MOST 1048576: true; the input reads as it did. -/
def fnSaveLoadUptoRow : OpenClaim := { program := "ytghebbndfpbkcaagreat", sum := "e04481e596522697718f7c56e064fd2d13ca546526622af382cac66cf1e46933", func := "loop.example/g03016/laws.FnSaveLoad", spec := "fnSaveLoad", inPlace := ["internal/abi.NoEscape"], unfollowed := true, recurses := true, apart := false, narrowed := true }
def FnSaveLoadUptoSaid : Prop := fnSaveLoadUptoRow.holds Tryz.pinned (OpenSpec.upto fnSaveLoadSpec)

/-- 'laws.FnExactCallCore', WHERE WHAT IT READS IS OF BULK AT MOST 1048576: true; the input reads as it did. -/
def fnExactCallCoreUptoRow : OpenClaim := { program := "ytghebbndfpbkcaagreat", sum := "e04481e596522697718f7c56e064fd2d13ca546526622af382cac66cf1e46933", func := "loop.example/g03016/laws.FnExactCallCore", spec := "fnExactCallCore", inPlace := ["internal/abi.NoEscape"], unfollowed := true, recurses := true, apart := false, narrowed := true }
def FnExactCallCoreUptoSaid : Prop := fnExactCallCoreUptoRow.holds Tryz.pinned (OpenSpec.upto fnExactCallCoreSpec)

/-- 'laws.FnExactCallCores', WHERE WHAT IT READS IS OF BULK AT MOST 1048576: true; the input reads as it did. -/
def fnExactCallCoresUptoRow : OpenClaim := { program := "ytghebbndfpbkcaagreat", sum := "e04481e596522697718f7c56e064fd2d13ca546526622af382cac66cf1e46933", func := "loop.example/g03016/laws.FnExactCallCores", spec := "fnExactCallCores", inPlace := ["internal/abi.NoEscape"], unfollowed := true, recurses := true, apart := false, narrowed := true }
def FnExactCallCoresUptoSaid : Prop := fnExactCallCoresUptoRow.holds Tryz.pinned (OpenSpec.upto fnExactCallCoresSpec)

end Rows
end Go.Proofs.YtghebbndfpbkcaaGreat
