/- Reply: what the laws' own helpers do with it. Written by gen/flat.py. -/
import Derived.Test.YtbofplofpggdladFlat
import Derived.StillTailTactics
namespace Go.Proofs.Ytbofplofpggdlad
set_option linter.unusedVariables false
open Go.RowKit
structure ReplyD where
  fCode : Int
  fValue : Int
  fText : List UInt8
  fWant : Int
  fHad : Int
deriving DecidableEq
def okReply (d : ReplyD) : Prop := (-9223372036854775808 ≤ d.fCode ∧ d.fCode ≤ 9223372036854775807) ∧ (-9223372036854775808 ≤ d.fValue ∧ d.fValue ≤ 9223372036854775807) ∧ (d.fText.length ≤ maxLen) ∧ (-9223372036854775808 ≤ d.fWant ∧ d.fWant ≤ 9223372036854775807) ∧ (-9223372036854775808 ≤ d.fHad ∧ d.fHad ≤ 9223372036854775807)
def vReply (d : ReplyD) : Value := .agg #[.int .i64 d.fCode, .int .i64 d.fValue, .string ⟨d.fText.toArray⟩, .int .i64 d.fWant, .int .i64 d.fHad]
def cReply (d : ReplyD) : List Value := [.int .i64 d.fCode, .int .i64 d.fValue, .string ⟨d.fText.toArray⟩, .int .i64 d.fWant, .int .i64 d.fHad]
theorem cReply_len (d : ReplyD) : (cReply d).length = 5 := rfl
theorem cReply_one (d : ReplyD) : ∀ u ∈ cReply d, u.oneCell' = true := by intro u hu; simp only [cReply, List.mem_cons, List.not_mem_nil, or_false] at hu; rcases hu with rfl | rfl | rfl | rfl | rfl <;> rfl
def zReply (d : ReplyD) : Nat := d.fText.length
theorem infoReply : (Try.prog.info? 71).map (fun i => (i.zero, i.size, i.bytes)) = some (some (.agg #[.int .i64 0, .int .i64 0, .string ⟨#[]⟩, .int .i64 0, .int .i64 0]), 5, 48) := by kernel_rfl
def marksReply (k : Int) (n : Nat) : List ReplyD := (List.range n).map fun i : Nat => ⟨k + i * 5, k + i * 5 + 1, markL (k + i * 5 + 1 + 1), k + i * 5 + 1 + 1 + 1, k + i * 5 + 1 + 1 + 1 + 1⟩
theorem marksReply_len (k : Int) (n : Nat) : (marksReply k n).length = n := by simp [marksReply]
theorem marksReply_get (k : Int) (n i : Nat) (h : i < n) : (marksReply k n)[i]'(by rw [marksReply_len]; exact h) = ⟨k + i * 5, k + i * 5 + 1, markL (k + i * 5 + 1 + 1), k + i * 5 + 1 + 1 + 1, k + i * 5 + 1 + 1 + 1 + 1⟩ := by simp [marksReply]
end Go.Proofs.Ytbofplofpggdlad
