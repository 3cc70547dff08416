/- Reply: what the laws' own helpers do with it. Written by gen/flat.py. -/
import Derived.Test.YtmgfokikkhfibabFlat
import Derived.StillTailTactics
namespace Go.Proofs.Ytmgfokikkhfibab
set_option linter.unusedVariables false
open Go.RowKit
structure ReplyD where
  fCode : Int
  fValue : Int
  fText : List UInt8
  fWant : Int
  fHad : Int
deriving DecidableEq
def okReply (d : ReplyD) : Prop := (-9223372036854775808 ≤ d.fCode ∧ d.fCode ≤ 9223372036854775807) ∧ (-9223372036854775808 ≤ d.fValue ∧ d.fValue ≤ 9223372036854775807) ∧ (d.fText.length ≤ maxLen) ∧ (-9223372036854775808 ≤ d.fWant ∧ d.fWant ≤ 9223372036854775807) ∧ (-9223372036854775808 ≤ d.fHad ∧ d.fHad ≤ 9223372036854775807)
def vReply (d : ReplyD) : Value := .agg #[.int .i64 d.fCode, .int .i64 d.fValue, .string ⟨d.fText.toArray⟩, .int .i64 d.fWant, .int .i64 d.fHad]
def cReply (d : ReplyD) : List Value := [.int .i64 d.fCode, .int .i64 d.fValue, .string ⟨d.fText.toArray⟩, .int .i64 d.fWant, .int .i64 d.fHad]
theorem cReply_len (d : ReplyD) : (cReply d).length = 5 := rfl
theorem cReply_one (d : ReplyD) : ∀ u ∈ cReply d, u.oneCell' = true := by intro u hu; simp only [cReply, List.mem_cons, List.not_mem_nil, or_false] at hu; rcases hu with rfl | rfl | rfl | rfl | rfl <;> rfl
set_option maxHeartbeats 800000 in
theorem toReply_any (x : ReplyD) (w : World) :
    Calls Try.prog 27 #[vReply x] w fun e w' => e = .returned (vReply x) ∧ Below w.heap.size w w' := by
  obtain ⟨a0, a1, a2, a3, a4⟩ := x
  unfold vReply
  go_enter Try.func27, Try.ntmps27
  go_wp2
  exact bodyPost_ret (v := .agg #[.int .i64 a0, .int .i64 a1, .string ⟨a2.toArray⟩, .int .i64 a3, .int .i64 a4]) (by simp [results, Try.results27, go_sem]) rfl ⟨rfl, ((((Below.refl _ _).alloc (Nat.le_refl _) _).alloc (by simp) _).alloc (by simp; try omega) _)⟩
def zReply (d : ReplyD) : Nat := d.fText.length
set_option maxHeartbeats 800000 in
theorem szReply_any (x : ReplyD) (left : Int) (w : World) (h0 : 0 ≤ left) (h1 : left ≤ 1099511627776) (hs : okReply x) :
    Calls Try.prog 25 #[vReply x, .int .i64 left] w fun e w' => SzF (zReply x) left w e w' := by
  obtain ⟨a0, a1, a2, a3, a4⟩ := x
  obtain ⟨hs0, hs1, hs2, hs3, hs4⟩ := hs
  simp only [vReply, zReply] at *
  unfold maxLen at *
  have HZ2 := Lib.hid (size_strB a2)
  by_cases hn0 : left - (a2.length : Int) < 0
  · go_enter Try.func25, Try.ntmps25
    go_wp2
    go_ret
    exact ⟨-1, rfl, by omega, by omega, (Below.refl _ _).alloc (Nat.le_refl _) _⟩
  · go_enter Try.func25, Try.ntmps25
    go_wp2
    go_ret
    exact ⟨_, rfl, by omega, by push_cast; omega, (Below.refl _ _).alloc (Nat.le_refl _) _⟩
theorem infoReply : (Try.prog.info? 49).map (fun i => (i.zero, i.size, i.bytes)) = some (some (.agg #[.int .i64 0, .int .i64 0, .string ⟨#[]⟩, .int .i64 0, .int .i64 0]), 5, 48) := by kernel_rfl
def marksReply (k : Int) (n : Nat) : List ReplyD := (List.range n).map fun i : Nat => ⟨k + i * 5, k + i * 5 + 1, markL (k + i * 5 + 1 + 1), k + i * 5 + 1 + 1 + 1, k + i * 5 + 1 + 1 + 1 + 1⟩
theorem marksReply_len (k : Int) (n : Nat) : (marksReply k n).length = n := by simp [marksReply]
theorem marksReply_get (k : Int) (n i : Nat) (h : i < n) : (marksReply k n)[i]'(by rw [marksReply_len]; exact h) = ⟨k + i * 5, k + i * 5 + 1, markL (k + i * 5 + 1 + 1), k + i * 5 + 1 + 1 + 1, k + i * 5 + 1 + 1 + 1 + 1⟩ := by simp [marksReply]
end Go.Proofs.Ytmgfokikkhfibab
