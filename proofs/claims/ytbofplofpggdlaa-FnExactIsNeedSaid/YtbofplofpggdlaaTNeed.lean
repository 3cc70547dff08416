/- Need: what the laws' own helpers do with it. Written by gen/flat.py. -/
import Derived.Test.YtbofplofpggdlaaFlat
import Derived.Test.YtbofplofpggdlaaTVersion
import Derived.StillTailTactics
namespace Go.Proofs.Ytbofplofpggdlaa
set_option linter.unusedVariables false
open Go.RowKit
structure NeedD where
  fFace : Int
  fFrom : List UInt8
  fMajor : Int
  fMinor : Int
deriving DecidableEq
def okNeed (d : NeedD) : Prop := (-9223372036854775808 ≤ d.fFace ∧ d.fFace ≤ 9223372036854775807) ∧ (d.fFrom.length ≤ maxLen) ∧ (-9223372036854775808 ≤ d.fMajor ∧ d.fMajor ≤ 9223372036854775807) ∧ (-9223372036854775808 ≤ d.fMinor ∧ d.fMinor ≤ 9223372036854775807)
def vNeed (d : NeedD) : Value := .agg #[.int .i64 d.fFace, .string ⟨d.fFrom.toArray⟩, .int .i64 d.fMajor, .int .i64 d.fMinor]
def cNeed (d : NeedD) : List Value := [.int .i64 d.fFace, .string ⟨d.fFrom.toArray⟩, .int .i64 d.fMajor, .int .i64 d.fMinor]
theorem cNeed_len (d : NeedD) : (cNeed d).length = 4 := rfl
theorem cNeed_one (d : NeedD) : ∀ u ∈ cNeed d, u.oneCell' = true := by intro u hu; simp only [cNeed, List.mem_cons, List.not_mem_nil, or_false] at hu; rcases hu with rfl | rfl | rfl | rfl <;> rfl
set_option maxHeartbeats 800000 in
theorem toNeed_any (x : NeedD) (w : World) :
    Calls Try.prog 29 #[vNeed x] w fun e w' => e = .returned (vNeed x) ∧ Below w.heap.size w w' := by
  obtain ⟨a0, a1, a2, a3⟩ := x
  unfold vNeed
  have HC := Lib.hid (toVersion_any ⟨a2, a3⟩)
  simp only [vVersion] at HC
  go_enter Try.func29, Try.ntmps29
  go_wp2_with fail
  refine (HC.out _).mono ?_
  rintro e w1 ⟨rfl, hb⟩
  have HB := Lib.hid (show Below w.heap.size w w1 from ((by repeat (first | exact Below.refl _ _ | refine Below.alloc ?_ (by simp; try omega) _ | refine Below.setCell ?_ (by simp; try omega) _)) : Below w.heap.size w _).trans (hb.mono (by simp; omega)))
  have hcc : ∀ b o, b < _ → w1.cell? ⟨b, o, none⟩ = _ := fun b o h => hb.cell (p := ⟨b, o, none⟩) h
  have hff : ∀ b o, b < _ → w1.frozen? ⟨b, o, none⟩ = _ := fun b o h => hb.frozen (p := ⟨b, o, none⟩) h
  have hsz := hb.size
  simp at hsz
  clear hb
  go_wp2_with fail
  refine bodyPost_ret (v := .agg #[.int .i64 a0, .string ⟨a1.toArray⟩, .int .i64 a2, .int .i64 a3]) (by simp [results, Try.results29, go_sem, hcc]; try rfl) rfl ⟨rfl, ?_⟩
  repeat (refine Below.setCell ?_ (by simp; try omega) _)
  exact HB.out
def zNeed (d : NeedD) : Nat := d.fFrom.length
set_option maxHeartbeats 800000 in
theorem szNeed_any (x : NeedD) (left : Int) (w : World) (h0 : 0 ≤ left) (h1 : left ≤ 1099511627776) (hs : okNeed x) :
    Calls Try.prog 27 #[vNeed x, .int .i64 left] w fun e w' => SzF (zNeed x) left w e w' := by
  obtain ⟨a0, a1, a2, a3⟩ := x
  obtain ⟨hs0, hs1, hs2, hs3⟩ := hs
  simp only [vNeed, zNeed] at *
  unfold maxLen at *
  have HZ1 := Lib.hid (size_strB a1)
  by_cases hn0 : left - (a1.length : Int) < 0
  · go_enter Try.func27, Try.ntmps27
    go_wp2
    go_ret
    exact ⟨-1, rfl, by omega, by omega, (Below.refl _ _).alloc (Nat.le_refl _) _⟩
  · go_enter Try.func27, Try.ntmps27
    go_wp2
    go_ret
    exact ⟨_, rfl, by omega, by push_cast; omega, (Below.refl _ _).alloc (Nat.le_refl _) _⟩
theorem infoNeed : (Try.prog.info? 61).map (fun i => (i.zero, i.size, i.bytes)) = some (some (.agg #[.int .i64 0, .string ⟨#[]⟩, .int .i64 0, .int .i64 0]), 4, 40) := by kernel_rfl
def marksNeed (k : Int) (n : Nat) : List NeedD := (List.range n).map fun i : Nat => ⟨k + i * 4, markL (k + i * 4 + 1), k + i * 4 + 1 + 1, k + i * 4 + 1 + 1 + 1⟩
theorem marksNeed_len (k : Int) (n : Nat) : (marksNeed k n).length = n := by simp [marksNeed]
theorem marksNeed_get (k : Int) (n i : Nat) (h : i < n) : (marksNeed k n)[i]'(by rw [marksNeed_len]; exact h) = ⟨k + i * 4, markL (k + i * 4 + 1), k + i * 4 + 1 + 1, k + i * 4 + 1 + 1 + 1⟩ := by simp [marksNeed]
end Go.Proofs.Ytbofplofpggdlaa
