/- Version: what the laws' own helpers do with it. Written by gen/flat.py. -/
import Derived.Test.YtbofplofpggdladFlat
import Derived.StillTailTactics
namespace Go.Proofs.Ytbofplofpggdlad
set_option linter.unusedVariables false
open Go.RowKit
structure VersionD where
  fMajor : Int
  fMinor : Int
deriving DecidableEq
def okVersion (d : VersionD) : Prop := (-9223372036854775808 ≤ d.fMajor ∧ d.fMajor ≤ 9223372036854775807) ∧ (-9223372036854775808 ≤ d.fMinor ∧ d.fMinor ≤ 9223372036854775807)
def vVersion (d : VersionD) : Value := .agg #[.int .i64 d.fMajor, .int .i64 d.fMinor]
def cVersion (d : VersionD) : List Value := [.int .i64 d.fMajor, .int .i64 d.fMinor]
theorem cVersion_len (d : VersionD) : (cVersion d).length = 2 := rfl
theorem cVersion_one (d : VersionD) : ∀ u ∈ cVersion d, u.oneCell' = true := by intro u hu; simp only [cVersion, List.mem_cons, List.not_mem_nil, or_false] at hu; rcases hu with rfl | rfl <;> rfl
set_option maxHeartbeats 800000 in
theorem eqVersion_any (x y : VersionD) (w : World) :
    Calls Try.prog 26 #[vVersion x, vVersion y] w fun e w' => e = .returned (.bool (decide (x = y))) ∧ Below w.heap.size w w' := by
  obtain ⟨a0, a1⟩ := x
  obtain ⟨b0, b1⟩ := y
  unfold vVersion
  by_cases h0 : a0 = b0
  · by_cases h1 : a1 = b1
    · have HN := Lib.hid (show decide ((⟨a0, a1⟩ : VersionD) = (⟨b0, b1⟩ : VersionD)) = true by rw [h0, h1]; simp)
      subst h0 h1
      go_enter Try.func26, Try.ntmps26
      go_wp2
      go_ret
      exact ⟨ret_bool HN.out.symm, ((Below.refl _ _).alloc (Nat.le_refl _) _).alloc (by simp) _⟩
    · have HN := Lib.hid (show decide ((⟨a0, a1⟩ : VersionD) = (⟨b0, b1⟩ : VersionD)) = false by rw [decide_eq_false_iff_not]; exact fun e => h1 (by injection e))
      have hne1 : (a1 == b1) = false := by simpa using h1
      have hnf1 : (a1 != b1) = true := by simpa using h1
      subst h0
      clear h1
      go_enter Try.func26, Try.ntmps26
      go_wp2
      go_ret
      exact ⟨ret_bool HN.out.symm, ((Below.refl _ _).alloc (Nat.le_refl _) _).alloc (by simp) _⟩
  · have HN := Lib.hid (show decide ((⟨a0, a1⟩ : VersionD) = (⟨b0, b1⟩ : VersionD)) = false by rw [decide_eq_false_iff_not]; exact fun e => h0 (by injection e))
    have hne0 : (a0 == b0) = false := by simpa using h0
    have hnf0 : (a0 != b0) = true := by simpa using h0
    clear h0
    go_enter Try.func26, Try.ntmps26
    go_wp2
    go_ret
    exact ⟨ret_bool HN.out.symm, ((Below.refl _ _).alloc (Nat.le_refl _) _).alloc (by simp) _⟩
set_option maxHeartbeats 800000 in
theorem toVersion_any (x : VersionD) (w : World) :
    Calls Try.prog 22 #[vVersion x] w fun e w' => e = .returned (vVersion x) ∧ Below w.heap.size w w' := by
  obtain ⟨a0, a1⟩ := x
  unfold vVersion
  go_enter Try.func22, Try.ntmps22
  go_wp2
  exact bodyPost_ret (v := .agg #[.int .i64 a0, .int .i64 a1]) (by simp [results, Try.results22, go_sem]) rfl ⟨rfl, ((((Below.refl _ _).alloc (Nat.le_refl _) _).alloc (by simp) _).alloc (by simp; try omega) _)⟩
def zVersion (d : VersionD) : Nat := 0
theorem infoVersion : (Try.prog.info? 30).map (fun i => (i.zero, i.size, i.bytes)) = some (some (.agg #[.int .i64 0, .int .i64 0]), 2, 16) := by kernel_rfl
def marksVersion (k : Int) (n : Nat) : List VersionD := (List.range n).map fun i : Nat => ⟨k + i * 2, k + i * 2 + 1⟩
theorem marksVersion_len (k : Int) (n : Nat) : (marksVersion k n).length = n := by simp [marksVersion]
theorem marksVersion_get (k : Int) (n i : Nat) (h : i < n) : (marksVersion k n)[i]'(by rw [marksVersion_len]; exact h) = ⟨k + i * 2, k + i * 2 + 1⟩ := by simp [marksVersion]
end Go.Proofs.Ytbofplofpggdlad
