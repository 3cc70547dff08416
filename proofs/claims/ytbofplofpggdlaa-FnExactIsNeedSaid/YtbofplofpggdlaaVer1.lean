/- Contracts of chapter 5: IsVersion, CompareVersions, Meets, the program's and the model's. -/
import Derived.Test.YtbofplofpggdlaaVerP
import Derived.Test.YtbofplofpggdlaaFace1
namespace Go.Proofs.Ytbofplofpggdlaa
set_option linter.unusedVariables false
open Go.RowKit
theorem box1 (w : World) (o) : Below w.heap.size w (w.alloc o) := (Below.refl _ _).alloc (Nat.le_refl _) o
theorem box2 (w : World) (o p) : Below w.heap.size w ((w.alloc o).alloc p) := ((Below.refl _ _).alloc (Nat.le_refl _) o).alloc (by simp) p
set_option maxHeartbeats 400000 in
theorem vn_any (n : Int) (w : World) :
    Calls Try.prog 68 #[.int .i64 n] w fun e w' => e = .returned (.bool (vnB n)) ∧ w = w' := by
  by_cases h0 : n < 0
  · go_enter Try.func68, Try.ntmps68
    go_wp2
    go_ret
    exact ⟨ret_bool (by simp [vnB]; omega), rfl⟩
  · go_enter Try.func68, Try.ntmps68
    go_wp2
    go_ret
    exact ⟨ret_bool (by simp [vnB]; omega), rfl⟩
theorem vn_b (n : Int) (x : Bool) (h : vnB n = x) (w : World) :
    Calls Try.prog 68 #[.int .i64 n] w fun e w' => e = .returned (.bool x) ∧ w = w' := by subst h; exact vn_any n w
set_option maxHeartbeats 800000 in
theorem implIsVer_any (d : VersionD) (w : World) :
    Calls Try.prog 49 #[vVersion d] w fun e w' => e = .returned (.bool (verB d)) ∧ Below w.heap.size w w' := by
  obtain ⟨a, b⟩ := d
  unfold vVersion verB
  simp only
  have HA := Lib.hid (vn_b a)
  have HB := Lib.hid (vn_b b)
  generalize vnB a = x at *
  generalize vnB b = y at *
  have HA := Lib.hid (HA.out x rfl)
  have HB := Lib.hid (HB.out y rfl)
  cases x <;> cases y
  all_goals
    go_enter Try.func49, Try.ntmps49
    go_wp2_with (first | (go_at_call 68; (with_reducible refine (HA.out _).mono ?_); rintro e w' ⟨rfl, rfl⟩) | (go_at_call 68; (with_reducible refine (HB.out _).mono ?_); rintro e w' ⟨rfl, rfl⟩))
    go_ret
    exact ⟨rfl, box1 _ _⟩
theorem implIsVer_b (d : VersionD) (x : Bool) (h : verB d = x) (w : World) :
    Calls Try.prog 49 #[vVersion d] w fun e w' => e = .returned (.bool x) ∧ Below w.heap.size w w' := by subst h; exact implIsVer_any d w
set_option maxHeartbeats 1600000 in
theorem specIsVer_any (d : VersionD) (w : World) :
    Calls Try.prog 54 #[vVersion d] w fun e w' => e = .returned (.bool (verB d)) ∧ Below w.heap.size w w' := by
  obtain ⟨a, b⟩ := d
  unfold vVersion verB
  simp only
  have HR := Lib.hid (show (vnB a && vnB b) = (decide (0 ≤ a) && decide (a ≤ 99) && (decide (0 ≤ b) && decide (b ≤ 99))) by unfold vnB; simp)
  rcases (show a < 0 ∨ 99 < a ∨ (0 ≤ a ∧ a ≤ 99) by omega) with h | h | ⟨h, h1⟩
  · rw [show decide (0 ≤ a) = false from decide_eq_false (by omega)] at HR
    go_enter Try.func54, Try.ntmps54
    go_wp2
    go_ret
    exact ⟨ret_bool (by rw [HR.out]; rfl), box1 _ _⟩
  · rw [show decide (0 ≤ a) = true from decide_eq_true (by omega), show decide (a ≤ 99) = false from decide_eq_false (by omega)] at HR
    have h0 : 0 ≤ a := by omega
    go_enter Try.func54, Try.ntmps54
    go_wp2
    go_ret
    exact ⟨ret_bool (by rw [HR.out]; rfl), box1 _ _⟩
  · rw [decide_eq_true h, decide_eq_true h1] at HR
    rcases (show b < 0 ∨ 99 < b ∨ (0 ≤ b ∧ b ≤ 99) by omega) with h2 | h2 | ⟨h2, h3⟩
    · rw [show decide (0 ≤ b) = false from decide_eq_false (by omega)] at HR
      go_enter Try.func54, Try.ntmps54
      go_wp2
      go_ret
      exact ⟨ret_bool (by rw [HR.out]; rfl), box1 _ _⟩
    · rw [show decide (0 ≤ b) = true from decide_eq_true (by omega), show decide (b ≤ 99) = false from decide_eq_false (by omega)] at HR
      have h4 : 0 ≤ b := by omega
      have h5 : decide (b ≤ 99) = false := decide_eq_false (by omega)
      go_enter Try.func54, Try.ntmps54
      go_wp2
      go_ret
      exact ⟨ret_bool (by rw [HR.out]; first | rfl | (rw [h5]; rfl)), box1 _ _⟩
    · rw [decide_eq_true h2, decide_eq_true h3] at HR
      go_enter Try.func54, Try.ntmps54
      go_wp2
      go_ret
      exact ⟨ret_bool (by rw [HR.out]; rfl), box1 _ _⟩
theorem specIsVer_b (d : VersionD) (x : Bool) (h : verB d = x) (w : World) :
    Calls Try.prog 54 #[vVersion d] w fun e w' => e = .returned (.bool x) ∧ Below w.heap.size w w' := by subst h; exact specIsVer_any d w
set_option maxHeartbeats 400000 in
theorem isNaN_any (x : Int) (w : World) : Calls Try.prog 66 #[.int .i64 x] w fun e w' => e = .returned (.bool false) ∧ w = w' := by
  go_enter Try.func66, Try.ntmps66
  go_wp2
  go_ret
  exact ⟨ret_bool (by simp), rfl⟩
set_option maxHeartbeats 1600000 in
theorem compare_any (x y : Int) (w : World) : Calls Try.prog 45 #[.int .i64 x, .int .i64 y] w fun e w' => e = .returned (.int .i64 (Lib.compareInt x y)) ∧ w = w' := by
  have HX := Lib.hid (isNaN_any x)
  have HY := Lib.hid (isNaN_any y)
  rcases cmpI_cases x y with ⟨h1, h2⟩ | ⟨h1, h2⟩ | ⟨h1, h2⟩
  all_goals
    have HR := Lib.hid h2
    clear h2
    try subst h1
    go_enter Try.func45, Try.ntmps45
    go_wp2_with (first | (go_at_call 66; (with_reducible refine (HX.out _).mono ?_); rintro e w' ⟨rfl, rfl⟩) | (go_at_call 66; (with_reducible refine (HY.out _).mono ?_); rintro e w' ⟨rfl, rfl⟩))
    go_ret
    exact ⟨ret_int HR.out.symm, rfl⟩
theorem compare_b (x y r : Int) (h : Lib.compareInt x y = r) (w : World) : Calls Try.prog 45 #[.int .i64 x, .int .i64 y] w fun e w' => e = .returned (.int .i64 r) ∧ w = w' := by subst h; exact compare_any x y w
set_option maxHeartbeats 1600000 in
theorem implCmp_any (x y : VersionD) (w : World) :
    Calls Try.prog 22 #[vVersion x, vVersion y] w fun e w' => e = .returned (.int .i64 (cmpV x y)) ∧ Below w.heap.size w w' := by
  obtain ⟨a0, a1⟩ := x
  obtain ⟨b0, b1⟩ := y
  unfold vVersion cmpV
  simp only
  rcases cmpI_cases a0 b0 with ⟨h1, h2⟩ | ⟨h1, h2⟩ | ⟨h1, h2⟩
  · have HM := Lib.hid (compare_b a0 b0 _ h2)
    rw [if_neg (by omega), h2]
    clear h1 h2
    go_enter Try.func22, Try.ntmps22
    go_wp2_with (first | (go_at_call 45; (with_reducible refine (HM.out _).mono ?_); rintro e w' ⟨rfl, rfl⟩))
    go_ret
    exact ⟨rfl, box2 _ _ _⟩
  · have HM := Lib.hid (compare_b a0 b0 _ h2)
    have HN := Lib.hid (compare_b a1 b1 _ rfl)
    rw [if_pos h1]
    clear h1 h2
    generalize Lib.compareInt a1 b1 = r at *
    go_enter Try.func22, Try.ntmps22
    go_wp2_with (first | (go_at_call 45; (with_reducible refine (HM.out _).mono ?_); rintro e w' ⟨rfl, rfl⟩) | (go_at_call 45; (with_reducible refine (HN.out _).mono ?_); rintro e w' ⟨rfl, rfl⟩))
    go_ret
    exact ⟨rfl, box2 _ _ _⟩
  · have HM := Lib.hid (compare_b a0 b0 _ h2)
    rw [if_neg (by omega), h2]
    clear h1 h2
    go_enter Try.func22, Try.ntmps22
    go_wp2_with (first | (go_at_call 45; (with_reducible refine (HM.out _).mono ?_); rintro e w' ⟨rfl, rfl⟩))
    go_ret
    exact ⟨rfl, box2 _ _ _⟩
theorem implCmp_b (x y : VersionD) (r : Int) (h : cmpV x y = r) (w : World) :
    Calls Try.prog 22 #[vVersion x, vVersion y] w fun e w' => e = .returned (.int .i64 r) ∧ Below w.heap.size w w' := by subst h; exact implCmp_any x y w
set_option maxHeartbeats 1600000 in
theorem specCmp_any (x y : VersionD) (w : World) :
    Calls Try.prog 58 #[vVersion x, vVersion y] w fun e w' => e = .returned (.int .i64 (cmpV x y)) ∧ Below w.heap.size w w' := by
  obtain ⟨a0, a1⟩ := x
  obtain ⟨b0, b1⟩ := y
  rcases cmpV_cases ⟨a0, a1⟩ ⟨b0, b1⟩ with ⟨h, e⟩ | ⟨h, e⟩ | ⟨h, e⟩
  · rw [e]
    clear e
    unfold vVersion
    simp only at *
    rcases h with h | ⟨h, h2⟩
    · go_enter Try.func58, Try.ntmps58
      go_wp2
      go_ret
      exact ⟨rfl, box2 _ _ _⟩
    · subst h
      go_enter Try.func58, Try.ntmps58
      go_wp2
      go_ret
      exact ⟨rfl, box2 _ _ _⟩
  · rw [e]
    clear e
    injection h with h h2
    subst h h2
    unfold vVersion
    go_enter Try.func58, Try.ntmps58
    go_wp2
    go_ret
    exact ⟨rfl, box2 _ _ _⟩
  · rw [e]
    clear e
    unfold vVersion
    simp only at *
    rcases h with h | ⟨h, h2⟩
    · have h3 : (a0 == b0) = false := by simp; omega
      go_enter Try.func58, Try.ntmps58
      go_wp2
      go_ret
      exact ⟨rfl, box2 _ _ _⟩
    · subst h
      have h3 : (a1 == b1) = false := by simp; omega
      go_enter Try.func58, Try.ntmps58
      go_wp2
      go_ret
      exact ⟨rfl, box2 _ _ _⟩
theorem specCmp_b (x y : VersionD) (r : Int) (h : cmpV x y = r) (w : World) :
    Calls Try.prog 58 #[vVersion x, vVersion y] w fun e w' => e = .returned (.int .i64 r) ∧ Below w.heap.size w w' := by subst h; exact specCmp_any x y w
end Go.Proofs.Ytbofplofpggdlaa
