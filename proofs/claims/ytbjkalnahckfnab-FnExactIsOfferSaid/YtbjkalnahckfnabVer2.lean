/- Contracts of chapter 5: Meets, SinceOf, AllowedFace, GainsOf, the program's and the model's. -/
import Derived.Test.YtbjkalnahckfnabVer1
import Derived.Test.YtbjkalnahckfnabVar2
import Derived.Test.YtbjkalnahckfnabLaw
namespace Go.Proofs.Ytbjkalnahckfnab
set_option linter.unusedVariables false
open Go.RowKit
set_option maxHeartbeats 1600000 in
theorem implMeets_any (x y : VersionD) (w : World) :
    Calls Try.prog 26 #[vVersion x, vVersion y] w fun e w' => e = .returned (.bool (meetsB x y)) ∧ Below w.heap.size w w' := by
  have HR := Lib.hid (meetsB_cmp x y)
  have HC := Lib.hid (implCmp_any x y)
  obtain ⟨a0, a1⟩ := x
  obtain ⟨b0, b1⟩ := y
  unfold vVersion at *
  generalize meetsB ⟨a0, a1⟩ ⟨b0, b1⟩ = res at *
  generalize cmpV ⟨a0, a1⟩ ⟨b0, b1⟩ = r at *
  by_cases h : a0 = b0
  · rw [show (decide (VersionD.fMajor ⟨a0, a1⟩ = VersionD.fMajor ⟨b0, b1⟩)) = true from decide_eq_true h] at HR
    subst h
    by_cases hr : 0 ≤ r
    · rw [decide_eq_true hr] at HR
      go_enter Try.func26, Try.ntmps26
      go_wp2_with fail
      refine (HC.out _).mono ?_
      rintro e w1 ⟨rfl, hb⟩
      go_wp2_with fail
      go_ret
      exact ⟨ret_bool (by rw [HR.out]; first | rfl | (simp; omega)), bel_to (box2 _ _ _) hb⟩
    · rw [decide_eq_false hr] at HR
      go_enter Try.func26, Try.ntmps26
      go_wp2_with fail
      refine (HC.out _).mono ?_
      rintro e w1 ⟨rfl, hb⟩
      go_wp2_with fail
      go_ret
      exact ⟨ret_bool (by rw [HR.out]; first | rfl | (simp; omega)), bel_to (box2 _ _ _) hb⟩
  · rw [show (decide (VersionD.fMajor ⟨a0, a1⟩ = VersionD.fMajor ⟨b0, b1⟩)) = false from decide_eq_false h] at HR
    have h2 : (a0 == b0) = false := by simpa using h
    clear h HC
    go_enter Try.func26, Try.ntmps26
    go_wp2
    go_ret
    exact ⟨ret_bool (by rw [HR.out]; rfl), box2 _ _ _⟩
set_option maxHeartbeats 1600000 in
theorem implSince_any (k : Int) (w : World) :
    Calls Try.prog 38 #[.int .i64 k] w fun e w' => e = .returned (sinV k) ∧ Below w.heap.size w w' := by
  unfold sinV
  by_cases hk : k < 0 ∨ 6 ≤ k
  · obtain ⟨h1, h2⟩ := sinceI_out hk
    rw [h1, h2]
    rcases hk with hk | hk
    all_goals
      clear h1 h2
      go_enter Try.func38, Try.ntmps38
      go_wp2
      refine bodyPost_ret (v := .tuple #[.agg #[.int .i64 0, .int .i64 0], .bool false]) (by simp [results, Try.results38, go_sem]) rfl ?_
      exact ⟨rfl, box1 _ _⟩
  · rcases (show k = 0 ∨ k = 1 ∨ k = 2 ∨ k = 3 ∨ k = 4 ∨ k = 5 by omega) with rfl | rfl | rfl | rfl | rfl | rfl
    all_goals
      clear hk
      go_enter Try.func38, Try.ntmps38
      go_wp2
      first | exact bodyPost_ret (v := .tuple #[.agg #[.int .i64 1, .int .i64 0], .bool true]) (by simp [results, Try.results38, go_sem]) rfl ⟨rfl, box1 _ _⟩ | exact bodyPost_ret (v := .tuple #[.agg #[.int .i64 1, .int .i64 1], .bool true]) (by simp [results, Try.results38, go_sem]) rfl ⟨rfl, box1 _ _⟩ | exact bodyPost_ret (v := .tuple #[.agg #[.int .i64 1, .int .i64 2], .bool true]) (by simp [results, Try.results38, go_sem]) rfl ⟨rfl, box1 _ _⟩ | exact bodyPost_ret (v := .tuple #[.agg #[.int .i64 2, .int .i64 0], .bool true]) (by simp [results, Try.results38, go_sem]) rfl ⟨rfl, box1 _ _⟩ | exact bodyPost_ret (v := .tuple #[.agg #[.int .i64 2, .int .i64 1], .bool true]) (by simp [results, Try.results38, go_sem]) rfl ⟨rfl, box1 _ _⟩
theorem implSince_nat (k : Nat) (h : k < 6) (w : World) :
    Calls Try.prog 38 #[.int .i64 k] w fun e w' => e = .returned (.tuple #[vVersion (sinceN k), .bool true]) ∧ Below w.heap.size w w' := by
  have := implSince_any k w
  unfold sinV at this; rw [sinceI_nat, show abB (k : Int) = true from decide_eq_true (by omega)] at this; exact this
set_option maxHeartbeats 1600000 in
theorem specSince_any (k : Int) (w : World) :
    Calls Try.prog 36 #[.int .i64 k] w fun e w' => e = .returned (sinV k) ∧ Below w.heap.size w w' := by
  unfold sinV
  by_cases hk : k < 0 ∨ 6 ≤ k
  · obtain ⟨h1, h2⟩ := sinceI_out hk
    rw [h1, h2]
    rcases hk with hk | hk
    · clear h1 h2
      go_enter Try.func36, Try.ntmps36
      go_wp2
      refine bodyPost_ret (v := .tuple #[.agg #[.int .i64 0, .int .i64 0], .bool false]) (by simp [results, Try.results36, go_sem]) rfl ?_
      exact ⟨rfl, box1 _ _⟩
    · have h0 : 0 ≤ k := by omega
      clear h1 h2
      go_enter Try.func36, Try.ntmps36
      go_wp2
      refine bodyPost_ret (v := .tuple #[.agg #[.int .i64 0, .int .i64 0], .bool false]) (by simp [results, Try.results36, go_sem]) rfl ?_
      exact ⟨rfl, box1 _ _⟩
  · rcases (show k = 0 ∨ k = 1 ∨ k = 2 ∨ k = 3 ∨ k = 4 ∨ k = 5 by omega) with rfl | rfl | rfl | rfl | rfl | rfl
    all_goals
      clear hk
      go_enter Try.func36, Try.ntmps36
      go_wp2
      first | exact bodyPost_ret (v := .tuple #[.agg #[.int .i64 1, .int .i64 0], .bool true]) (by simp [results, Try.results36, go_sem]) rfl ⟨rfl, box2 _ _ _⟩ | exact bodyPost_ret (v := .tuple #[.agg #[.int .i64 1, .int .i64 1], .bool true]) (by simp [results, Try.results36, go_sem]) rfl ⟨rfl, box2 _ _ _⟩ | exact bodyPost_ret (v := .tuple #[.agg #[.int .i64 1, .int .i64 2], .bool true]) (by simp [results, Try.results36, go_sem]) rfl ⟨rfl, box2 _ _ _⟩ | exact bodyPost_ret (v := .tuple #[.agg #[.int .i64 2, .int .i64 0], .bool true]) (by simp [results, Try.results36, go_sem]) rfl ⟨rfl, box2 _ _ _⟩ | exact bodyPost_ret (v := .tuple #[.agg #[.int .i64 2, .int .i64 1], .bool true]) (by simp [results, Try.results36, go_sem]) rfl ⟨rfl, box2 _ _ _⟩
theorem specSince_nat (k : Nat) (h : k < 6) (w : World) :
    Calls Try.prog 36 #[.int .i64 k] w fun e w' => e = .returned (.tuple #[vVersion (sinceN k), .bool true]) ∧ Below w.heap.size w w' := by
  have := specSince_any k w
  unfold sinV at this; rw [sinceI_nat, show abB (k : Int) = true from decide_eq_true (by omega)] at this; exact this
end Go.Proofs.Ytbjkalnahckfnab
