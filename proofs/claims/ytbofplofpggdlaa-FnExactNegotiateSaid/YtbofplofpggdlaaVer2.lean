/- Contracts of chapter 5: Meets, SinceOf, AllowedFace, GainsOf, the program's and the model's. -/
import Derived.Test.YtbofplofpggdlaaVer1
import Derived.Test.YtbofplofpggdlaaVar2
import Derived.Test.YtbofplofpggdlaaLaw
namespace Go.Proofs.Ytbofplofpggdlaa
set_option linter.unusedVariables false
open Go.RowKit
set_option maxHeartbeats 1600000 in
theorem implSince_any (k : Int) (w : World) :
    Calls Try.prog 50 #[.int .i64 k] w fun e w' => e = .returned (sinV k) ∧ Below w.heap.size w w' := by
  unfold sinV
  by_cases hk : k < 0 ∨ 6 ≤ k
  · obtain ⟨h1, h2⟩ := sinceI_out hk
    rw [h1, h2]
    rcases hk with hk | hk
    all_goals
      clear h1 h2
      go_enter Try.func50, Try.ntmps50
      go_wp2
      refine bodyPost_ret (v := .tuple #[.agg #[.int .i64 0, .int .i64 0], .bool false]) (by simp [results, Try.results50, go_sem]) rfl ?_
      exact ⟨rfl, box1 _ _⟩
  · rcases (show k = 0 ∨ k = 1 ∨ k = 2 ∨ k = 3 ∨ k = 4 ∨ k = 5 by omega) with rfl | rfl | rfl | rfl | rfl | rfl
    all_goals
      clear hk
      go_enter Try.func50, Try.ntmps50
      go_wp2
      first | exact bodyPost_ret (v := .tuple #[.agg #[.int .i64 1, .int .i64 0], .bool true]) (by simp [results, Try.results50, go_sem]) rfl ⟨rfl, box1 _ _⟩ | exact bodyPost_ret (v := .tuple #[.agg #[.int .i64 1, .int .i64 1], .bool true]) (by simp [results, Try.results50, go_sem]) rfl ⟨rfl, box1 _ _⟩ | exact bodyPost_ret (v := .tuple #[.agg #[.int .i64 1, .int .i64 2], .bool true]) (by simp [results, Try.results50, go_sem]) rfl ⟨rfl, box1 _ _⟩ | exact bodyPost_ret (v := .tuple #[.agg #[.int .i64 2, .int .i64 0], .bool true]) (by simp [results, Try.results50, go_sem]) rfl ⟨rfl, box1 _ _⟩ | exact bodyPost_ret (v := .tuple #[.agg #[.int .i64 2, .int .i64 1], .bool true]) (by simp [results, Try.results50, go_sem]) rfl ⟨rfl, box1 _ _⟩
theorem implSince_nat (k : Nat) (h : k < 6) (w : World) :
    Calls Try.prog 50 #[.int .i64 k] w fun e w' => e = .returned (.tuple #[vVersion (sinceN k), .bool true]) ∧ Below w.heap.size w w' := by
  have := implSince_any k w
  unfold sinV at this; rw [sinceI_nat, show abB (k : Int) = true from decide_eq_true (by omega)] at this; exact this
set_option maxHeartbeats 1600000 in
theorem specSince_any (k : Int) (w : World) :
    Calls Try.prog 60 #[.int .i64 k] w fun e w' => e = .returned (sinV k) ∧ Below w.heap.size w w' := by
  unfold sinV
  by_cases hk : k < 0 ∨ 6 ≤ k
  · obtain ⟨h1, h2⟩ := sinceI_out hk
    rw [h1, h2]
    rcases hk with hk | hk
    · clear h1 h2
      go_enter Try.func60, Try.ntmps60
      go_wp2
      refine bodyPost_ret (v := .tuple #[.agg #[.int .i64 0, .int .i64 0], .bool false]) (by simp [results, Try.results60, go_sem]) rfl ?_
      exact ⟨rfl, box1 _ _⟩
    · have h0 : 0 ≤ k := by omega
      clear h1 h2
      go_enter Try.func60, Try.ntmps60
      go_wp2
      refine bodyPost_ret (v := .tuple #[.agg #[.int .i64 0, .int .i64 0], .bool false]) (by simp [results, Try.results60, go_sem]) rfl ?_
      exact ⟨rfl, box1 _ _⟩
  · rcases (show k = 0 ∨ k = 1 ∨ k = 2 ∨ k = 3 ∨ k = 4 ∨ k = 5 by omega) with rfl | rfl | rfl | rfl | rfl | rfl
    all_goals
      clear hk
      go_enter Try.func60, Try.ntmps60
      go_wp2
      first | exact bodyPost_ret (v := .tuple #[.agg #[.int .i64 1, .int .i64 0], .bool true]) (by simp [results, Try.results60, go_sem]) rfl ⟨rfl, box2 _ _ _⟩ | exact bodyPost_ret (v := .tuple #[.agg #[.int .i64 1, .int .i64 1], .bool true]) (by simp [results, Try.results60, go_sem]) rfl ⟨rfl, box2 _ _ _⟩ | exact bodyPost_ret (v := .tuple #[.agg #[.int .i64 1, .int .i64 2], .bool true]) (by simp [results, Try.results60, go_sem]) rfl ⟨rfl, box2 _ _ _⟩ | exact bodyPost_ret (v := .tuple #[.agg #[.int .i64 2, .int .i64 0], .bool true]) (by simp [results, Try.results60, go_sem]) rfl ⟨rfl, box2 _ _ _⟩ | exact bodyPost_ret (v := .tuple #[.agg #[.int .i64 2, .int .i64 1], .bool true]) (by simp [results, Try.results60, go_sem]) rfl ⟨rfl, box2 _ _ _⟩
theorem specSince_nat (k : Nat) (h : k < 6) (w : World) :
    Calls Try.prog 60 #[.int .i64 k] w fun e w' => e = .returned (.tuple #[vVersion (sinceN k), .bool true]) ∧ Below w.heap.size w w' := by
  have := specSince_any k w
  unfold sinV at this; rw [sinceI_nat, show abB (k : Int) = true from decide_eq_true (by omega)] at this; exact this
end Go.Proofs.Ytbofplofpggdlaa
