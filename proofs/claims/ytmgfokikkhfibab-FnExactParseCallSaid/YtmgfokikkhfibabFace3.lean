/- Contracts of chapter 2: names of abilities, methods of abilities. -/
import Derived.Test.YtmgfokikkhfibabFace1
import Derived.Test.YtmgfokikkhfibabStr
namespace Go.Proofs.Ytmgfokikkhfibab
set_option linter.unusedVariables false
open Go.RowKit
theorem abNI_nat (k : Nat) : abNI (k : Int) = abN k := by unfold abNI; rw [if_neg (by omega)]; simp
set_option maxHeartbeats 400000 in
theorem implAbilityName_any (k : Int) (w : World) :
    Calls Try.prog 72 #[.int .i64 k] w fun e w' => e = .returned (.string ⟨(abNI k).toArray⟩) ∧ w = w' := by
  by_cases hk : k < 0 ∨ 6 ≤ k
  · have HN := Lib.hid (abNI_out hk)
    rcases hk with hk | hk
    all_goals
      go_enter Try.func72, Try.ntmps72
      go_wp2
      go_ret
      exact ⟨ret_strL HN.out.symm, rfl⟩
  · rcases (show k = 0 ∨ k = 1 ∨ k = 2 ∨ k = 3 ∨ k = 4 ∨ k = 5 by omega) with rfl | rfl | rfl | rfl | rfl | rfl
    all_goals
      clear hk
      go_enter Try.func72, Try.ntmps72
      go_wp2
      go_ret
      exact ⟨rfl, rfl⟩
theorem implAbilityName_nat (k : Nat) (w : World) :
    Calls Try.prog 72 #[.int .i64 k] w fun e w' => e = .returned (.string ⟨(abN k).toArray⟩) ∧ w = w' := by
  have h := implAbilityName_any k w; rw [abNI_nat] at h; exact h
/-- the model's list of names -/
def namesV : List Value := [strV (abN 0), strV (abN 1), strV (abN 2), strV (abN 3), strV (abN 4), strV (abN 5)]
def GivesNames (w : World) (e : Ending) (w' : World) : Prop := e = .returned (.slice (some ⟨w.heap.size, 0, none⟩) 6 6) ∧ w' = w.alloc (.cells namesV.toArray 9)
set_option maxHeartbeats 400000 in
theorem l2Names_any (w : World) : Calls Try.prog 76 #[] w fun e w' => GivesNames w e w' := by
  go_enter Try.func76, Try.ntmps76
  go_wp2
  go_ret
  exact ⟨rfl, rfl⟩
theorem names_cell (w : World) (k : Nat) (hk : k < 6) : (w.alloc (.cells namesV.toArray 9)).cell? ⟨w.heap.size, k, none⟩ = some (strV (abN k)) := by
  rw [cell_of_row _ _ k _ 9 (0, 0) (heap_alloc_new w _)]
  rcases (show k = 0 ∨ k = 1 ∨ k = 2 ∨ k = 3 ∨ k = 4 ∨ k = 5 by omega) with rfl | rfl | rfl | rfl | rfl | rfl <;> rfl
set_option maxHeartbeats 400000 in
theorem specAbilityName_any (k : Int) (w : World) :
    Calls Try.prog 70 #[.int .i64 k] w fun e w' => e = .returned (.string ⟨(abNI k).toArray⟩) ∧ Below w.heap.size w w' := by
  by_cases hk : k < 0 ∨ 6 ≤ k
  · have HN := Lib.hid (abNI_out hk)
    by_cases h0 : k < 0
    · clear hk
      go_enter Try.func70, Try.ntmps70
      go_wp2
      go_ret
      exact ⟨ret_strL HN.out.symm, Below.refl _ _⟩
    · have h6 : 6 ≤ k := by omega
      clear hk
      go_enter Try.func70, Try.ntmps70
      go_wp2
      go_ret
      exact ⟨ret_strL HN.out.symm, Below.refl _ _⟩
  · obtain ⟨j, rfl⟩ := Int.eq_ofNat_of_zero_le (show 0 ≤ k by omega)
    have hj : j < 6 := by omega
    clear hk
    rw [abNI_nat]
    have d1 := names_cell w j hj
    unfold strV at d1
    have HD := Lib.hid d1
    clear d1
    go_enter Try.func70, Try.ntmps70
    go_wp2_with fail
    refine (l2Names_any w).mono ?_
    rintro e w1 ⟨rfl, rfl⟩
    have d1 := HD.out
    go_wp2_with fail
    go_ret
    exact ⟨rfl, (Below.refl _ _).alloc (Nat.le_refl _) _⟩
end Go.Proofs.Ytmgfokikkhfibab
