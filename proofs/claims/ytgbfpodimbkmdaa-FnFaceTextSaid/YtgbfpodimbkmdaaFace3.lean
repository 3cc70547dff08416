/- Contracts of chapter 2: names of abilities, methods of abilities. -/
import Derived.Test.YtgbfpodimbkmdaaFace1
import Derived.Test.YtgbfpodimbkmdaaStr
namespace Go.Proofs.Ytgbfpodimbkmdaa
set_option linter.unusedVariables false
open Go.RowKit
theorem abNI_nat (k : Nat) : abNI (k : Int) = abN k := by unfold abNI; rw [if_neg (by omega)]; simp
set_option maxHeartbeats 400000 in
theorem implAbilityName_any (k : Int) (w : World) :
    Calls Try.prog 23 #[.int .i64 k] w fun e w' => e = .returned (.string ⟨(abNI k).toArray⟩) ∧ w = w' := by
  by_cases hk : k < 0 ∨ 6 ≤ k
  · have HN := Lib.hid (abNI_out hk)
    rcases hk with hk | hk
    all_goals
      go_enter Try.func23, Try.ntmps23
      go_wp2
      go_ret
      exact ⟨ret_strL HN.out.symm, rfl⟩
  · rcases (show k = 0 ∨ k = 1 ∨ k = 2 ∨ k = 3 ∨ k = 4 ∨ k = 5 by omega) with rfl | rfl | rfl | rfl | rfl | rfl
    all_goals
      clear hk
      go_enter Try.func23, Try.ntmps23
      go_wp2
      go_ret
      exact ⟨rfl, rfl⟩
theorem implAbilityName_nat (k : Nat) (w : World) :
    Calls Try.prog 23 #[.int .i64 k] w fun e w' => e = .returned (.string ⟨(abN k).toArray⟩) ∧ w = w' := by
  have h := implAbilityName_any k w; rw [abNI_nat] at h; exact h
/-- the model's list of names -/
def namesV : List Value := [strV (abN 0), strV (abN 1), strV (abN 2), strV (abN 3), strV (abN 4), strV (abN 5)]
def GivesNames (w : World) (e : Ending) (w' : World) : Prop := e = .returned (.slice (some ⟨w.heap.size, 0, none⟩) 6 6) ∧ w' = w.alloc (.cells namesV.toArray 9)
set_option maxHeartbeats 400000 in
theorem l2Names_any (w : World) : Calls Try.prog 48 #[] w fun e w' => GivesNames w e w' := by
  go_enter Try.func48, Try.ntmps48
  go_wp2
  go_ret
  exact ⟨rfl, rfl⟩
theorem names_cell (w : World) (k : Nat) (hk : k < 6) : (w.alloc (.cells namesV.toArray 9)).cell? ⟨w.heap.size, k, none⟩ = some (strV (abN k)) := by
  rw [cell_of_row _ _ k _ 9 (0, 0) (heap_alloc_new w _)]
  rcases (show k = 0 ∨ k = 1 ∨ k = 2 ∨ k = 3 ∨ k = 4 ∨ k = 5 by omega) with rfl | rfl | rfl | rfl | rfl | rfl <;> rfl
set_option maxHeartbeats 400000 in
theorem specAbilityName_any (k : Int) (w : World) :
    Calls Try.prog 36 #[.int .i64 k] w fun e w' => e = .returned (.string ⟨(abNI k).toArray⟩) ∧ Below w.heap.size w w' := by
  by_cases hk : k < 0 ∨ 6 ≤ k
  · have HN := Lib.hid (abNI_out hk)
    by_cases h0 : k < 0
    · clear hk
      go_enter Try.func36, Try.ntmps36
      go_wp2
      go_ret
      exact ⟨ret_strL HN.out.symm, Below.refl _ _⟩
    · have h6 : 6 ≤ k := by omega
      clear hk
      go_enter Try.func36, Try.ntmps36
      go_wp2
      go_ret
      exact ⟨ret_strL HN.out.symm, Below.refl _ _⟩
  · obtain ⟨j, rfl⟩ := Int.eq_ofNat_of_zero_le (show 0 ≤ k by omega)
    have hj : j < 6 := by omega
    clear hk
    rw [abNI_nat]
    have d1 := names_cell w j hj
    unfold strV at d1
    have HD := Lib.hid d1
    clear d1
    go_enter Try.func36, Try.ntmps36
    go_wp2_with fail
    refine (l2Names_any w).mono ?_
    rintro e w1 ⟨rfl, rfl⟩
    have d1 := HD.out
    go_wp2_with fail
    go_ret
    exact ⟨rfl, (Below.refl _ _).alloc (Nat.le_refl _) _⟩
set_option maxHeartbeats 400000 in
theorem implAbilityOf_any (s : ByteArray) (w : World) :
    Calls Try.prog 24 #[.string s] w fun e w' => e = .returned (.int .i64 (abOf s.data.toList)) ∧ w = w' := by
  go_enter Try.func24, Try.ntmps24
  go_wp2_with fail
  go_loop [3, 4] (fun _ i => ∃ k : Nat, k ≤ 6 ∧ i = .int .i64 k ∧ findK (fun k => abN k == s.data.toList) k (6 - k) = abOf s.data.toList) (fun _ i => 6 - (intOf i).toNat)
  case atStart => exact ⟨0, Nat.zero_le _, rfl, rfl⟩
  case round =>
    obtain ⟨k, hk, rfl, hf⟩ := hrel
    have HF := Lib.hid hf
    clear hf
    by_cases hlt : k < 6
    · cases heq : (abN k == s.data.toList) with
      | true =>
        have HR := Lib.hid (show (k : Int) = abOf s.data.toList from by rw [← HF.out]; exact (findK_yes hlt heq).symm)
        have hbeq : (abN k == s.toList) = true := by rw [Lib.toList_data]; exact heq
        clear heq
        go_wp2_with fail
        refine (implAbilityName_nat k _).mono ?_
        rintro e w1 ⟨rfl, rfl⟩
        go_wp2_with fail
        go_ret
        exact ⟨ret_int HR.out, rfl⟩
      | false =>
        have HR := Lib.hid (show findK (fun k => abN k == s.data.toList) (k + 1) (6 - (k + 1)) = abOf s.data.toList from by rw [← HF.out]; exact (findK_no hlt heq).symm)
        have hbeq : (abN k == s.toList) = false := by rw [Lib.toList_data]; exact heq
        clear heq
        go_wp2_with fail
        refine (implAbilityName_nat k _).mono ?_
        rintro e w1 ⟨rfl, rfl⟩
        go_wp2_with fail
        exact ⟨⟨k + 1, by omega, by go_num, HR.out⟩, by simp [intOf]; omega⟩
    · have HR := Lib.hid (show (-1 : Int) = abOf s.data.toList from by rw [← HF.out, show k = 6 by omega]; exact findK_end.symm)
      go_wp2_with fail
      go_ret
      exact ⟨ret_int HR.out, rfl⟩
end Go.Proofs.Ytgbfpodimbkmdaa
