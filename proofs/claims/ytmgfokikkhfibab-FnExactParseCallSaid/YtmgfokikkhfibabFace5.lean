/- Contracts of chapter 2: AbilityOfMethod, FaceOfMethods, FacesUnder. -/
import Derived.Test.YtmgfokikkhfibabFace4
import Derived.Test.YtmgfokikkhfibabFace2
namespace Go.Proofs.Ytmgfokikkhfibab
set_option linter.unusedVariables false
open Go.RowKit
set_option maxHeartbeats 800000 in
theorem implAbilityOfMethod_any (s : ByteArray) (w : World) :
    Calls Try.prog 30 #[.string s] w fun e w' => e = .returned (.int .i64 (abOfM s.data.toList)) ∧ Below w.heap.size w w' := by
  go_enter Try.func30, Try.ntmps30
  go_wp2_with fail
  go_loopw [3, 4] (fun _ i wr => ∃ k : Nat, k ≤ 6 ∧ i = .int .i64 k ∧ findK (fun k => decide (s.data.toList ∈ mthN k)) k (6 - k) = abOfM s.data.toList ∧ Below w.heap.size w wr) (fun _ i _ => 6 - (intOf i).toNat)
  case atStart => exact ⟨0, Nat.zero_le _, rfl, rfl, Below.refl _ _⟩
  case round =>
    obtain ⟨k, hk, rfl, hf, hb⟩ := hrel
    have HF := Lib.hid hf
    have HB := Lib.hid hb
    clear hf hb
    by_cases hlt : k < 6
    · go_wp2_with fail
      refine (implMethods_any k hlt wr).mono ?_
      rintro e w1 ⟨rfl, rfl⟩
      have HC := Lib.hid (contains_any _ (mthN k) s _ (mth_row wr k (mthN k).length))
      have HB1 := Lib.hid (HB.out.alloc HB.out.size (.cells ((mthN k).map strV).toArray 9))
      cases hx : decide (s.data.toList ∈ mthN k) with
      | true =>
        rw [hx] at HC
        have HR := Lib.hid (show (k : Int) = abOfM s.data.toList from by rw [← HF.out]; exact (findK_yes hlt hx).symm)
        clear hx
        go_wp2_with fail
        refine HC.out.mono ?_
        rintro e w2 ⟨rfl, rfl⟩
        go_wp2_with fail
        go_ret
        exact ⟨ret_int HR.out, HB1.out⟩
      | false =>
        rw [hx] at HC
        have HR := Lib.hid (show findK (fun k => decide (s.data.toList ∈ mthN k)) (k + 1) (6 - (k + 1)) = abOfM s.data.toList from by rw [← HF.out]; exact (findK_no hlt hx).symm)
        clear hx
        go_wp2_with fail
        refine HC.out.mono ?_
        rintro e w2 ⟨rfl, rfl⟩
        go_wp2_with fail
        exact ⟨⟨k + 1, by omega, by go_num, HR.out, HB1.out⟩, by simp [intOf]; omega⟩
    · have HR := Lib.hid (show (-1 : Int) = abOfM s.data.toList from by rw [← HF.out, show k = 6 by omega]; exact findK_end.symm)
      go_wp2_with fail
      go_ret
      exact ⟨ret_int HR.out, HB.out⟩
set_option maxHeartbeats 800000 in
theorem specAbilityOfMethod_any (s : ByteArray) (w : World) :
    Calls Try.prog 29 #[.string s] w fun e w' => e = .returned (.int .i64 (abOfM s.data.toList)) ∧ Below w.heap.size w w' := by
  go_enter Try.func29, Try.ntmps29
  go_wp2_with fail
  go_loopw [3] (fun i wr => ∃ k : Nat, k ≤ 6 ∧ i = .int .i64 k ∧ findK (fun k => decide (s.data.toList ∈ mthN k)) k (6 - k) = abOfM s.data.toList ∧ Below w.heap.size w wr) (fun i _ => 6 - (intOf i).toNat)
  case atStart => exact ⟨0, Nat.zero_le _, rfl, rfl, Below.refl _ _⟩
  case round =>
    obtain ⟨k, hk, rfl, hf, hb⟩ := hrel
    have HF := Lib.hid hf
    have HB := Lib.hid hb
    clear hf hb
    by_cases hlt : k < 6
    · go_wp2_with fail
      refine (specMethods_any k hlt wr).mono ?_
      rintro e w1 ⟨rfl, rfl⟩
      have HC := Lib.hid (l1HasText_any _ (mthN k) s _ (mth_row wr k (mthN k).length))
      have HB1 := Lib.hid (HB.out.alloc HB.out.size (.cells ((mthN k).map strV).toArray 9))
      cases hx : decide (s.data.toList ∈ mthN k) with
      | true =>
        rw [hx] at HC
        have HR := Lib.hid (show (k : Int) = abOfM s.data.toList from by rw [← HF.out]; exact (findK_yes hlt hx).symm)
        clear hx
        go_wp2_with fail
        refine HC.out.mono ?_
        rintro e w2 ⟨rfl, rfl⟩
        go_wp2_with fail
        go_ret
        exact ⟨ret_int HR.out, HB1.out⟩
      | false =>
        rw [hx] at HC
        have HR := Lib.hid (show findK (fun k => decide (s.data.toList ∈ mthN k)) (k + 1) (6 - (k + 1)) = abOfM s.data.toList from by rw [← HF.out]; exact (findK_no hlt hx).symm)
        clear hx
        go_wp2_with fail
        refine HC.out.mono ?_
        rintro e w2 ⟨rfl, rfl⟩
        go_wp2_with fail
        exact ⟨⟨k + 1, by omega, by go_num, HR.out, HB1.out⟩, by simp [intOf]; omega⟩
    · have HR := Lib.hid (show (-1 : Int) = abOfM s.data.toList from by rw [← HF.out, show k = 6 by omega]; exact findK_end.symm)
      go_wp2_with fail
      go_ret
      exact ⟨ret_int HR.out, HB.out⟩
theorem rowAt_alloc {w : World} {v : Value} {xs : List Value} (h : RowAt w v xs) (o : Obj) : RowAt (w.alloc o) v xs := h.below ((Below.refl w.heap.size w).alloc (Nat.le_refl _) o) (Nat.le_refl _)
theorem sum_pow' (z : Int) (k : Nat) (hk : k < 6) (h0 : 0 ≤ z) (h1 : z ≤ 63) : Value.int .i64 (wrap64 (z + wrap64 (2 ^ k))) = .int .i64 (z + 2 ^ k) := congrArg _ (sum_pow z k hk h0 h1)
end Go.Proofs.Ytmgfokikkhfibab
