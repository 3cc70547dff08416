/- Contracts of chapter 2: the model's FaceOfMethods; FacesUnder. -/
import Derived.Test.YtkoocddbfjaiaaaFace5
namespace Go.Proofs.Ytkoocddbfjaiaaa
set_option linter.unusedVariables false
open Go.RowKit
theorem underK_yes {f : Int} {k : Nat} (h : offersF f (k : Nat) = true) : underK f (k + 1) = underK f k ++ [(k : Int)] := by rw [underK_succ, if_pos h]
theorem underK_no {f : Int} {k : Nat} (h : offersF f (k : Nat) = false) : underK f (k + 1) = underK f k := by rw [underK_succ, if_neg (by simp [h]), List.append_nil]
set_option maxHeartbeats 800000 in
theorem implUnder_any (f : Int) (w : World) :
    Calls Try.prog 15 #[.int .i64 f] w fun e w' => GivesRowI (underL f) w e w' := by
  have HO := Lib.hid (ownsI_new w)
  go_enter Try.func15, Try.ntmps15
  go_wp2_with fail
  go_loopw [3, 4, 6] (fun ov _ i wr => ∃ k : Nat, k ≤ 64 ∧ i = .int .i64 k ∧ OwnsI wr w.heap.size ov (underK f k) ∧ Below w.heap.size w wr) (fun _ _ i _ => 64 - (intOf i).toNat)
  case atStart => exact ⟨0, Nat.zero_le _, rfl, HO.out, (Below.refl _ _).alloc (Nat.le_refl _) _⟩
  case round =>
    obtain ⟨k, hk, rfl, hO, hb⟩ := hrel
    have HO2 := Lib.hid hO
    have HB := Lib.hid hb
    clear hO hb
    by_cases hlt : k < 64
    · have hlen := underK_len f k
      have HC := Lib.hid (implOffers_any f k wr)
      cases hx : offersF f k with
      | true =>
        rw [hx] at HC
        have HS := Lib.hid (underK_yes hx)
        clear hx
        go_wp2_with fail
        refine HC.out.mono ?_
        rintro e w2 ⟨rfl, rfl⟩
        go_wp2_with (at_builtin; (refine append_ints rfl _ _ rfl w.heap.size _ (underK f k) (k : Int) _ wr.heap.size (by rfl) (ownsI_alloc HO2.out _) rfl (cell_new _ _ _) (by omega) (by have := HB.out.size; simp; omega) ?_; intro v' w3 hO1 hg1))
        exact ⟨⟨k + 1, by omega, by go_num, by rw [HS.out]; exact hO1, below_appendI (HB.out.alloc HB.out.size _) (ownsI_alloc HO2.out _) hg1 (by have := HB.out.size; simp; omega)⟩, by simp [intOf]; omega⟩
      | false =>
        rw [hx] at HC
        have HS := Lib.hid (underK_no hx)
        clear hx
        go_wp2_with fail
        refine HC.out.mono ?_
        rintro e w2 ⟨rfl, rfl⟩
        go_wp2_with fail
        exact ⟨⟨k + 1, by omega, by go_num, by rw [HS.out]; exact HO2.out, HB.out⟩, by simp [intOf]; omega⟩
    · have HK := Lib.hid (show k = 64 by omega)
      go_wp2_with fail
      go_ret
      exact ⟨_, rfl, by have h := HO2.out; rw [HK.out] at h; exact h, HB.out⟩
set_option maxHeartbeats 800000 in
theorem specUnder_any (f : Int) (w : World) :
    Calls Try.prog 14 #[.int .i64 f] w fun e w' => GivesRowI (underL f) w e w' := by
  have HO := Lib.hid (ownsI_new w)
  go_enter Try.func14, Try.ntmps14
  go_wp2_with fail
  go_loopw [3, 4] (fun ov i wr => ∃ k : Nat, k ≤ 64 ∧ i = .int .i64 k ∧ OwnsI wr w.heap.size ov (underK f k) ∧ Below w.heap.size w wr) (fun _ i _ => 64 - (intOf i).toNat)
  case atStart => exact ⟨0, Nat.zero_le _, rfl, HO.out, (Below.refl _ _).alloc (Nat.le_refl _) _⟩
  case round =>
    obtain ⟨k, hk, rfl, hO, hb⟩ := hrel
    have HO2 := Lib.hid hO
    have HB := Lib.hid hb
    clear hO hb
    by_cases hlt : k < 64
    · have hlen := underK_len f k
      have HC := Lib.hid (specOffers_any f k wr)
      cases hx : offersF f k with
      | true =>
        rw [hx] at HC
        have HS := Lib.hid (underK_yes hx)
        clear hx
        go_wp2_with fail
        refine HC.out.mono ?_
        rintro e w2 ⟨rfl, rfl⟩
        go_wp2_with (at_builtin; (refine append_ints rfl _ _ rfl w.heap.size _ (underK f k) (k : Int) _ wr.heap.size (by rfl) (ownsI_alloc HO2.out _) rfl (cell_new _ _ _) (by omega) (by have := HB.out.size; simp; omega) ?_; intro v' w3 hO1 hg1))
        exact ⟨⟨k + 1, by omega, by go_num, by rw [HS.out]; exact hO1, below_appendI (HB.out.alloc HB.out.size _) (ownsI_alloc HO2.out _) hg1 (by have := HB.out.size; simp; omega)⟩, by simp [intOf]; omega⟩
      | false =>
        rw [hx] at HC
        have HS := Lib.hid (underK_no hx)
        clear hx
        go_wp2_with fail
        refine HC.out.mono ?_
        rintro e w2 ⟨rfl, rfl⟩
        go_wp2_with fail
        exact ⟨⟨k + 1, by omega, by go_num, by rw [HS.out]; exact HO2.out, HB.out⟩, by simp [intOf]; omega⟩
    · have HK := Lib.hid (show k = 64 by omega)
      go_wp2_with fail
      go_ret
      exact ⟨_, rfl, by have h := HO2.out; rw [HK.out] at h; exact h, HB.out⟩
end Go.Proofs.Ytkoocddbfjaiaaa
