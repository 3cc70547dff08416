/- Contracts of chapter 2: both, either, lacking, offers. -/
import Derived.Test.YtmoliamenekemaaFace1
namespace Go.Proofs.Ytmoliamenekemaa
set_option linter.unusedVariables false
open Go.RowKit
theorem selB_0 : ∀ x y : Bool, selB 0 x y = (x && y) := by decide
theorem selB_1 : ∀ x y : Bool, selB 1 x y = (x || y) := by decide
theorem selB_2 : ∀ x y : Bool, selB 2 x y = (x && !y) := by decide
theorem madeF_0 (a b : Int) : madeF 0 a b = bothF a b := by
  unfold madeF bothF; rw [show (fun k => selB 0 (hasI a k) (hasI b k)) = bothP a b from funext fun k => selB_0 _ _]
theorem madeF_1 (a b : Int) : madeF 1 a b = eitherF a b := by
  unfold madeF eitherF; rw [show (fun k => selB 1 (hasI a k) (hasI b k)) = eitherP a b from funext fun k => selB_1 _ _]
theorem madeF_2 (f want : Int) : madeF 2 want f = lackF f want := by
  unfold madeF lackF
  rw [show (fun k => selB 2 (hasI want k) (hasI f k)) = lackP want f from funext fun k => selB_2 _ _]
  by_cases h : isF f = true ∧ isF want = true
  · rw [if_pos h, if_pos ⟨h.2, h.1⟩]
  · rw [if_neg h, if_neg (fun h2 => h ⟨h2.2, h2.1⟩)]
theorem bothF_bd (a b : Int) : 0 ≤ bothF a b ∧ bothF a b ≤ 63 := by unfold bothF; split; exact madeK_6 _; omega
theorem eitherF_bd (a b : Int) : 0 ≤ eitherF a b ∧ eitherF a b ≤ 63 := by unfold eitherF; split; exact madeK_6 _; omega
theorem lackF_bd (a b : Int) : 0 ≤ lackF a b ∧ lackF a b ≤ 63 := by unfold lackF; split; exact madeK_6 _; omega
theorem offersF_no {f want : Int} {k : Nat} (hk : k < 6) (hf : isF f = true) (hw : isF want = true) (h : lackP want f k = true) : offersF f want = false := by
  unfold offersF lackF
  rw [if_pos ⟨hf, hw⟩, hf, hw]
  have : madeK (lackP want f) 6 ≠ 0 := fun e => by have := (madeK_zero _ 6).1 e k hk; rw [h] at this; cases this
  simp [this]
theorem offersF_yes {f want : Int} (hf : isF f = true) (hw : isF want = true) (h : ∀ j, j < 6 → lackP want f j = false) : offersF f want = true := by
  unfold offersF lackF
  rw [if_pos ⟨hf, hw⟩, hf, hw, (madeK_zero _ 6).2 h]; rfl
theorem offersF_not {f want : Int} (h : isF f = false ∨ isF want = false) : offersF f want = false := by
  unfold offersF; rcases h with h | h <;> rw [h] <;> simp
theorem bothF_eq {a b : Int} (h : (isF a && isF b) = true) : bits .and .i64 a b = bothF a b := by
  rw [Bool.and_eq_true] at h; unfold bothF; rw [if_pos h, and_eq h.1 h.2]
theorem eitherF_eq {a b : Int} (h : (isF a && isF b) = true) : bits .or .i64 a b = eitherF a b := by
  rw [Bool.and_eq_true] at h; unfold eitherF; rw [if_pos h, or_eq h.1 h.2]
theorem lackF_eq {a b : Int} (h : (isF a && isF b) = true) : bits .andNot .i64 b a = lackF a b := by
  rw [Bool.and_eq_true] at h; unfold lackF; rw [if_pos h, andNot_eq h.2 h.1]
theorem bothF_non {a b : Int} (h : (isF a && isF b) = false) : bothF a b = 0 := by
  unfold bothF; rw [if_neg]; rintro ⟨h1, h2⟩; rw [h1, h2] at h; cases h
theorem eitherF_non {a b : Int} (h : (isF a && isF b) = false) : eitherF a b = 0 := by
  unfold eitherF; rw [if_neg]; rintro ⟨h1, h2⟩; rw [h1, h2] at h; cases h
theorem lackF_non {a b : Int} (h : (isF a && isF b) = false) : lackF a b = 0 := by
  unfold lackF; rw [if_neg]; rintro ⟨h1, h2⟩; rw [h1, h2] at h; cases h
theorem areFaces_x (a b : Int) (x : Bool) (h : (isF a && isF b) = x) (w : World) :
    Calls Try.prog 74 #[.int .i64 a, .int .i64 b] w fun e w' => e = .returned (.bool x) ∧ w = w' := by
  subst h; exact areFaces_b a b _ _ rfl rfl w
set_option maxHeartbeats 400000 in
theorem implLacking_any (a b : Int) (w : World) :
    Calls Try.prog 75 #[.int .i64 a, .int .i64 b] w fun e w' => e = .returned (.int .i64 (lackF a b)) ∧ w = w' := by
  cases h : (isF a && isF b) with
  | false =>
    have HF := Lib.hid (lackF_non h)
    have HA := Lib.hid (areFaces_x a b _ h)
    clear h
    go_enter Try.func75, Try.ntmps75
    go_wp2_with (go_at_call 74; (with_reducible refine (HA.out _).mono ?_); rintro e w' ⟨rfl, rfl⟩)
    go_ret
    exact ⟨ret_int HF.out.symm, rfl⟩
  | true =>
    have HF := Lib.hid (lackF_eq h)
    have HA := Lib.hid (areFaces_x a b _ h)
    clear h
    go_enter Try.func75, Try.ntmps75
    go_wp2_with (go_at_call 74; (with_reducible refine (HA.out _).mono ?_); rintro e w' ⟨rfl, rfl⟩)
    go_ret
    exact ⟨ret_int HF.out, rfl⟩
set_option maxHeartbeats 400000 in
theorem implOffers_any (f want : Int) (w : World) :
    Calls Try.prog 42 #[.int .i64 f, .int .i64 want] w fun e w' => e = .returned (.bool (offersF f want)) ∧ w = w' := by
  cases h : (isF f && isF want) with
  | false =>
    have HF := Lib.hid (show offersF f want = false by unfold offersF; rw [h]; rfl)
    have HA := Lib.hid (areFaces_x f want _ h)
    clear h
    go_enter Try.func42, Try.ntmps42
    go_wp2_with (go_at_call 74; (with_reducible refine (HA.out _).mono ?_); rintro e w' ⟨rfl, rfl⟩)
    go_ret
    exact ⟨ret_bool HF.out.symm, rfl⟩
  | true =>
    have HF := Lib.hid (show offersF f want = (lackF f want == 0) by unfold offersF; rw [h]; rfl)
    have HA := Lib.hid (areFaces_x f want _ h)
    have HL := Lib.hid (implLacking_any f want)
    clear h
    generalize lackF f want = z at *
    go_enter Try.func42, Try.ntmps42
    go_wp2_with (first | (go_at_call 74; (with_reducible refine (HA.out _).mono ?_); rintro e w' ⟨rfl, rfl⟩) | (go_at_call 75; (with_reducible refine (HL.out _).mono ?_); rintro e w' ⟨rfl, rfl⟩))
    go_ret
    exact ⟨ret_bool HF.out.symm, rfl⟩
set_option maxHeartbeats 800000 in
theorem specOffers_any (f want : Int) (w : World) :
    Calls Try.prog 36 #[.int .i64 f, .int .i64 want] w fun e w' => e = .returned (.bool (offersF f want)) ∧ w = w' := by
  cases ha : isF f with
  | false =>
    have HF := Lib.hid (offersF_not (f := f) (want := want) (Or.inl ha))
    have HA := Lib.hid (specIsFace_b f false ha)
    clear ha
    go_enter Try.func36, Try.ntmps36
    go_wp2_with (go_at_call 67; (with_reducible refine (HA.out _).mono ?_); rintro e w' ⟨rfl, rfl⟩)
    go_ret
    exact ⟨ret_bool HF.out.symm, rfl⟩
  | true =>
    cases hb : isF want with
    | false =>
      have HF := Lib.hid (offersF_not (f := f) (want := want) (Or.inr hb))
      have HA := Lib.hid (specIsFace_b f true ha)
      have HB := Lib.hid (specIsFace_b want false hb)
      clear ha hb
      go_enter Try.func36, Try.ntmps36
      go_wp2_with (first | (go_at_call 67; (with_reducible refine (HA.out _).mono ?_); rintro e w' ⟨rfl, rfl⟩) | (go_at_call 67; (with_reducible refine (HB.out _).mono ?_); rintro e w' ⟨rfl, rfl⟩))
      go_ret
      exact ⟨ret_bool HF.out.symm, rfl⟩
    | true =>
      have HA := Lib.hid (specIsFace_b f true ha)
      have HB := Lib.hid (specIsFace_b want true hb)
      have HA1 := Lib.hid ha
      have HB1 := Lib.hid hb
      clear ha hb
      go_enter Try.func36, Try.ntmps36
      go_wp2_with (first | (go_at_call 67; (with_reducible refine (HA.out _).mono ?_); rintro e w' ⟨rfl, rfl⟩) | (go_at_call 67; (with_reducible refine (HB.out _).mono ?_); rintro e w' ⟨rfl, rfl⟩))
      go_loop [5] (fun i => ∃ k : Nat, k ≤ 6 ∧ i = .int .i64 k ∧ ∀ j, j < k → lackP want f j = false) (fun i => 6 - (intOf i).toNat)
      case atStart => exact ⟨0, Nat.zero_le _, rfl, fun j hj => by omega⟩
      case round =>
        obtain ⟨k, hk, rfl, hall⟩ := hrel
        have HALL := Lib.hid hall
        clear hall
        by_cases hlt : k < 6
        · cases hx : hasI want k <;> cases hy : hasI f k
          all_goals
            have HX := Lib.hid (l2Has_b want k _ hx HB1.out hlt)
            have HY := Lib.hid (l2Has_b f k _ hy HA1.out hlt)
            have HP := Lib.hid (show lackP want f k = _ by unfold lackP; rw [hx, hy])
            clear hx hy
            go_wp2_with (first | (go_at_call 65; (with_reducible refine (HX.out _).mono ?_); rintro e w' ⟨rfl, rfl⟩) | (go_at_call 65; (with_reducible refine (HY.out _).mono ?_); rintro e w' ⟨rfl, rfl⟩))
            first
              | (go_ret
                 exact ⟨ret_bool (offersF_no hlt HA1.out HB1.out HP.out).symm, rfl⟩)
              | (go_round
                 case rel =>
                   refine ⟨k + 1, by omega, by go_num, fun j hj => ?_⟩
                   rcases Nat.lt_or_ge j k with h | h
                   · exact HALL.out j h
                   · have : j = k := by omega
                     subst this; exact HP.out
                 case measure => simp [intOf]; omega)
        · have : k = 6 := by omega
          subst this
          have HF := Lib.hid (offersF_yes HA1.out HB1.out HALL.out)
          go_wp2
          go_ret
          exact ⟨ret_bool HF.out.symm, rfl⟩
end Go.Proofs.Ytmoliamenekemaa
