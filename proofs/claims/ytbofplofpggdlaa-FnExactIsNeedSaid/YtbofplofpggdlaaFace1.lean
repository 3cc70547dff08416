/- Contracts of chapter 2, the functions that only reckon. -/
import Derived.Test.YtbofplofpggdlaaFaceP
import Derived.Test.YtbofplofpggdlaaL01a
import Derived.Test.YtbofplofpggdlaaLaw
import Derived.WalkSpells
import Derived.WalkLawsBesides
import Derived.Lib.Hide
import Derived.Lib.Bytes
import Derived.Deep.QuietTactic
import Derived.BigQuiet
namespace Go.Proofs.Ytbofplofpggdlaa
set_option linter.unusedVariables false
open Go.RowKit
theorem ret_strL {a b : List UInt8} (h : a = b) : Ending.returned (.string ⟨a.toArray⟩) = .returned (.string ⟨b.toArray⟩) := by rw [h]
set_option maxHeartbeats 400000 in
theorem specIsFace_any (f : Int) (w : World) :
    Calls Try.prog 52 #[.int .i64 f] w fun e w' => e = .returned (.bool (isF f)) ∧ w = w' := by
  by_cases h0 : f < 0
  · go_enter Try.func52, Try.ntmps52
    go_wp2
    go_ret
    exact ⟨ret_bool (by simp [isF]; omega), rfl⟩
  · go_enter Try.func52, Try.ntmps52
    go_wp2
    go_ret
    exact ⟨ret_bool (by simp [isF]; omega), rfl⟩
theorem specIsFace_b (f : Int) (x : Bool) (h : isF f = x) (w : World) :
    Calls Try.prog 52 #[.int .i64 f] w fun e w' => e = .returned (.bool x) ∧ w = w' := by
  subst h; exact specIsFace_any f w
set_option maxHeartbeats 400000 in
theorem implIsFace_any (f : Int) (w : World) :
    Calls Try.prog 56 #[.int .i64 f] w fun e w' => e = .returned (.bool (isF f)) ∧ w = w' := by
  by_cases h0 : f < 0
  · go_enter Try.func56, Try.ntmps56
    go_wp2
    go_ret
    exact ⟨ret_bool (by simp [isF]; omega), rfl⟩
  · go_enter Try.func56, Try.ntmps56
    go_wp2
    go_ret
    exact ⟨ret_bool (by simp [isF]; omega), rfl⟩
theorem implIsFace_b (f : Int) (x : Bool) (h : isF f = x) (w : World) :
    Calls Try.prog 56 #[.int .i64 f] w fun e w' => e = .returned (.bool x) ∧ w = w' := by
  subst h; exact implIsFace_any f w
set_option maxHeartbeats 400000 in
theorem areFaces_b (a b : Int) (x y : Bool) (hx : isF a = x) (hy : isF b = y) (w : World) :
    Calls Try.prog 47 #[.int .i64 a, .int .i64 b] w fun e w' => e = .returned (.bool (x && y)) ∧ w = w' := by
  have HA := Lib.hid (implIsFace_b a x hx)
  have HB := Lib.hid (implIsFace_b b y hy)
  clear hx hy
  cases x <;> cases y
  all_goals
    go_enter Try.func47, Try.ntmps47
    go_wp2_with (first | (go_at_call 56; (with_reducible refine (HA.out _).mono ?_); rintro e w' ⟨rfl, rfl⟩) | (go_at_call 56; (with_reducible refine (HB.out _).mono ?_); rintro e w' ⟨rfl, rfl⟩))
    go_ret
    exact ⟨rfl, rfl⟩
set_option maxHeartbeats 400000 in
theorem l2Has_any (f : Int) (k : Nat) (w : World) (hf : isF f = true) (hk : k < 6) :
    Calls Try.prog 73 #[.int .i64 f, .int .i64 k] w fun e w' => e = .returned (.bool (hasI f k)) ∧ w = w' := by
  obtain ⟨h0, h1⟩ := isF_yes hf
  clear hf
  rcases (show k = 0 ∨ k = 1 ∨ k = 2 ∨ k = 3 ∨ k = 4 ∨ k = 5 by omega) with rfl | rfl | rfl | rfl | rfl | rfl
  all_goals
    clear hk
    go_enter Try.func73, Try.ntmps73
    go_wp2
    go_ret
    exact ⟨ret_bool (by rw [Bool.eq_iff_iff]; simp [hasI]), rfl⟩
theorem l2Has_b (f : Int) (k : Nat) (x : Bool) (h : hasI f k = x) (hf : isF f = true) (hk : k < 6) (w : World) :
    Calls Try.prog 73 #[.int .i64 f, .int .i64 k] w fun e w' => e = .returned (.bool x) ∧ w = w' := by
  subst h; exact l2Has_any f k w hf hk
def selB (how : Int) (x y : Bool) : Bool := (decide (how = 0) && x && y) || (decide (how = 1) && (x || y)) || (decide (how = 2) && x && !y)
def madeF (how a b : Int) : Int := if isF a = true ∧ isF b = true then madeK (fun k => selB how (hasI a k) (hasI b k)) 6 else 0
theorem madeF_no (how a b : Int) (h : isF a = false ∨ isF b = false) : madeF how a b = 0 := by
  unfold madeF; rw [if_neg]; rintro ⟨h1, h2⟩; rcases h with h | h <;> simp_all
theorem w64 {x : Int} (h0 : -9223372036854775808 ≤ x) (h1 : x ≤ 9223372036854775807) : wrap64 x = x := by unfold wrap64; omega
theorem pow_bd (k : Nat) (hk : k < 6) : (0 : Int) < 2 ^ k ∧ (2 : Int) ^ k ≤ 32 := by
  rcases (show k = 0 ∨ k = 1 ∨ k = 2 ∨ k = 3 ∨ k = 4 ∨ k = 5 by omega) with rfl | rfl | rfl | rfl | rfl | rfl <;> decide
theorem pow_of (k : Nat) (hk : k < 6) : wrap64 (2 ^ k) = 2 ^ k := by have := pow_bd k hk; exact w64 (by omega) (by omega)
theorem sum_pow (z : Int) (k : Nat) (hk : k < 6) (h0 : 0 ≤ z) (h1 : z ≤ 63) : wrap64 (z + wrap64 (2 ^ k)) = z + 2 ^ k := by
  have := pow_bd k hk; rw [pow_of k hk]; exact w64 (by omega) (by omega)
set_option maxHeartbeats 800000 in
theorem l2Made_any (how a b : Int) (w : World) (hh : how = 0 ∨ how = 1 ∨ how = 2) :
    Calls Try.prog 59 #[.int .i64 a, .int .i64 b, .int .i64 how] w fun e w' => e = .returned (.int .i64 (madeF how a b)) ∧ w = w' := by
  cases ha : isF a with
  | false =>
    have HF := Lib.hid (madeF_no how a b (Or.inl ha))
    have HA := Lib.hid (specIsFace_b a false ha)
    clear ha hh
    go_enter Try.func59, Try.ntmps59
    go_wp2_with (go_at_call 52; (with_reducible refine (HA.out _).mono ?_); rintro e w' ⟨rfl, rfl⟩)
    go_ret
    exact ⟨ret_int HF.out.symm, rfl⟩
  | true =>
    cases hb : isF b with
    | false =>
      have HF := Lib.hid (madeF_no how a b (Or.inr hb))
      have HA := Lib.hid (specIsFace_b a true ha)
      have HB := Lib.hid (specIsFace_b b false hb)
      clear ha hb hh
      go_enter Try.func59, Try.ntmps59
      go_wp2_with (first | (go_at_call 52; (with_reducible refine (HA.out _).mono ?_); rintro e w' ⟨rfl, rfl⟩) | (go_at_call 52; (with_reducible refine (HB.out _).mono ?_); rintro e w' ⟨rfl, rfl⟩))
      go_ret
      exact ⟨ret_int HF.out.symm, rfl⟩
    | true =>
      have HF := Lib.hid (show madeF how a b = madeK (fun k => selB how (hasI a k) (hasI b k)) 6 from if_pos ⟨ha, hb⟩)
      have HA := Lib.hid (specIsFace_b a true ha)
      have HB := Lib.hid (specIsFace_b b true hb)
      have HA1 := Lib.hid ha
      have HB1 := Lib.hid hb
      clear ha hb
      go_enter Try.func59, Try.ntmps59
      go_wp2_with (first | (go_at_call 52; (with_reducible refine (HA.out _).mono ?_); rintro e w' ⟨rfl, rfl⟩) | (go_at_call 52; (with_reducible refine (HB.out _).mono ?_); rintro e w' ⟨rfl, rfl⟩))
      go_loop [7, 8, 9, 10] (fun f i _ _ => ∃ k : Nat, k ≤ 6 ∧ i = .int .i64 k ∧ f = .int .i64 (madeK (fun k => selB how (hasI a k) (hasI b k)) k)) (fun _ i _ _ => 6 - (intOf i).toNat)
      case atStart => exact ⟨0, Nat.zero_le _, rfl, rfl⟩
      case round =>
        obtain ⟨k, hk, rfl, rfl⟩ := hrel
        by_cases hlt : k < 6
        · have hm := madeK_step (fun k => selB how (hasI a k) (hasI b k)) k hlt
          have HS := Lib.hid (show madeK (fun k => selB how (hasI a k) (hasI b k)) (k + 1) = madeK (fun k => selB how (hasI a k) (hasI b k)) k + if selB how (hasI a k) (hasI b k) = true then 2 ^ k else 0 from rfl)
          generalize madeK (fun k => selB how (hasI a k) (hasI b k)) k = z at *
          have HP := Lib.hid (sum_pow z k hlt hm.1 hm.2)
          cases hx : hasI a k <;> cases hy : hasI b k
          all_goals
            have HX := Lib.hid (l2Has_b a k _ hx HA1.out hlt)
            have HY := Lib.hid (l2Has_b b k _ hy HB1.out hlt)
            rw [hx, hy] at HS
            clear hx hy
            rcases hh with rfl | rfl | rfl
          all_goals
            go_wp2_with (first | (go_at_call 73; (with_reducible refine (HX.out _).mono ?_); rintro e w' ⟨rfl, rfl⟩) | (go_at_call 73; (with_reducible refine (HY.out _).mono ?_); rintro e w' ⟨rfl, rfl⟩))
            go_round
            case rel =>
              refine ⟨k + 1, by omega, by go_num, ?_⟩
              rw [HS.out]
              first
                | (rw [if_neg (by decide), Int.add_zero]; done)
                | (rw [if_pos (by decide)]; exact congrArg (Value.int .i64) HP.out)
            case measure => simp [intOf]; omega
        · have : k = 6 := by omega
          subst this
          go_wp2
          go_ret
          exact ⟨ret_int HF.out.symm, rfl⟩
end Go.Proofs.Ytbofplofpggdlaa
