/- The model's IsCall, method by method: three more. Written by gen/ch3calls.py. -/
import Derived.Test.YtmgfokikkhfibabCall2
import Derived.Test.YtmgfokikkhfibabTCore
namespace Go.Proofs.Ytmgfokikkhfibab
set_option linter.unusedVariables false
open Go.RowKit
set_option maxRecDepth 100000 in
set_option maxHeartbeats 3200000 in
theorem specIsCall_Put (key : List UInt8) (v : Int) (text : List UInt8) (w : World) (hk : key.length ≤ maxLen) :
    Calls Try.prog 12 #[.agg #[.string ⟨#[80, 117, 116]⟩, .string ⟨key.toArray⟩, .int .i64 v, .string ⟨text.toArray⟩]] w fun e w' => e = .returned (.bool (callB ⟨mPut, key, v, text⟩)) ∧ Below w.heap.size w w' := by
  have HR := Lib.hid (show callB ⟨mPut, key, v, text⟩ = (nameB key && numB v && (text.isEmpty || false)) from rfl)
  have HW := Lib.hid (show ∀ w0, Calls Try.prog 9 #[.string ⟨#[80, 117, 116]⟩] w0 fun e w' => e = .returned (.int .i64 2) ∧ Below w0.heap.size w0 w' from fun w0 => specWant_b mPut 2 rfl w0)
  have HN := Lib.hid (specIsName_b key _ rfl hk)
  generalize callB ⟨mPut, key, v, text⟩ = res at *
  generalize nameB key = kn at *
  clear hk
  have HB0 := Lib.hid (show ∀ o, Below w.heap.size w (w.alloc o) from fun o => (Below.refl w.heap.size w).alloc (Nat.le_refl _) o)
  go_enter Try.func12, Try.ntmps12
  go_wp2_with fail
  refine (HW.out _).mono ?_
  rintro e w1 ⟨rfl, hb⟩
  have HB := Lib.hid ((HB0.out _).trans (hb.mono (HB0.out _).size))
  obtain ⟨hcc, _⟩ := bcell hb
  simp at hcc
  have c0 := hcc w.heap.size 0 (by omega)
  have c1 := hcc w.heap.size 1 (by omega)
  have c2 := hcc w.heap.size 2 (by omega)
  have c3 := hcc w.heap.size 3 (by omega)
  simp at c0 c1 c2 c3
  clear hb hcc
  cases kn <;> cases text
  all_goals
    by_cases h0 : v = 0
    · subst h0
      rw [show numB 0 = true from rfl] at HR
      go_wp2_with (first | (go_at_call 31; (with_reducible refine (HN.out _).mono ?_); rintro e w' ⟨rfl, rfl⟩))
      go_ret
      exact ⟨ret_bool (by rw [HR.out]; rfl), HB.out⟩
    · have hv0 : (v == 0) = false := by simpa using h0
      by_cases h1 : v < 0
      · rw [show numB v = false by simp [numB]; omega] at HR
        have hv1 : decide (0 < v) = false := decide_eq_false (by omega)
        clear h0
        go_wp2_with (first | (go_at_call 31; (with_reducible refine (HN.out _).mono ?_); rintro e w' ⟨rfl, rfl⟩))
        go_ret
        exact ⟨ret_bool (by rw [HR.out]; rfl), HB.out⟩
      · by_cases h2 : 999 < v
        · rw [show numB v = false by simp [numB]; omega] at HR
          have hv1 : decide (0 < v) = true := decide_eq_true (by omega)
          have hv2 : decide (v ≤ 999) = false := decide_eq_false (by omega)
          clear h0
          go_wp2_with (first | (go_at_call 31; (with_reducible refine (HN.out _).mono ?_); rintro e w' ⟨rfl, rfl⟩))
          go_ret
          exact ⟨ret_bool (by rw [HR.out]; rfl), HB.out⟩
        · rw [show numB v = true by simp [numB]; omega] at HR
          have hv1 : decide (0 < v) = true := decide_eq_true (by omega)
          have hv2 : decide (v ≤ 999) = true := decide_eq_true (by omega)
          have hv3 : 0 < v := by omega
          have hv4 : v ≤ 999 := by omega
          clear h0
          go_wp2_with (first | (go_at_call 31; (with_reducible refine (HN.out _).mono ?_); rintro e w' ⟨rfl, rfl⟩))
          go_ret
          exact ⟨ret_bool (by rw [HR.out]; rfl), HB.out⟩
set_option maxRecDepth 100000 in
set_option maxHeartbeats 3200000 in
theorem specIsCall_Tell (key : List UInt8) (v : Int) (text : List UInt8) (w : World) (hk : key.length ≤ maxLen) :
    Calls Try.prog 12 #[.agg #[.string ⟨#[84, 101, 108, 108]⟩, .string ⟨key.toArray⟩, .int .i64 v, .string ⟨text.toArray⟩]] w fun e w' => e = .returned (.bool (callB ⟨mTell, key, v, text⟩)) ∧ Below w.heap.size w w' := by
  have HR := Lib.hid (show callB ⟨mTell, key, v, text⟩ = (key.isEmpty && (v == 0) && (text.isEmpty || false)) from rfl)
  have HW := Lib.hid (show ∀ w0, Calls Try.prog 9 #[.string ⟨#[84, 101, 108, 108]⟩] w0 fun e w' => e = .returned (.int .i64 4) ∧ Below w0.heap.size w0 w' from fun w0 => specWant_b mTell 4 rfl w0)
  generalize callB ⟨mTell, key, v, text⟩ = res at *
  clear hk
  have HB0 := Lib.hid (show ∀ o, Below w.heap.size w (w.alloc o) from fun o => (Below.refl w.heap.size w).alloc (Nat.le_refl _) o)
  go_enter Try.func12, Try.ntmps12
  go_wp2_with fail
  refine (HW.out _).mono ?_
  rintro e w1 ⟨rfl, hb⟩
  have HB := Lib.hid ((HB0.out _).trans (hb.mono (HB0.out _).size))
  obtain ⟨hcc, _⟩ := bcell hb
  simp at hcc
  have c0 := hcc w.heap.size 0 (by omega)
  have c1 := hcc w.heap.size 1 (by omega)
  have c2 := hcc w.heap.size 2 (by omega)
  have c3 := hcc w.heap.size 3 (by omega)
  simp at c0 c1 c2 c3
  clear hb hcc
  cases key <;> cases text
  all_goals
    by_cases h0 : v = 0
    · subst h0
      go_wp2_with fail
      go_ret
      exact ⟨ret_bool (by rw [HR.out]; rfl), HB.out⟩
    · have hv0 : (v == 0) = false := by simpa using h0
      rw [hv0] at HR
      clear h0
      go_wp2_with fail
      go_ret
      exact ⟨ret_bool (by rw [HR.out]; rfl), HB.out⟩
set_option maxRecDepth 100000 in
set_option maxHeartbeats 3200000 in
theorem specIsCall_Hear (key : List UInt8) (v : Int) (text : List UInt8) (w : World) (hk : key.length ≤ maxLen) :
    Calls Try.prog 12 #[.agg #[.string ⟨#[72, 101, 97, 114]⟩, .string ⟨key.toArray⟩, .int .i64 v, .string ⟨text.toArray⟩]] w fun e w' => e = .returned (.bool (callB ⟨mHear, key, v, text⟩)) ∧ Below w.heap.size w w' := by
  have HR := Lib.hid (show callB ⟨mHear, key, v, text⟩ = (key.isEmpty && numB v && (text.isEmpty || false)) from rfl)
  have HW := Lib.hid (show ∀ w0, Calls Try.prog 9 #[.string ⟨#[72, 101, 97, 114]⟩] w0 fun e w' => e = .returned (.int .i64 8) ∧ Below w0.heap.size w0 w' from fun w0 => specWant_b mHear 8 rfl w0)
  generalize callB ⟨mHear, key, v, text⟩ = res at *
  clear hk
  have HB0 := Lib.hid (show ∀ o, Below w.heap.size w (w.alloc o) from fun o => (Below.refl w.heap.size w).alloc (Nat.le_refl _) o)
  go_enter Try.func12, Try.ntmps12
  go_wp2_with fail
  refine (HW.out _).mono ?_
  rintro e w1 ⟨rfl, hb⟩
  have HB := Lib.hid ((HB0.out _).trans (hb.mono (HB0.out _).size))
  obtain ⟨hcc, _⟩ := bcell hb
  simp at hcc
  have c0 := hcc w.heap.size 0 (by omega)
  have c1 := hcc w.heap.size 1 (by omega)
  have c2 := hcc w.heap.size 2 (by omega)
  have c3 := hcc w.heap.size 3 (by omega)
  simp at c0 c1 c2 c3
  clear hb hcc
  cases key <;> cases text
  all_goals
    by_cases h0 : v = 0
    · subst h0
      rw [show numB 0 = true from rfl] at HR
      go_wp2_with fail
      go_ret
      exact ⟨ret_bool (by rw [HR.out]; rfl), HB.out⟩
    · have hv0 : (v == 0) = false := by simpa using h0
      by_cases h1 : v < 0
      · rw [show numB v = false by simp [numB]; omega] at HR
        have hv1 : decide (0 < v) = false := decide_eq_false (by omega)
        clear h0
        go_wp2_with fail
        go_ret
        exact ⟨ret_bool (by rw [HR.out]; rfl), HB.out⟩
      · by_cases h2 : 999 < v
        · rw [show numB v = false by simp [numB]; omega] at HR
          have hv1 : decide (0 < v) = true := decide_eq_true (by omega)
          have hv2 : decide (v ≤ 999) = false := decide_eq_false (by omega)
          clear h0
          go_wp2_with fail
          go_ret
          exact ⟨ret_bool (by rw [HR.out]; rfl), HB.out⟩
        · rw [show numB v = true by simp [numB]; omega] at HR
          have hv1 : decide (0 < v) = true := decide_eq_true (by omega)
          have hv2 : decide (v ≤ 999) = true := decide_eq_true (by omega)
          have hv3 : 0 < v := by omega
          have hv4 : v ≤ 999 := by omega
          clear h0
          go_wp2_with fail
          go_ret
          exact ⟨ret_bool (by rw [HR.out]; rfl), HB.out⟩
end Go.Proofs.Ytmgfokikkhfibab
