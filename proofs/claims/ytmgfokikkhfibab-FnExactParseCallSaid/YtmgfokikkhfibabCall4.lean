/- The model's IsCall, method by method: three of them. Written by gen/ch3calls.py. -/
import Derived.Test.YtmgfokikkhfibabCall2
import Derived.Test.YtmgfokikkhfibabTCore
namespace Go.Proofs.Ytmgfokikkhfibab
set_option linter.unusedVariables false
open Go.RowKit
set_option maxRecDepth 100000 in
set_option maxHeartbeats 3200000 in
theorem specIsCall_Start (key : List UInt8) (v : Int) (text : List UInt8) (w : World) (hk : key.length ≤ maxLen) :
    Calls Try.prog 12 #[.agg #[.string ⟨#[83, 116, 97, 114, 116]⟩, .string ⟨key.toArray⟩, .int .i64 v, .string ⟨text.toArray⟩]] w fun e w' => e = .returned (.bool (callB ⟨mStart, key, v, text⟩)) ∧ Below w.heap.size w w' := by
  have HR := Lib.hid (show callB ⟨mStart, key, v, text⟩ = (key.isEmpty && (v == 0) && (text.isEmpty || false)) from rfl)
  have HW := Lib.hid (show ∀ w0, Calls Try.prog 9 #[.string ⟨#[83, 116, 97, 114, 116]⟩] w0 fun e w' => e = .returned (.int .i64 1) ∧ Below w0.heap.size w0 w' from fun w0 => specWant_b mStart 1 rfl w0)
  generalize callB ⟨mStart, key, v, text⟩ = res at *
  clear hk
  have HB0 := Lib.hid (show ∀ o, Below w.heap.size w (w.alloc o) from fun o => (Below.refl w.heap.size w).alloc (Nat.le_refl _) o)
  go_enter Try.func12, Try.ntmps12
  go_wp2_with fail
  refine (HW.out _).mono ?_
  rintro e w1 ⟨rfl, hb⟩
  have HB := Lib.hid ((HB0.out _).trans (hb.mono (HB0.out _).size))
  obtain ⟨hcc, _⟩ := bcell hb
  simp at hcc
  have c0 := hcc w.heap.size 0 (by omega)
  have c1 := hcc w.heap.size 1 (by omega)
  have c2 := hcc w.heap.size 2 (by omega)
  have c3 := hcc w.heap.size 3 (by omega)
  simp at c0 c1 c2 c3
  clear hb hcc
  cases key <;> cases text
  all_goals
    by_cases h0 : v = 0
    · subst h0
      go_wp2_with fail
      go_ret
      exact ⟨ret_bool (by rw [HR.out]; rfl), HB.out⟩
    · have hv0 : (v == 0) = false := by simpa using h0
      rw [hv0] at HR
      clear h0
      go_wp2_with fail
      go_ret
      exact ⟨ret_bool (by rw [HR.out]; rfl), HB.out⟩
set_option maxRecDepth 100000 in
set_option maxHeartbeats 3200000 in
theorem specIsCall_Stop (key : List UInt8) (v : Int) (text : List UInt8) (w : World) (hk : key.length ≤ maxLen) :
    Calls Try.prog 12 #[.agg #[.string ⟨#[83, 116, 111, 112]⟩, .string ⟨key.toArray⟩, .int .i64 v, .string ⟨text.toArray⟩]] w fun e w' => e = .returned (.bool (callB ⟨mStop, key, v, text⟩)) ∧ Below w.heap.size w w' := by
  have HR := Lib.hid (show callB ⟨mStop, key, v, text⟩ = (key.isEmpty && (v == 0) && (text.isEmpty || false)) from rfl)
  have HW := Lib.hid (show ∀ w0, Calls Try.prog 9 #[.string ⟨#[83, 116, 111, 112]⟩] w0 fun e w' => e = .returned (.int .i64 1) ∧ Below w0.heap.size w0 w' from fun w0 => specWant_b mStop 1 rfl w0)
  generalize callB ⟨mStop, key, v, text⟩ = res at *
  clear hk
  have HB0 := Lib.hid (show ∀ o, Below w.heap.size w (w.alloc o) from fun o => (Below.refl w.heap.size w).alloc (Nat.le_refl _) o)
  go_enter Try.func12, Try.ntmps12
  go_wp2_with fail
  refine (HW.out _).mono ?_
  rintro e w1 ⟨rfl, hb⟩
  have HB := Lib.hid ((HB0.out _).trans (hb.mono (HB0.out _).size))
  obtain ⟨hcc, _⟩ := bcell hb
  simp at hcc
  have c0 := hcc w.heap.size 0 (by omega)
  have c1 := hcc w.heap.size 1 (by omega)
  have c2 := hcc w.heap.size 2 (by omega)
  have c3 := hcc w.heap.size 3 (by omega)
  simp at c0 c1 c2 c3
  clear hb hcc
  cases key <;> cases text
  all_goals
    by_cases h0 : v = 0
    · subst h0
      go_wp2_with fail
      go_ret
      exact ⟨ret_bool (by rw [HR.out]; rfl), HB.out⟩
    · have hv0 : (v == 0) = false := by simpa using h0
      rw [hv0] at HR
      clear h0
      go_wp2_with fail
      go_ret
      exact ⟨ret_bool (by rw [HR.out]; rfl), HB.out⟩
set_option maxRecDepth 100000 in
set_option maxHeartbeats 3200000 in
theorem specIsCall_Get (key : List UInt8) (v : Int) (text : List UInt8) (w : World) (hk : key.length ≤ maxLen) :
    Calls Try.prog 12 #[.agg #[.string ⟨#[71, 101, 116]⟩, .string ⟨key.toArray⟩, .int .i64 v, .string ⟨text.toArray⟩]] w fun e w' => e = .returned (.bool (callB ⟨mGet, key, v, text⟩)) ∧ Below w.heap.size w w' := by
  have HR := Lib.hid (show callB ⟨mGet, key, v, text⟩ = (nameB key && (v == 0) && (text.isEmpty || false)) from rfl)
  have HW := Lib.hid (show ∀ w0, Calls Try.prog 9 #[.string ⟨#[71, 101, 116]⟩] w0 fun e w' => e = .returned (.int .i64 2) ∧ Below w0.heap.size w0 w' from fun w0 => specWant_b mGet 2 rfl w0)
  have HN := Lib.hid (specIsName_b key _ rfl hk)
  generalize callB ⟨mGet, key, v, text⟩ = res at *
  generalize nameB key = kn at *
  clear hk
  have HB0 := Lib.hid (show ∀ o, Below w.heap.size w (w.alloc o) from fun o => (Below.refl w.heap.size w).alloc (Nat.le_refl _) o)
  go_enter Try.func12, Try.ntmps12
  go_wp2_with fail
  refine (HW.out _).mono ?_
  rintro e w1 ⟨rfl, hb⟩
  have HB := Lib.hid ((HB0.out _).trans (hb.mono (HB0.out _).size))
  obtain ⟨hcc, _⟩ := bcell hb
  simp at hcc
  have c0 := hcc w.heap.size 0 (by omega)
  have c1 := hcc w.heap.size 1 (by omega)
  have c2 := hcc w.heap.size 2 (by omega)
  have c3 := hcc w.heap.size 3 (by omega)
  simp at c0 c1 c2 c3
  clear hb hcc
  cases kn <;> cases text
  all_goals
    by_cases h0 : v = 0
    · subst h0
      go_wp2_with (first | (go_at_call 31; (with_reducible refine (HN.out _).mono ?_); rintro e w' ⟨rfl, rfl⟩))
      go_ret
      exact ⟨ret_bool (by rw [HR.out]; rfl), HB.out⟩
    · have hv0 : (v == 0) = false := by simpa using h0
      rw [hv0] at HR
      clear h0
      go_wp2_with (first | (go_at_call 31; (with_reducible refine (HN.out _).mono ?_); rintro e w' ⟨rfl, rfl⟩))
      go_ret
      exact ⟨ret_bool (by rw [HR.out]; rfl), HB.out⟩
end Go.Proofs.Ytmgfokikkhfibab
