/- The model's l3Do, method by method. Written by gen/ch3doS.py. -/
import Derived.Test.YtghebbndfpbkcaaGreatCallCoreLawM2
import Derived.Test.YtghebbndfpbkcaaGreatCallCoreLawM0
import Derived.Test.YtghebbndfpbkcaaGreatCallCoreLawM1
import Derived.Shelf.Spec.SlicesInsert
import Derived.Lib.Overlaps
import Derived.Laws.CopyRow
import Derived.Lib.AppendZerosOnto
import Derived.Laws.NewBlocks
import Derived.Test.YtghebbndfpbkcaaGreatProg
import Derived.Deep.RegionHeld3
/- The program's IsCall, method by method: three more. Written by gen/ch3calls.py. -/
namespace Go.Proofs.YtghebbndfpbkcaaGreat
set_option linter.unusedVariables false
open Go.RowKit
set_option maxRecDepth 100000 in
set_option maxHeartbeats 3200000 in
theorem implIsCall_Put (key : List UInt8) (v : Int) (text : List UInt8) (w : World) (hk : key.length ≤ maxLen) :
    Calls Tryz.prog 69 #[.agg #[.string ⟨#[80, 117, 116]⟩, .string ⟨key.toArray⟩, .int .i64 v, .string ⟨text.toArray⟩]] w fun e w' => e = .returned (.bool (callB ⟨mPut, key, v, text⟩)) ∧ Below w.heap.size w w' := by
  have HR := Lib.hid (show callB ⟨mPut, key, v, text⟩ = (nameB key && numB v && (text.isEmpty || false)) from rfl)
  have HW := Lib.hid (show ∀ w0, Calls Tryz.prog 96 #[.string ⟨#[80, 117, 116]⟩] w0 fun e w' => e = .returned (.int .i64 2) ∧ Below w0.heap.size w0 w' from fun w0 => implWant_b mPut 2 rfl w0)
  have HN := Lib.hid (implIsName_b key _ rfl hk)
  have HTK := Lib.hid (show ∀ w0, Calls Tryz.prog 97 #[.string ⟨#[80, 117, 116]⟩] w0 fun e w' => e = .returned (.bool true) ∧ w0 = w' from takesKey_b mPut _ rfl)
  have HTV := Lib.hid (show ∀ w0, Calls Tryz.prog 98 #[.string ⟨#[80, 117, 116]⟩] w0 fun e w' => e = .returned (.bool true) ∧ w0 = w' from takesValue_b mPut _ rfl)
  have HTT := Lib.hid (show ∀ w0, Calls Tryz.prog 99 #[.string ⟨#[80, 117, 116]⟩] w0 fun e w' => e = .returned (.bool false) ∧ w0 = w' from takesText_b mPut _ rfl)
  have HNU := Lib.hid (isNumber_b v _ rfl)
  generalize callB ⟨mPut, key, v, text⟩ = res at *
  generalize nameB key = kn at *
  generalize numB v = vn at *
  clear hk
  have HB0 := Lib.hid (show ∀ o, Below w.heap.size w (w.alloc o) from fun o => (Below.refl w.heap.size w).alloc (Nat.le_refl _) o)
  go_enter Tryz.func69, Tryz.ntmps69
  go_wp2_with fail
  refine (HW.out _).mono ?_
  rintro e w1 ⟨rfl, hb⟩
  have HB := Lib.hid ((HB0.out _).trans (hb.mono (HB0.out _).size))
  obtain ⟨hcc, _⟩ := bcell hb
  simp at hcc
  have c0 := hcc w.heap.size 0 (by omega)
  have c1 := hcc w.heap.size 1 (by omega)
  have c2 := hcc w.heap.size 2 (by omega)
  have c3 := hcc w.heap.size 3 (by omega)
  simp at c0 c1 c2 c3
  clear hb hcc
  cases kn <;> cases text <;> cases vn
  all_goals
    go_wp2_with (first | (go_at_call 72; (with_reducible refine (HN.out _).mono ?_); rintro e w' ⟨rfl, rfl⟩) | (go_at_call 97; (with_reducible refine (HTK.out _).mono ?_); rintro e w' ⟨rfl, rfl⟩) | (go_at_call 98; (with_reducible refine (HTV.out _).mono ?_); rintro e w' ⟨rfl, rfl⟩) | (go_at_call 99; (with_reducible refine (HTT.out _).mono ?_); rintro e w' ⟨rfl, rfl⟩) | (go_at_call 42; (with_reducible refine (HNU.out _).mono ?_); rintro e w' ⟨rfl, rfl⟩))
    go_ret
    exact ⟨ret_bool (by rw [HR.out]; rfl), HB.out⟩
set_option maxRecDepth 100000 in
set_option maxHeartbeats 3200000 in
theorem implIsCall_Tell (key : List UInt8) (v : Int) (text : List UInt8) (w : World) (hk : key.length ≤ maxLen) :
    Calls Tryz.prog 69 #[.agg #[.string ⟨#[84, 101, 108, 108]⟩, .string ⟨key.toArray⟩, .int .i64 v, .string ⟨text.toArray⟩]] w fun e w' => e = .returned (.bool (callB ⟨mTell, key, v, text⟩)) ∧ Below w.heap.size w w' := by
  have HR := Lib.hid (show callB ⟨mTell, key, v, text⟩ = (key.isEmpty && (v == 0) && (text.isEmpty || false)) from rfl)
  have HW := Lib.hid (show ∀ w0, Calls Tryz.prog 96 #[.string ⟨#[84, 101, 108, 108]⟩] w0 fun e w' => e = .returned (.int .i64 4) ∧ Below w0.heap.size w0 w' from fun w0 => implWant_b mTell 4 rfl w0)
  have HTK := Lib.hid (show ∀ w0, Calls Tryz.prog 97 #[.string ⟨#[84, 101, 108, 108]⟩] w0 fun e w' => e = .returned (.bool false) ∧ w0 = w' from takesKey_b mTell _ rfl)
  have HTV := Lib.hid (show ∀ w0, Calls Tryz.prog 98 #[.string ⟨#[84, 101, 108, 108]⟩] w0 fun e w' => e = .returned (.bool false) ∧ w0 = w' from takesValue_b mTell _ rfl)
  have HTT := Lib.hid (show ∀ w0, Calls Tryz.prog 99 #[.string ⟨#[84, 101, 108, 108]⟩] w0 fun e w' => e = .returned (.bool false) ∧ w0 = w' from takesText_b mTell _ rfl)
  generalize callB ⟨mTell, key, v, text⟩ = res at *
  clear hk
  have HB0 := Lib.hid (show ∀ o, Below w.heap.size w (w.alloc o) from fun o => (Below.refl w.heap.size w).alloc (Nat.le_refl _) o)
  go_enter Tryz.func69, Tryz.ntmps69
  go_wp2_with fail
  refine (HW.out _).mono ?_
  rintro e w1 ⟨rfl, hb⟩
  have HB := Lib.hid ((HB0.out _).trans (hb.mono (HB0.out _).size))
  obtain ⟨hcc, _⟩ := bcell hb
  simp at hcc
  have c0 := hcc w.heap.size 0 (by omega)
  have c1 := hcc w.heap.size 1 (by omega)
  have c2 := hcc w.heap.size 2 (by omega)
  have c3 := hcc w.heap.size 3 (by omega)
  simp at c0 c1 c2 c3
  clear hb hcc
  cases key <;> cases text
  all_goals
    by_cases h0 : v = 0
    · subst h0
      go_wp2_with (first | (go_at_call 97; (with_reducible refine (HTK.out _).mono ?_); rintro e w' ⟨rfl, rfl⟩) | (go_at_call 98; (with_reducible refine (HTV.out _).mono ?_); rintro e w' ⟨rfl, rfl⟩) | (go_at_call 99; (with_reducible refine (HTT.out _).mono ?_); rintro e w' ⟨rfl, rfl⟩))
      go_ret
      exact ⟨ret_bool (by rw [HR.out]; rfl), HB.out⟩
    · have hv0 : (v == 0) = false := by simpa using h0
      rw [hv0] at HR
      clear h0
      go_wp2_with (first | (go_at_call 97; (with_reducible refine (HTK.out _).mono ?_); rintro e w' ⟨rfl, rfl⟩) | (go_at_call 98; (with_reducible refine (HTV.out _).mono ?_); rintro e w' ⟨rfl, rfl⟩) | (go_at_call 99; (with_reducible refine (HTT.out _).mono ?_); rintro e w' ⟨rfl, rfl⟩))
      go_ret
      exact ⟨ret_bool (by rw [HR.out]; rfl), HB.out⟩
set_option maxRecDepth 100000 in
set_option maxHeartbeats 3200000 in
theorem implIsCall_Hear (key : List UInt8) (v : Int) (text : List UInt8) (w : World) (hk : key.length ≤ maxLen) :
    Calls Tryz.prog 69 #[.agg #[.string ⟨#[72, 101, 97, 114]⟩, .string ⟨key.toArray⟩, .int .i64 v, .string ⟨text.toArray⟩]] w fun e w' => e = .returned (.bool (callB ⟨mHear, key, v, text⟩)) ∧ Below w.heap.size w w' := by
  have HR := Lib.hid (show callB ⟨mHear, key, v, text⟩ = (key.isEmpty && numB v && (text.isEmpty || false)) from rfl)
  have HW := Lib.hid (show ∀ w0, Calls Tryz.prog 96 #[.string ⟨#[72, 101, 97, 114]⟩] w0 fun e w' => e = .returned (.int .i64 8) ∧ Below w0.heap.size w0 w' from fun w0 => implWant_b mHear 8 rfl w0)
  have HTK := Lib.hid (show ∀ w0, Calls Tryz.prog 97 #[.string ⟨#[72, 101, 97, 114]⟩] w0 fun e w' => e = .returned (.bool false) ∧ w0 = w' from takesKey_b mHear _ rfl)
  have HTV := Lib.hid (show ∀ w0, Calls Tryz.prog 98 #[.string ⟨#[72, 101, 97, 114]⟩] w0 fun e w' => e = .returned (.bool true) ∧ w0 = w' from takesValue_b mHear _ rfl)
  have HTT := Lib.hid (show ∀ w0, Calls Tryz.prog 99 #[.string ⟨#[72, 101, 97, 114]⟩] w0 fun e w' => e = .returned (.bool false) ∧ w0 = w' from takesText_b mHear _ rfl)
  have HNU := Lib.hid (isNumber_b v _ rfl)
  generalize callB ⟨mHear, key, v, text⟩ = res at *
  generalize numB v = vn at *
  clear hk
  have HB0 := Lib.hid (show ∀ o, Below w.heap.size w (w.alloc o) from fun o => (Below.refl w.heap.size w).alloc (Nat.le_refl _) o)
  go_enter Tryz.func69, Tryz.ntmps69
  go_wp2_with fail
  refine (HW.out _).mono ?_
  rintro e w1 ⟨rfl, hb⟩
  have HB := Lib.hid ((HB0.out _).trans (hb.mono (HB0.out _).size))
  obtain ⟨hcc, _⟩ := bcell hb
  simp at hcc
  have c0 := hcc w.heap.size 0 (by omega)
  have c1 := hcc w.heap.size 1 (by omega)
  have c2 := hcc w.heap.size 2 (by omega)
  have c3 := hcc w.heap.size 3 (by omega)
  simp at c0 c1 c2 c3
  clear hb hcc
  cases key <;> cases text <;> cases vn
  all_goals
    go_wp2_with (first | (go_at_call 97; (with_reducible refine (HTK.out _).mono ?_); rintro e w' ⟨rfl, rfl⟩) | (go_at_call 98; (with_reducible refine (HTV.out _).mono ?_); rintro e w' ⟨rfl, rfl⟩) | (go_at_call 99; (with_reducible refine (HTT.out _).mono ?_); rintro e w' ⟨rfl, rfl⟩) | (go_at_call 42; (with_reducible refine (HNU.out _).mono ?_); rintro e w' ⟨rfl, rfl⟩))
    go_ret
    exact ⟨ret_bool (by rw [HR.out]; rfl), HB.out⟩
end Go.Proofs.YtghebbndfpbkcaaGreat
/- The program's IsCall, method by method: the last three; whatever the method is. Written by gen/ch3calls.py. -/
namespace Go.Proofs.YtghebbndfpbkcaaGreat
set_option linter.unusedVariables false
open Go.RowKit
set_option maxRecDepth 100000 in
set_option maxHeartbeats 3200000 in
theorem implIsCall_Load (key : List UInt8) (v : Int) (text : List UInt8) (w : World) (hk : key.length ≤ maxLen) :
    Calls Tryz.prog 69 #[.agg #[.string ⟨#[76, 111, 97, 100]⟩, .string ⟨key.toArray⟩, .int .i64 v, .string ⟨text.toArray⟩]] w fun e w' => e = .returned (.bool (callB ⟨mLoad, key, v, text⟩)) ∧ Below w.heap.size w w' := by
  have HR := Lib.hid (show callB ⟨mLoad, key, v, text⟩ = (key.isEmpty && (v == 0) && (text.isEmpty || true)) from rfl)
  have HW := Lib.hid (show ∀ w0, Calls Tryz.prog 96 #[.string ⟨#[76, 111, 97, 100]⟩] w0 fun e w' => e = .returned (.int .i64 16) ∧ Below w0.heap.size w0 w' from fun w0 => implWant_b mLoad 16 rfl w0)
  have HTK := Lib.hid (show ∀ w0, Calls Tryz.prog 97 #[.string ⟨#[76, 111, 97, 100]⟩] w0 fun e w' => e = .returned (.bool false) ∧ w0 = w' from takesKey_b mLoad _ rfl)
  have HTV := Lib.hid (show ∀ w0, Calls Tryz.prog 98 #[.string ⟨#[76, 111, 97, 100]⟩] w0 fun e w' => e = .returned (.bool false) ∧ w0 = w' from takesValue_b mLoad _ rfl)
  have HTT := Lib.hid (show ∀ w0, Calls Tryz.prog 99 #[.string ⟨#[76, 111, 97, 100]⟩] w0 fun e w' => e = .returned (.bool true) ∧ w0 = w' from takesText_b mLoad _ rfl)
  generalize callB ⟨mLoad, key, v, text⟩ = res at *
  clear hk
  have HB0 := Lib.hid (show ∀ o, Below w.heap.size w (w.alloc o) from fun o => (Below.refl w.heap.size w).alloc (Nat.le_refl _) o)
  go_enter Tryz.func69, Tryz.ntmps69
  go_wp2_with fail
  refine (HW.out _).mono ?_
  rintro e w1 ⟨rfl, hb⟩
  have HB := Lib.hid ((HB0.out _).trans (hb.mono (HB0.out _).size))
  obtain ⟨hcc, _⟩ := bcell hb
  simp at hcc
  have c0 := hcc w.heap.size 0 (by omega)
  have c1 := hcc w.heap.size 1 (by omega)
  have c2 := hcc w.heap.size 2 (by omega)
  have c3 := hcc w.heap.size 3 (by omega)
  simp at c0 c1 c2 c3
  clear hb hcc
  cases key <;> cases text
  all_goals
    by_cases h0 : v = 0
    · subst h0
      go_wp2_with (first | (go_at_call 97; (with_reducible refine (HTK.out _).mono ?_); rintro e w' ⟨rfl, rfl⟩) | (go_at_call 98; (with_reducible refine (HTV.out _).mono ?_); rintro e w' ⟨rfl, rfl⟩) | (go_at_call 99; (with_reducible refine (HTT.out _).mono ?_); rintro e w' ⟨rfl, rfl⟩))
      go_ret
      exact ⟨ret_bool (by rw [HR.out]; rfl), HB.out⟩
    · have hv0 : (v == 0) = false := by simpa using h0
      rw [hv0] at HR
      clear h0
      go_wp2_with (first | (go_at_call 97; (with_reducible refine (HTK.out _).mono ?_); rintro e w' ⟨rfl, rfl⟩) | (go_at_call 98; (with_reducible refine (HTV.out _).mono ?_); rintro e w' ⟨rfl, rfl⟩) | (go_at_call 99; (with_reducible refine (HTT.out _).mono ?_); rintro e w' ⟨rfl, rfl⟩))
      go_ret
      exact ⟨ret_bool (by rw [HR.out]; rfl), HB.out⟩
set_option maxRecDepth 100000 in
set_option maxHeartbeats 3200000 in
theorem implIsCall_Save (key : List UInt8) (v : Int) (text : List UInt8) (w : World) (hk : key.length ≤ maxLen) :
    Calls Tryz.prog 69 #[.agg #[.string ⟨#[83, 97, 118, 101]⟩, .string ⟨key.toArray⟩, .int .i64 v, .string ⟨text.toArray⟩]] w fun e w' => e = .returned (.bool (callB ⟨mSave, key, v, text⟩)) ∧ Below w.heap.size w w' := by
  have HR := Lib.hid (show callB ⟨mSave, key, v, text⟩ = (key.isEmpty && (v == 0) && (text.isEmpty || false)) from rfl)
  have HW := Lib.hid (show ∀ w0, Calls Tryz.prog 96 #[.string ⟨#[83, 97, 118, 101]⟩] w0 fun e w' => e = .returned (.int .i64 16) ∧ Below w0.heap.size w0 w' from fun w0 => implWant_b mSave 16 rfl w0)
  have HTK := Lib.hid (show ∀ w0, Calls Tryz.prog 97 #[.string ⟨#[83, 97, 118, 101]⟩] w0 fun e w' => e = .returned (.bool false) ∧ w0 = w' from takesKey_b mSave _ rfl)
  have HTV := Lib.hid (show ∀ w0, Calls Tryz.prog 98 #[.string ⟨#[83, 97, 118, 101]⟩] w0 fun e w' => e = .returned (.bool false) ∧ w0 = w' from takesValue_b mSave _ rfl)
  have HTT := Lib.hid (show ∀ w0, Calls Tryz.prog 99 #[.string ⟨#[83, 97, 118, 101]⟩] w0 fun e w' => e = .returned (.bool false) ∧ w0 = w' from takesText_b mSave _ rfl)
  generalize callB ⟨mSave, key, v, text⟩ = res at *
  clear hk
  have HB0 := Lib.hid (show ∀ o, Below w.heap.size w (w.alloc o) from fun o => (Below.refl w.heap.size w).alloc (Nat.le_refl _) o)
  go_enter Tryz.func69, Tryz.ntmps69
  go_wp2_with fail
  refine (HW.out _).mono ?_
  rintro e w1 ⟨rfl, hb⟩
  have HB := Lib.hid ((HB0.out _).trans (hb.mono (HB0.out _).size))
  obtain ⟨hcc, _⟩ := bcell hb
  simp at hcc
  have c0 := hcc w.heap.size 0 (by omega)
  have c1 := hcc w.heap.size 1 (by omega)
  have c2 := hcc w.heap.size 2 (by omega)
  have c3 := hcc w.heap.size 3 (by omega)
  simp at c0 c1 c2 c3
  clear hb hcc
  cases key <;> cases text
  all_goals
    by_cases h0 : v = 0
    · subst h0
      go_wp2_with (first | (go_at_call 97; (with_reducible refine (HTK.out _).mono ?_); rintro e w' ⟨rfl, rfl⟩) | (go_at_call 98; (with_reducible refine (HTV.out _).mono ?_); rintro e w' ⟨rfl, rfl⟩) | (go_at_call 99; (with_reducible refine (HTT.out _).mono ?_); rintro e w' ⟨rfl, rfl⟩))
      go_ret
      exact ⟨ret_bool (by rw [HR.out]; rfl), HB.out⟩
    · have hv0 : (v == 0) = false := by simpa using h0
      rw [hv0] at HR
      clear h0
      go_wp2_with (first | (go_at_call 97; (with_reducible refine (HTK.out _).mono ?_); rintro e w' ⟨rfl, rfl⟩) | (go_at_call 98; (with_reducible refine (HTV.out _).mono ?_); rintro e w' ⟨rfl, rfl⟩) | (go_at_call 99; (with_reducible refine (HTT.out _).mono ?_); rintro e w' ⟨rfl, rfl⟩))
      go_ret
      exact ⟨ret_bool (by rw [HR.out]; rfl), HB.out⟩
set_option maxRecDepth 100000 in
set_option maxHeartbeats 3200000 in
theorem implIsCall_Heal (key : List UInt8) (v : Int) (text : List UInt8) (w : World) (hk : key.length ≤ maxLen) :
    Calls Tryz.prog 69 #[.agg #[.string ⟨#[72, 101, 97, 108]⟩, .string ⟨key.toArray⟩, .int .i64 v, .string ⟨text.toArray⟩]] w fun e w' => e = .returned (.bool (callB ⟨mHeal, key, v, text⟩)) ∧ Below w.heap.size w w' := by
  have HR := Lib.hid (show callB ⟨mHeal, key, v, text⟩ = (key.isEmpty && (v == 0) && (text.isEmpty || false)) from rfl)
  have HW := Lib.hid (show ∀ w0, Calls Tryz.prog 96 #[.string ⟨#[72, 101, 97, 108]⟩] w0 fun e w' => e = .returned (.int .i64 32) ∧ Below w0.heap.size w0 w' from fun w0 => implWant_b mHeal 32 rfl w0)
  have HTK := Lib.hid (show ∀ w0, Calls Tryz.prog 97 #[.string ⟨#[72, 101, 97, 108]⟩] w0 fun e w' => e = .returned (.bool false) ∧ w0 = w' from takesKey_b mHeal _ rfl)
  have HTV := Lib.hid (show ∀ w0, Calls Tryz.prog 98 #[.string ⟨#[72, 101, 97, 108]⟩] w0 fun e w' => e = .returned (.bool false) ∧ w0 = w' from takesValue_b mHeal _ rfl)
  have HTT := Lib.hid (show ∀ w0, Calls Tryz.prog 99 #[.string ⟨#[72, 101, 97, 108]⟩] w0 fun e w' => e = .returned (.bool false) ∧ w0 = w' from takesText_b mHeal _ rfl)
  generalize callB ⟨mHeal, key, v, text⟩ = res at *
  clear hk
  have HB0 := Lib.hid (show ∀ o, Below w.heap.size w (w.alloc o) from fun o => (Below.refl w.heap.size w).alloc (Nat.le_refl _) o)
  go_enter Tryz.func69, Tryz.ntmps69
  go_wp2_with fail
  refine (HW.out _).mono ?_
  rintro e w1 ⟨rfl, hb⟩
  have HB := Lib.hid ((HB0.out _).trans (hb.mono (HB0.out _).size))
  obtain ⟨hcc, _⟩ := bcell hb
  simp at hcc
  have c0 := hcc w.heap.size 0 (by omega)
  have c1 := hcc w.heap.size 1 (by omega)
  have c2 := hcc w.heap.size 2 (by omega)
  have c3 := hcc w.heap.size 3 (by omega)
  simp at c0 c1 c2 c3
  clear hb hcc
  cases key <;> cases text
  all_goals
    by_cases h0 : v = 0
    · subst h0
      go_wp2_with (first | (go_at_call 97; (with_reducible refine (HTK.out _).mono ?_); rintro e w' ⟨rfl, rfl⟩) | (go_at_call 98; (with_reducible refine (HTV.out _).mono ?_); rintro e w' ⟨rfl, rfl⟩) | (go_at_call 99; (with_reducible refine (HTT.out _).mono ?_); rintro e w' ⟨rfl, rfl⟩))
      go_ret
      exact ⟨ret_bool (by rw [HR.out]; rfl), HB.out⟩
    · have hv0 : (v == 0) = false := by simpa using h0
      rw [hv0] at HR
      clear h0
      go_wp2_with (first | (go_at_call 97; (with_reducible refine (HTK.out _).mono ?_); rintro e w' ⟨rfl, rfl⟩) | (go_at_call 98; (with_reducible refine (HTV.out _).mono ?_); rintro e w' ⟨rfl, rfl⟩) | (go_at_call 99; (with_reducible refine (HTT.out _).mono ?_); rintro e w' ⟨rfl, rfl⟩))
      go_ret
      exact ⟨ret_bool (by rw [HR.out]; rfl), HB.out⟩
set_option maxRecDepth 100000 in
set_option maxHeartbeats 1600000 in
theorem implIsCall_any (d : CallD) (w : World) (hk : d.fKey.length ≤ maxLen) :
    Calls Tryz.prog 69 #[vCall d] w fun e w' => e = .returned (.bool (callB d)) ∧ Below w.heap.size w w' := by
  obtain ⟨m, key, v, text⟩ := d
  unfold vCall
  simp only at *
  rcases meth_cases m with rfl | rfl | rfl | rfl | rfl | rfl | rfl | rfl | rfl | ⟨hw, hStart, hStop, hGet, hPut, hTell, hHear, hLoad, hSave, hHeal⟩
  · exact implIsCall_Start key v text w hk
  · exact implIsCall_Stop key v text w hk
  · exact implIsCall_Get key v text w hk
  · exact implIsCall_Put key v text w hk
  · exact implIsCall_Tell key v text w hk
  · exact implIsCall_Hear key v text w hk
  · exact implIsCall_Load key v text w hk
  · exact implIsCall_Save key v text w hk
  · exact implIsCall_Heal key v text w hk
  · have HR := Lib.hid (show callB ⟨m, key, v, text⟩ = false by unfold callB; simp only; rw [hw]; rfl)
    have bGet : (m == [71, 101, 116]) = false := by simpa using hGet
    have bPut : (m == [80, 117, 116]) = false := by simpa using hPut
    have bHear : (m == [72, 101, 97, 114]) = false := by simpa using hHear
    have bLoad : (m == [76, 111, 97, 100]) = false := by simpa using hLoad
    have HW := Lib.hid (implWant_b m 0 hw)
    have HB0 := Lib.hid (show ∀ o, Below w.heap.size w (w.alloc o) from fun o => (Below.refl w.heap.size w).alloc (Nat.le_refl _) o)
    generalize callB ⟨m, key, v, text⟩ = res at *
    clear hw hk hStart hStop hGet hPut hTell hHear hLoad hSave hHeal
    go_enter Tryz.func69, Tryz.ntmps69
    go_wp2_with fail
    refine (HW.out _).mono ?_
    rintro e w1 ⟨rfl, hb⟩
    have HB := Lib.hid ((HB0.out _).trans (hb.mono (HB0.out _).size))
    clear hb
    go_wp2_with fail
    go_ret
    exact ⟨ret_bool HR.out.symm, HB.out⟩
end Go.Proofs.YtghebbndfpbkcaaGreat
/- changeCore, CallCore: the program's (over what Put does). -/
namespace Go.Proofs.YtghebbndfpbkcaaGreat
set_option linter.unusedVariables false
set_option linter.unusedSimpArgs false
open Go.RowKit
theorem implIsCore_b (v : Value) (d : CoreD) (q : Bool) (hq : coreB d = q) (w : World) (hx : CoreAt w v d) (hs : ∀ c ∈ d.fCells, c.fKey.length ≤ maxLen) :
    Calls Tryz.prog 11 #[v] w fun e w' => e = .returned (.bool q) ∧ Below w.heap.size w w' := by subst hq; exact implIsCore_any v d w hx hs
theorem implIsCall_b (d : CallD) (q : Bool) (hq : callB d = q) (w : World) (hk : d.fKey.length ≤ maxLen) :
    Calls Tryz.prog 69 #[vCall d] w fun e w' => e = .returned (.bool q) ∧ Below w.heap.size w w' := by subst hq; exact implIsCall_any d w hk
set_option maxRecDepth 100000 in
set_option maxHeartbeats 3200000 in
theorem change_bad1 (N b : Nat) (cv : Value) (d : CoreD) (x : CallD) (mx : Int) (w : World) (P : Pre N b cv d x mx w) (hv : coreB d = false) :
    Calls Tryz.prog 37 #[.pointer (some ⟨b, 0, none⟩), vCall x] w fun e w' => Does N b cv (doD d x) w e w' := by
  have HS := Lib.hid P.st
  have HB := Lib.hid P.st.box
  have hl0 := P.st.box.lt
  have HX := Lib.hid (ownsF_at P.st.own P.hm)
  obtain ⟨c0, c1, c2, c3, c4, z1, z2, z3, z4⟩ := P.st.box
  have HD := Lib.hid (fun w' (hw : Below w.heap.size w w') => show CoreBox w' b cv d ∧ Kept2 w w' (some b) none from ⟨HB.out.keep (hw.block b hl0), Kept2.of_below hw⟩)
  have HI := Lib.hid (fun w' (hw : Below w.heap.size w w') => implIsCore_b (vCore d cv) d false hv w' ⟨cv, rfl, HX.out.below hw (Nat.le_refl _)⟩ P.hs)
  have HG := Lib.hid (show doD d x = (d, rC 7) from if_neg (by rw [hv]; simp))
  generalize doD d x = out at *
  clear hv P
  obtain ⟨kd, on, br, l, cnt⟩ := d
  obtain ⟨m, k, n, t⟩ := x
  unfold vCore at HI
  unfold vCall
  simp only at *
  have hl1 : b < w.heap.size + 1 := by omega
  have hl2 : b < w.heap.size + 1 + 1 := by omega
  have hn0 : ¬ b = w.heap.size := by omega
  have hn1 : ¬ b = w.heap.size + 1 := by omega
  have hap := @past_cell b
  have HB2 := Lib.hid (show ∀ o1 o2, Below w.heap.size w ((w.alloc o1).alloc o2) from fun o1 o2 => ((Below.refl _ _).alloc (Nat.le_refl _) _).alloc (by simp) _)
  go_enter Tryz.func37, Tryz.ntmps37
  go_wp2_with fail
  refine (HI.out _ (HB2.out _ _)).mono ?_
  rintro e w1 ⟨rfl, hb⟩
  have HB3 := Lib.hid ((HB2.out _ _).trans (hb.mono (HB2.out _ _).size))
  obtain ⟨hcc, hff⟩ := bcell hb
  simp at hcc hff
  have hsz := hb.size
  simp at hsz
  clear hb
  go_wp2_with fail
  refine bodyPost_ret (v := vReply (rC 7)) (by simp [results, Tryz.results37, go_sem, vReply, rC, rV, rT, cell_set_at, cell_set_ne, hcc]) rfl ?_
  refine does_of (d' := ⟨kd, on, br, l, cnt⟩) (r := rC 7) HS.out ?_ rfl ?_ HG.out rfl
  · exact (HD.out _ (by repeat (first | with_reducible exact HB3.out | with_reducible refine Below.setCell ?_ (by simp; try omega) _)) ).1
  · exact (HD.out _ (by repeat (first | with_reducible exact HB3.out | with_reducible refine Below.setCell ?_ (by simp; try omega) _)) ).2
set_option maxRecDepth 100000 in
set_option maxHeartbeats 3200000 in
theorem change_bad2 (N b : Nat) (cv : Value) (d : CoreD) (x : CallD) (mx : Int) (w : World) (P : Pre N b cv d x mx w) (hv : coreB d = true) (hc : callB x = false) :
    Calls Tryz.prog 37 #[.pointer (some ⟨b, 0, none⟩), vCall x] w fun e w' => Does N b cv (doD d x) w e w' := by
  have HS := Lib.hid P.st
  have HB := Lib.hid P.st.box
  have hl0 := P.st.box.lt
  have HX := Lib.hid (ownsF_at P.st.own P.hm)
  obtain ⟨c0, c1, c2, c3, c4, z1, z2, z3, z4⟩ := P.st.box
  have HD := Lib.hid (fun w' (hw : Below w.heap.size w w') => show CoreBox w' b cv d ∧ Kept2 w w' (some b) none from ⟨HB.out.keep (hw.block b hl0), Kept2.of_below hw⟩)
  have HI := Lib.hid (fun w' (hw : Below w.heap.size w w') => implIsCore_b (vCore d cv) d true hv w' ⟨cv, rfl, HX.out.below hw (Nat.le_refl _)⟩ P.hs)
  have HJ := Lib.hid (fun w' => implIsCall_b x false hc w' P.hk)
  have HG := Lib.hid (show doD d x = (d, rC 7) from if_neg (by rw [hc]; simp))
  generalize doD d x = out at *
  clear hv hc P
  obtain ⟨kd, on, br, l, cnt⟩ := d
  obtain ⟨m, k, n, t⟩ := x
  unfold vCore at HI
  unfold vCall at HJ ⊢
  simp only at *
  have hl1 : b < w.heap.size + 1 := by omega
  have hl2 : b < w.heap.size + 1 + 1 := by omega
  have hn0 : ¬ b = w.heap.size := by omega
  have hn1 : ¬ b = w.heap.size + 1 := by omega
  have hap := @past_cell b
  have HB2 := Lib.hid (show ∀ o1 o2, Below w.heap.size w ((w.alloc o1).alloc o2) from fun o1 o2 => ((Below.refl _ _).alloc (Nat.le_refl _) _).alloc (by simp) _)
  go_enter Tryz.func37, Tryz.ntmps37
  go_wp2_with fail
  refine (HI.out _ (HB2.out _ _)).mono ?_
  rintro e w1 ⟨rfl, hb⟩
  have HB3 := Lib.hid ((HB2.out _ _).trans (hb.mono (HB2.out _ _).size))
  obtain ⟨hcc, hff⟩ := bcell hb
  simp at hcc hff
  have hsz := hb.size
  simp at hsz
  clear hb
  go_wp2_with fail
  refine (HJ.out _).mono ?_
  rintro e w2 ⟨rfl, hb⟩
  have HB4 := Lib.hid (HB3.out.trans (hb.mono HB3.out.size))
  obtain ⟨hcd, hfd⟩ := bcell hb
  have hsz2 := hb.size
  have hq1 : w.heap.size < w1.heap.size := by omega
  have hq2 : w.heap.size + 1 < w1.heap.size := by omega
  clear hb
  go_wp2_with fail
  refine bodyPost_ret (v := vReply (rC 7)) (by simp [results, Tryz.results37, go_sem, vReply, rC, rV, rT, cell_set_at, cell_set_ne, hcd, hcc, hq1, hq2]) rfl ?_
  refine does_of (d' := ⟨kd, on, br, l, cnt⟩) (r := rC 7) HS.out ?_ rfl ?_ HG.out rfl
  · exact (HD.out _ (by repeat (first | with_reducible exact HB4.out | with_reducible refine Below.setCell ?_ (by simp; try omega) _)) ).1
  · exact (HD.out _ (by repeat (first | with_reducible exact HB4.out | with_reducible refine Below.setCell ?_ (by simp; try omega) _)) ).2
end Go.Proofs.YtghebbndfpbkcaaGreat
/- slices.Insert of one cell into a row of cells of one's own: at the end; in place; into a new row. -/
namespace Go.Proofs.YtghebbndfpbkcaaGreat
set_option linter.unusedVariables false
set_option linter.unusedSimpArgs false
open Go.RowKit
theorem run_copy_row2 {P : Program} (w : World) (dT sT ty elem : TypeId) (g o dLen dCap : Nat) (a : Addr) (sLen sCap n : Nat) (cur : Array Value) (t : TypeId) (cs : List Value)
    (hu : P.underlying dT = some (.slice elem)) (hs : (P.info? elem).map (·.size) = some 2) (hg : w.heap[g]? = some (.cells cur t (0, 0))) (hn : Nat.min sLen dLen = n) (hcl : cs.length = n * 2)
    (hsrc : ∀ j v, cs[j]? = some v → w.cell? (a.add j) = some v) (hfit : o + cs.length ≤ cur.size) (h1 : ∀ v ∈ cs, v.oneCell' = true) :
    (Builtin.copy_ #[dT, sT] ty #[.slice (some ⟨g, o, none⟩) dLen dCap, .slice (some a) sLen sCap]).run P w = .ok (goInt n) (w.setRow g (cur.toList.take o ++ cs ++ cur.toList.drop (o + cs.length)).toArray) := by
  have hl := run_loadCells_list (P := P) w a cs hsrc
  rw [hcl] at hl
  have hst := run_storeCells_at P g o t cs 0 cur w hg (by simpa using hfit) h1
  cases hq : P.info? elem with
  | none => simp [hq] at hs
  | some i =>
    have hi : i.size = 2 := by simpa [hq] using hs
    simp [Builtin.copy_, run_underlying hu, Builtin.lenOf, Builtin.firstCells, sizeOf, typeInfo, hq, hi, hn, hl, hst]
theorem size_cell : (Tryz.prog.info? 36).map (·.size) = some 2 := by kernel_rfl
theorem sizeOf_cell (w : World) : (Go.sizeOf 36).run Tryz.prog w = .ok 2 w := by kernel_rfl
set_option maxHeartbeats 1600000 in
theorem ins_end (N : Nat) (v : Value) (l : List CellD) (x : CellD) (vb : Nat) (w : World) (hO : OwnsF cCell 36 2 w N v l) (hl : l.length ≤ 1000) (hN : N ≤ w.heap.size) (hc : ∀ j, j < 2 → w.cell? ⟨vb, j, none⟩ = (cCell x)[j]?) :
    Calls Tryz.prog 147 #[v, .int .i64 l.length, .slice (some ⟨vb, 0, none⟩) 1 1] w fun e w' => ∃ v', e = .returned v' ∧ OwnsF cCell 36 2 w' N v' (l ++ [x]) ∧ w.grownBy w' v.ownBlock := by
  have HO := Lib.hid hO
  have HC := Lib.hid hc
  have hv : ∃ a c, v = .slice a l.length c ∧ l.length ≤ c := by
    rcases hO.2 with ⟨rfl, hn⟩ | ⟨g, cap, cur, rfl, _, _, hc, _⟩
    · exact ⟨none, 0, by rw [hn], by omega⟩
    · exact ⟨_, _, rfl, hc⟩
  obtain ⟨a, c, rfl, hcap⟩ := hv
  clear hO hc
  generalize hn : l.length = n at *
  have HN := Lib.hid hn
  clear hn
  go_enter Tryz.func147, Tryz.ntmps147
  go_wp2_with (at_builtin; refine append_cell rfl _ _ rfl N _ l x _ vb (by rfl) HO.out (by rfl) HC.out (by have := HN.out; omega) hN ?_; intro v' w' ho hgr)
  all_goals
    go_ret
    exact ⟨_, rfl, ho, by first | exact hgr | (cases a <;> exact hgr)⟩
theorem flat_take {α : Type} (f : α → List Value) (k : Nat) (hk : ∀ x, (f x).length = k) : ∀ (l : List α) (i : Nat), (l.take i).flatMap f = (l.flatMap f).take (i * k) ∧ (l.drop i).flatMap f = (l.flatMap f).drop (i * k)
  | [], i => by simp
  | d :: r, 0 => by simp
  | d :: r, i + 1 => by
    obtain ⟨h1, h2⟩ := flat_take f k hk r i
    rw [List.take_succ_cons, List.drop_succ_cons, List.flatMap_cons, List.flatMap_cons, h1, h2, Nat.succ_mul, Nat.add_comm (i * k) k, ← hk d, List.take_append, List.drop_append]
    simp [Nat.add_sub_cancel_left]
    exact (List.take_of_length_le (by omega)).symm
theorem row_shift (cur fl cx : List Value) (i n c : Nat) (hfl : fl.length = n * 2) (hcx : cx.length = 2) (hcur : cur.take (n * 2) = fl) (hi : i < n) (hc : cur.length = c * 2) (hn : n + 1 ≤ c) (row1 : List Value)
    (h1 : row1 = cur.take ((i + 1) * 2) ++ fl.drop (i * 2) ++ cur.drop ((i + 1) * 2 + (fl.drop (i * 2)).length)) :
    (row1.take (i * 2) ++ cx ++ row1.drop (i * 2 + cx.length)).take ((n + 1) * 2) = fl.take (i * 2) ++ cx ++ fl.drop (i * 2) := by
  have hl1 : (cur.take ((i + 1) * 2)).length = (i + 1) * 2 := by rw [List.length_take, hc]; omega
  have e1 : row1.take (i * 2) = fl.take (i * 2) := by
    rw [h1, List.append_assoc, List.take_append_of_le_length (by rw [hl1]; omega), List.take_take, ← hcur, List.take_take]
    congr 1; omega
  have e2 : row1.drop (i * 2 + cx.length) = fl.drop (i * 2) ++ cur.drop ((i + 1) * 2 + (fl.drop (i * 2)).length) := by
    rw [h1, List.append_assoc, hcx, show i * 2 + 2 = (i + 1) * 2 by omega]
    conv => lhs; arg 1; rw [← hl1]
    rw [List.drop_left]
  rw [e1, e2, ← List.append_assoc]
  have hlen : (fl.take (i * 2) ++ cx ++ fl.drop (i * 2)).length = (n + 1) * 2 := by
    simp only [List.length_append, List.length_take, List.length_drop, hfl, hcx]; omega
  rw [← hlen, List.take_left]
set_option maxRecDepth 100000 in
set_option maxHeartbeats 1600000 in
theorem ins_shift (N g c i : Nat) (cur : Array Value) (l : List CellD) (x : CellD) (vb : Nat) (w : World) (hg : w.heap[g]? = some (.cells cur 36 (0, 0))) (hs : cur.size = c * 2) (hcur : cur.toList.take (l.length * 2) = l.flatMap cCell)
    (hi : i < l.length) (hroom : l.length + 1 ≤ c) (hc : c ≤ maxLen) (hvb : w.heap[vb]? = some (.cells #[.string ⟨x.fKey.toArray⟩, .int .i64 x.fValue] 36 (0, 0))) (hne : vb ≠ g) :
    Calls Tryz.prog 147 #[.slice (some ⟨g, 0, none⟩) l.length c, .int .i64 i, .slice (some ⟨vb, 0, none⟩) 1 1] w fun e w' => ∃ v', e = .returned v' ∧ (∀ N, N ≤ g → OwnsF cCell 36 2 w' N v' (l.take i ++ x :: l.drop i)) ∧ w.grownBy w' (some g) := by
  unfold maxLen at hc
  have hsz : cur.toList.length = c * 2 := by simpa using hs
  have hov : ∀ off lb cb, (callFunc 148 #[.slice (some ⟨vb, 0, none⟩) 1 1, .slice (some ⟨g, off, none⟩) lb cb]).run Tryz.prog w = .ok (.value (.bool false)) w := fun off lb cb => by
    rw [run_callFunc_extern Tryz.func148 (by kernel_rfl) (by kernel_rfl) (by kernel_rfl) (e := Extern.SlicesOverlaps.overlaps #[24, 24] #[4]) (by kernel_rfl),
      Lib.run_overlaps_apart w 24 4 36 Tryz.underlying24 2 sizeOf_cell ⟨vb, 0, none⟩ ⟨g, off, none⟩ 1 1 lb cb hne 36 36 2 (c * 2) (by simp [World.shape?, hvb]) (by simp [World.shape?, hg, hs]) (by omega) (by simp [World.frozen?, hvb]) (by simp [World.frozen?, hvb])]
    rfl
  have hfl : (l.flatMap cCell).length = l.length * 2 := flat_len cCell 2 cCell_len l
  have h1c : ∀ u ∈ l.flatMap cCell, u.oneCell' = true := fun u hu => by
    obtain ⟨y, _, hy⟩ := List.mem_flatMap.1 hu
    exact cCell_one y u hy
  have HL := Lib.hid (show (l.take i ++ x :: l.drop i).flatMap cCell = (l.flatMap cCell).take (i * 2) ++ cCell x ++ (l.flatMap cCell).drop (i * 2) ∧ (l.take i ++ x :: l.drop i).length = l.length + 1 from by
    refine ⟨?_, by simp; omega⟩
    rw [List.flatMap_append, List.flatMap_cons, (flat_take cCell 2 cCell_len l i).1, (flat_take cCell 2 cCell_len l i).2, List.append_assoc])
  generalize hF : l.flatMap cCell = fl at *
  generalize hn : l.length = n at *
  have hcell : ∀ j v, fl[j]? = some v → w.cell? ⟨g, j, none⟩ = some v := fun j v hj => by
    have hjl : j < fl.length := (List.getElem?_eq_some_iff.1 hj).1
    rw [cell_of_row w g j cur 36 (0, 0) hg]
    rw [← hcur, List.getElem?_take] at hj
    split at hj
    · simpa using hj
    · cases hj
  have hdl : (fl.drop (i * 2)).length = (n - i) * 2 := by rw [List.length_drop, hfl, Nat.sub_mul]
  obtain ⟨row1, hrow1⟩ : ∃ row1 : Array Value, row1 = (cur.toList.take ((i + 1) * 2) ++ fl.drop (i * 2) ++ cur.toList.drop ((i + 1) * 2 + (fl.drop (i * 2)).length)).toArray := ⟨_, rfl⟩
  have hcp1 : ∀ ty dc sc, (Builtin.copy_ #[24, 24] ty #[.slice (some ⟨g, (i + 1) * 2, none⟩) (n - i) dc, .slice (some ⟨g, i * 2, none⟩) (n + 1 - i) sc]).run Tryz.prog w.drew = .ok (goInt ((n - i : Nat) : Int)) (w.drew.setRow g row1) := fun ty dc sc => by
    rw [hrow1]
    exact run_copy_row2 w.drew _ _ ty 36 g ((i + 1) * 2) (n - i) dc ⟨g, i * 2, none⟩ (n + 1 - i) sc (n - i) cur 36 (fl.drop (i * 2)) Tryz.underlying24 size_cell hg (by simp only [Nat.min_def]; split <;> omega) hdl
      (fun j v hj => by rw [Addr.add_lit]; exact hcell (i * 2 + j) v (by rwa [List.getElem?_drop] at hj)) (by rw [hdl, Nat.sub_mul, hs]; omega) (fun v hv => h1c v (List.mem_of_mem_drop hv))
  have hrs : row1.size = c * 2 := by rw [hrow1]; simp only [List.size_toArray, List.length_append, List.length_take, List.length_drop, hsz, hfl]; omega
  have hg1 : (w.drew.setRow g row1).heap[g]? = some (.cells row1 36 (0, 0)) := setRow_heap w.drew g cur row1 36 (0, 0) hg
  have hvb1 : (w.drew.setRow g row1).heap[vb]? = some (.cells #[.string ⟨x.fKey.toArray⟩, .int .i64 x.fValue] 36 (0, 0)) := by
    simp only [World.setRow, Array.getElem?_modify]
    rw [if_neg (fun e => hne e.symm)]; exact hvb
  obtain ⟨row2, hrow2⟩ : ∃ row2 : Array Value, row2 = (row1.toList.take (i * 2) ++ cCell x ++ row1.toList.drop (i * 2 + (cCell x).length)).toArray := ⟨_, rfl⟩
  have hrs2 : row2.size = c * 2 := by rw [hrow2]; simp only [List.size_toArray, List.length_append, List.length_take, List.length_drop, cCell_len, Array.length_toList, hrs]; omega
  have hcp2 : ∀ ty dc, (Builtin.copy_ #[24, 24] ty #[.slice (some ⟨g, i * 2, none⟩) (n + 1 - i) dc, .slice (some ⟨vb, 0, none⟩) 1 1]).run Tryz.prog (w.drew.setRow g row1) = .ok (goInt 1) ((w.drew.setRow g row1).setRow g row2) := fun ty dc => by
    rw [hrow2]
    exact run_copy_row2 _ _ _ ty 36 g (i * 2) (n + 1 - i) dc ⟨vb, 0, none⟩ 1 1 1 row1 36 (cCell x) Tryz.underlying24 size_cell hg1 (by simp only [Nat.min_def]; split <;> omega) rfl
      (fun j v hj => by
        rw [Addr.add_lit, cell_of_row _ vb (0 + j) _ 36 (0, 0) hvb1, Nat.zero_add]
        simpa [cCell] using hj) (by rw [hrs]; simp [cCell]; omega) (fun v hv => cCell_one x v hv)
  have HR1 := Lib.hid hrow1
  have HR2 := Lib.hid hrow2
  clear hrow1 hrow2
  have hz1 : ¬ ((i : Int) = (n : Int)) := by omega
  have hw1 : IntKind.i64.wrap ((i : Int) + 1) = (i : Int) + 1 := by rw [IntKind.wrap_i64]; omega
  have hw2 : IntKind.i64.wrap ((n : Int) + 1) = (n : Int) + 1 := by rw [IntKind.wrap_i64]; omega
  have hin : i ≤ n := by omega
  have hb1 : (0 : Int) ≤ (i : Int) + 1 := by omega
  have htn : ((i : Int) + 1).toNat = i + 1 := by omega
  have hb2 : ¬ c = i + 1 := by omega
  have hb3 : (i : Int) ≤ (n : Int) + 1 := by omega
  have hb4 : ¬ c = i := by omega
  have hb5 : (i : Int) + 1 ≤ (n : Int) + 1 := by omega
  go_enter Tryz.func147, Tryz.ntmps147
  go_wp2_with (simp only [hov])
  go_region_law (refine step_copy_runI rfl _ _ 24 24 rfl _ _ (by simp [Act.eval, Act.put]) (by simp [Act.eval, Act.put]) (hcp1 _ _ _) ?_)
  go_wp2_with (at_builtin; refine wpList_copy_runI _ rfl _ _ 24 24 rfl _ _ (by rfl) (by rfl) (hcp2 _ _) ?_)
  go_ret
  refine ⟨.slice (some ⟨g, 0, none⟩) (n + 1) c, rfl, fun N hN => ?_, ⟨rfl, rfl, rfl, by simp [World.setRow], fun k hk hkn => ?_⟩⟩
  · have hlen := HL.out.2
    unfold OwnsF
    rw [hlen]
    refine ⟨by rw [flat_len cCell 2 cCell_len, hlen], Or.inr ⟨g, c, row2, rfl, hN, setRow_heap _ g row1 row2 36 (0, 0) hg1, hroom, by unfold maxLen; omega, hrs2, ?_⟩⟩
    rw [HL.out.1, HR2.out]
    exact row_shift cur.toList fl (cCell x) i n c hfl (cCell_len x) hcur hi hsz hroom row1.toList (by rw [HR1.out])
  · have hkg : k ≠ g := fun e => hkn (by rw [e])
    simp only [World.setRow, Array.getElem?_modify]
    rw [if_neg (fun e => hkg e.symm), if_neg (fun e => hkg e.symm)]; rfl
end Go.Proofs.YtghebbndfpbkcaaGreat
/- slices.Insert of one cell ahead of others, where there is no room: a new row; then whatever the row. -/
namespace Go.Proofs.YtghebbndfpbkcaaGreat
set_option linter.unusedVariables false
set_option linter.unusedSimpArgs false
open Go.RowKit
theorem row_grow (fl cx z : List Value) (i n : Nat) (hfl : fl.length = n * 2) (hcx : cx.length = 2) (hi : i < n) (ROW : List Value) (h0 : ROW = fl.take (i * 2) ++ z) (rowA : List Value)
    (hA : rowA = ROW.take (i * 2) ++ cx ++ ROW.drop (i * 2 + cx.length)) (rowB : List Value) (hB : rowB = rowA.take ((i + 1) * 2) ++ fl.drop (i * 2) ++ rowA.drop ((i + 1) * 2 + (fl.drop (i * 2)).length)) :
    rowB.take ((n + 1) * 2) = fl.take (i * 2) ++ cx ++ fl.drop (i * 2) := by
  have hl1 : (fl.take (i * 2)).length = i * 2 := by rw [List.length_take, hfl]; omega
  have e0 : ROW.take (i * 2) = fl.take (i * 2) := by
    rw [h0]; conv => lhs; arg 1; rw [← hl1]
    rw [List.take_left]
  have e1 : rowA.take ((i + 1) * 2) = fl.take (i * 2) ++ cx := by
    have hl2 : (fl.take (i * 2) ++ cx).length = (i + 1) * 2 := by rw [List.length_append, hl1, hcx]; omega
    rw [hA, e0, ← hl2, List.take_left]
  have hl3 : (fl.take (i * 2) ++ cx ++ fl.drop (i * 2)).length = (n + 1) * 2 := by
    simp only [List.length_append, List.length_take, List.length_drop, hfl, hcx]; omega
  rw [hB, e1, ← hl3, List.take_left]
set_option maxRecDepth 100000 in
set_option maxHeartbeats 3200000 in
theorem ins_grow (g i : Nat) (cur : Array Value) (l : List CellD) (x : CellD) (vb : Nat) (w : World) (hg : w.heap[g]? = some (.cells cur 36 (0, 0))) (hs : cur.size = l.length * 2) (hcur : cur.toList.take (l.length * 2) = l.flatMap cCell)
    (hi : i < l.length) (hl : l.length ≤ 1000) (hvb : w.heap[vb]? = some (.cells #[.string ⟨x.fKey.toArray⟩, .int .i64 x.fValue] 36 (0, 0))) :
    Calls Tryz.prog 147 #[.slice (some ⟨g, 0, none⟩) l.length l.length, .int .i64 i, .slice (some ⟨vb, 0, none⟩) 1 1] w fun e w' => ∃ v', e = .returned v' ∧ OwnsF cCell 36 2 w' w.heap.size v' (l.take i ++ x :: l.drop i) ∧ Below w.heap.size w w' := by
  obtain ⟨i0, hi0, hz0, hzs, hzb⟩ := info_parts infoCell
  have hfl : (l.flatMap cCell).length = l.length * 2 := flat_len cCell 2 cCell_len l
  have h1c : ∀ u ∈ l.flatMap cCell, u.oneCell' = true := fun u hu => by
    obtain ⟨y, _, hy⟩ := List.mem_flatMap.1 hu
    exact cCell_one y u hy
  have HL := Lib.hid (show (l.take i ++ x :: l.drop i).flatMap cCell = (l.flatMap cCell).take (i * 2) ++ cCell x ++ (l.flatMap cCell).drop (i * 2) ∧ (l.take i ++ x :: l.drop i).length = l.length + 1 from by
    refine ⟨?_, by simp; omega⟩
    rw [List.flatMap_append, List.flatMap_cons, (flat_take cCell 2 cCell_len l i).1, (flat_take cCell 2 cCell_len l i).2, List.append_assoc])
  generalize hF : l.flatMap cCell = fl at *
  generalize hn : l.length = n at *
  have hcell : ∀ j v, fl[j]? = some v → w.cell? ⟨g, j, none⟩ = some v := fun j v hj => by
    rw [cell_of_row w g j cur 36 (0, 0) hg]
    rw [← hcur, List.getElem?_take] at hj
    split at hj
    · simpa using hj
    · cases hj
  have hgw : g < w.heap.size := (Array.getElem?_eq_some_iff.1 hg).1
  have hvw : vb < w.heap.size := (Array.getElem?_eq_some_iff.1 hvb).1
  have hdl : (fl.drop (i * 2)).length = (n - i) * 2 := by rw [List.length_drop, hfl, Nat.sub_mul]
  have htl : (fl.take (i * 2)).length = i * 2 := by rw [List.length_take, hfl]; omega
  have hkk : (n : Int) + 1 - (i : Int) = ((n + 1 - i : Nat) : Int) := by omega
  have hik : i + (n + 1 - i) = n + 1 := by omega
  have hold : (Builtin.firstCells i0.size i (.slice (some ⟨g, 0, none⟩) i n)).run Tryz.prog w.drew = .ok (fl.take (i * 2)).toArray w.drew := by
    rw [hzs]
    exact run_firstCells_some w.drew 2 i ⟨g, 0, none⟩ i n (fl.take (i * 2)) htl (fun j v hj => by
      rw [Addr.add_lit, Nat.zero_add]
      rw [List.getElem?_take] at hj
      split at hj
      · exact hcell j v hj
      · cases hj)
  have hrz : ∀ ty, (Builtin.append_ #[24, 3] ty #[.slice (some ⟨g, 0, none⟩) i n, .int .i64 ((n : Int) + 1 - (i : Int))]).run Tryz.prog w =
      .ok (.slice (some ⟨w.heap.size, 0, none⟩) (n + 1) (grownCap w (n + 1) n 36)) (w.drew.alloc (.cells ((fl.take (i * 2)).toArray ++ Builtin.zeroCells (Value.agg #[.string ⟨#[]⟩, .int .i64 0]).cells (n + 1 - i) ++ Builtin.zeroCells (Value.agg #[.string ⟨#[]⟩, .int .i64 0]).cells (grownCap w (n + 1) n 36 - (n + 1))) 36)) := fun ty => by
    have h := Lib.run_append_grow_zeros w 24 3 ty 36 i0 _ .i64 .i64 Tryz.underlying24 Tryz.underlying3 hi0 hz0 (some ⟨g, 0, none⟩) i n (fl.take (i * 2)) hold (n + 1 - i) (by omega) (by omega) (by omega) (by omega) (by rw [hzb]; omega) (by rw [hzb, hik]; exact growslice_fits (by omega) (by omega))
    rw [hik] at h
    rw [hkk]
    exact h
  obtain ⟨G, hG⟩ : ∃ G, G = grownCap w (n + 1) n 36 := ⟨_, rfl⟩
  obtain ⟨zz, hzz⟩ : ∃ zz : Array Value, zz = Builtin.zeroCells (Value.agg #[.string ⟨#[]⟩, .int .i64 0]).cells (n + 1 - i) ++ Builtin.zeroCells (Value.agg #[.string ⟨#[]⟩, .int .i64 0]).cells (G - (n + 1)) := ⟨_, rfl⟩
  obtain ⟨ROW, hROW⟩ : ∃ ROW : Array Value, ROW = (fl.take (i * 2)).toArray ++ zz := ⟨_, rfl⟩
  have hGn : n + 1 ≤ G := by rw [hG]; exact grownCap_ge w _ _ _
  have hGm : G ≤ maxLen := by
    have := grownCap_le_maxLen w (n + 1) n 36 (by unfold maxLen; omega)
    rw [← hG] at this; exact this
  have hzl : zz.size = (G - i) * 2 := by rw [hzz]; simp [Builtin.zeroCells, Value.cells]; omega
  have hRl : ROW.size = G * 2 := by rw [hROW]; simp only [Array.size_append, List.size_toArray, htl, hzl]; omega
  rw [← hG, Array.append_assoc, ← hzz, ← hROW] at hrz
  have HR0 := Lib.hid (show ROW.toList = fl.take (i * 2) ++ zz.toList from by rw [hROW]; simp)
  have hRL : ROW.toList.length = G * 2 := by simpa using hRl
  clear hROW hzz hold
  obtain ⟨rowA, hrA⟩ : ∃ rowA : Array Value, rowA = (ROW.toList.take (i * 2) ++ cCell x ++ ROW.toList.drop (i * 2 + (cCell x).length)).toArray := ⟨_, rfl⟩
  have hAl : rowA.size = G * 2 := by rw [hrA]; simp only [List.size_toArray, List.length_append, List.length_take, List.length_drop, hRL, cCell_len]; omega
  have hAL : rowA.toList.length = G * 2 := by simpa using hAl
  obtain ⟨rowB, hrB⟩ : ∃ rowB : Array Value, rowB = (rowA.toList.take ((i + 1) * 2) ++ fl.drop (i * 2) ++ rowA.toList.drop ((i + 1) * 2 + (fl.drop (i * 2)).length)).toArray := ⟨_, rfl⟩
  have hBl : rowB.size = G * 2 := by rw [hrB]; simp only [List.size_toArray, List.length_append, List.length_take, List.length_drop, hAL, hfl]; omega
  obtain ⟨WA, hWA⟩ : ∃ WA, WA = (w.alloc (.cells ROW 36)).drew := ⟨_, rfl⟩
  have hgN : WA.heap[w.heap.size]? = some (.cells ROW 36 (0, 0)) := by rw [hWA]; exact heap_alloc_new w _
  have hvA : WA.heap[vb]? = some (.cells #[.string ⟨x.fKey.toArray⟩, .int .i64 x.fValue] 36 (0, 0)) := by rw [hWA]; exact (Below.heap_alloc w _ vb hvw).trans hvb
  have hgA : WA.heap[g]? = some (.cells cur 36 (0, 0)) := by rw [hWA]; exact (Below.heap_alloc w _ g hgw).trans hg
  have hcpA : ∀ ty dc, (Builtin.copy_ #[24, 24] ty #[.slice (some ⟨w.heap.size, i * 2, none⟩) (n + 1 - i) dc, .slice (some ⟨vb, 0, none⟩) 1 1]).run Tryz.prog WA = .ok (goInt 1) (WA.setRow w.heap.size rowA) := fun ty dc => by
    rw [hrA]
    exact run_copy_row2 WA _ _ ty 36 w.heap.size (i * 2) (n + 1 - i) dc ⟨vb, 0, none⟩ 1 1 1 ROW 36 (cCell x) Tryz.underlying24 size_cell hgN (by simp only [Nat.min_def]; split <;> omega) rfl
      (fun j v hj => by
        rw [Addr.add_lit, cell_of_row _ vb (0 + j) _ 36 (0, 0) hvA, Nat.zero_add]
        simpa [cCell] using hj) (by rw [hRl]; simp [cCell]; omega) (fun v hv => cCell_one x v hv)
  have hgB : (WA.setRow w.heap.size rowA).heap[w.heap.size]? = some (.cells rowA 36 (0, 0)) := setRow_heap WA w.heap.size ROW rowA 36 (0, 0) hgN
  have hgO : (WA.setRow w.heap.size rowA).heap[g]? = some (.cells cur 36 (0, 0)) := by
    simp only [World.setRow, Array.getElem?_modify]
    rw [if_neg (by omega)]; exact hgA
  have hcellB : ∀ j v, fl[j]? = some v → (WA.setRow w.heap.size rowA).drew.cell? ⟨g, j, none⟩ = some v := fun j v hj => by
    have h1 : (WA.setRow w.heap.size rowA).drew.cell? ⟨g, j, none⟩ = cur[j]? := cell_of_row (WA.setRow w.heap.size rowA) g j cur 36 (0, 0) hgO
    rw [h1, ← cell_of_row w g j cur 36 (0, 0) hg]; exact hcell j v hj
  have hcpB : ∀ ty dc sc, (Builtin.copy_ #[24, 24] ty #[.slice (some ⟨w.heap.size, (i + 1) * 2, none⟩) (n - i) dc, .slice (some ⟨g, i * 2, none⟩) (n - i) sc]).run Tryz.prog (WA.setRow w.heap.size rowA).drew = .ok (goInt ((n - i : Nat) : Int)) ((WA.setRow w.heap.size rowA).drew.setRow w.heap.size rowB) := fun ty dc sc => by
    rw [hrB]
    exact run_copy_row2 (WA.setRow w.heap.size rowA).drew _ _ ty 36 w.heap.size ((i + 1) * 2) (n - i) dc ⟨g, i * 2, none⟩ (n - i) sc (n - i) rowA 36 (fl.drop (i * 2)) Tryz.underlying24 size_cell hgB (by simp only [Nat.min_def]; split <;> omega) hdl
      (fun j v hj => by rw [Addr.add_lit]; exact hcellB (i * 2 + j) v (by rwa [List.getElem?_drop] at hj)) (by rw [hdl, Nat.sub_mul, hAl]; omega) (fun v hv => h1c v (List.mem_of_mem_drop hv))
  have HRA := Lib.hid hrA
  have HRB := Lib.hid hrB
  have HWA := Lib.hid hWA
  have hGG := Lib.hid hG
  have hrz2 : ∀ ty, (Builtin.append_ #[24, 3] ty #[.slice (some ⟨g, 0, none⟩) i n, .int .i64 ((n : Int) + 1 - (i : Int))]).run Tryz.prog w = .ok (.slice (some ⟨w.heap.size, 0, none⟩) (n + 1) G) WA := fun ty => by rw [hrz ty, hWA]; rfl
  clear hrA hrB hWA hG hrz
  have hz1 : ¬ ((i : Int) = (n : Int)) := by omega
  have hz3 : (n : Int) < (n : Int) + 1 := by omega
  have hw1 : IntKind.i64.wrap ((i : Int) + 1) = (i : Int) + 1 := by rw [IntKind.wrap_i64]; omega
  have hw2 : IntKind.i64.wrap ((n : Int) + 1) = (n : Int) + 1 := by rw [IntKind.wrap_i64]; omega
  have hw3 : IntKind.i64.wrap ((n : Int) + 1 - (i : Int)) = (n : Int) + 1 - (i : Int) := by rw [IntKind.wrap_i64]; omega
  have hb1 : (0 : Int) ≤ (i : Int) + 1 := by omega
  have htn : ((i : Int) + 1).toNat = i + 1 := by omega
  have hin : i ≤ n := by omega
  have hb3 : (i : Int) ≤ (n : Int) := by omega
  have hb5 : (i : Int) + 1 ≤ (n : Int) + 1 := by omega
  have hGi : ¬ (G = i) := by omega
  have hGim : ¬ (G = i + 1) := by omega
  have hci : ¬ (n = i) := by omega
  have hi1 : (i : Int) ≤ (n : Int) + 1 := by omega
  clear hkk hik
  go_enter Tryz.func147, Tryz.ntmps147
  go_wp2_with (first | (at_builtin; refine Lib.wpList_append_run _ rfl _ _ _ _ rfl _ _ (by rfl) (by rfl) _ _ (hrz2 _) ?_) | (refine wpList_copy_runI _ rfl _ _ 24 24 rfl _ _ (by rfl) (by rfl) (hcpA _ _) ?_))
  go_region_law (refine step_copy_runI rfl _ _ 24 24 rfl _ _ (by simp [Act.eval, Act.put]) (by simp [Act.eval, Act.put]) (hcpB _ _ _) ?_)
  go_wp2_with fail
  go_ret
  have hgF := setRow_heap (WA.setRow w.heap.size rowA).drew w.heap.size rowA rowB 36 (0, 0) hgB
  refine ⟨.slice (some ⟨w.heap.size, 0, none⟩) (n + 1) G, rfl, ?_, ?_⟩
  · have hlen := HL.out.2
    unfold OwnsF
    rw [hlen]
    refine ⟨by rw [flat_len cCell 2 cCell_len, hlen], Or.inr ⟨w.heap.size, G, rowB, rfl, Nat.le_refl _, hgF, hGn, hGm, hBl, ?_⟩⟩
    rw [HL.out.1]
    exact row_grow fl (cCell x) zz.toList i n hfl (cCell_len x) hi ROW.toList HR0.out rowA.toList (by rw [HRA.out]) rowB.toList (by rw [HRB.out])
  · have h0 : Below w.heap.size w WA := by rw [HWA.out]; exact ((Below.refl _ _).alloc (Nat.le_refl _) _).drew
    refine h0.trans ⟨rfl, rfl, rfl, by simp [World.setRow], fun k hk => ?_⟩
    show ((WA.setRow w.heap.size rowA).setRow w.heap.size rowB).heap[k]? = WA.heap[k]?
    simp only [World.setRow, Array.getElem?_modify]
    rw [if_neg (by omega), if_neg (by omega)]
/-- one cell into whatever row of one's own -/
theorem ins_c (N : Nat) (v : Value) (l : List CellD) (i : Nat) (x : CellD) (vb : Nat) (w : World) (hO : OwnsF cCell 36 2 w N v l) (hi : i ≤ l.length) (hl : l.length ≤ 1000) (hN : N ≤ w.heap.size)
    (hvb : w.heap[vb]? = some (.cells #[.string ⟨x.fKey.toArray⟩, .int .i64 x.fValue] 36 (0, 0))) (hne : v.ownBlock ≠ some vb) :
    Calls Tryz.prog 147 #[v, .int .i64 i, .slice (some ⟨vb, 0, none⟩) 1 1] w fun e w' => ∃ v', e = .returned v' ∧ OwnsF cCell 36 2 w' N v' (l.take i ++ x :: l.drop i) ∧ w.grownBy w' v.ownBlock := by
  by_cases he : i = l.length
  · subst he
    rw [List.take_length, List.drop_length]
    refine ins_end N v l x vb w hO hl hN ?_
    intro j hj
    rw [cell_of_row w vb j _ 36 (0, 0) hvb]
    rcases (show j = 0 ∨ j = 1 by omega) with rfl | rfl <;> rfl
  · rcases hO.2 with ⟨rfl, hn⟩ | ⟨g, c, cur, rfl, hNg, hg, hnc, hcm, hcs, hcur⟩
    · omega
    · have hgv : vb ≠ g := fun e => hne (by rw [e]; rfl)
      by_cases hr : l.length + 1 ≤ c
      · refine (ins_shift N g c i cur l x vb w hg hcs hcur (by omega) hr hcm hvb hgv).mono ?_
        rintro e w' ⟨v', rfl, ho, hgr⟩
        exact ⟨v', rfl, ho N hNg, hgr⟩
      · have hc : c = l.length := by omega
        subst hc
        refine (ins_grow g i cur l x vb w hg hcs hcur (by omega) hl hvb).mono ?_
        rintro e w' ⟨v', rfl, ho, hb⟩
        exact ⟨v', rfl, ownsF_base ho hN, ⟨hb.os, hb.tape, hb.output, hb.size, fun k hk _ => hb.block k hk⟩⟩
end Go.Proofs.YtghebbndfpbkcaaGreat
/- A core's methods: Put. -/
namespace Go.Proofs.YtghebbndfpbkcaaGreat
set_option linter.unusedVariables false
set_option linter.unusedSimpArgs false
open Go.RowKit
theorem flat_set1 (k : List UInt8) (v : Int) : ∀ (l : List CellD) (p : Nat) (h : p < l.length), (l[p]).fKey = k → (l.flatMap cCell).set (p * 2 + 1) (.int .i64 v) = (l.set p ⟨k, v⟩).flatMap cCell
  | [], p, h, _ => by simp at h
  | d :: r, 0, h, e => by
    simp only [List.getElem_cons_zero] at e
    simp [cCell, e]
  | d :: r, p + 1, h, e => by
    have ih := flat_set1 k v r p (by simpa using h) (by simpa using e)
    rw [List.set_cons_succ, List.flatMap_cons, List.flatMap_cons, ← ih, show (p + 1) * 2 + 1 = (cCell d).length + (p * 2 + 1) by rw [cCell_len]; omega, List.set_append_right _ _ (by omega)]
    simp
theorem CoreBox.cells {w : World} {b : Nat} {cv : Value} {k : List UInt8} {on br : Bool} {l : List CellD} {n : Int} (h : CoreBox w b cv ⟨k, on, br, l, n⟩) (l2 : List CellD) : CoreBox w b cv ⟨k, on, br, l2, n⟩ := ⟨h.c0, h.c1, h.c2, h.c3, h.c4, h.z1, h.z2, h.z3, h.z4⟩
theorem set_blk_cell (w : World) (p q : Addr) (u : Value) (h : q.block ≠ p.block) : (w.setCell p u).cell? q = w.cell? q := World.cell?_of_block (Below.heap_setCell w p u q.block h)
theorem st_count {N b : Nat} {cv : Value} {d d' : CoreD} {w w' : World} (h : CoreSt N b cv d w) (hb : CoreBox w' b cv d') (hc : d'.fCells = d.fCells) (hk : Kept2 w w' (some b) none) : CoreSt N b cv d' w' := (st_turned h hb hc hk).1
theorem Kept2.both {a w w' : World} {b : Nat} {r : Option Nat} (h : Kept2 a w (some b) r) (k : Kept2 w w' (some b) none) : Kept2 a w' (some b) r :=
  ⟨k.os.trans h.os, k.tape.trans h.tape, k.output.trans h.output, Nat.le_trans h.size k.size, fun i hi h1 h2 => (k.block i (Nat.lt_of_lt_of_le hi h.size) h1 (by simp)).trans (h.block i hi h1 h2),
    fun i o hi h1 h2 ho => ⟨(k.tail i o (Nat.lt_of_lt_of_le hi h.size) h1 (by simp) ho).1.trans (h.tail i o hi h1 h2 ho).1, (k.tail i o (Nat.lt_of_lt_of_le hi h.size) h1 (by simp) ho).2.trans (h.tail i o hi h1 h2 ho).2⟩⟩
theorem Kept2.grown {a w w' : World} {b : Nat} {r : Option Nat} (h : Kept2 a w (some b) r) (k : w.grownBy w' r) : Kept2 a w' (some b) r :=
  ⟨k.os.trans h.os, k.tape.trans h.tape, k.output.trans h.output, Nat.le_trans h.size k.size, fun i hi h1 h2 => (k.block i (Nat.lt_of_lt_of_le hi h.size) h2).trans (h.block i hi h1 h2),
    fun i o hi h1 h2 ho => ⟨(World.cell?_of_block (k.block i (Nat.lt_of_lt_of_le hi h.size) (fun e => h2 e.symm))).trans (h.tail i o hi h1 h2 ho).1, (World.frozen?_of_block (k.block i (Nat.lt_of_lt_of_le hi h.size) (fun e => h2 e.symm))).trans (h.tail i o hi h1 h2 ho).2⟩⟩
set_option maxRecDepth 100000 in
set_option maxHeartbeats 3200000 in
theorem put_found (N b : Nat) (cv : Value) (d : CoreD) (key : List UInt8) (n : Int) (w : World) (h : CoreSt N b cv d w) (hm : d.fCells.length ≤ 4) (hr : -9223372036854775808 ≤ d.fCount) (hi : idleI d = 0) (hf : fnd d.fCells key = true) :
    Calls Tryz.prog 144 #[.agg #[.pointer (some ⟨b, 0, none⟩)], .string ⟨key.toArray⟩, .int .i64 n] w fun e w' => Does N b cv (putD d key n) w e w' := by
  have HS := Lib.hid h
  have HB := Lib.hid h.box
  have hl0 := h.box.lt
  have HX := Lib.hid (ownsF_at h.own (by omega))
  obtain ⟨c0, c1, c2, c3, c4, z1, z2, z3, z4⟩ := h.box
  have hne := h.ne
  clear h
  have HD := Lib.hid (fun w' (hw : Below w.heap.size w w') => show CoreBox w' b cv d ∧ Kept2 w w' (some b) none from ⟨HB.out.keep (hw.block b hl0), Kept2.of_below hw⟩)
  have HI := Lib.hid (fun w' (hw : Below w.heap.size w w') => idle_c b cv d w' (HD.out w' hw).1)
  rw [hi] at HI
  have HF := Lib.hid (fun w' (hw : Below w.heap.size w w') => find_c cv d.fCells key w' (HX.out.below hw (Nat.le_refl _)))
  rw [hf] at HF
  have HG := Lib.hid (show putD d key n = ({ d with fCells := putC d.fCells key n, fCount := upI d.fCount }, rV (putC d.fCells key n).length) from by unfold putD; rw [if_pos hi, if_pos (Or.inl hf)])
  have hp := fnd_lt hf
  have hkey : (d.fCells[plc d.fCells key]).fKey = key := by have := (fnd_at d.fCells key hp).1; rw [hf] at this; simpa using this.symm
  have HP := Lib.hid (show putC d.fCells key n = d.fCells.set (plc d.fCells key) ⟨key, n⟩ from putC_found _ _ _ hf)
  have HFS := Lib.hid (flat_set1 key n d.fCells (plc d.fCells key) hp hkey)
  rw [HP.out] at HG
  simp only [List.length_set] at HG
  clear hf hi HP hkey
  generalize putD d key n = out at *
  generalize plc d.fCells key = p at *
  obtain ⟨kd, on, br, l, cnt⟩ := d
  simp only at *
  have hl1 : b < w.heap.size + 1 := by omega
  have hl2 : b < w.heap.size + 1 + 1 := by omega
  have hn0 : ¬ b = w.heap.size := by omega
  have hn1 : ¬ b = w.heap.size + 1 := by omega
  have hap := @past_cell b
  have haf := @past_frozen b
  have HB2 := Lib.hid (show ∀ o1 o2, Below w.heap.size w ((w.alloc o1).alloc o2) from fun o1 o2 => ((Below.refl _ _).alloc (Nat.le_refl _) _).alloc (by simp) _)
  obtain ⟨g, c, rfl⟩ : ∃ g c, cv = .slice (some ⟨g, 0, none⟩) l.length c := by
    rcases HS.out.own.2 with ⟨_, hn⟩ | ⟨g, cap, cur, rfl, _⟩
    · simp only at hn; omega
    · exact ⟨_, _, rfl⟩
  have hgb : ¬ g = b := fun e => hne (by rw [e]; rfl)
  have hgw : g < w.heap.size := (World.ownsRow.lt HS.out.own g rfl).2
  have hp0 : (0 : Int) ≤ (p : Int) := by omega
  have hp1 : (p : Int) < (l.length : Int) := by omega
  go_enter Tryz.func144, Tryz.ntmps144
  go_wp2_with fail
  refine (HI.out _ (HB2.out _ _)).mono ?_
  rintro e w1 ⟨rfl, rfl⟩
  go_wp2_with fail
  refine (HF.out _ (HB2.out _ _)).mono ?_
  rintro e w1 ⟨rfl, hb⟩
  have HB3 := Lib.hid ((HB2.out _ _).trans (hb.mono (HB2.out _ _).size))
  have HO1 := Lib.hid (show OwnsF cCell 36 2 w1 N (.slice (some ⟨g, 0, none⟩) l.length c) l from ownsF_below HS.out.own HB3.out (Nat.le_refl _))
  have ST := Lib.hid (World.ownsRow.stored HO1.out (p * 2 + 1) (.int .i64 n))
  obtain ⟨hcc, hff⟩ := bcell hb
  simp at hcc hff
  have hsz := hb.size
  simp at hsz
  have e1 : (w1.cell? ⟨g, p * 2 + 1, none⟩).isSome = true := by
    rw [World.ownsRow.cellAt HO1.out (p * 2 + 1) (by omega), List.getElem?_eq_getElem (by rw [flat_len cCell 2 cCell_len]; omega)]; rfl
  obtain ⟨ev, e1⟩ := Option.isSome_iff_exists.1 e1
  have f1 := World.ownsRow.frozenAt HO1.out (p * 2 + 1)
  clear hb
  have hz0 : ∀ o, w1.frozen? ⟨w.heap.size + 1, o, none⟩ = false := fun o => by rw [hff _ _ (by omega)]; simp [go_sem]
  go_wp2_with fail
  refine (countUp_c b (.slice (some ⟨g, 0, none⟩) l.length c) ⟨kd, on, br, l.set p ⟨key, n⟩, cnt⟩ _ (((HD.out _ HB3.out).1.so _ _ (by simpa using fun e => hgb e.symm)).cells _) hr).mono ?_
  rintro e w2 ⟨rfl, hbx, hk⟩
  have HBX := Lib.hid hbx
  have HK := Lib.hid hk
  have g0 : w2.cell? ⟨w.heap.size, 0, none⟩ = some (.pointer (some ⟨b, 0, none⟩)) := (hk.cell (p := ⟨w.heap.size, 0, none⟩) (by simp; omega) (by simp; omega) (by simp)).trans ((set_blk_cell _ _ _ _ (by simp; omega)).trans ((hcc _ _ (by omega)).trans (by simp [go_sem])))
  have r0 : w2.cell? ⟨w.heap.size + 1, 0, none⟩ = some (.int .i64 0) := (hk.cell (p := ⟨w.heap.size + 1, 0, none⟩) (by simp; omega) (by simp; omega) (by simp)).trans ((set_blk_cell _ _ _ _ (by simp; omega)).trans ((hcc _ _ (by omega)).trans (by simp [go_sem])))
  have r1 : w2.cell? ⟨w.heap.size + 1, 1, none⟩ = some (.int .i64 0) := (hk.cell (p := ⟨w.heap.size + 1, 1, none⟩) (by simp; omega) (by simp; omega) (by simp)).trans ((set_blk_cell _ _ _ _ (by simp; omega)).trans ((hcc _ _ (by omega)).trans (by simp [go_sem])))
  have r2 : w2.cell? ⟨w.heap.size + 1, 2, none⟩ = some (.string ⟨#[]⟩) := (hk.cell (p := ⟨w.heap.size + 1, 2, none⟩) (by simp; omega) (by simp; omega) (by simp)).trans ((set_blk_cell _ _ _ _ (by simp; omega)).trans ((hcc _ _ (by omega)).trans (by simp [go_sem])))
  have r3 : w2.cell? ⟨w.heap.size + 1, 3, none⟩ = some (.int .i64 0) := (hk.cell (p := ⟨w.heap.size + 1, 3, none⟩) (by simp; omega) (by simp; omega) (by simp)).trans ((set_blk_cell _ _ _ _ (by simp; omega)).trans ((hcc _ _ (by omega)).trans (by simp [go_sem])))
  have r4 : w2.cell? ⟨w.heap.size + 1, 4, none⟩ = some (.int .i64 0) := (hk.cell (p := ⟨w.heap.size + 1, 4, none⟩) (by simp; omega) (by simp; omega) (by simp)).trans ((set_blk_cell _ _ _ _ (by simp; omega)).trans ((hcc _ _ (by omega)).trans (by simp [go_sem])))
  have y0 : ∀ o, w2.frozen? ⟨w.heap.size + 1, o, none⟩ = false := fun o => (hk.frozen (p := ⟨w.heap.size + 1, o, none⟩) (by simp; omega) (by simp; omega) (by simp)).trans ((frz_set _ _ _ _).trans (hz0 o))
  have hsz2 := hk.size
  simp at hsz2
  have d3 := hbx.c3
  clear hbx hk c0 c1 c2 c3 c4 z1 z2 z3 z4
  have S1 := Lib.hid (show CoreSt N b (.slice (some ⟨g, 0, none⟩) l.length c) ⟨kd, on, br, l.set p ⟨key, n⟩, cnt⟩ (w1.setCell ⟨g, p * 2 + 1, none⟩ (.int .i64 n)) from
    ⟨((HD.out _ HB3.out).1.so _ _ (by simpa using fun e => hgb e.symm)).cells _, by have h := ST.out.1; rw [HFS.out] at h; unfold OwnsF; rw [List.length_set]; exact h, hne, HS.out.ge⟩)
  have HFN := Lib.hid (show Fin N b (.slice (some ⟨g, 0, none⟩) l.length c) ⟨kd, on, br, l.set p ⟨key, n⟩, upI cnt⟩ (w.heap.size + 1) w w2 from
    ⟨⟨_, st_count S1.out HBX.out rfl HK.out, by simp [Value.ownBlock]; omega⟩, by omega, by omega, (Kept2.set (p := ⟨g, p * 2 + 1, none⟩) (Kept2.of_below HB3.out) _ (Or.inr (Or.inr rfl))).both HK.out⟩)
  go_wp2_with fail
  refine bodyPost_ret (v := vReply (rV l.length)) (by simp [results, Tryz.results144, go_sem, vReply, rC, rV, rT, cell_set_at, cell_set_ne, r0, r1, r2, r3, r4]) rfl ?_
  rw [HG.out]
  refine fin_does (out := ((⟨kd, on, br, l.set p ⟨key, n⟩, upI cnt⟩ : CoreD), rV l.length)) (n := w.heap.size + 1) ?_
  repeat (with_reducible refine fin_set ?_ _ _)
  exact HFN.out
end Go.Proofs.YtghebbndfpbkcaaGreat
/- A core's methods: Put of a key that is not there; Put. -/
namespace Go.Proofs.YtghebbndfpbkcaaGreat
set_option linter.unusedVariables false
set_option linter.unusedSimpArgs false
open Go.RowKit
set_option maxRecDepth 100000 in
set_option maxHeartbeats 3200000 in
theorem put_idle (N b : Nat) (cv : Value) (d : CoreD) (key : List UInt8) (n : Int) (w : World) (h : CoreSt N b cv d w) (hr : -9223372036854775808 ≤ d.fCount) (hm : d.fCells.length ≤ 4) (hi : ¬ idleI d = 0) :
    Calls Tryz.prog 144 #[.agg #[.pointer (some ⟨b, 0, none⟩)], .string ⟨key.toArray⟩, .int .i64 n] w fun e w' => Does N b cv (putD d key n) w e w' := by
  have HS := Lib.hid h
  have HB := Lib.hid h.box
  have hl0 := h.box.lt
  have HX := Lib.hid (ownsF_at h.own (by omega))
  obtain ⟨c0, c1, c2, c3, c4, z1, z2, z3, z4⟩ := h.box
  have hne := h.ne
  clear h
  have HD := Lib.hid (fun w' (hw : Below w.heap.size w w') => show CoreBox w' b cv d ∧ Kept2 w w' (some b) none from ⟨HB.out.keep (hw.block b hl0), Kept2.of_below hw⟩)
  have HI := Lib.hid (fun w' (hw : Below w.heap.size w w') => idle_c b cv d w' (HD.out w' hw).1)
  have HF := Lib.hid (fun w' (hw : Below w.heap.size w w') => find_c cv d.fCells key w' (HX.out.below hw (Nat.le_refl _)))
  have HG := Lib.hid (show putD d key n = (d, rC (idleI d)) from by unfold putD; rw [if_neg hi])
  generalize putD d key n = out at *
  generalize idleI d = code at *
  obtain ⟨kd, on, br, l, cnt⟩ := d
  simp only at *
  have hl1 : b < w.heap.size + 1 := by omega
  have hl2 : b < w.heap.size + 1 + 1 := by omega
  have hn0 : ¬ b = w.heap.size := by omega
  have hn1 : ¬ b = w.heap.size + 1 := by omega
  have hap := @past_cell b
  have haf := @past_frozen b
  have HB2 := Lib.hid (show ∀ o1 o2, Below w.heap.size w ((w.alloc o1).alloc o2) from fun o1 o2 => ((Below.refl _ _).alloc (Nat.le_refl _) _).alloc (by simp) _)
  have hcn : (code != 0) = true := by simpa using hi
  go_enter Tryz.func144, Tryz.ntmps144
  go_wp2_with fail
  refine (HI.out _ (HB2.out _ _)).mono ?_
  rintro e w1 ⟨rfl, rfl⟩
  go_wp2_with fail
  refine bodyPost_ret (v := vReply (rC code)) (by simp [results, Tryz.results144, go_sem, vReply, rC, rV, rT]) rfl ?_
  refine does_of (d' := ⟨kd, on, br, l, cnt⟩) (r := rC code) HS.out ?_ rfl ?_ HG.out rfl
  · exact (HD.out _ (HB2.out _ _)).1
  · exact (HD.out _ (HB2.out _ _)).2
set_option maxRecDepth 100000 in
set_option maxHeartbeats 3200000 in
theorem put_full (N b : Nat) (cv : Value) (d : CoreD) (key : List UInt8) (n : Int) (w : World) (h : CoreSt N b cv d w) (hr : -9223372036854775808 ≤ d.fCount) (hm : d.fCells.length ≤ 4) (hi : idleI d = 0) (hf : fnd d.fCells key = false) (h4 : ¬ d.fCells.length < 4) :
    Calls Tryz.prog 144 #[.agg #[.pointer (some ⟨b, 0, none⟩)], .string ⟨key.toArray⟩, .int .i64 n] w fun e w' => Does N b cv (putD d key n) w e w' := by
  have HS := Lib.hid h
  have HB := Lib.hid h.box
  have hl0 := h.box.lt
  have HX := Lib.hid (ownsF_at h.own (by omega))
  obtain ⟨c0, c1, c2, c3, c4, z1, z2, z3, z4⟩ := h.box
  have hne := h.ne
  clear h
  have HD := Lib.hid (fun w' (hw : Below w.heap.size w w') => show CoreBox w' b cv d ∧ Kept2 w w' (some b) none from ⟨HB.out.keep (hw.block b hl0), Kept2.of_below hw⟩)
  have HI := Lib.hid (fun w' (hw : Below w.heap.size w w') => idle_c b cv d w' (HD.out w' hw).1)
  have HF := Lib.hid (fun w' (hw : Below w.heap.size w w') => find_c cv d.fCells key w' (HX.out.below hw (Nat.le_refl _)))
  rw [hi] at HI
  rw [hf] at HF
  have HG := Lib.hid (show putD d key n = (d, rC 5) from by unfold putD; rw [if_pos hi, if_neg (by rw [hf]; simpa using h4)])
  clear hf hi
  generalize putD d key n = out at *
  generalize plc d.fCells key = p at *
  obtain ⟨kd, on, br, l, cnt⟩ := d
  simp only at *
  have hl1 : b < w.heap.size + 1 := by omega
  have hl2 : b < w.heap.size + 1 + 1 := by omega
  have hn0 : ¬ b = w.heap.size := by omega
  have hn1 : ¬ b = w.heap.size + 1 := by omega
  have hap := @past_cell b
  have haf := @past_frozen b
  have HB2 := Lib.hid (show ∀ o1 o2, Below w.heap.size w ((w.alloc o1).alloc o2) from fun o1 o2 => ((Below.refl _ _).alloc (Nat.le_refl _) _).alloc (by simp) _)
  obtain ⟨ca, cc, rfl⟩ := slice_of HS.out.own
  simp only at *
  have h5 : (4 : Int) ≤ (l.length : Int) := by omega
  go_enter Tryz.func144, Tryz.ntmps144
  go_wp2_with fail
  refine (HI.out _ (HB2.out _ _)).mono ?_
  rintro e w1 ⟨rfl, rfl⟩
  go_wp2_with fail
  refine (HF.out _ (HB2.out _ _)).mono ?_
  rintro e w1 ⟨rfl, hb⟩
  have HB3 := Lib.hid ((HB2.out _ _).trans (hb.mono (HB2.out _ _).size))
  obtain ⟨hcc, hff⟩ := bcell hb
  simp at hcc hff
  have hsz := hb.size
  simp at hsz
  clear hb
  go_wp2_with fail
  refine bodyPost_ret (v := vReply (rC 5)) (by simp [results, Tryz.results144, go_sem, vReply, rC, rV, rT, cell_set_at, cell_set_ne, hcc]) rfl ?_
  refine does_of (d' := ⟨kd, on, br, l, cnt⟩) (r := rC 5) HS.out ?_ rfl ?_ HG.out rfl
  · exact (HD.out _ (by repeat (first | with_reducible exact HB3.out | with_reducible refine Below.setCell ?_ (by simp; try omega) _)) ).1
  · exact (HD.out _ (by repeat (first | with_reducible exact HB3.out | with_reducible refine Below.setCell ?_ (by simp; try omega) _)) ).2
theorem slice_len {α : Type} {f : α → List Value} {E k : Nat} {w : World} {B m : Nat} {v : Value} {l : List α} (h : OwnsF f E k w B v l) (hm : l.length = m) : ∃ a c, v = .slice a m c := by
  subst hm; exact slice_of h
theorem row_not_bool {w : World} {N b : Nat} {v : Value} {l : List CellD} {x : Bool} (h : OwnsF cCell 36 2 w N v l) (hl : 0 < l.length) (hb : w.cell? ⟨b, 1, none⟩ = some (.bool x)) : v.ownBlock ≠ some b := by
  rcases h.2 with ⟨rfl, _⟩ | ⟨g, cap, cur, rfl, _⟩
  · simp [Value.ownBlock]
  · intro e
    simp [Value.ownBlock] at e
    subst e
    have h1 := World.ownsRow.cellAt h 1 (by omega)
    rw [hb] at h1
    cases l with
    | nil => simp at hl
    | cons d r => simp [cCell] at h1
theorem row_not_int {w : World} {N b : Nat} {v : Value} {l : List CellD} {x : Int} (h : OwnsF cCell 36 2 w N v l) (hl : 0 < l.length) (hb : w.cell? ⟨b, 0, none⟩ = some (.int .i64 x)) : v.ownBlock ≠ some b := by
  rcases h.2 with ⟨rfl, _⟩ | ⟨g, cap, cur, rfl, _⟩
  · simp [Value.ownBlock]
  · intro e
    simp [Value.ownBlock] at e
    subst e
    have h1 := World.ownsRow.cellAt h 0 (by omega)
    rw [hb] at h1
    cases l with
    | nil => simp at hl
    | cons d r => simp [cCell] at h1
end Go.Proofs.YtghebbndfpbkcaaGreat
/- A region that draws its order, in which a condition on the world holds behind every operation but one, and that one waits for all that lean on it. -/
namespace Go.Proofs.YtghebbndfpbkcaaGreat
open Go
section
variable {P : Program} {ops : Array Oper} {Q : Exit → Act → World → Prop} {md : Region.Mode} {S : World → Prop} {t : Nat}
/-- what has come up has come up behind all that it waits for -/
def ClosedL (md : Region.Mode) (ops : Array Oper) (listed : Array Bool) : Prop :=
  ∀ k o, ops[k]? = some o → k < ops.size → listed.getD k false = true → ∀ e ∈ o.after, Region.binds md e = true → listed.getD e.on false = true
def closedB (md : Region.Mode) (ops : Array Oper) (listed : Array Bool) : Bool :=
  (List.range ops.size).all fun k => !listed.getD k false || match ops[k]? with
    | some o => o.after.all fun e => !Region.binds md e || listed.getD e.on false
    | none => true
/-- t waits for i, by however many steps -/
def reachB (md : Region.Mode) (ops : Array Oper) (i : Nat) : Nat → Nat → Bool
  | 0, _ => false
  | n + 1, t => match ops[t]? with
    | some o => o.after.any fun e => Region.binds md e && (e.on == i || reachB md ops i n e.on)
    | none => false
theorem closed_of {listed : Array Bool} (h : closedB md ops listed = true) : ClosedL md ops listed := by
  intro k o hk hlt hl e he hb
  have h1 := List.all_eq_true.1 h k (List.mem_range.2 hlt)
  simp only [hl, hk, Bool.not_true, Bool.false_or] at h1
  have h2 := Array.all_eq_true_iff_forall_mem.1 h1 e he
  simpa [hb] using h2
theorem closed_set {listed : Array Bool} {j : Nat} (hc : ClosedL md ops listed) (hj : j ∈ Region.ready md ops listed) : ClosedL md ops (listed.setIfInBounds j true) := by
  intro k o hk hlt hl e he hb
  obtain ⟨_, oj, hoj, hall⟩ := mem_ready.1 hj
  by_cases hjk : j = k
  · subst hjk
    rw [hoj] at hk; injection hk with hk; subst hk
    exact getD_set_true (hall e he hb)
  · rw [getD_set_ne false hjk] at hl
    exact getD_set_true (hc k o hk hlt hl e he hb)
theorem reach_listed {listed : Array Bool} (hc : ClosedL md ops listed) (i : Nat) : ∀ n s, reachB md ops i n s = true →
    (∀ o, ops[s]? = some o → ∀ e ∈ o.after, Region.binds md e = true → listed.getD e.on false = true) → listed.getD i false = true := by
  intro n
  induction n with
  | zero => intro s h; cases h
  | succ n ih =>
    intro s h hall
    unfold reachB at h
    split at h
    case h_2 => cases h
    rename_i o ho
    obtain ⟨e, he, h1⟩ := Array.any_eq_true'.1 h
    rw [Bool.and_eq_true, Bool.or_eq_true, beq_iff_eq] at h1
    have h2 := hall o ho e he h1.1
    rcases h1.2 with h3 | h3
    · rw [← h3]; exact h2
    · refine ih e.on h3 fun o' ho' => ?_
      exact hc e.on o' ho' (Array.getElem?_eq_some_iff.1 ho').1 h2
/-- whatever order is picked from here on; S holds behind every operation but t -/
def wpAnyT (P : Program) (md : Region.Mode) (ops : Array Oper) (Q : Exit → Act → World → Prop) (S : World → Prop) (t : Nat) : Nat → Array Bool → Act → World → Prop
  | 0, listed, a, w => Region.ready md ops listed = [] ∧ Q .normal a w
  | fuel + 1, listed, a, w =>
    (Region.ready md ops listed = [] → Q .normal a w) ∧
    ∀ i ∈ Region.ready md ops listed, wpOp P ops Q i (fun a' w' => (i ≠ t → S w') ∧ wpAnyT P md ops Q S t fuel (listed.setIfInBounds i true) a' w') a w
theorem any_of_T : ∀ (fuel : Nat) (listed : Array Bool) (a : Act) (w : World), wpAnyT P md ops Q S t fuel listed a w → wpAny P md ops Q fuel listed a w
  | 0, _, _, _, h => h
  | fuel + 1, _, _, _, h => ⟨h.1, fun i hi => wpOp_mono (fun a' w' h' => any_of_T fuel _ a' w' h'.2) (h.2 i hi)⟩
theorem anyT_first {i n : Nat} {oi : Oper} {v : Value} (hi : ops[i]? = some oi) (hsel : ∀ (j : Nat) (o : Oper) cs b, ops[j]? = some o → o.op ≠ .select cs b)
    (hQ : ∀ c a w, Q (.panic c) (a.put oi.dst v) w → Q (.panic c) a w) (hre : reachB md ops i n t = true) :
    ∀ (fuel : Nat) (listed : Array Bool) (a : Act) (w : World), ClosedL md ops listed →
      (∀ j oj, ops[j]? = some oj → j ≠ i → listed.getD j true = false → (∀ e ∈ oj.after, Region.binds md e = true → e.on ≠ i) → oi.apart ops oj = true) →
      i ∈ Region.ready md ops listed → YieldsIf P ops S oi v a → S w →
      wpAnyT P md ops Q S t fuel (listed.setIfInBounds i true) (a.put oi.dst v) w → wpAnyT P md ops Q S t (fuel + 1) listed a w := by
  intro fuel
  have unl : ∀ listed : Array Bool, i ∈ Region.ready md ops listed → listed.getD i false = false := fun listed hr => by
    have h0 := (mem_ready.1 hr).1
    rcases Nat.lt_or_ge i listed.size with h' | h'
    · simp [h'] at h0 ⊢; exact h0
    · simp [Array.getElem?_eq_none h']
  induction fuel with
  | zero =>
    intro listed a w hc _ hr hy hS H
    refine ⟨fun h => (by rw [h] at hr; cases hr), fun j hj => ?_⟩
    by_cases hji : j = i
    · subst hji; exact hy.wpOp hi hS ⟨fun _ => hS, H⟩
    · have := ready_mono hj hji
      rw [H.1] at this; cases this
  | succ fuel ih =>
    intro listed a w hc hfree hr hy hS H
    refine ⟨fun h => (by rw [h] at hr; cases hr), fun j hj => ?_⟩
    by_cases hji : j = i
    · subst hji; exact hy.wpOp hi hS ⟨fun _ => hS, H⟩
    · obtain ⟨hjun, oj, hoj, hall⟩ := mem_ready.1 hj
      have hjt : j ≠ t := fun e => by
        have := reach_listed hc i n t hre (fun o ho e' he' hb' => by rw [← e, hoj] at ho; injection ho with ho; subst ho; exact hall e' he' hb')
        rw [unl listed hr] at this; cases this
      have hnot : ∀ e ∈ oj.after, Region.binds md e = true → e.on ≠ i := fun e he hb heq => by
        have h1 := hall e he hb
        rw [heq, unl listed hr] at h1; cases h1
      have h2 := wpOp_putIf hoj (hfree j oj hoj hji hjun hnot) (fun cs b => hsel i oi cs b hi) (fun cs b => hsel j oj cs b hoj) hQ hy (H.2 j (ready_mono hj hji))
      refine wpOp_mono (fun a' w' h3 => ⟨fun _ => h3.2.1 hjt, ih (listed.setIfInBounds j true) a' w' (closed_set hc hj) ?_ (ready_mono hr (Ne.symm hji)) h3.1 (h3.2.1 hjt) ?_⟩) h2
      · intro k ok hk hki hun hno
        refine hfree k ok hk hki ?_ hno
        by_cases hjk : j = k
        · subst hjk; exact hjun
        · rw [getD_set_ne true hjk] at hun; exact hun
      · rw [Array.setIfInBounds_comm _ _ hji]; exact h3.2.2
theorem anyT_take {i : Nat} {oi : Oper} {v : Value} {fuel : Nat} {listed : Array Bool} {a : Act} {w : World} (hi : ops[i]? = some oi)
    (hs : Region.noSelect ops = true) (hf : Region.free md ops listed i = true) (hr : (Region.ready md ops listed).contains i = true) (hre : reachB md ops i ops.size t = true) (hc : closedB md ops listed = true)
    (hQ : ∀ c a w, Q (.panic c) (a.put oi.dst v) w → Q (.panic c) a w) (hy : YieldsIf P ops S oi v a) (hS : S w)
    (h : wpAnyT P md ops Q S t fuel (listed.setIfInBounds i true) (a.put oi.dst v) w) : wpAnyT P md ops Q S t (fuel + 1) listed a w :=
  anyT_first hi (Region.noSelect_spec hs) hQ hre fuel listed a w (closed_of hc) (Region.free_spec hi hf) (by simpa using hr) hy hS h
/-- the only one that may come up comes up: behind it S is to be shown anew -/
theorem anyT_only {i : Nat} {o : Oper} {fuel : Nat} {listed : Array Bool} {a : Act} {w : World} (hr : Region.ready md ops listed = [i]) (ho : ops[i]? = some o)
    (h : ∀ K' : Act → World → Prop, Shut (∀ a w, S w → (S w → wpAnyT P md ops Q S t fuel (listed.setIfInBounds i true) a w) → K' a w) → if Region.wanted o (yielded ops a.tmps) = true then Oper.wp P o a w K' Q else K' (a.put o.dst undef) w) :
    wpAnyT P md ops Q S t (fuel + 1) listed a w := by
  refine ⟨fun h0 => (by rw [h0] at hr; cases hr), fun j hj => ?_⟩
  rw [hr] at hj
  obtain rfl : j = i := by simpa using hj
  exact wpOp_step ho (fun K' hK => h K' (fun a w hS hW => hK a w ⟨fun _ => hS, hW hS⟩))
/-- t comes up, the last but for nothing -/
theorem anyT_tail {o : Oper} {fuel : Nat} {listed : Array Bool} {a : Act} {w : World} (hr : Region.ready md ops listed = [t]) (ho : ops[t]? = some o)
    (h : ∀ K' : Act → World → Prop, Shut (∀ a w, wpAnyT P md ops Q S t fuel (listed.setIfInBounds t true) a w → K' a w) → if Region.wanted o (yielded ops a.tmps) = true then Oper.wp P o a w K' Q else K' (a.put o.dst undef) w) :
    wpAnyT P md ops Q S t (fuel + 1) listed a w := by
  refine ⟨fun h0 => (by rw [h0] at hr; cases hr), fun j hj => ?_⟩
  rw [hr] at hj
  obtain rfl : j = t := by simpa using hj
  exact wpOp_step ho (fun K' hK => h K' (fun a w hW => hK a w ⟨fun h => absurd rfl h, hW⟩))
theorem anyT_done {listed : Array Bool} {a : Act} {w : World} (hr : Region.ready md ops listed = []) (h : Q .normal a w) : ∀ fuel, wpAnyT P md ops Q S t fuel listed a w
  | 0 => ⟨hr, h⟩
  | _ + 1 => ⟨fun _ => h, by rw [hr]; simp⟩
theorem region_T {id : Nat} {a : Act} {w : World} (hm : P.follows .mixedOrders = true) (hS : S w.drew)
    (h : S w.drew → wpAnyT P .any ops Q S t ops.size (Array.replicate ops.size false) a w.drew) : (Code.region id ops true).wp P Q a w :=
  wp_region_any hm (any_of_T _ _ _ _ (h hS))
end
end Go.Proofs.YtghebbndfpbkcaaGreat
/- A core's methods: Put of a key that is not there. -/
namespace Go.Proofs.YtghebbndfpbkcaaGreat
set_option linter.unusedVariables false
set_option linter.unusedSimpArgs false
open Go.RowKit
set_option maxRecDepth 100000 in
set_option maxHeartbeats 3200000 in
theorem put_new (N b : Nat) (cv : Value) (d : CoreD) (key : List UInt8) (n : Int) (w : World) (h : CoreSt N b cv d w) (hr : -9223372036854775808 ≤ d.fCount) (h4 : d.fCells.length < 4) (hk : key.length ≤ 1048576) (hi : idleI d = 0) (hf : fnd d.fCells key = false) :
    Calls Tryz.prog 144 #[.agg #[.pointer (some ⟨b, 0, none⟩)], .string ⟨key.toArray⟩, .int .i64 n] w fun e w' => Does N b cv (putD d key n) w e w' := by
  have HS := Lib.hid h
  have HB := Lib.hid h.box
  have hl0 := h.box.lt
  have HX := Lib.hid (ownsF_at h.own (by omega))
  obtain ⟨c0, c1, c2, c3, c4, z1, z2, z3, z4⟩ := h.box
  have hne := h.ne
  clear h
  have HD := Lib.hid (fun w' (hw : Below w.heap.size w w') => show CoreBox w' b cv d ∧ Kept2 w w' (some b) none from ⟨HB.out.keep (hw.block b hl0), Kept2.of_below hw⟩)
  have HI := Lib.hid (fun w' (hw : Below w.heap.size w w') => idle_c b cv d w' (HD.out w' hw).1)
  have HF := Lib.hid (fun w' (hw : Below w.heap.size w w') => find_c cv d.fCells key w' (HX.out.below hw (Nat.le_refl _)))
  rw [hi] at HI
  rw [hf] at HF
  have HG := Lib.hid (show putD d key n = ({ d with fCells := putC d.fCells key n, fCount := upI d.fCount }, rV (putC d.fCells key n).length) from by unfold putD; rw [if_pos hi, if_pos (Or.inr h4)])
  have HP := Lib.hid (show putC d.fCells key n = d.fCells.take (plc d.fCells key) ++ ⟨key, n⟩ :: d.fCells.drop (plc d.fCells key) from putC_new _ _ _ hf)
  have hple := plc_le d.fCells key
  have HLN := Lib.hid (show (putC d.fCells key n).length = d.fCells.length + 1 from by rw [putC_len, hf]; rfl)
  clear hf hi
  generalize putD d key n = out at *
  generalize plc d.fCells key = p at *
  generalize putC d.fCells key n = l2 at *
  obtain ⟨kd, on, br, l, cnt⟩ := d
  simp only at *
  have hl1 : b < w.heap.size + 1 := by omega
  have hl2 : b < w.heap.size + 1 + 1 := by omega
  have hn0 : ¬ b = w.heap.size := by omega
  have hn1 : ¬ b = w.heap.size + 1 := by omega
  have hap := @past_cell b
  have haf := @past_frozen b
  have HB2 := Lib.hid (show ∀ o1 o2, Below w.heap.size w ((w.alloc o1).alloc o2) from fun o1 o2 => ((Below.refl _ _).alloc (Nat.le_refl _) _).alloc (by simp) _)
  obtain ⟨ca, cc, rfl⟩ := slice_of HS.out.own
  simp only at *
  have h5 : ¬ (4 : Int) ≤ (l.length : Int) := by omega
  have HCT := Lib.hid (fun W => copyText_any ⟨key.toArray⟩ W (by rw [← size_list]; simp; omega))
  have HLT := Lib.hid (show ∀ g, (Value.slice ca l.length cc).ownBlock = some g → g < w.heap.size from fun g h => (World.ownsRow.lt HS.out.own g h).2)
  have hge := HS.out.ge
  have hlen : (l.take p ++ (⟨key, n⟩ : CellD) :: l.drop p).length = l.length + 1 := by simp; omega
  go_enter Tryz.func144, Tryz.ntmps144
  go_wp2_with fail
  refine (HI.out _ (HB2.out _ _)).mono ?_
  rintro e w1 ⟨rfl, rfl⟩
  go_wp2_with fail
  refine (HF.out _ (HB2.out _ _)).mono ?_
  rintro e w1 ⟨rfl, hb⟩
  have HB3 := Lib.hid ((HB2.out _ _).trans (hb.mono (HB2.out _ _).size))
  have HO1 := Lib.hid (show OwnsF cCell 36 2 w1 N (.slice ca l.length cc) l from ownsF_below HS.out.own HB3.out (Nat.le_refl _))
  have HBX1 := Lib.hid (HD.out _ HB3.out).1
  have k3 := HBX1.out.c3
  have hsz := hb.size
  simp at hsz
  have g0 : w1.cell? ⟨w.heap.size, 0, none⟩ = some (.pointer (some ⟨b, 0, none⟩)) := (hb.cell (p := ⟨w.heap.size, 0, none⟩) (by simp; try omega)).trans (by simp [go_sem])
  have r0 : w1.cell? ⟨w.heap.size + 1, 0, none⟩ = some (.int .i64 0) := (hb.cell (p := ⟨w.heap.size + 1, 0, none⟩) (by simp)).trans (by simp [go_sem])
  have r1 : w1.cell? ⟨w.heap.size + 1, 1, none⟩ = some (.int .i64 0) := (hb.cell (p := ⟨w.heap.size + 1, 1, none⟩) (by simp)).trans (by simp [go_sem])
  have r2 : w1.cell? ⟨w.heap.size + 1, 2, none⟩ = some (.string ⟨#[]⟩) := (hb.cell (p := ⟨w.heap.size + 1, 2, none⟩) (by simp)).trans (by simp [go_sem])
  have r3 : w1.cell? ⟨w.heap.size + 1, 3, none⟩ = some (.int .i64 0) := (hb.cell (p := ⟨w.heap.size + 1, 3, none⟩) (by simp)).trans (by simp [go_sem])
  have r4 : w1.cell? ⟨w.heap.size + 1, 4, none⟩ = some (.int .i64 0) := (hb.cell (p := ⟨w.heap.size + 1, 4, none⟩) (by simp)).trans (by simp [go_sem])
  have y0 : ∀ o, w1.frozen? ⟨w.heap.size + 1, o, none⟩ = false := fun o => (hb.frozen (p := ⟨w.heap.size + 1, o, none⟩) (by simp)).trans (by simp [go_sem])
  have HR := Lib.hid (And.intro r0 (And.intro r1 (And.intro r2 (And.intro r3 r4))))
  have HY := Lib.hid y0
  have hbw : b < w1.heap.size := by omega
  clear hb c0 c1 c2 c3 c4 z1 z2 z3 z4 r0 r1 r2 r3 r4 y0
  go_wp2_with fail
  have hpn := @past_cell w.heap.size
  refine region_T (S := fun w' => w'.cell? ⟨w.heap.size, 0, none⟩ = some (.pointer (some ⟨b, 0, none⟩)) ∧ w'.cell? ⟨b, 3, none⟩ = some (.slice ca l.length cc)) (t := 16) (by kernel_rfl) ?_ (fun hHeld => ?_)
  · exact ⟨g0, k3⟩
  refine anyT_take (i := 0) (v := ?_) rfl (by kernel_rfl) (by kernel_rfl) (by kernel_rfl) (by kernel_rfl) (by kernel_rfl) (fun _ _ _ h => h) (Or.inl ⟨by rfl, ?_⟩) (by assumption) ?_
  rotate_left
  · intro w hSw; (try dsimp only at hSw); go_simp; with_reducible rfl
  try simp only [Act.put, List.getElem_toArray, List.getElem_cons_zero, List.getElem_cons_succ, List.setIfInBounds_toArray, List.set_cons_zero, List.set_cons_succ]
  refine anyT_take (i := 1) (v := ?_) rfl (by kernel_rfl) (by kernel_rfl) (by kernel_rfl) (by kernel_rfl) (by kernel_rfl) (fun _ _ _ h => h) (Or.inl ⟨by rfl, ?_⟩) (by assumption) ?_
  rotate_left
  · intro w hSw; (try dsimp only at hSw); go_simp; with_reducible rfl
  try simp only [Act.put, List.getElem_toArray, List.getElem_cons_zero, List.getElem_cons_succ, List.setIfInBounds_toArray, List.set_cons_zero, List.set_cons_succ]
  refine anyT_take (i := 2) (v := ?_) rfl (by kernel_rfl) (by kernel_rfl) (by kernel_rfl) (by kernel_rfl) (by kernel_rfl) (fun _ _ _ h => h) (Or.inl ⟨by rfl, ?_⟩) (by assumption) ?_
  rotate_left
  · intro w hSw; (try dsimp only at hSw); go_simp; with_reducible rfl
  try simp only [Act.put, List.getElem_toArray, List.getElem_cons_zero, List.getElem_cons_succ, List.setIfInBounds_toArray, List.set_cons_zero, List.set_cons_succ]
  refine anyT_take (i := 3) (v := ?_) rfl (by kernel_rfl) (by kernel_rfl) (by kernel_rfl) (by kernel_rfl) (by kernel_rfl) (fun _ _ _ h => h) (Or.inl ⟨by rfl, ?_⟩) (by assumption) ?_
  rotate_left
  · intro w hSw; (try dsimp only at hSw); go_simp; with_reducible rfl
  try simp only [Act.put, List.getElem_toArray, List.getElem_cons_zero, List.getElem_cons_succ, List.setIfInBounds_toArray, List.set_cons_zero, List.set_cons_succ]
  refine anyT_take (i := 4) (v := ?_) rfl (by kernel_rfl) (by kernel_rfl) (by kernel_rfl) (by kernel_rfl) (by kernel_rfl) (fun _ _ _ h => h) (Or.inl ⟨by rfl, ?_⟩) (by assumption) ?_
  rotate_left
  · intro w hSw; (try dsimp only at hSw); go_simp; with_reducible rfl
  try simp only [Act.put, List.getElem_toArray, List.getElem_cons_zero, List.getElem_cons_succ, List.setIfInBounds_toArray, List.set_cons_zero, List.set_cons_succ]
  refine anyT_take (i := 5) (v := ?_) rfl (by kernel_rfl) (by kernel_rfl) (by kernel_rfl) (by kernel_rfl) (by kernel_rfl) (fun _ _ _ h => h) (Or.inl ⟨by rfl, ?_⟩) (by assumption) ?_
  rotate_left
  · intro w hSw; (try dsimp only at hSw); go_simp; with_reducible rfl
  try simp only [Act.put, List.getElem_toArray, List.getElem_cons_zero, List.getElem_cons_succ, List.setIfInBounds_toArray, List.set_cons_zero, List.set_cons_succ]
  refine anyT_take (i := 6) (v := ?_) rfl (by kernel_rfl) (by kernel_rfl) (by kernel_rfl) (by kernel_rfl) (by kernel_rfl) (fun _ _ _ h => h) (Or.inl ⟨by rfl, ?_⟩) (by assumption) ?_
  rotate_left
  · intro w hSw; (try dsimp only at hSw); go_simp; with_reducible rfl
  try simp only [Act.put, List.getElem_toArray, List.getElem_cons_zero, List.getElem_cons_succ, List.setIfInBounds_toArray, List.set_cons_zero, List.set_cons_succ]
  refine anyT_take (i := 7) (v := ?_) rfl (by kernel_rfl) (by kernel_rfl) (by kernel_rfl) (by kernel_rfl) (by kernel_rfl) (fun _ _ _ h => h) (Or.inl ⟨by rfl, ?_⟩) (by assumption) ?_
  rotate_left
  · intro w hSw; (try dsimp only at hSw); go_simp; with_reducible rfl
  try simp only [Act.put, List.getElem_toArray, List.getElem_cons_zero, List.getElem_cons_succ, List.setIfInBounds_toArray, List.set_cons_zero, List.set_cons_succ]
  refine anyT_take (i := 8) (v := ?_) rfl (by kernel_rfl) (by kernel_rfl) (by kernel_rfl) (by kernel_rfl) (by kernel_rfl) (fun _ _ _ h => h) (Or.inl ⟨by rfl, ?_⟩) (by assumption) ?_
  rotate_left
  · intro w hSw; (try dsimp only at hSw); go_simp; with_reducible rfl
  try simp only [Act.put, List.getElem_toArray, List.getElem_cons_zero, List.getElem_cons_succ, List.setIfInBounds_toArray, List.set_cons_zero, List.set_cons_succ]
  refine anyT_take (i := 10) (v := ?_) rfl (by kernel_rfl) (by kernel_rfl) (by kernel_rfl) (by kernel_rfl) (by kernel_rfl) (fun _ _ _ h => h) (Or.inl ⟨by rfl, ?_⟩) (by assumption) ?_
  rotate_left
  · intro w hSw; (try dsimp only at hSw); go_simp; with_reducible rfl
  try simp only [Act.put, List.getElem_toArray, List.getElem_cons_zero, List.getElem_cons_succ, List.setIfInBounds_toArray, List.set_cons_zero, List.set_cons_succ]
  refine anyT_only (i := 9) (by kernel_rfl) rfl (fun K hK => ?_)
  go_simp
  go_at_call 68; (with_reducible refine (HCT.out _).mono ?_); rintro e w2 ⟨rfl, hb1⟩; have s2 : w1.heap.size ≤ w2.heap.size := hb1.size; have g2 : w2.cell? ⟨w.heap.size, 0, none⟩ = some (.pointer (some ⟨b, 0, none⟩)) := (hb1.cell (p := ⟨w.heap.size, 0, none⟩) (show w.heap.size < w1.heap.size by omega)).trans g0; have k32 : w2.cell? ⟨b, 3, none⟩ = some (.slice ca l.length cc) := (hb1.cell (p := ⟨b, 3, none⟩) hbw).trans k3; have z32 : w2.frozen? ⟨b, 3, none⟩ = false := (hb1.frozen (p := ⟨b, 3, none⟩) hbw).trans HBX1.out.z3; have hbw2 : b < w2.heap.size := (by omega); have hnw2 : w.heap.size < w2.heap.size := (by omega)
  refine hK.out _ _ ?_ (fun hHeld => ?_)
  · exact ⟨g2, k32⟩
  clear hK K
  try simp only [Act.put, List.getElem_toArray, List.getElem_cons_zero, List.getElem_cons_succ, List.setIfInBounds_toArray, List.set_cons_zero, List.set_cons_succ]
  refine anyT_take (i := 11) (v := ?_) rfl (by kernel_rfl) (by kernel_rfl) (by kernel_rfl) (by kernel_rfl) (by kernel_rfl) (fun _ _ _ h => h) (Or.inl ⟨by rfl, ?_⟩) (by assumption) ?_
  rotate_left
  · intro w hSw; (try dsimp only at hSw); go_simp; with_reducible rfl
  try simp only [Act.put, List.getElem_toArray, List.getElem_cons_zero, List.getElem_cons_succ, List.setIfInBounds_toArray, List.set_cons_zero, List.set_cons_succ]
  refine anyT_only (i := 12) (by kernel_rfl) rfl (fun K hK => ?_)
  go_simp
  skip
  refine hK.out _ _ ?_ (fun hHeld => ?_)
  · exact ⟨(past_cell w2 _ 0 hnw2).trans g2, (past_cell w2 _ 3 hbw2).trans k32⟩
  clear hK K
  try simp only [Act.put, List.getElem_toArray, List.getElem_cons_zero, List.getElem_cons_succ, List.setIfInBounds_toArray, List.set_cons_zero, List.set_cons_succ]
  refine anyT_only (i := 13) (by kernel_rfl) rfl (fun K hK => ?_)
  go_simp
  go_at_call 147; refine (ins_c N _ l p ⟨key, n⟩ w2.heap.size _ (ownsF_alloc (ownsF_below (ownsF_drew HO1.out) hb1 (Nat.le_refl _)) _) hple (by omega) (by simp; omega) (heap_alloc_new w2 _) (fun e => by have := HLT.out _ e; omega)).mono ?_; rintro e w4 ⟨v', rfl, hO4, hg2⟩; have HO4 := Lib.hid hO4; obtain ⟨va, vc, rfl⟩ := slice_len hO4 hlen; clear hO4; have s4 : w2.heap.size + 1 ≤ w4.heap.size := (by have := hg2.size; simpa using this); have b3 : w4.cell? ⟨b, 3, none⟩ = some (.slice ca l.length cc) := (hg2.cell_far ⟨b, 3, none⟩ (by simp; omega) (fun e => hne e.symm)).trans ((past_cell w2 _ 3 hbw2).trans k32); have b0 : w4.cell? ⟨w.heap.size, 0, none⟩ = some (.pointer (some ⟨b, 0, none⟩)) := (hg2.cell_far ⟨w.heap.size, 0, none⟩ (by simp; omega) (fun e => by have h9 := HLT.out _ e.symm; simp at h9)).trans ((past_cell w2 _ 0 hnw2).trans g2); have z3 : w4.frozen? ⟨b, 3, none⟩ = false := (hg2.frozen_far ⟨b, 3, none⟩ (by simp; omega) (fun e => hne e.symm)).trans ((past_frozen w2 _ 3 hbw2).trans z32)
  refine hK.out _ _ ?_ (fun hHeld => ?_)
  · exact ⟨b0, b3⟩
  clear hK K
  try simp only [Act.put, List.getElem_toArray, List.getElem_cons_zero, List.getElem_cons_succ, List.setIfInBounds_toArray, List.set_cons_zero, List.set_cons_succ]
  refine anyT_take (i := 14) (v := ?_) rfl (by kernel_rfl) (by kernel_rfl) (by kernel_rfl) (by kernel_rfl) (by kernel_rfl) (fun _ _ _ h => h) (Or.inl ⟨by rfl, ?_⟩) (by assumption) ?_
  rotate_left
  · intro w hSw; (try dsimp only at hSw); go_simp; with_reducible rfl
  try simp only [Act.put, List.getElem_toArray, List.getElem_cons_zero, List.getElem_cons_succ, List.setIfInBounds_toArray, List.set_cons_zero, List.set_cons_succ]
  refine anyT_take (i := 15) (v := ?_) rfl (by kernel_rfl) (by kernel_rfl) (by kernel_rfl) (by kernel_rfl) (by kernel_rfl) (fun _ _ _ h => h) (Or.inl ⟨by rfl, ?_⟩) (by assumption) ?_
  rotate_left
  · intro w hSw; (try dsimp only at hSw); go_simp; with_reducible rfl
  try simp only [Act.put, List.getElem_toArray, List.getElem_cons_zero, List.getElem_cons_succ, List.setIfInBounds_toArray, List.set_cons_zero, List.set_cons_succ]
  refine anyT_tail (by kernel_rfl) rfl (fun K hK => ?_)
  go_simp
  refine hK.out _ _ ?_
  clear hK K
  try simp only [Act.put, List.getElem_toArray, List.getElem_cons_zero, List.getElem_cons_succ, List.setIfInBounds_toArray, List.set_cons_zero, List.set_cons_succ]
  refine anyT_done (by kernel_rfl) ?_ _
  obtain ⟨r0, r1, r2, r3, r4⟩ := HR.out
  have y0 := HY.out
  have hn1w : w.heap.size + 1 < w1.heap.size := by omega
  have hfar : ∀ o, w4.cell? ⟨w.heap.size + 1, o, none⟩ = w1.cell? ⟨w.heap.size + 1, o, none⟩ := fun o => (hg2.cell_far ⟨w.heap.size + 1, o, none⟩ (by simp; omega) (fun e => by have h9 := HLT.out _ e.symm; simp at h9; omega)).trans ((past_cell w2 _ o (by omega)).trans (hb1.cell (p := ⟨w.heap.size + 1, o, none⟩) hn1w))
  have hfrz : ∀ o, w4.frozen? ⟨w.heap.size + 1, o, none⟩ = w1.frozen? ⟨w.heap.size + 1, o, none⟩ := fun o => (hg2.frozen_far ⟨w.heap.size + 1, o, none⟩ (by simp; omega) (fun e => by have h9 := HLT.out _ e.symm; simp at h9; omega)).trans ((past_frozen w2 _ o (by omega)).trans (hb1.frozen (p := ⟨w.heap.size + 1, o, none⟩) hn1w))
  have BX4 := Lib.hid (show CoreBox w4 b (.slice ca l.length cc) ⟨kd, on, br, l, cnt⟩ from HBX1.out.keep ((hg2.block b (by simp; omega) (fun e => hne e.symm)).trans ((Below.heap_alloc w2 _ b hbw2).trans (hb1.block b hbw))))
  have HK4 := Lib.hid (show Kept2 w w4 (some b) (Value.slice ca l.length cc).ownBlock from (((Kept2.of_below HB3.out).below (show Below w1.heap.size w1 w2 from ⟨hb1.os, hb1.tape, hb1.output, hb1.size, hb1.block⟩)).alloc _).grown hg2)
  have HO5 := Lib.hid (show OwnsF cCell 36 2 w4 N (.slice va (l.length + 1) vc) l2 from by rw [HP.out]; exact HO4.out)
  have hneb : (Value.slice va (l.length + 1) vc).ownBlock ≠ some b := row_not_bool HO5.out (by rw [HLN.out]; omega) BX4.out.c1
  have hnen : (Value.slice va (l.length + 1) vc).ownBlock ≠ some (w.heap.size + 1) := row_not_int HO5.out (by rw [HLN.out]; omega) ((hfar 0).trans r0)
  have S1 := Lib.hid (show CoreSt N b (.slice va (l.length + 1) vc) ⟨kd, on, br, l2, cnt⟩ (w4.setCell ⟨b, 3, none⟩ (.slice va (l.length + 1) vc)) from
    ⟨CoreBox.s3 (cv0 := .slice ca l.length cc) (l0 := l) BX4.out _ _, World.ownsRow.kept HO5.out (row := some b) ⟨rfl, rfl, rfl, by simp, fun i hi hni => Below.heap_setCell w4 _ _ i (fun e => hni (by rw [e]))⟩ (Or.inr hneb), hneb, hge⟩)
  have KS := Lib.hid (Kept2.set (p := ⟨b, 3, none⟩) HK4.out (.slice va (l.length + 1) vc) (Or.inr (Or.inl ⟨rfl, by simp⟩)))
  have hu : ∀ o, (w4.setCell ⟨b, 3, none⟩ (.slice va (l.length + 1) vc)).cell? ⟨w.heap.size + 1, o, none⟩ = w1.cell? ⟨w.heap.size + 1, o, none⟩ := fun o => (set_blk_cell _ _ _ _ (by simp; omega)).trans (hfar o)
  have hu0 : (w4.setCell ⟨b, 3, none⟩ (.slice va (l.length + 1) vc)).cell? ⟨w.heap.size, 0, none⟩ = some (.pointer (some ⟨b, 0, none⟩)) := (set_blk_cell _ _ _ _ (by simp; omega)).trans b0
  clear hb1 hg2
  go_wp2_with fail
  refine (countUp_c b (.slice va (l.length + 1) vc) ⟨kd, on, br, l2, cnt⟩ _ S1.out.box hr).mono ?_
  rintro e w5 ⟨rfl, hbx, hk5⟩
  have HBX := Lib.hid hbx
  have HK := Lib.hid hk5
  have g5 : w5.cell? ⟨w.heap.size, 0, none⟩ = some (.pointer (some ⟨b, 0, none⟩)) := (hk5.cell (p := ⟨w.heap.size, 0, none⟩) (by simp; omega) (by simp; omega) (by simp)).trans hu0
  have t0 : w5.cell? ⟨w.heap.size + 1, 0, none⟩ = some (.int .i64 0) := (hk5.cell (p := ⟨w.heap.size + 1, 0, none⟩) (by simp; omega) (by simp; omega) (by simp)).trans ((hu 0).trans r0)
  have t1 : w5.cell? ⟨w.heap.size + 1, 1, none⟩ = some (.int .i64 0) := (hk5.cell (p := ⟨w.heap.size + 1, 1, none⟩) (by simp; omega) (by simp; omega) (by simp)).trans ((hu 1).trans r1)
  have t2 : w5.cell? ⟨w.heap.size + 1, 2, none⟩ = some (.string ⟨#[]⟩) := (hk5.cell (p := ⟨w.heap.size + 1, 2, none⟩) (by simp; omega) (by simp; omega) (by simp)).trans ((hu 2).trans r2)
  have t3 : w5.cell? ⟨w.heap.size + 1, 3, none⟩ = some (.int .i64 0) := (hk5.cell (p := ⟨w.heap.size + 1, 3, none⟩) (by simp; omega) (by simp; omega) (by simp)).trans ((hu 3).trans r3)
  have t4 : w5.cell? ⟨w.heap.size + 1, 4, none⟩ = some (.int .i64 0) := (hk5.cell (p := ⟨w.heap.size + 1, 4, none⟩) (by simp; omega) (by simp; omega) (by simp)).trans ((hu 4).trans r4)
  have y5 : ∀ o, w5.frozen? ⟨w.heap.size + 1, o, none⟩ = false := fun o => (hk5.frozen (p := ⟨w.heap.size + 1, o, none⟩) (by simp; omega) (by simp; omega) (by simp)).trans ((frz_set _ _ _ _).trans ((hfrz o).trans (y0 o)))
  have d3 := hbx.c3
  have HFN := Lib.hid (show Fin N b (.slice ca l.length cc) ⟨kd, on, br, l2, upI cnt⟩ (w.heap.size + 1) w w5 from ⟨⟨_, st_count S1.out HBX.out rfl HK.out, hnen⟩, by omega, by omega, KS.out.both HK.out⟩)
  clear hbx hk5 hu hu0 hfar hfrz b0 b3 z3
  go_wp2_with fail
  refine bodyPost_ret (v := vReply (rV (l.length + 1))) (by simp [results, Tryz.results144, go_sem, vReply, rC, rV, rT, cell_set_at, cell_set_ne, t0, t1, t2, t3, t4]) rfl ?_
  rw [HG.out, HLN.out]
  refine fin_does (out := ((⟨kd, on, br, l2, upI cnt⟩ : CoreD), rV ((l.length + 1 : Nat) : Int))) (n := w.heap.size + 1) ?_
  repeat (with_reducible refine fin_set ?_ _ _)
  exact HFN.out
end Go.Proofs.YtghebbndfpbkcaaGreat
/- changeCore, CallCore: the program's. -/
namespace Go.Proofs.YtghebbndfpbkcaaGreat
set_option linter.unusedVariables false
set_option linter.unusedSimpArgs false
open Go.RowKit
theorem coreB_len {d : CoreD} (h : coreB d = true) : d.fCells.length ≤ 4 := by
  simp only [coreB, Bool.and_eq_true] at h
  exact cellsB_len h.1.1.1.1.2
theorem put_c (N b : Nat) (cv : Value) (d : CoreD) (x : CallD) (hv : coreB d = true) (hr : -9223372036854775808 ≤ d.fCount) (hk : x.fKey.length ≤ 1048576) : PutOk N b cv d x := fun w h => by
  have hm := coreB_len hv
  by_cases hi : idleI d = 0
  · cases hf : fnd d.fCells x.fKey with
    | true => exact put_found N b cv d x.fKey x.fValue w h hm hr hi hf
    | false =>
      by_cases h4 : d.fCells.length < 4
      · exact put_new N b cv d x.fKey x.fValue w h hr h4 hk hi hf
      · exact put_full N b cv d x.fKey x.fValue w h hr hm hi hf h4
  · exact put_idle N b cv d x.fKey x.fValue w h hr hm hi
set_option maxRecDepth 100000 in
set_option maxHeartbeats 3200000 in
theorem change_good (N b : Nat) (cv : Value) (d : CoreD) (x : CallD) (mx : Int) (w : World) (P : Pre N b cv d x mx w) (hk : x.fKey.length ≤ 1048576) (hv : coreB d = true) (hc : callB x = true) :
    Calls Tryz.prog 37 #[.pointer (some ⟨b, 0, none⟩), vCall x] w fun e w' => Does N b cv (doD d x) w e w' := by
  have HP := Lib.hid P
  have HB := Lib.hid P.st.box
  have hl0 := P.st.box.lt
  have HX := Lib.hid (ownsF_at P.st.own P.hm)
  obtain ⟨c0, c1, c2, c3, c4, z1, z2, z3, z4⟩ := P.st.box
  obtain ⟨j, hj, hkd, hf⟩ := coreB_kind hv
  have HD := Lib.hid (fun w' (hw : Below w.heap.size w w') => show CoreBox w' b cv d from HB.out.keep (hw.block b hl0))
  have HI := Lib.hid (fun w' (hw : Below w.heap.size w w') => implIsCore_b (vCore d cv) d true hv w' ⟨cv, rfl, HX.out.below hw (Nat.le_refl _)⟩ P.hs)
  have HJ := Lib.hid (fun w' => implIsCall_b x true hc w' P.hk)
  have HPO := Lib.hid (fun w' (hw : Below w.heap.size w w') => partOf_c j hj b cv d w' (HD.out w' hw) hkd)
  have HDC := Lib.hid (fun w' (hw : Below w.heap.size w w') => door_c N b cv d x mx w' j (HP.out.below hw) hj hf hc (Lib.hid (put_c N b cv d x hv P.hr hk)))
  have HG := Lib.hid (show doD d x = doV d x from if_pos (by rw [hv, hc]; rfl))
  rw [HG.out]
  generalize doV d x = out at *
  generalize partV b j = pt at *
  clear hv hc hkd hf P HG
  obtain ⟨kd, on, br, l, cnt⟩ := d
  obtain ⟨m, k, n, t⟩ := x
  unfold vCore at HI
  unfold vCall at HJ HDC ⊢
  simp only at *
  have hl1 : b < w.heap.size + 1 := by omega
  have hl2 : b < w.heap.size + 1 + 1 := by omega
  have hn0 : ¬ b = w.heap.size := by omega
  have hn1 : ¬ b = w.heap.size + 1 := by omega
  have hap := @past_cell b
  have HB2 := Lib.hid (show ∀ o1 o2, Below w.heap.size w ((w.alloc o1).alloc o2) from fun o1 o2 => ((Below.refl _ _).alloc (Nat.le_refl _) _).alloc (by simp) _)
  go_enter Tryz.func37, Tryz.ntmps37
  go_wp2_with fail
  refine (HI.out _ (HB2.out _ _)).mono ?_
  rintro e w1 ⟨rfl, hb⟩
  have HB3 := Lib.hid ((HB2.out _ _).trans (hb.mono (HB2.out _ _).size))
  obtain ⟨hcc, hff⟩ := bcell hb
  simp at hcc hff
  have hsz := hb.size
  simp at hsz
  have hg1 := Lib.hid (show w1.heap[w.heap.size + 1]? = some (.cells #[.int .i64 0, .int .i64 0, .string ⟨#[]⟩, .int .i64 0, .int .i64 0] 32 (0, 0)) from (hb.block (w.heap.size + 1) (by simp)).trans (heap_two _ _ _))
  clear hb
  go_wp2_with fail
  refine (HJ.out _).mono ?_
  rintro e w2 ⟨rfl, hb⟩
  have HB4 := Lib.hid (HB3.out.trans (hb.mono HB3.out.size))
  obtain ⟨hcd, hfd⟩ := bcell hb
  have hsz2 := hb.size
  have hg2 := Lib.hid ((hb.block (w.heap.size + 1) (by omega)).trans hg1.out)
  have hq1 : w.heap.size < w1.heap.size := by omega
  have hq2 : w.heap.size + 1 < w1.heap.size := by omega
  clear hb
  have x0 : w2.cell? ⟨w.heap.size, 0, none⟩ = some (.string ⟨m.toArray⟩) := (hcd _ _ hq1).trans ((hcc _ _ (by omega)).trans (by simp [go_sem]))
  have x1 : w2.cell? ⟨w.heap.size, 1, none⟩ = some (.string ⟨k.toArray⟩) := (hcd _ _ hq1).trans ((hcc _ _ (by omega)).trans (by simp [go_sem]))
  have x2 : w2.cell? ⟨w.heap.size, 2, none⟩ = some (.int .i64 n) := (hcd _ _ hq1).trans ((hcc _ _ (by omega)).trans (by simp [go_sem]))
  have x3 : w2.cell? ⟨w.heap.size, 3, none⟩ = some (.string ⟨t.toArray⟩) := (hcd _ _ hq1).trans ((hcc _ _ (by omega)).trans (by simp [go_sem]))
  have hn2 : w.heap.size < w2.heap.size := by omega
  have hrp : ∀ W : World, W.heap[w.heap.size + 1]? = some (.cells #[.int .i64 0, .int .i64 0, .string ⟨#[]⟩, .int .i64 0, .int .i64 0] 32 (0, 0)) → ∀ o, W.cell? ⟨w.heap.size + 1, o, none⟩ = (#[.int .i64 0, .int .i64 0, .string ⟨#[]⟩, .int .i64 0, .int .i64 0] : Array Value)[o]? := fun W h o => cell_of_row W (w.heap.size + 1) o _ 32 (0, 0) h
  have HRP := Lib.hid hrp
  clear hcd hcc hff hfd hrp
  go_wp2_with fail
  go_region_with (first
    | (go_at_call 71; refine (HPO.out w2.drew HB4.out.drew).mono ?_; rintro e w3 ⟨rfl, hb3⟩; have HB5 := Lib.hid (show Below w2.heap.size w2 w3 from ⟨hb3.os, hb3.tape, hb3.output, hb3.size, hb3.block⟩); have HG3 := Lib.hid ((hb3.block (w.heap.size + 1) (show w.heap.size + 1 < w2.heap.size by omega)).trans hg2.out); have u0 := (HB5.out.cell (p := ⟨w.heap.size, 0, none⟩) hn2).trans x0; have u1 := (HB5.out.cell (p := ⟨w.heap.size, 1, none⟩) hn2).trans x1; have u2 := (HB5.out.cell (p := ⟨w.heap.size, 2, none⟩) hn2).trans x2; have u3 := (HB5.out.cell (p := ⟨w.heap.size, 3, none⟩) hn2).trans x3; clear hb3)
    | (go_at_call 70; refine (HDC.out w3 (HB4.out.trans (HB5.out.mono HB4.out.size))).mono ?_; rintro e w4 hd; obtain ⟨rfl, hf4, hc4, hz4⟩ := fin_of (n := w.heap.size + 1) HP.out.st (HB4.out.trans (HB5.out.mono HB4.out.size)) (by omega) ⟨_, HG3.out⟩ hd; have HF4 := Lib.hid hf4; clear hf4 hd; obtain ⟨d1, r0, r1, r2, r3, r4⟩ := out; unfold vReply; simp only at *; have hk0 := (hc4 0).trans (HRP.out w3 HG3.out 0); have hk1 := (hc4 1).trans (HRP.out w3 HG3.out 1); have hk2 := (hc4 2).trans (HRP.out w3 HG3.out 2); have hk3 := (hc4 3).trans (HRP.out w3 HG3.out 3); have hk4 := (hc4 4).trans (HRP.out w3 HG3.out 4); simp at hk0 hk1 hk2 hk3 hk4; have hz5 : ∀ o, w4.frozen? ⟨w.heap.size + 1, o, none⟩ = false := (fun o => (hz4 o).trans (by simp [World.frozen?, HG3.out])); clear hc4 hz4))
  all_goals
    go_wp2_with fail
    refine bodyPost_ret (v := vReply ⟨r0, r1, r2, r3, r4⟩) (by simp [results, Tryz.results37, go_sem, vReply, cell_set_at, cell_set_ne, hk0, hk1, hk2, hk3, hk4]) rfl ?_
    refine fin_does (out := (d1, (⟨r0, r1, r2, r3, r4⟩ : ReplyD))) (n := w.heap.size + 1) ?_
    repeat (with_reducible refine fin_set ?_ _ _)
    exact HF4.out
end Go.Proofs.YtghebbndfpbkcaaGreat
/- CallCore, the program's. -/
namespace Go.Proofs.YtghebbndfpbkcaaGreat
set_option linter.unusedVariables false
set_option linter.unusedSimpArgs false
open Go.RowKit
theorem change_c (N b : Nat) (cv : Value) (d : CoreD) (x : CallD) (mx : Int) (w : World) (P : Pre N b cv d x mx w) (hk : x.fKey.length ≤ 1048576) :
    Calls Tryz.prog 37 #[.pointer (some ⟨b, 0, none⟩), vCall x] w fun e w' => Does N b cv (doD d x) w e w' := by
  cases hv : coreB d with
  | false => exact change_bad1 N b cv d x mx w P hv
  | true =>
    cases hc : callB x with
    | false => exact change_bad2 N b cv d x mx w P hv hc
    | true => exact change_good N b cv d x mx w P hk hv hc
theorem ownsF_set_ne {α : Type} {f : α → List Value} {E k : Nat} {w : World} {B : Nat} {v : Value} {l : List α} {p : Addr} {u : Value} (h : OwnsF f E k w B v l) (hp : v.ownBlock ≠ some p.block) : OwnsF f E k (w.setCell p u) B v l :=
  World.ownsRow.kept h (row := some p.block) ⟨rfl, rfl, rfl, by simp, fun i hi hne => Below.heap_setCell w p u i (fun e => hne (by rw [e]))⟩ (Or.inr hp)
theorem heap_k (w : World) (o1 o2 o3 o4 : Obj) : ((((w.alloc o1).alloc o2).alloc o3).alloc o4).heap[w.heap.size + 1 + 1]? = some o3 ∧ ((((w.alloc o1).alloc o2).alloc o3).alloc o4).heap[w.heap.size + 1 + 1 + 1]? = some o4 := by
  constructor
  · have := Below.heap_alloc (((w.alloc o1).alloc o2).alloc o3) o4 (w.heap.size + 1 + 1) (by simp)
    rw [this]; have := heap_alloc_new ((w.alloc o1).alloc o2) o3; simpa using this
  · have := heap_alloc_new (((w.alloc o1).alloc o2).alloc o3) o4; simpa using this
set_option maxRecDepth 100000 in
set_option maxHeartbeats 3200000 in
theorem implCallCore_c (v : Value) (d : CoreD) (x : CallD) (mx : Int) (w : World) (hx : CoreAt w v d) (hm : d.fCells.length ≤ 2097152) (hs : ∀ c ∈ d.fCells, c.fKey.length ≤ 1048576) (hkd : d.fKind.length ≤ 1048576) (hr : -9223372036854775808 ≤ d.fCount)
    (hk : x.fKey.length ≤ 1048576) (ht : x.fText.length ≤ 1048576) (hM : w.cell? ⟨0, 0, none⟩ = some (.int .i64 mx)) :
    Calls Tryz.prog 9 #[v, vCall x] w fun e w' => ∃ cv, e = .returned (.tuple #[vCore (doD d x).1 cv, vReply (doD d x).2]) ∧ OwnsF cCell 36 2 w' w.heap.size cv (doD d x).1.fCells ∧ Below w.heap.size w w' := by
  obtain ⟨cv, rfl, hx⟩ := hx
  have HX := Lib.hid hx
  have HCP := Lib.hid (fun W (hw : Below w.heap.size w W) => copyCore_c (vCore d cv) d W ⟨cv, rfl, hx.below hw (Nat.le_refl _)⟩ hm hs hkd)
  have hMl := World.block_lt_of_cell? w _ hM
  simp only at hMl
  have HMX := Lib.hid (fun W (hw : Below w.heap.size w W) => (hw.cell (p := ⟨0, 0, none⟩) hMl).trans hM)
  clear hM
  have HPR := Lib.hid (fun b cv1 W (hst : CoreSt w.heap.size b cv1 d W) (hw : Below w.heap.size w W) => change_c w.heap.size b cv1 d x mx W ⟨hst, hw.size, hr, by omega, fun c hc => Nat.le_trans (hs c hc) (by unfold maxLen; omega), Nat.le_trans hk (by unfold maxLen; omega), ht, HMX.out W hw⟩ hk)
  generalize doD d x = out at *
  clear hs hx
  obtain ⟨a, c, rfl, _⟩ := flatAt_len HX.out
  obtain ⟨kd, on, br, l, cnt⟩ := d
  obtain ⟨m, k, n, t⟩ := x
  unfold vCore at HCP ⊢
  unfold vCall at HPR ⊢
  simp only at *
  have HB4 := Lib.hid (show ∀ o1 o2 o3 o4, Below w.heap.size w ((((w.alloc o1).alloc o2).alloc o3).alloc o4) from fun o1 o2 o3 o4 => ((((Below.refl _ _).alloc (Nat.le_refl _) _).alloc (by simp) _).alloc (by simp; omega) _).alloc (by simp; omega) _)
  go_enter Tryz.func9, Tryz.ntmps9
  go_wp2_with fail
  refine (HCP.out _ (HB4.out _ _ _ _)).mono ?_
  rintro e w1 ⟨_, rfl, ⟨cv1, rfl, ho⟩, hb⟩
  have HB1 := Lib.hid ((HB4.out _ _ _ _).trans (hb.mono (HB4.out _ _ _ _).size))
  have HO1 := Lib.hid (show OwnsF cCell 36 2 w1 (w.heap.size + 1 + 1 + 1 + 1) cv1 l from by simpa using ho)
  obtain ⟨hcc, hff⟩ := bcell hb
  simp at hcc hff
  have hsz := hb.size
  simp at hsz
  have H2 := Lib.hid ((hb.block (w.heap.size + 1 + 1) (by simp; try omega)).trans (heap_k _ _ _ _ _).1)
  have H3 := Lib.hid ((hb.block (w.heap.size + 1 + 1 + 1) (by simp)).trans (heap_k _ _ _ _ _).2)
  clear hb ho
  obtain ⟨ca, ccp, rfl⟩ := slice_of HO1.out
  simp only at *
  unfold vCore
  have x0 : w1.cell? ⟨w.heap.size + 1, 0, none⟩ = some (.string ⟨m.toArray⟩) := (hcc _ _ (by omega)).trans (by simp [go_sem])
  have x1 : w1.cell? ⟨w.heap.size + 1, 1, none⟩ = some (.string ⟨k.toArray⟩) := (hcc _ _ (by omega)).trans (by simp [go_sem])
  have x2 : w1.cell? ⟨w.heap.size + 1, 2, none⟩ = some (.int .i64 n) := (hcc _ _ (by omega)).trans (by simp [go_sem])
  have x3 : w1.cell? ⟨w.heap.size + 1, 3, none⟩ = some (.string ⟨t.toArray⟩) := (hcc _ _ (by omega)).trans (by simp [go_sem])
  have hx1 : w.heap.size + 1 < w1.heap.size := by omega
  have hxp := @past_cell (w.heap.size + 1)
  clear hcc hff
  go_wp2_with fail
  have hb1 : ∀ g, (Value.slice ca l.length ccp).ownBlock = some g → g < w1.heap.size ∧ w.heap.size + 1 + 1 + 1 + 1 ≤ g := fun g h => ⟨(World.ownsRow.lt HO1.out g h).2, (World.ownsRow.lt HO1.out g h).1⟩
  refine (HPR.out w1.heap.size (.slice ca l.length ccp) _ ⟨⟨by simp [go_sem], by simp [go_sem], by simp [go_sem], by simp [go_sem], by simp [go_sem], by simp [go_sem], by simp [go_sem], by simp [go_sem], by simp [go_sem]⟩, ownsF_alloc (ownsF_base HO1.out (by omega)) _, fun e => by have := (hb1 _ e).1; omega, by omega⟩ (HB1.out.alloc HB1.out.size _)).mono ?_
  rintro e w2 ⟨rfl, cv2, st2, hk2⟩
  have ST2 := Lib.hid st2
  have HBB := Lib.hid ((HB1.out.alloc HB1.out.size _).trans (hk2.toBelow (by simp; omega) (fun k h => by injection h; omega) (fun k h => by have := (hb1 _ h).2; omega)))
  have H2' := Lib.hid ((hk2.block (w.heap.size + 1 + 1) (by simp; omega) (by simp; omega) (fun e => by have := (hb1 _ e.symm).2; omega)).trans ((Below.heap_alloc w1 _ _ (by omega)).trans H2.out))
  have H3' := Lib.hid ((hk2.block (w.heap.size + 1 + 1 + 1) (by simp; omega) (by simp; omega) (fun e => by have := (hb1 _ e.symm).2; omega)).trans ((Below.heap_alloc w1 _ _ (by omega)).trans H3.out))
  have hs2 := hk2.size
  simp at hs2
  obtain ⟨c0, c1, c2, c3, c4, _, _, _, _⟩ := st2.box
  obtain ⟨cu, cw, rfl⟩ := slice_of st2.own
  have hb2 := row_ne ST2.out.own H2'.out (by decide)
  have hb3 := row_ne ST2.out.own H3'.out (by decide)
  clear hk2 st2 hxp x0 x1 x2 x3
  obtain ⟨⟨kd1, on1, br1, l1, cnt1⟩, r0, r1, r2, r3, r4⟩ := out
  unfold vReply
  simp only at *
  have e0 : w2.cell? ⟨w.heap.size + 1 + 1, 0, none⟩ = some (.string ⟨#[]⟩) := cell_of_row w2 _ 0 _ _ _ H2'.out
  have e1 : w2.cell? ⟨w.heap.size + 1 + 1, 1, none⟩ = some (.bool false) := cell_of_row w2 _ 1 _ _ _ H2'.out
  have e2 : w2.cell? ⟨w.heap.size + 1 + 1, 2, none⟩ = some (.bool false) := cell_of_row w2 _ 2 _ _ _ H2'.out
  have e3 : w2.cell? ⟨w.heap.size + 1 + 1, 3, none⟩ = some (.slice none 0 0) := cell_of_row w2 _ 3 _ _ _ H2'.out
  have e4 : w2.cell? ⟨w.heap.size + 1 + 1, 4, none⟩ = some (.int .i64 0) := cell_of_row w2 _ 4 _ _ _ H2'.out
  have ez : ∀ o, w2.frozen? ⟨w.heap.size + 1 + 1, o, none⟩ = false := fun o => by simp [World.frozen?, H2'.out]
  have f0 : w2.cell? ⟨w.heap.size + 1 + 1 + 1, 0, none⟩ = some (.int .i64 0) := cell_of_row w2 _ 0 _ _ _ H3'.out
  have f1 : w2.cell? ⟨w.heap.size + 1 + 1 + 1, 1, none⟩ = some (.int .i64 0) := cell_of_row w2 _ 1 _ _ _ H3'.out
  have f2 : w2.cell? ⟨w.heap.size + 1 + 1 + 1, 2, none⟩ = some (.string ⟨#[]⟩) := cell_of_row w2 _ 2 _ _ _ H3'.out
  have f3 : w2.cell? ⟨w.heap.size + 1 + 1 + 1, 3, none⟩ = some (.int .i64 0) := cell_of_row w2 _ 3 _ _ _ H3'.out
  have f4 : w2.cell? ⟨w.heap.size + 1 + 1 + 1, 4, none⟩ = some (.int .i64 0) := cell_of_row w2 _ 4 _ _ _ H3'.out
  have fz : ∀ o, w2.frozen? ⟨w.heap.size + 1 + 1 + 1, o, none⟩ = false := fun o => by simp [World.frozen?, H3'.out]
  have hq2 : w.heap.size + 1 + 1 < w2.heap.size := by omega
  have hq3 : w.heap.size + 1 + 1 + 1 < w2.heap.size := by omega
  have hqc : w1.heap.size < w2.heap.size := by omega
  have hp2 := @past_cell (w.heap.size + 1 + 1)
  have hp3 := @past_cell (w.heap.size + 1 + 1 + 1)
  have hpc := @past_cell w1.heap.size
  have hf2 := @past_frozen (w.heap.size + 1 + 1)
  have hf3 := @past_frozen (w.heap.size + 1 + 1 + 1)
  have hd1 : ¬ w1.heap.size = w.heap.size + 1 + 1 := by omega
  have hd2 : ¬ w1.heap.size = w.heap.size + 1 + 1 + 1 := by omega
  have hd3 : ¬ w2.heap.size = w.heap.size + 1 + 1 := by omega
  have hd4 : ¬ w2.heap.size = w.heap.size + 1 + 1 + 1 := by omega
  have hd5 : ¬ w.heap.size + 1 + 1 = w1.heap.size := by omega
  have hd6 : ¬ w.heap.size + 1 + 1 + 1 = w1.heap.size := by omega
  have hd7 : ¬ w.heap.size + 1 + 1 = w2.heap.size := by omega
  have hd8 : ¬ w.heap.size + 1 + 1 + 1 = w2.heap.size := by omega
  have hd9 : ¬ w1.heap.size = w2.heap.size := by omega
  go_wp2_with fail
  go_region
  all_goals (try go_wp2_with fail)
  all_goals
    refine bodyPost_ret (v := .tuple #[.agg #[.string ⟨kd1.toArray⟩, .bool on1, .bool br1, .slice cu l1.length cw, .int .i64 cnt1], .agg #[.int .i64 r0, .int .i64 r1, .string ⟨r2.toArray⟩, .int .i64 r3, .int .i64 r4]]) (by simp [results, Tryz.results9, go_sem, cell_set_at, cell_set_ne, e0, e1, e2, e3, e4, f0, f1, f2, f3, f4, hp2, hp3, hq2, hq3]) rfl ?_
    refine ⟨.slice cu l1.length cw, rfl, ?_, ?_⟩
    · repeat (first | with_reducible refine ownsF_set_ne ?_ hb2 | with_reducible refine ownsF_set_ne ?_ hb3 | with_reducible refine ownsF_alloc ?_ _ | with_reducible refine ownsF_drew ?_)
      exact ST2.out.own
    · repeat (first | with_reducible exact HBB.out | with_reducible refine Below.setCell ?_ (by simp; try omega) _ | with_reducible refine Below.alloc ?_ (by simp; try omega) _ | with_reducible refine Below.drew ?_)
end Go.Proofs.YtghebbndfpbkcaaGreat
/- the model's small helpers of calls: l3Up, l3Copy, l3At, l3Put -/
namespace Go.Proofs.YtghebbndfpbkcaaGreat
set_option linter.unusedVariables false
set_option linter.unusedSimpArgs false
open Go.RowKit
set_option maxHeartbeats 800000 in
theorem l3Up_any (n : Int) (w : World) (h : n ≤ 9223372036854775807) (h0 : -9223372036854775808 ≤ n) :
    Calls Tryz.prog 83 #[.int .i64 n] w fun e w' => e = .returned (.int .i64 (upI n)) ∧ w = w' := by
  by_cases hn : n < 999
  · have hu : upI n = n + 1 := if_pos hn
    have hw : wrap64 (n + 1) = n + 1 := by unfold wrap64; omega
    go_enter Tryz.func83, Tryz.ntmps83
    go_wp2
    go_ret
    exact ⟨ret_int hu.symm, rfl⟩
  · have hu : upI n = n := if_neg hn
    go_enter Tryz.func83, Tryz.ntmps83
    go_wp2
    go_ret
    exact ⟨rfl, rfl⟩
/-- the first place of a key; -1 -/
def atK (l : List CellD) (k : List UInt8) : Int := findK (fun i => (l.getD i default).fKey == k) 0 l.length
theorem atK_sort {l : List CellD} (h : SortC l) (k : List UInt8) : atK l k = if fnd l k = true then (plc l k : Int) else -1 := by
  unfold atK
  cases hf : fnd l k with
  | true =>
    have hp := fnd_lt hf
    have hk : (l[plc l k]).fKey = k := by have := (fnd_at l k hp).1; rw [hf] at this; simpa using this.symm
    have key : ∀ m, m ≤ plc l k → findK (fun i => (l.getD i default).fKey == k) (plc l k - m) (l.length - (plc l k - m)) = (plc l k : Int) := by
      intro m
      induction m with
      | zero => intro _; exact findK_yes (by omega) (by rw [Nat.sub_zero, getD_at l _ hp, hk]; simp)
      | succ m ih =>
        intro hm
        have h1 : plc l k - (m + 1) < l.length := by omega
        rw [findK_no h1, show plc l k - (m + 1) + 1 = plc l k - m by omega, ih (by omega)]
        rw [getD_at l _ h1]
        have h2 := plc_below l k _ h1 (by omega)
        simp only [beq_eq_false_iff_ne, ne_eq]
        intro e; rw [e] at h2; exact key_irr k h2
    have := key (plc l k) (Nat.le_refl _)
    simpa using this
  | false =>
    have key : ∀ m, m ≤ l.length → findK (fun i => (l.getD i default).fKey == k) (l.length - m) (l.length - (l.length - m)) = -1 := by
      intro m
      induction m with
      | zero => intro _; rw [Nat.sub_zero]; exact findK_end
      | succ m ih =>
        intro hm
        have h1 : l.length - (m + 1) < l.length := by omega
        rw [findK_no h1, show l.length - (m + 1) + 1 = l.length - m by omega, ih (by omega)]
        rw [getD_at l _ h1]
        simp only [beq_eq_false_iff_ne, ne_eq]
        intro e
        rcases Nat.lt_trichotomy (l.length - (m + 1)) (plc l k) with h2 | h2 | h2
        · have := plc_below l k _ h1 h2; rw [e] at this; exact key_irr k this
        · have := (fnd_at l k (by omega)).1
          rw [hf] at this
          simp only [← h2] at this
          rw [e] at this; simp at this
        · have := sort_after h k _ h1 h2; rw [e] at this; exact key_irr k this
    have := key l.length (Nat.le_refl _)
    simpa using this
set_option maxHeartbeats 1600000 in
theorem l3At_any (v : Value) (l : List CellD) (key : List UInt8) (w : World) (hx : FlatAt cCell 2 w v l) :
    Calls Tryz.prog 110 #[v, .string ⟨key.toArray⟩] w fun e w' => e = .returned (.int .i64 (atK l key)) ∧ Below w.heap.size w w' := by
  obtain ⟨a, c, rfl, hl⟩ := flatAt_len hx
  have HX := Lib.hid hx
  clear hx
  unfold maxLen at hl
  have HA := Lib.hid (show atK l key = findK (fun i => (l.getD i default).fKey == key) 0 (l.length - 0) from rfl)
  generalize atK l key = res at *
  go_enter Tryz.func110, Tryz.ntmps110
  go_wp2_with fail
  go_loopw [5, 6, 9] (fun _ _ i wr => ∃ k : Nat, k ≤ l.length ∧ i = .int .i64 k ∧ findK (fun i => (l.getD i default).fKey == key) k (l.length - k) = res ∧ Below w.heap.size w wr) (fun _ _ i _ => l.length - (intOf i).toNat)
  case atStart => exact ⟨0, Nat.zero_le _, rfl, HA.out.symm, Below.refl _ _⟩
  case round =>
    obtain ⟨k, hk, rfl, hok, hb⟩ := hrel
    have HO := Lib.hid hok
    have HB := Lib.hid hb
    have HXr := Lib.hid (FlatAt.below HX.out hb (Nat.le_refl _))
    clear hok hb
    by_cases hlt : k < l.length
    · obtain ⟨b, o, rfl, hbl, hd⟩ := flatAt_cell cCell_len HXr.out k hlt (by decide)
      have d0 := hd 0 (by decide)
      have d1 := hd 1 (by decide)
      clear hd
      have HBB := Lib.hid (show ∀ o1, Below w.heap.size w (wr.alloc o1) from fun o1 => HB.out.alloc HB.out.size _)
      cases heq : ((l[k]).fKey == key) with
      | true =>
        have HR := Lib.hid (show (k : Int) = res from by rw [← HO.out]; exact (findK_yes hlt (by rw [getD_at l k hlt]; exact heq)).symm)
        generalize l[k] = p at *
        obtain ⟨a0, a1⟩ := p
        simp only [cCell, List.getElem?_cons_zero, List.getElem?_cons_succ, Nat.add_zero] at d0 d1
        go_wp2_with fail
        go_ret
        exact ⟨ret_int HR.out, HBB.out _⟩
      | false =>
        have HR := Lib.hid (show findK (fun i => (l.getD i default).fKey == key) (k + 1) (l.length - (k + 1)) = res from by rw [← HO.out]; exact (findK_no hlt (by rw [getD_at l k hlt]; exact heq)).symm)
        generalize l[k] = p at *
        obtain ⟨a0, a1⟩ := p
        simp only [cCell, List.getElem?_cons_zero, List.getElem?_cons_succ, Nat.add_zero] at d0 d1
        go_wp2_with fail
        exact ⟨⟨k + 1, by omega, by go_num, HR.out, HBB.out _⟩, by simp [intOf]; omega⟩
    · have HR := Lib.hid (show (-1 : Int) = res from by rw [← HO.out, show k = l.length by omega]; exact findK_end.symm)
      go_wp2_with fail
      go_ret
      exact ⟨ret_int HR.out, HB.out⟩
end Go.Proofs.YtghebbndfpbkcaaGreat
/- the model's l3Run -/
namespace Go.Proofs.YtghebbndfpbkcaaGreat
set_option linter.unusedVariables false
set_option linter.unusedSimpArgs false
open Go.RowKit
/-- what a model's call answers: the core, its cells where they lay, and the reply -/
def Says (cv : Value) (out : CoreD × ReplyD) (w : World) (e : Ending) (w' : World) : Prop := e = .returned (.tuple #[vCore out.1 cv, vReply out.2]) ∧ Below w.heap.size w w'
def cvAny (cv : Value) : Prop := ∃ a n c, cv = .slice a n c
set_option maxHeartbeats 1600000 in
theorem l3Run_stop (d : CoreD) (cv : Value) (w : World) (hc : cvAny cv) (hb : d.fBroken = false) :
    Calls Tryz.prog 86 #[vCore d cv, .string ⟨#[83, 116, 111, 112]⟩] w fun e w' => Says cv (stopD d) w e w' := by
  obtain ⟨kd, on, br, l, cnt⟩ := d
  obtain ⟨a, n, c, rfl⟩ := hc
  unfold vCore
  simp only at hb
  subst hb
  have HB3 := Lib.hid (show ∀ o1 o2 o3, Below w.heap.size w (((w.alloc o1).alloc o2).alloc o3) from fun o1 o2 o3 => (((Below.refl _ _).alloc (Nat.le_refl _) _).alloc (by simp) _).alloc (by simp; omega) _)
  cases on with
  | true =>
    go_enter Tryz.func86, Tryz.ntmps86
    go_wp2_with fail
    refine bodyPost_ret (v := .tuple #[.agg #[.string ⟨kd.toArray⟩, .bool false, .bool false, .slice a n c, .int .i64 cnt], vReply (rC 0)]) (by simp [results, Tryz.results86, go_sem, vReply, rC]) rfl ?_
    exact ⟨rfl, HB3.out _ _ _⟩
  | false =>
    go_enter Tryz.func86, Tryz.ntmps86
    go_wp2_with fail
    refine bodyPost_ret (v := .tuple #[.agg #[.string ⟨kd.toArray⟩, .bool false, .bool false, .slice a n c, .int .i64 cnt], vReply (rC 2)]) (by simp [results, Tryz.results86, go_sem, vReply, rC]) rfl ?_
    exact ⟨rfl, HB3.out _ _ _⟩
set_option maxHeartbeats 1600000 in
theorem l3Run_heal (d : CoreD) (cv : Value) (w : World) (hc : cvAny cv) :
    Calls Tryz.prog 86 #[vCore d cv, .string ⟨#[72, 101, 97, 108]⟩] w fun e w' => Says cv (healD d) w e w' := by
  obtain ⟨kd, on, br, l, cnt⟩ := d
  obtain ⟨a, n, c, rfl⟩ := hc
  unfold vCore
  have HB3 := Lib.hid (show ∀ o1 o2 o3, Below w.heap.size w (((w.alloc o1).alloc o2).alloc o3) from fun o1 o2 o3 => (((Below.refl _ _).alloc (Nat.le_refl _) _).alloc (by simp) _).alloc (by simp; omega) _)
  go_enter Tryz.func86, Tryz.ntmps86
  go_wp2_with fail
  refine bodyPost_ret (v := .tuple #[.agg #[.string ⟨kd.toArray⟩, .bool false, .bool false, .slice a n c, .int .i64 cnt], vReply (rC 0)]) (by simp [results, Tryz.results86, go_sem, vReply, rC]) rfl ?_
  exact ⟨rfl, HB3.out _ _ _⟩
set_option maxHeartbeats 1600000 in
theorem l3Run_start (d : CoreD) (cv : Value) (w : World) (hc : cvAny cv) (hb : d.fBroken = false) (hr : -9223372036854775808 ≤ d.fCount) (hr2 : d.fCount ≤ 9223372036854775807) :
    Calls Tryz.prog 86 #[vCore d cv, .string ⟨#[83, 116, 97, 114, 116]⟩] w fun e w' => Says cv (startD d) w e w' := by
  obtain ⟨kd, on, br, l, cnt⟩ := d
  obtain ⟨a, n, c, rfl⟩ := hc
  unfold vCore
  simp only at hb hr hr2
  subst hb
  have HU := Lib.hid (fun W => l3Up_any cnt W hr2 hr)
  have HB3 := Lib.hid (show ∀ o1 o2 o3, Below w.heap.size w (((w.alloc o1).alloc o2).alloc o3) from fun o1 o2 o3 => (((Below.refl _ _).alloc (Nat.le_refl _) _).alloc (by simp) _).alloc (by simp; omega) _)
  cases on with
  | true =>
    go_enter Tryz.func86, Tryz.ntmps86
    go_wp2_with fail
    refine bodyPost_ret (v := .tuple #[.agg #[.string ⟨kd.toArray⟩, .bool false, .bool true, .slice a n c, .int .i64 cnt], vReply (rC 3)]) (by simp [results, Tryz.results86, go_sem, vReply, rC]) rfl ?_
    exact ⟨rfl, HB3.out _ _ _⟩
  | false =>
    go_enter Tryz.func86, Tryz.ntmps86
    go_wp2_with fail
    refine (HU.out _).mono ?_
    rintro e w1 ⟨rfl, rfl⟩
    go_wp2_with fail
    refine bodyPost_ret (v := .tuple #[.agg #[.string ⟨kd.toArray⟩, .bool true, .bool false, .slice a n c, .int .i64 (upI cnt)], vReply (rC 0)]) (by simp [results, Tryz.results86, go_sem, vReply, rC]) rfl ?_
    exact ⟨rfl, HB3.out _ _ _⟩
end Go.Proofs.YtghebbndfpbkcaaGreat
/- the model's l3Put -/
namespace Go.Proofs.YtghebbndfpbkcaaGreat
set_option linter.unusedVariables false
set_option linter.unusedSimpArgs false
open Go.RowKit
/-- what is put out behind the first i cells -/
def outTo (l : List CellD) (k : List UInt8) (v : Int) (i : Nat) : List CellD :=
  if plc l k < i then l.take (plc l k) ++ ⟨k, v⟩ :: (l.take i).drop (if fnd l k = true then plc l k + 1 else plc l k) else l.take i
theorem outTo_low (l : List CellD) (k : List UInt8) (v : Int) (i : Nat) (hi : i < l.length) (h : i < plc l k) : outTo l k v (i + 1) = outTo l k v i ++ [l[i]] := by
  unfold outTo
  rw [if_neg (by omega), if_neg (by omega), List.take_succ_eq_append_getElem hi]
theorem outTo_high (l : List CellD) (k : List UInt8) (v : Int) (i : Nat) (hi : i < l.length) (h : plc l k < i) : outTo l k v (i + 1) = outTo l k v i ++ [l[i]] := by
  unfold outTo
  rw [if_pos (by omega), if_pos h, List.take_succ_eq_append_getElem hi, List.drop_append_of_le_length (by rw [List.length_take]; split <;> omega)]
  simp
theorem outTo_at (l : List CellD) (k : List UInt8) (v : Int) (hi : plc l k < l.length) : outTo l k v (plc l k + 1) = outTo l k v (plc l k) ++ ⟨k, v⟩ :: (if (l[plc l k]).fKey = k then [] else [l[plc l k]]) := by
  have hf := (fnd_at l k hi).1
  unfold outTo
  rw [if_pos (Nat.lt_succ_self (plc l k)), if_neg (Nat.lt_irrefl (plc l k)), List.take_succ_eq_append_getElem hi]
  congr 2
  have hl : (l.take (plc l k)).length = plc l k := by rw [List.length_take]; omega
  by_cases he : (l[plc l k]).fKey = k
  · rw [if_pos he, if_pos (by rw [hf]; simpa using he)]
    rw [List.drop_eq_nil_of_le (by simp [hl]; omega)]
  · rw [if_neg he, if_neg (by rw [hf]; simpa using he)]
    conv => lhs; arg 1; rw [← hl]
    rw [List.drop_left]
theorem outTo_end (l : List CellD) (k : List UInt8) (v : Int) (hi : plc l k < l.length) : outTo l k v l.length = putC l k v := by
  unfold outTo
  rw [if_pos hi, List.take_length]
  cases hf : fnd l k with
  | true => rw [putC_found l k v hf, if_pos rfl, List.set_eq_take_append_cons_drop, if_pos hi]
  | false => rw [putC_new l k v hf, if_neg (by simp)]
theorem outTo_last (l : List CellD) (k : List UInt8) (v : Int) (hi : plc l k = l.length) : outTo l k v l.length ++ [⟨k, v⟩] = putC l k v := by
  unfold outTo
  rw [if_neg (by omega), putC_new l k v (fnd_end l k hi), hi, List.drop_length]
theorem outTo_len (l : List CellD) (k : List UInt8) (v : Int) (i : Nat) (hi : i ≤ l.length) : (outTo l k v i).length ≤ i + 1 := by
  unfold outTo
  have := plc_le l k
  split
  · simp; split <;> omega
  · simp; omega
set_option maxRecDepth 100000 in
set_option maxHeartbeats 3200000 in
theorem l3Put_any (vv : Value) (l : List CellD) (key : List UInt8) (v : Int) (w : World) (hx : FlatAt cCell 2 w vv l) (hm : l.length ≤ 1000) (hs : SortC l) :
    Calls Tryz.prog 111 #[vv, .string ⟨key.toArray⟩, .int .i64 v] w fun e w' => ∃ u, e = .returned u ∧ OwnsF cCell 36 2 w' w.heap.size u (putC l key v) ∧ Below w.heap.size w w' := by
  obtain ⟨a, c, rfl, hl⟩ := flatAt_len hx
  have HX := Lib.hid hx
  clear hx
  unfold maxLen at hl
  have HSA := Lib.hid (fun i h1 h2 => sort_after hs key i h1 h2)
  have HLO := Lib.hid (outTo_low l key v)
  have HHI := Lib.hid (outTo_high l key v)
  have HAT := Lib.hid (outTo_at l key v)
  have HEN := Lib.hid (outTo_end l key v)
  have HLA := Lib.hid (outTo_last l key v)
  have HLN := Lib.hid (outTo_len l key v)
  have HPB := Lib.hid (plc_below l key)
  have HPA := Lib.hid (plc_at l key)
  have hple := plc_le l key
  have H0 := Lib.hid (show outTo l key v 0 = [] from by unfold outTo; rw [if_neg (by omega)]; rfl)
  generalize putC l key v = res at *
  generalize hq : plc l key = q at *
  clear hq hs
  have HO0 := Lib.hid (show OwnsF cCell 36 2 (w.alloc (.cells #[] 36)) w.heap.size (.slice (some ⟨w.heap.size, 0, none⟩) 0 0) (outTo l key v 0) from by rw [H0.out]; exact ownsF_new cCell 36 2 w)
  go_enter Tryz.func111, Tryz.ntmps111
  go_wp2_with fail
  go_loopw [7, 8, 10, 14] (fun u dn _ i wr => ∃ k : Nat, k ≤ l.length ∧ i = .int .i64 k ∧ dn = .bool (decide (q < k)) ∧ OwnsF cCell 36 2 wr w.heap.size u (outTo l key v k) ∧ Below w.heap.size w wr) (fun _ _ _ i _ => l.length - (intOf i).toNat)
  case atStart => exact ⟨0, Nat.zero_le _, rfl, by simp, HO0.out, (Below.refl _ _).alloc (Nat.le_refl _) _⟩
  case round =>
    obtain ⟨k, hk, rfl, rfl, hO, hb⟩ := hrel
    have HO := Lib.hid hO
    have HB := Lib.hid hb
    have HXr := Lib.hid (FlatAt.below HX.out hb (Nat.le_refl _))
    have hLk := HLN.out k hk
    clear hO hb
    by_cases hlt : k < l.length
    · obtain ⟨b, o, rfl, hbl, hd⟩ := flatAt_cell cCell_len HXr.out k hlt (by decide)
      have d0 := hd 0 (by decide)
      have d1 := hd 1 (by decide)
      clear hd
      rcases Nat.lt_trichotomy k q with hkq | hkq | hkq
      · have hg : decide (q < k) = false := decide_eq_false (by omega)
        have hg2 : decide (q < k + 1) = false := decide_eq_false (by omega)
        have HN := Lib.hid (HLO.out k hlt hkq)
        have hlt2 := HPB.out k hlt hkq
        have hx1 : Op.bytesLess (l[k]).fKey key = true := by rw [bytes_lt2]; simpa using hlt2
        have hx2 : ((l[k]).fKey != key) = true := by simp only [bne_iff_ne, ne_eq]; intro e; rw [e] at hlt2; exact key_irr _ hlt2
        have hx3 : ((l[k]).fKey == key) = false := by simpa using hx2
        clear hlt2
        generalize l[k] = p at *
        obtain ⟨a0, a1⟩ := p
        simp only [cCell, List.getElem?_cons_zero, List.getElem?_cons_succ, Nat.add_zero] at d0 d1
        rw [hg]
        go_wp2_with (at_builtin; refine append_cell rfl _ _ rfl w.heap.size _ (outTo l key v k) ⟨a0, a1⟩ _ (wr.heap.size + 1) (by rfl) (ownsF_alloc (ownsF_alloc HO.out _) _) (by rfl) (cell_newC (wr.alloc _) ⟨a0, a1⟩ _ (by simp)) (by omega) (by have := HB.out.size; simp; omega) ?_; intro v' w' ho hgr)
        have HA := Lib.hid (below_appendF (((HB.out.alloc HB.out.size _).alloc (by have := HB.out.size; simp; omega) _)) (ownsF_alloc (ownsF_alloc HO.out _) _) hgr (by have := HB.out.size; simp; omega))
        refine ⟨⟨k + 1, by omega, by go_num, by rw [hg2], by rw [HN.out]; exact ho, HA.out⟩, by simp [intOf]; omega⟩
      · have hg : decide (q < k) = false := decide_eq_false (by omega)
        have hg2 : decide (q < k + 1) = true := decide_eq_true (by omega)
        have HN := Lib.hid (show outTo l key v (k + 1) = outTo l key v k ++ ⟨key, v⟩ :: (if (l[k]).fKey = key then [] else [l[k]]) from by have h := HAT.out (by omega); simp only [← hkq] at h; exact h)
        have hx1 : Op.bytesLess (l[k]).fKey key = false := by rw [bytes_lt2]; have h := HPA.out (by omega); simp only [← hkq] at h; simpa using h
        have HKQ := Lib.hid hkq
        clear hkq
        cases hx3 : ((l[k]).fKey == key) with
        | true =>
          have HN1 := Lib.hid (show outTo l key v (k + 1) = outTo l key v k ++ [⟨key, v⟩] from by rw [HN.out, if_pos (by simpa using hx3)])
          clear HN HAT
          generalize l[k] = p at *
          obtain ⟨a0, a1⟩ := p
          simp only [cCell, List.getElem?_cons_zero, List.getElem?_cons_succ, Nat.add_zero] at d0 d1
          rw [hg]
          go_wp2_with (at_builtin; refine append_cell rfl (.tmp 26) (.tmp 30) rfl w.heap.size _ (outTo l key v k) ⟨key, v⟩ _ (wr.heap.size + 1) (by rfl) (ownsF_alloc (ownsF_alloc HO.out _) _) (by rfl) (cell_newC (wr.alloc _) ⟨key, v⟩ _ (by simp)) (by omega) (by have := HB.out.size; simp; omega) ?_; intro v' w' ho hgr; have b0 : w'.cell? ⟨wr.heap.size, 0, none⟩ = some (.string ⟨a0.toArray⟩) := (hgr.cell_far ⟨wr.heap.size, 0, none⟩ (by simp; try omega) (fun e => by have := (World.ownsRow.lt HO.out _ e.symm).2; simp at this)).trans (by simp [go_sem]); have b1 : w'.cell? ⟨wr.heap.size, 1, none⟩ = some (.int .i64 a1) := (hgr.cell_far ⟨wr.heap.size, 1, none⟩ (by simp; try omega) (fun e => by have := (World.ownsRow.lt HO.out _ e.symm).2; simp at this)).trans (by simp [go_sem]))
          have HA := Lib.hid (below_appendF (((HB.out.alloc HB.out.size _).alloc (by have := HB.out.size; simp; omega) _)) (ownsF_alloc (ownsF_alloc HO.out _) _) hgr (by have := HB.out.size; simp; omega))
          refine ⟨⟨k + 1, by omega, by go_num, by rw [hg2], by rw [HN1.out]; exact ho, HA.out⟩, by simp [intOf]; omega⟩
        | false =>
          have HN1 := Lib.hid (show outTo l key v (k + 1) = (outTo l key v k ++ [⟨key, v⟩]) ++ [l[k]] from by rw [HN.out, if_neg (by simpa using hx3)]; simp)
          clear HN HAT
          generalize l[k] = p at *
          obtain ⟨a0, a1⟩ := p
          simp only [cCell, List.getElem?_cons_zero, List.getElem?_cons_succ, Nat.add_zero] at d0 d1
          rw [hg]
          go_wp2_with (first | (at_builtin; refine append_cell rfl (.tmp 26) (.tmp 30) rfl w.heap.size _ (outTo l key v k) ⟨key, v⟩ _ (wr.heap.size + 1) (by rfl) (ownsF_alloc (ownsF_alloc HO.out _) _) (by rfl) (cell_newC (wr.alloc _) ⟨key, v⟩ _ (by simp)) (by omega) (by have := HB.out.size; simp; omega) ?_; intro v' w' ho hgr; have b0 : w'.cell? ⟨wr.heap.size, 0, none⟩ = some (.string ⟨a0.toArray⟩) := (hgr.cell_far ⟨wr.heap.size, 0, none⟩ (by simp; try omega) (fun e => by have := (World.ownsRow.lt HO.out _ e.symm).2; simp at this)).trans (by simp [go_sem]); have b1 : w'.cell? ⟨wr.heap.size, 1, none⟩ = some (.int .i64 a1) := (hgr.cell_far ⟨wr.heap.size, 1, none⟩ (by simp; try omega) (fun e => by have := (World.ownsRow.lt HO.out _ e.symm).2; simp at this)).trans (by simp [go_sem])) | (at_builtin; refine append_cell rfl (.tmp 36) (.tmp 38) rfl w.heap.size _ (outTo l key v k ++ [⟨key, v⟩]) ⟨a0, a1⟩ _ w'.heap.size (by rfl) (ownsF_alloc ho _) (by rfl) (cell_newC w' ⟨a0, a1⟩ _ rfl) (by simp; omega) (by have := HB.out.size; have := hgr.size; simp at *; omega) ?_; intro v2 w2 ho2 hgr2))
          have HA := Lib.hid (below_appendF (((HB.out.alloc HB.out.size _).alloc (by have := HB.out.size; simp; omega) _)) (ownsF_alloc (ownsF_alloc HO.out _) _) hgr (by have := HB.out.size; simp; omega))
          have HA2 := Lib.hid (below_appendF (HA.out.alloc HA.out.size _) (ownsF_alloc ho _) hgr2 (by have := HA.out.size; simp; omega))
          refine ⟨⟨k + 1, by omega, by go_num, by rw [hg2], by rw [HN1.out]; exact ho2, HA2.out⟩, by simp [intOf]; omega⟩
      · have hg : decide (q < k) = true := decide_eq_true (by omega)
        have hg2 : decide (q < k + 1) = true := decide_eq_true (by omega)
        have HN := Lib.hid (HHI.out k hlt hkq)
        have hlt2 := HSA.out k hlt hkq
        have hx3 : ((l[k]).fKey == key) = false := by simp only [beq_eq_false_iff_ne, ne_eq]; intro e; rw [e] at hlt2; exact key_irr _ hlt2
        clear hlt2
        generalize l[k] = p at *
        obtain ⟨a0, a1⟩ := p
        simp only [cCell, List.getElem?_cons_zero, List.getElem?_cons_succ, Nat.add_zero] at d0 d1
        rw [hg]
        go_wp2_with (at_builtin; refine append_cell rfl _ _ rfl w.heap.size _ (outTo l key v k) ⟨a0, a1⟩ _ (wr.heap.size + 1) (by rfl) (ownsF_alloc (ownsF_alloc HO.out _) _) (by rfl) (cell_newC (wr.alloc _) ⟨a0, a1⟩ _ (by simp)) (by omega) (by have := HB.out.size; simp; omega) ?_; intro v' w' ho hgr)
        have HA := Lib.hid (below_appendF (((HB.out.alloc HB.out.size _).alloc (by have := HB.out.size; simp; omega) _)) (ownsF_alloc (ownsF_alloc HO.out _) _) hgr (by have := HB.out.size; simp; omega))
        refine ⟨⟨k + 1, by omega, by go_num, by rw [hg2], by rw [HN.out]; exact ho, HA.out⟩, by simp [intOf]; omega⟩
    · have hkl : k = l.length := by omega
      by_cases hql : q < l.length
      · have hg : decide (q < k) = true := decide_eq_true (by omega)
        have HR := Lib.hid (show outTo l key v k = res from by rw [hkl]; exact HEN.out hql)
        rw [hg]
        go_wp2_with fail
        go_ret
        exact ⟨_, rfl, by rw [← HR.out]; exact HO.out, HB.out⟩
      · have hg : decide (q < k) = false := decide_eq_false (by omega)
        have HR := Lib.hid (show outTo l key v k ++ [⟨key, v⟩] = res from by rw [hkl]; exact HLA.out (by omega))
        rw [hg]
        go_wp2_with (at_builtin; refine append_cell rfl _ _ rfl w.heap.size _ (outTo l key v k) ⟨key, v⟩ _ wr.heap.size (by rfl) (ownsF_alloc HO.out _) (by rfl) (cell_newC wr ⟨key, v⟩ _ rfl) (by omega) (by have := HB.out.size; simp; omega) ?_; intro v' w' ho hgr)
        go_ret
        exact ⟨_, rfl, by rw [← HR.out]; exact ho, below_appendF (HB.out.alloc HB.out.size _) (ownsF_alloc HO.out _) hgr (by have := HB.out.size; simp; omega)⟩
end Go.Proofs.YtghebbndfpbkcaaGreat
/- the model's l3Keep: Get -/
namespace Go.Proofs.YtghebbndfpbkcaaGreat
set_option linter.unusedVariables false
set_option linter.unusedSimpArgs false
open Go.RowKit
theorem idle_unbroken {d : CoreD} (hb : d.fBroken = false) (x : Bool) (hx : hasI (coreF d) 0 = x) : idleI d = if (!d.fOn && x) = true then 2 else 0 := by
  unfold idleI; rw [hb, hx]; rfl
theorem bx_start4 (w : World) (c1 c2 c3 c4 : List Value) (t1 t2 t3 t4 : TypeId) : Bx ((((w.alloc (.cells c1.toArray t1)).alloc (.cells c2.toArray t2)).alloc (.cells c3.toArray t3)).alloc (.cells c4.toArray t4)) w.heap.size c1 ∧ Bx ((((w.alloc (.cells c1.toArray t1)).alloc (.cells c2.toArray t2)).alloc (.cells c3.toArray t3)).alloc (.cells c4.toArray t4)) (w.heap.size + 1) c2 ∧ Bx ((((w.alloc (.cells c1.toArray t1)).alloc (.cells c2.toArray t2)).alloc (.cells c3.toArray t3)).alloc (.cells c4.toArray t4)) (w.heap.size + 1 + 1) c3 ∧ Bx ((((w.alloc (.cells c1.toArray t1)).alloc (.cells c2.toArray t2)).alloc (.cells c3.toArray t3)).alloc (.cells c4.toArray t4)) (w.heap.size + 1 + 1 + 1) c4 ∧ Below w.heap.size w ((((w.alloc (.cells c1.toArray t1)).alloc (.cells c2.toArray t2)).alloc (.cells c3.toArray t3)).alloc (.cells c4.toArray t4)) := by
  obtain ⟨h1, h2, h3, h4⟩ := bx_start3 w c1 c2 c3 t1 t2 t3
  have h := Bx.new (((w.alloc (.cells c1.toArray t1)).alloc (.cells c2.toArray t2)).alloc (.cells c3.toArray t3)) c4 t4
  rw [show (((w.alloc (.cells c1.toArray t1)).alloc (.cells c2.toArray t2)).alloc (.cells c3.toArray t3)).heap.size = w.heap.size + 1 + 1 + 1 by simp] at h
  exact ⟨h1.alloc _, h2.alloc _, h3.alloc _, h, belS h4 (bx_box _ _)⟩
theorem belP5 {B : Nat} {a w : World} (h : Below B a w) (b : Nat) (hb : B ≤ b) (u0 u1 u2 u3 u4 : Value) :
    Below B a (((((w.setCell ⟨b, 0, none⟩ u0).setCell ⟨b, 1, none⟩ u1).setCell ⟨b, 2, none⟩ u2).setCell ⟨b, 3, none⟩ u3).setCell ⟨b, 4, none⟩ u4) :=
  (((((h.setCell (p := ⟨b, 0, none⟩) hb u0).setCell (p := ⟨b, 1, none⟩) hb u1).setCell (p := ⟨b, 2, none⟩) hb u2).setCell (p := ⟨b, 3, none⟩) hb u3).setCell (p := ⟨b, 4, none⟩) hb u4)
theorem belDr {B : Nat} {a w : World} (h : Below B a w) : Below B a w.drew := ⟨h.os, h.tape, h.output, h.size, h.block⟩
set_option maxRecDepth 100000 in
set_option maxHeartbeats 3200000 in
theorem l3Keep_get (d : CoreD) (cv : Value) (key : List UInt8) (n : Int) (t : List UInt8) (runs : Bool) (w : World) (hx : FlatAt cCell 2 w cv d.fCells) (hs : SortC d.fCells) (hb : d.fBroken = false) (hr : hasI (coreF d) 0 = runs) :
    Calls Tryz.prog 82 #[vCore d cv, .agg #[.string ⟨#[71, 101, 116]⟩, .string ⟨key.toArray⟩, .int .i64 n, .string ⟨t.toArray⟩], .bool runs] w fun e w' => Says cv (getD1 d key) w e w' := by
  have HX := Lib.hid hx
  have HA := Lib.hid (fun W (hw : Below w.heap.size w W) => l3At_any cv d.fCells key W (hx.below hw (Nat.le_refl _)))
  rw [atK_sort hs key] at HA
  have HG := Lib.hid (show getD1 d key = if idleI d = 0 then (if fnd d.fCells key = true then (d, rV (valAt d.fCells key)) else (d, rC 4)) else (d, rC (idleI d)) from rfl)
  rw [idle_unbroken hb runs hr] at HG
  have HF := Lib.hid (show fnd d.fCells key = true → ∃ (h : plc d.fCells key < d.fCells.length), valAt d.fCells key = (d.fCells[plc d.fCells key]).fValue from fun h => ⟨fnd_lt h, (fnd_at _ _ (fnd_lt h)).2⟩)
  generalize getD1 d key = out at *
  generalize fnd d.fCells key = f at *
  generalize plc d.fCells key = p at *
  generalize valAt d.fCells key = vl at *
  obtain ⟨a, c, rfl, _⟩ := flatAt_len HX.out
  clear hx hs hr
  obtain ⟨kd, on, br, l, cnt⟩ := d
  unfold vCore
  simp only at *
  subst hb
  have B0 := Lib.hid (bx_start4 w [.string ⟨kd.toArray⟩, .bool on, .bool false, .slice a l.length c, .int .i64 cnt] [.string ⟨#[71, 101, 116]⟩, .string ⟨key.toArray⟩, .int .i64 n, .string ⟨t.toArray⟩] [.string ⟨#[]⟩, .bool false, .bool false, .slice none 0 0, .int .i64 0] [.int .i64 0, .int .i64 0, .string ⟨#[]⟩, .int .i64 0, .int .i64 0] 26 28 26 32)
  go_enter Tryz.func82, Tryz.ntmps82
  go_wp2_with fail
  refine (HA.out _ B0.out.2.2.2.2).mono ?_
  rintro e w1 ⟨rfl, hb⟩
  have HB5 := Lib.hid (belS B0.out.2.2.2.2 hb)
  have HX1 := Lib.hid (HX.out.below HB5.out (Nat.le_refl _))
  have BP := Lib.hid (B0.out.1.below hb)
  have BQ := Lib.hid (B0.out.2.1.below hb)
  have BR := Lib.hid (B0.out.2.2.1.below hb)
  have BS := Lib.hid (B0.out.2.2.2.1.below hb)
  clear hb B0 HA
  have p0 := BP.out.cell 0 (by simp)
  have p1 := BP.out.cell 1 (by simp)
  have p2 := BP.out.cell 2 (by simp)
  have p3 := BP.out.cell 3 (by simp)
  have p4 := BP.out.cell 4 (by simp)
  simp only [List.getElem_cons_zero, List.getElem_cons_succ] at p0 p1 p2 p3 p4
  have q0 := BQ.out.cell 0 (by simp)
  have q1 := BQ.out.cell 1 (by simp)
  have q2 := BQ.out.cell 2 (by simp)
  have q3 := BQ.out.cell 3 (by simp)
  simp only [List.getElem_cons_zero, List.getElem_cons_succ] at q0 q1 q2 q3
  have r0 := BR.out.cell 0 (by simp)
  have r1 := BR.out.cell 1 (by simp)
  have r2 := BR.out.cell 2 (by simp)
  have r3 := BR.out.cell 3 (by simp)
  have r4 := BR.out.cell 4 (by simp)
  simp only [List.getElem_cons_zero, List.getElem_cons_succ] at r0 r1 r2 r3 r4
  have s0 := BS.out.cell 0 (by simp)
  have s1 := BS.out.cell 1 (by simp)
  have s2 := BS.out.cell 2 (by simp)
  have s3 := BS.out.cell 3 (by simp)
  have s4 := BS.out.cell 4 (by simp)
  simp only [List.getElem_cons_zero, List.getElem_cons_succ] at s0 s1 s2 s3 s4
  have y0 := BR.out.froz 0 (by simp)
  have y1 := BR.out.froz 1 (by simp)
  have y2 := BR.out.froz 2 (by simp)
  have y3 := BR.out.froz 3 (by simp)
  have y4 := BR.out.froz 4 (by simp)
  have z0 := BS.out.froz 0 (by simp)
  have z1 := BS.out.froz 1 (by simp)
  have z2 := BS.out.froz 2 (by simp)
  have z3 := BS.out.froz 3 (by simp)
  have z4 := BS.out.froz 4 (by simp)
  have L0 := BP.out.lt
  have L3 := BS.out.lt
  cases runs <;> cases on <;> cases f
  case true.true.true =>
    obtain ⟨hp, hv⟩ := HF.out rfl
    have hpi : (p : Int) < (l.length : Int) := by omega
    obtain ⟨ab, ao, rfl, hbl, hd⟩ := flatAt_cell cCell_len HX.out p hp (by decide)
    have d1 := (HB5.out.cell (p := ⟨ab, ao + p * 2 + 1, none⟩) hbl).trans (hd 1 (by decide))
    have n2 : ¬ ab = w.heap.size + 1 + 1 := by omega
    have n3 : ¬ ab = w.heap.size + 1 + 1 + 1 := by omega
    simp only [cCell, List.getElem?_cons_zero, List.getElem?_cons_succ] at d1
    rw [← hv] at d1
    have HV := Lib.hid hv
    clear hd hv HF
    have HE := Lib.hid (show out = ((⟨kd, true, false, l, cnt⟩ : CoreD), rV vl) from by rw [HG.out]; rfl)
    clear HG
    go_wp2_with fail
    go_region
    go_wp2_with fail
    refine bodyPost_ret (v := .tuple #[.agg #[.string ⟨kd.toArray⟩, .bool true, .bool false, .slice (some ⟨ab, ao, none⟩) l.length c, .int .i64 cnt], vReply (rV vl)]) (by simp [results, Tryz.results82, go_sem, vReply, rC, rV, rT, cell_set_at, cell_set_ne, r0, r1, r2, r3, r4, s0, s1, s2, s3, s4]) rfl ?_
    rw [HE.out]
    exact ⟨rfl, belDr (belP5 (belP5 HB5.out _ (by omega) _ _ _ _ _) _ (by omega) _ _ _ _ _)⟩
  case true.true.false =>
    have HE := Lib.hid (show out = ((⟨kd, true, false, l, cnt⟩ : CoreD), rC 4) from by rw [HG.out]; rfl)
    clear HG
    go_wp2_with fail
    refine bodyPost_ret (v := .tuple #[.agg #[.string ⟨kd.toArray⟩, .bool true, .bool false, .slice a l.length c, .int .i64 cnt], vReply (rC 4)]) (by simp [results, Tryz.results82, go_sem, vReply, rC, rV, rT, cell_set_at, cell_set_ne, r0, r1, r2, r3, r4, s0, s1, s2, s3, s4]) rfl ?_
    rw [HE.out]
    exact ⟨rfl, belP5 (belP5 (HB5.out) _ (by omega) _ _ _ _ _) _ (by omega) _ _ _ _ _⟩
  case true.false.true =>
    have HE := Lib.hid (show out = ((⟨kd, false, false, l, cnt⟩ : CoreD), rC 2) from by rw [HG.out]; rfl)
    clear HG
    go_wp2_with fail
    refine bodyPost_ret (v := .tuple #[.agg #[.string ⟨kd.toArray⟩, .bool false, .bool false, .slice a l.length c, .int .i64 cnt], vReply (rC 2)]) (by simp [results, Tryz.results82, go_sem, vReply, rC, rV, rT, cell_set_at, cell_set_ne, r0, r1, r2, r3, r4, s0, s1, s2, s3, s4]) rfl ?_
    rw [HE.out]
    exact ⟨rfl, belP5 (belP5 (HB5.out) _ (by omega) _ _ _ _ _) _ (by omega) _ _ _ _ _⟩
  case true.false.false =>
    have HE := Lib.hid (show out = ((⟨kd, false, false, l, cnt⟩ : CoreD), rC 2) from by rw [HG.out]; rfl)
    clear HG
    go_wp2_with fail
    refine bodyPost_ret (v := .tuple #[.agg #[.string ⟨kd.toArray⟩, .bool false, .bool false, .slice a l.length c, .int .i64 cnt], vReply (rC 2)]) (by simp [results, Tryz.results82, go_sem, vReply, rC, rV, rT, cell_set_at, cell_set_ne, r0, r1, r2, r3, r4, s0, s1, s2, s3, s4]) rfl ?_
    rw [HE.out]
    exact ⟨rfl, belP5 (belP5 (HB5.out) _ (by omega) _ _ _ _ _) _ (by omega) _ _ _ _ _⟩
  case false.true.true =>
    obtain ⟨hp, hv⟩ := HF.out rfl
    have hpi : (p : Int) < (l.length : Int) := by omega
    obtain ⟨ab, ao, rfl, hbl, hd⟩ := flatAt_cell cCell_len HX.out p hp (by decide)
    have d1 := (HB5.out.cell (p := ⟨ab, ao + p * 2 + 1, none⟩) hbl).trans (hd 1 (by decide))
    have n2 : ¬ ab = w.heap.size + 1 + 1 := by omega
    have n3 : ¬ ab = w.heap.size + 1 + 1 + 1 := by omega
    simp only [cCell, List.getElem?_cons_zero, List.getElem?_cons_succ] at d1
    rw [← hv] at d1
    have HV := Lib.hid hv
    clear hd hv HF
    have HE := Lib.hid (show out = ((⟨kd, true, false, l, cnt⟩ : CoreD), rV vl) from by rw [HG.out]; rfl)
    clear HG
    go_wp2_with fail
    go_region
    go_wp2_with fail
    refine bodyPost_ret (v := .tuple #[.agg #[.string ⟨kd.toArray⟩, .bool true, .bool false, .slice (some ⟨ab, ao, none⟩) l.length c, .int .i64 cnt], vReply (rV vl)]) (by simp [results, Tryz.results82, go_sem, vReply, rC, rV, rT, cell_set_at, cell_set_ne, r0, r1, r2, r3, r4, s0, s1, s2, s3, s4]) rfl ?_
    rw [HE.out]
    exact ⟨rfl, belDr (belP5 (belP5 HB5.out _ (by omega) _ _ _ _ _) _ (by omega) _ _ _ _ _)⟩
  case false.true.false =>
    have HE := Lib.hid (show out = ((⟨kd, true, false, l, cnt⟩ : CoreD), rC 4) from by rw [HG.out]; rfl)
    clear HG
    go_wp2_with fail
    refine bodyPost_ret (v := .tuple #[.agg #[.string ⟨kd.toArray⟩, .bool true, .bool false, .slice a l.length c, .int .i64 cnt], vReply (rC 4)]) (by simp [results, Tryz.results82, go_sem, vReply, rC, rV, rT, cell_set_at, cell_set_ne, r0, r1, r2, r3, r4, s0, s1, s2, s3, s4]) rfl ?_
    rw [HE.out]
    exact ⟨rfl, belP5 (belP5 (HB5.out) _ (by omega) _ _ _ _ _) _ (by omega) _ _ _ _ _⟩
  case false.false.true =>
    obtain ⟨hp, hv⟩ := HF.out rfl
    have hpi : (p : Int) < (l.length : Int) := by omega
    obtain ⟨ab, ao, rfl, hbl, hd⟩ := flatAt_cell cCell_len HX.out p hp (by decide)
    have d1 := (HB5.out.cell (p := ⟨ab, ao + p * 2 + 1, none⟩) hbl).trans (hd 1 (by decide))
    have n2 : ¬ ab = w.heap.size + 1 + 1 := by omega
    have n3 : ¬ ab = w.heap.size + 1 + 1 + 1 := by omega
    simp only [cCell, List.getElem?_cons_zero, List.getElem?_cons_succ] at d1
    rw [← hv] at d1
    have HV := Lib.hid hv
    clear hd hv HF
    have HE := Lib.hid (show out = ((⟨kd, false, false, l, cnt⟩ : CoreD), rV vl) from by rw [HG.out]; rfl)
    clear HG
    go_wp2_with fail
    go_region
    go_wp2_with fail
    refine bodyPost_ret (v := .tuple #[.agg #[.string ⟨kd.toArray⟩, .bool false, .bool false, .slice (some ⟨ab, ao, none⟩) l.length c, .int .i64 cnt], vReply (rV vl)]) (by simp [results, Tryz.results82, go_sem, vReply, rC, rV, rT, cell_set_at, cell_set_ne, r0, r1, r2, r3, r4, s0, s1, s2, s3, s4]) rfl ?_
    rw [HE.out]
    exact ⟨rfl, belDr (belP5 (belP5 HB5.out _ (by omega) _ _ _ _ _) _ (by omega) _ _ _ _ _)⟩
  case false.false.false =>
    have HE := Lib.hid (show out = ((⟨kd, false, false, l, cnt⟩ : CoreD), rC 4) from by rw [HG.out]; rfl)
    clear HG
    go_wp2_with fail
    refine bodyPost_ret (v := .tuple #[.agg #[.string ⟨kd.toArray⟩, .bool false, .bool false, .slice a l.length c, .int .i64 cnt], vReply (rC 4)]) (by simp [results, Tryz.results82, go_sem, vReply, rC, rV, rT, cell_set_at, cell_set_ne, r0, r1, r2, r3, r4, s0, s1, s2, s3, s4]) rfl ?_
    rw [HE.out]
    exact ⟨rfl, belP5 (belP5 (HB5.out) _ (by omega) _ _ _ _ _) _ (by omega) _ _ _ _ _⟩
end Go.Proofs.YtghebbndfpbkcaaGreat
/- the model's l3Keep: Put -/
namespace Go.Proofs.YtghebbndfpbkcaaGreat
set_option linter.unusedVariables false
set_option linter.unusedSimpArgs false
open Go.RowKit
/-- what a model's call answers: the core, its cells wherever they lie, and the reply -/
def SaysC (cv : Value) (d : CoreD) (out : CoreD × ReplyD) (w : World) (e : Ending) (w' : World) : Prop :=
  ∃ u, e = .returned (.tuple #[vCore out.1 u, vReply out.2]) ∧ ((u = cv ∧ out.1.fCells = d.fCells) ∨ OwnsF cCell 36 2 w' w.heap.size u out.1.fCells) ∧ Below w.heap.size w w'
theorem saysC_of {cv : Value} {d : CoreD} {out : CoreD × ReplyD} {w w' : World} {e : Ending} (h : Says cv out w e w') (hx : out.1.fCells = d.fCells) : SaysC cv d out w e w' := ⟨cv, h.1, Or.inl ⟨rfl, hx⟩, h.2⟩
theorem flat_p5 {w : World} {v : Value} {l : List CellD} (B : Nat) (h : OwnsF cCell 36 2 w B v l) (b : Nat) (hb : b < B) (u0 u1 u2 u3 u4 : Value) :
    OwnsF cCell 36 2 (((((w.setCell ⟨b, 0, none⟩ u0).setCell ⟨b, 1, none⟩ u1).setCell ⟨b, 2, none⟩ u2).setCell ⟨b, 3, none⟩ u3).setCell ⟨b, 4, none⟩ u4) B v l :=
  ownsF_set (ownsF_set (ownsF_set (ownsF_set (ownsF_set h hb) hb) hb) hb) hb
set_option maxRecDepth 100000 in
set_option maxHeartbeats 3200000 in
theorem l3Keep_put (d : CoreD) (cv : Value) (key : List UInt8) (n : Int) (t : List UInt8) (runs : Bool) (w : World) (hx : FlatAt cCell 2 w cv d.fCells) (hs : SortC d.fCells) (hm : d.fCells.length ≤ 4) (hn1 : -9223372036854775808 ≤ d.fCount) (hn2 : d.fCount ≤ 9223372036854775807) (hb : d.fBroken = false) (hr : hasI (coreF d) 0 = runs) :
    Calls Tryz.prog 82 #[vCore d cv, .agg #[.string ⟨#[80, 117, 116]⟩, .string ⟨key.toArray⟩, .int .i64 n, .string ⟨t.toArray⟩], .bool runs] w fun e w' => SaysC cv d (putD d key n) w e w' := by
  have HX := Lib.hid hx
  have HA := Lib.hid (fun W (hw : Below w.heap.size w W) => l3At_any cv d.fCells key W (hx.below hw (Nat.le_refl _)))
  have HPT := Lib.hid (fun W (hw : Below w.heap.size w W) => l3Put_any cv d.fCells key n W (hx.below hw (Nat.le_refl _)) (by omega) hs)
  have HU := Lib.hid (fun W => l3Up_any d.fCount W hn2 hn1)
  rw [atK_sort hs key] at HA
  have HG := Lib.hid (show putD d key n = if idleI d = 0 then (if fnd d.fCells key = true ∨ d.fCells.length < 4 then ({ d with fCells := putC d.fCells key n, fCount := upI d.fCount }, rV (putC d.fCells key n).length) else (d, rC 5)) else (d, rC (idleI d)) from rfl)
  rw [idle_unbroken hb runs hr] at HG
  have HLN := Lib.hid (show (putC d.fCells key n).length ≤ 5 from by rw [putC_len]; split <;> omega)
  generalize putD d key n = out at *
  generalize fnd d.fCells key = f at *
  generalize plc d.fCells key = p at *
  generalize putC d.fCells key n = l2 at *
  obtain ⟨a, c, rfl, _⟩ := flatAt_len HX.out
  clear hx hs hr
  obtain ⟨kd, on, br, l, cnt⟩ := d
  unfold vCore
  simp only at *
  generalize upI cnt = cnt2 at *
  subst hb
  have B0 := Lib.hid (bx_start4 w [.string ⟨kd.toArray⟩, .bool on, .bool false, .slice a l.length c, .int .i64 cnt] [.string ⟨#[80, 117, 116]⟩, .string ⟨key.toArray⟩, .int .i64 n, .string ⟨t.toArray⟩] [.string ⟨#[]⟩, .bool false, .bool false, .slice none 0 0, .int .i64 0] [.int .i64 0, .int .i64 0, .string ⟨#[]⟩, .int .i64 0, .int .i64 0] 26 28 26 32)
  clear hn1 hn2
  go_enter Tryz.func82, Tryz.ntmps82
  go_wp2_with fail
  refine (HA.out _ B0.out.2.2.2.2).mono ?_
  rintro e w1 ⟨rfl, hb⟩
  have HB5 := Lib.hid (belS B0.out.2.2.2.2 hb)
  have BP := Lib.hid (B0.out.1.below hb)
  have BQ := Lib.hid (B0.out.2.1.below hb)
  have BR := Lib.hid (B0.out.2.2.1.below hb)
  have BS := Lib.hid (B0.out.2.2.2.1.below hb)
  clear hb B0 HA
  have p0 := BP.out.cell 0 (by simp)
  have p1 := BP.out.cell 1 (by simp)
  have p2 := BP.out.cell 2 (by simp)
  have p3 := BP.out.cell 3 (by simp)
  have p4 := BP.out.cell 4 (by simp)
  simp only [List.getElem_cons_zero, List.getElem_cons_succ] at p0 p1 p2 p3 p4
  have q0 := BQ.out.cell 0 (by simp)
  have q1 := BQ.out.cell 1 (by simp)
  have q2 := BQ.out.cell 2 (by simp)
  have q3 := BQ.out.cell 3 (by simp)
  simp only [List.getElem_cons_zero, List.getElem_cons_succ] at q0 q1 q2 q3
  have r0 := BR.out.cell 0 (by simp)
  have r1 := BR.out.cell 1 (by simp)
  have r2 := BR.out.cell 2 (by simp)
  have r3 := BR.out.cell 3 (by simp)
  have r4 := BR.out.cell 4 (by simp)
  simp only [List.getElem_cons_zero, List.getElem_cons_succ] at r0 r1 r2 r3 r4
  have s0 := BS.out.cell 0 (by simp)
  have s1 := BS.out.cell 1 (by simp)
  have s2 := BS.out.cell 2 (by simp)
  have s3 := BS.out.cell 3 (by simp)
  have s4 := BS.out.cell 4 (by simp)
  simp only [List.getElem_cons_zero, List.getElem_cons_succ] at s0 s1 s2 s3 s4
  have x0 := BP.out.froz 0 (by simp)
  have x1 := BP.out.froz 1 (by simp)
  have x2 := BP.out.froz 2 (by simp)
  have x3 := BP.out.froz 3 (by simp)
  have x4 := BP.out.froz 4 (by simp)
  have y0 := BR.out.froz 0 (by simp)
  have y1 := BR.out.froz 1 (by simp)
  have y2 := BR.out.froz 2 (by simp)
  have y3 := BR.out.froz 3 (by simp)
  have y4 := BR.out.froz 4 (by simp)
  have z0 := BS.out.froz 0 (by simp)
  have z1 := BS.out.froz 1 (by simp)
  have z2 := BS.out.froz 2 (by simp)
  have z3 := BS.out.froz 3 (by simp)
  have z4 := BS.out.froz 4 (by simp)
  have L0 := BP.out.lt
  have L3 := BS.out.lt
  cases runs <;> cases on <;> cases f
  case true.true.true =>
    have HE := Lib.hid (show out = ((⟨kd, true, false, l2, cnt2⟩ : CoreD), rV l2.length) from by rw [HG.out]; rfl)
    clear HG
    go_wp2_with fail
    refine (HPT.out _ HB5.out).mono ?_
    rintro e w2 ⟨u, rfl, ho, hb⟩
    have HB6 := Lib.hid (belS HB5.out hb)
    have HO := Lib.hid ho
    have BP2 := Lib.hid (BP.out.below hb)
    have BR2 := Lib.hid (BR.out.below hb)
    have BS2 := Lib.hid (BS.out.below hb)
    have hs2 := hb.size
    clear hb ho p0 p1 p2 p3 p4 q0 q1 q2 q3 r0 r1 r2 r3 r4 s0 s1 s2 s3 s4 x0 x1 x2 x3 x4 y0 y1 y2 y3 y4 z0 z1 z2 z3 z4 BP BR BS BQ
    obtain ⟨ua, uc, rfl⟩ := slice_of HO.out
    have p0 := BP2.out.cell 0 (by simp)
    have p1 := BP2.out.cell 1 (by simp)
    have p2 := BP2.out.cell 2 (by simp)
    have p3 := BP2.out.cell 3 (by simp)
    have p4 := BP2.out.cell 4 (by simp)
    simp only [List.getElem_cons_zero, List.getElem_cons_succ] at p0 p1 p2 p3 p4
    have r0 := BR2.out.cell 0 (by simp)
    have r1 := BR2.out.cell 1 (by simp)
    have r2 := BR2.out.cell 2 (by simp)
    have r3 := BR2.out.cell 3 (by simp)
    have r4 := BR2.out.cell 4 (by simp)
    simp only [List.getElem_cons_zero, List.getElem_cons_succ] at r0 r1 r2 r3 r4
    have s0 := BS2.out.cell 0 (by simp)
    have s1 := BS2.out.cell 1 (by simp)
    have s2 := BS2.out.cell 2 (by simp)
    have s3 := BS2.out.cell 3 (by simp)
    have s4 := BS2.out.cell 4 (by simp)
    simp only [List.getElem_cons_zero, List.getElem_cons_succ] at s0 s1 s2 s3 s4
    have x0 := BP2.out.froz 0 (by simp)
    have x1 := BP2.out.froz 1 (by simp)
    have x2 := BP2.out.froz 2 (by simp)
    have x3 := BP2.out.froz 3 (by simp)
    have x4 := BP2.out.froz 4 (by simp)
    have y0 := BR2.out.froz 0 (by simp)
    have y1 := BR2.out.froz 1 (by simp)
    have y2 := BR2.out.froz 2 (by simp)
    have y3 := BR2.out.froz 3 (by simp)
    have y4 := BR2.out.froz 4 (by simp)
    have z0 := BS2.out.froz 0 (by simp)
    have z1 := BS2.out.froz 1 (by simp)
    have z2 := BS2.out.froz 2 (by simp)
    have z3 := BS2.out.froz 3 (by simp)
    have z4 := BS2.out.froz 4 (by simp)
    go_wp2_with fail
    refine (HU.out _).mono ?_
    rintro e w3 ⟨rfl, rfl⟩
    have hln := HLN.out
    go_wp2_with fail
    go_region
    go_wp2_with fail
    refine bodyPost_ret (v := .tuple #[.agg #[.string ⟨kd.toArray⟩, .bool true, .bool false, .slice ua l2.length uc, .int .i64 cnt2], vReply (rV l2.length)]) (by simp [results, Tryz.results82, go_sem, vReply, rC, rV, rT, cell_set_at, cell_set_ne, p0, p1, p2, p3, p4, r0, r1, r2, r3, r4, s0, s1, s2, s3, s4]) rfl ?_
    rw [HE.out]
    refine ⟨_, rfl, Or.inr ?_, belDr (belP5 (belP5 (Below.setCell (Below.setCell HB6.out (by simp) _) (by simp) _) _ (by omega) _ _ _ _ _) _ (by omega) _ _ _ _ _)⟩
    exact ownsF_base (B := w1.heap.size) (ownsF_drew (flat_p5 _ (flat_p5 _ (ownsF_set (ownsF_set HO.out (by simp; omega)) (by simp; omega)) _ (by omega) _ _ _ _ _) _ (by omega) _ _ _ _ _)) (by omega)
  case true.true.false =>
    by_cases h4 : (l.length : Int) = 4
    · have h4b : ((l.length : Int) == 4) = true := by simpa using h4
      have h5 : ¬ (false = true ∨ l.length < 4) := by simp; omega
      have HE := Lib.hid (show out = ((⟨kd, true, false, l, cnt⟩ : CoreD), rC 5) from by rw [HG.out, if_neg h5]; rfl)
      clear h4 h5
      clear HG HPT HU HLN
      go_wp2_with fail
      refine bodyPost_ret (v := .tuple #[.agg #[.string ⟨kd.toArray⟩, .bool true, .bool false, .slice a l.length c, .int .i64 cnt], vReply (rC 5)]) (by simp [results, Tryz.results82, go_sem, vReply, rC, rV, rT, cell_set_at, cell_set_ne, r0, r1, r2, r3, r4, s0, s1, s2, s3, s4]) rfl ?_
      rw [HE.out]
      exact saysC_of (cv := .slice a l.length c) ⟨rfl, belP5 (belP5 HB5.out _ (by omega) _ _ _ _ _) _ (by omega) _ _ _ _ _⟩ rfl
    · have h4b : ((l.length : Int) == 4) = false := by simpa using h4
      have h5 : (false = true ∨ l.length < 4) := by right; omega
      have HE := Lib.hid (show out = ((⟨kd, true, false, l2, cnt2⟩ : CoreD), rV l2.length) from by rw [HG.out, if_pos h5]; rfl)
      clear h4 h5
      clear HG
      go_wp2_with fail
      refine (HPT.out _ HB5.out).mono ?_
      rintro e w2 ⟨u, rfl, ho, hb⟩
      have HB6 := Lib.hid (belS HB5.out hb)
      have HO := Lib.hid ho
      have BP2 := Lib.hid (BP.out.below hb)
      have BR2 := Lib.hid (BR.out.below hb)
      have BS2 := Lib.hid (BS.out.below hb)
      have hs2 := hb.size
      clear hb ho p0 p1 p2 p3 p4 q0 q1 q2 q3 r0 r1 r2 r3 r4 s0 s1 s2 s3 s4 x0 x1 x2 x3 x4 y0 y1 y2 y3 y4 z0 z1 z2 z3 z4 BP BR BS BQ
      obtain ⟨ua, uc, rfl⟩ := slice_of HO.out
      have p0 := BP2.out.cell 0 (by simp)
      have p1 := BP2.out.cell 1 (by simp)
      have p2 := BP2.out.cell 2 (by simp)
      have p3 := BP2.out.cell 3 (by simp)
      have p4 := BP2.out.cell 4 (by simp)
      simp only [List.getElem_cons_zero, List.getElem_cons_succ] at p0 p1 p2 p3 p4
      have r0 := BR2.out.cell 0 (by simp)
      have r1 := BR2.out.cell 1 (by simp)
      have r2 := BR2.out.cell 2 (by simp)
      have r3 := BR2.out.cell 3 (by simp)
      have r4 := BR2.out.cell 4 (by simp)
      simp only [List.getElem_cons_zero, List.getElem_cons_succ] at r0 r1 r2 r3 r4
      have s0 := BS2.out.cell 0 (by simp)
      have s1 := BS2.out.cell 1 (by simp)
      have s2 := BS2.out.cell 2 (by simp)
      have s3 := BS2.out.cell 3 (by simp)
      have s4 := BS2.out.cell 4 (by simp)
      simp only [List.getElem_cons_zero, List.getElem_cons_succ] at s0 s1 s2 s3 s4
      have x0 := BP2.out.froz 0 (by simp)
      have x1 := BP2.out.froz 1 (by simp)
      have x2 := BP2.out.froz 2 (by simp)
      have x3 := BP2.out.froz 3 (by simp)
      have x4 := BP2.out.froz 4 (by simp)
      have y0 := BR2.out.froz 0 (by simp)
      have y1 := BR2.out.froz 1 (by simp)
      have y2 := BR2.out.froz 2 (by simp)
      have y3 := BR2.out.froz 3 (by simp)
      have y4 := BR2.out.froz 4 (by simp)
      have z0 := BS2.out.froz 0 (by simp)
      have z1 := BS2.out.froz 1 (by simp)
      have z2 := BS2.out.froz 2 (by simp)
      have z3 := BS2.out.froz 3 (by simp)
      have z4 := BS2.out.froz 4 (by simp)
      go_wp2_with fail
      refine (HU.out _).mono ?_
      rintro e w3 ⟨rfl, rfl⟩
      have hln := HLN.out
      go_wp2_with fail
      go_region
      go_wp2_with fail
      refine bodyPost_ret (v := .tuple #[.agg #[.string ⟨kd.toArray⟩, .bool true, .bool false, .slice ua l2.length uc, .int .i64 cnt2], vReply (rV l2.length)]) (by simp [results, Tryz.results82, go_sem, vReply, rC, rV, rT, cell_set_at, cell_set_ne, p0, p1, p2, p3, p4, r0, r1, r2, r3, r4, s0, s1, s2, s3, s4]) rfl ?_
      rw [HE.out]
      refine ⟨_, rfl, Or.inr ?_, belDr (belP5 (belP5 (Below.setCell (Below.setCell HB6.out (by simp) _) (by simp) _) _ (by omega) _ _ _ _ _) _ (by omega) _ _ _ _ _)⟩
      exact ownsF_base (B := w1.heap.size) (ownsF_drew (flat_p5 _ (flat_p5 _ (ownsF_set (ownsF_set HO.out (by simp; omega)) (by simp; omega)) _ (by omega) _ _ _ _ _) _ (by omega) _ _ _ _ _)) (by omega)
  case true.false.true =>
    have HE := Lib.hid (show out = ((⟨kd, false, false, l, cnt⟩ : CoreD), rC 2) from by rw [HG.out]; rfl)
    clear HG HPT HU HLN
    go_wp2_with fail
    refine bodyPost_ret (v := .tuple #[.agg #[.string ⟨kd.toArray⟩, .bool false, .bool false, .slice a l.length c, .int .i64 cnt], vReply (rC 2)]) (by simp [results, Tryz.results82, go_sem, vReply, rC, rV, rT, cell_set_at, cell_set_ne, r0, r1, r2, r3, r4, s0, s1, s2, s3, s4]) rfl ?_
    rw [HE.out]
    exact saysC_of (cv := .slice a l.length c) ⟨rfl, belP5 (belP5 HB5.out _ (by omega) _ _ _ _ _) _ (by omega) _ _ _ _ _⟩ rfl
  case true.false.false =>
    have HE := Lib.hid (show out = ((⟨kd, false, false, l, cnt⟩ : CoreD), rC 2) from by rw [HG.out]; rfl)
    clear HG HPT HU HLN
    go_wp2_with fail
    refine bodyPost_ret (v := .tuple #[.agg #[.string ⟨kd.toArray⟩, .bool false, .bool false, .slice a l.length c, .int .i64 cnt], vReply (rC 2)]) (by simp [results, Tryz.results82, go_sem, vReply, rC, rV, rT, cell_set_at, cell_set_ne, r0, r1, r2, r3, r4, s0, s1, s2, s3, s4]) rfl ?_
    rw [HE.out]
    exact saysC_of (cv := .slice a l.length c) ⟨rfl, belP5 (belP5 HB5.out _ (by omega) _ _ _ _ _) _ (by omega) _ _ _ _ _⟩ rfl
  case false.true.true =>
    have HE := Lib.hid (show out = ((⟨kd, true, false, l2, cnt2⟩ : CoreD), rV l2.length) from by rw [HG.out]; rfl)
    clear HG
    go_wp2_with fail
    refine (HPT.out _ HB5.out).mono ?_
    rintro e w2 ⟨u, rfl, ho, hb⟩
    have HB6 := Lib.hid (belS HB5.out hb)
    have HO := Lib.hid ho
    have BP2 := Lib.hid (BP.out.below hb)
    have BR2 := Lib.hid (BR.out.below hb)
    have BS2 := Lib.hid (BS.out.below hb)
    have hs2 := hb.size
    clear hb ho p0 p1 p2 p3 p4 q0 q1 q2 q3 r0 r1 r2 r3 r4 s0 s1 s2 s3 s4 x0 x1 x2 x3 x4 y0 y1 y2 y3 y4 z0 z1 z2 z3 z4 BP BR BS BQ
    obtain ⟨ua, uc, rfl⟩ := slice_of HO.out
    have p0 := BP2.out.cell 0 (by simp)
    have p1 := BP2.out.cell 1 (by simp)
    have p2 := BP2.out.cell 2 (by simp)
    have p3 := BP2.out.cell 3 (by simp)
    have p4 := BP2.out.cell 4 (by simp)
    simp only [List.getElem_cons_zero, List.getElem_cons_succ] at p0 p1 p2 p3 p4
    have r0 := BR2.out.cell 0 (by simp)
    have r1 := BR2.out.cell 1 (by simp)
    have r2 := BR2.out.cell 2 (by simp)
    have r3 := BR2.out.cell 3 (by simp)
    have r4 := BR2.out.cell 4 (by simp)
    simp only [List.getElem_cons_zero, List.getElem_cons_succ] at r0 r1 r2 r3 r4
    have s0 := BS2.out.cell 0 (by simp)
    have s1 := BS2.out.cell 1 (by simp)
    have s2 := BS2.out.cell 2 (by simp)
    have s3 := BS2.out.cell 3 (by simp)
    have s4 := BS2.out.cell 4 (by simp)
    simp only [List.getElem_cons_zero, List.getElem_cons_succ] at s0 s1 s2 s3 s4
    have x0 := BP2.out.froz 0 (by simp)
    have x1 := BP2.out.froz 1 (by simp)
    have x2 := BP2.out.froz 2 (by simp)
    have x3 := BP2.out.froz 3 (by simp)
    have x4 := BP2.out.froz 4 (by simp)
    have y0 := BR2.out.froz 0 (by simp)
    have y1 := BR2.out.froz 1 (by simp)
    have y2 := BR2.out.froz 2 (by simp)
    have y3 := BR2.out.froz 3 (by simp)
    have y4 := BR2.out.froz 4 (by simp)
    have z0 := BS2.out.froz 0 (by simp)
    have z1 := BS2.out.froz 1 (by simp)
    have z2 := BS2.out.froz 2 (by simp)
    have z3 := BS2.out.froz 3 (by simp)
    have z4 := BS2.out.froz 4 (by simp)
    go_wp2_with fail
    refine (HU.out _).mono ?_
    rintro e w3 ⟨rfl, rfl⟩
    have hln := HLN.out
    go_wp2_with fail
    go_region
    go_wp2_with fail
    refine bodyPost_ret (v := .tuple #[.agg #[.string ⟨kd.toArray⟩, .bool true, .bool false, .slice ua l2.length uc, .int .i64 cnt2], vReply (rV l2.length)]) (by simp [results, Tryz.results82, go_sem, vReply, rC, rV, rT, cell_set_at, cell_set_ne, p0, p1, p2, p3, p4, r0, r1, r2, r3, r4, s0, s1, s2, s3, s4]) rfl ?_
    rw [HE.out]
    refine ⟨_, rfl, Or.inr ?_, belDr (belP5 (belP5 (Below.setCell (Below.setCell HB6.out (by simp) _) (by simp) _) _ (by omega) _ _ _ _ _) _ (by omega) _ _ _ _ _)⟩
    exact ownsF_base (B := w1.heap.size) (ownsF_drew (flat_p5 _ (flat_p5 _ (ownsF_set (ownsF_set HO.out (by simp; omega)) (by simp; omega)) _ (by omega) _ _ _ _ _) _ (by omega) _ _ _ _ _)) (by omega)
  case false.true.false =>
    by_cases h4 : (l.length : Int) = 4
    · have h4b : ((l.length : Int) == 4) = true := by simpa using h4
      have h5 : ¬ (false = true ∨ l.length < 4) := by simp; omega
      have HE := Lib.hid (show out = ((⟨kd, true, false, l, cnt⟩ : CoreD), rC 5) from by rw [HG.out, if_neg h5]; rfl)
      clear h4 h5
      clear HG HPT HU HLN
      go_wp2_with fail
      refine bodyPost_ret (v := .tuple #[.agg #[.string ⟨kd.toArray⟩, .bool true, .bool false, .slice a l.length c, .int .i64 cnt], vReply (rC 5)]) (by simp [results, Tryz.results82, go_sem, vReply, rC, rV, rT, cell_set_at, cell_set_ne, r0, r1, r2, r3, r4, s0, s1, s2, s3, s4]) rfl ?_
      rw [HE.out]
      exact saysC_of (cv := .slice a l.length c) ⟨rfl, belP5 (belP5 HB5.out _ (by omega) _ _ _ _ _) _ (by omega) _ _ _ _ _⟩ rfl
    · have h4b : ((l.length : Int) == 4) = false := by simpa using h4
      have h5 : (false = true ∨ l.length < 4) := by right; omega
      have HE := Lib.hid (show out = ((⟨kd, true, false, l2, cnt2⟩ : CoreD), rV l2.length) from by rw [HG.out, if_pos h5]; rfl)
      clear h4 h5
      clear HG
      go_wp2_with fail
      refine (HPT.out _ HB5.out).mono ?_
      rintro e w2 ⟨u, rfl, ho, hb⟩
      have HB6 := Lib.hid (belS HB5.out hb)
      have HO := Lib.hid ho
      have BP2 := Lib.hid (BP.out.below hb)
      have BR2 := Lib.hid (BR.out.below hb)
      have BS2 := Lib.hid (BS.out.below hb)
      have hs2 := hb.size
      clear hb ho p0 p1 p2 p3 p4 q0 q1 q2 q3 r0 r1 r2 r3 r4 s0 s1 s2 s3 s4 x0 x1 x2 x3 x4 y0 y1 y2 y3 y4 z0 z1 z2 z3 z4 BP BR BS BQ
      obtain ⟨ua, uc, rfl⟩ := slice_of HO.out
      have p0 := BP2.out.cell 0 (by simp)
      have p1 := BP2.out.cell 1 (by simp)
      have p2 := BP2.out.cell 2 (by simp)
      have p3 := BP2.out.cell 3 (by simp)
      have p4 := BP2.out.cell 4 (by simp)
      simp only [List.getElem_cons_zero, List.getElem_cons_succ] at p0 p1 p2 p3 p4
      have r0 := BR2.out.cell 0 (by simp)
      have r1 := BR2.out.cell 1 (by simp)
      have r2 := BR2.out.cell 2 (by simp)
      have r3 := BR2.out.cell 3 (by simp)
      have r4 := BR2.out.cell 4 (by simp)
      simp only [List.getElem_cons_zero, List.getElem_cons_succ] at r0 r1 r2 r3 r4
      have s0 := BS2.out.cell 0 (by simp)
      have s1 := BS2.out.cell 1 (by simp)
      have s2 := BS2.out.cell 2 (by simp)
      have s3 := BS2.out.cell 3 (by simp)
      have s4 := BS2.out.cell 4 (by simp)
      simp only [List.getElem_cons_zero, List.getElem_cons_succ] at s0 s1 s2 s3 s4
      have x0 := BP2.out.froz 0 (by simp)
      have x1 := BP2.out.froz 1 (by simp)
      have x2 := BP2.out.froz 2 (by simp)
      have x3 := BP2.out.froz 3 (by simp)
      have x4 := BP2.out.froz 4 (by simp)
      have y0 := BR2.out.froz 0 (by simp)
      have y1 := BR2.out.froz 1 (by simp)
      have y2 := BR2.out.froz 2 (by simp)
      have y3 := BR2.out.froz 3 (by simp)
      have y4 := BR2.out.froz 4 (by simp)
      have z0 := BS2.out.froz 0 (by simp)
      have z1 := BS2.out.froz 1 (by simp)
      have z2 := BS2.out.froz 2 (by simp)
      have z3 := BS2.out.froz 3 (by simp)
      have z4 := BS2.out.froz 4 (by simp)
      go_wp2_with fail
      refine (HU.out _).mono ?_
      rintro e w3 ⟨rfl, rfl⟩
      have hln := HLN.out
      go_wp2_with fail
      go_region
      go_wp2_with fail
      refine bodyPost_ret (v := .tuple #[.agg #[.string ⟨kd.toArray⟩, .bool true, .bool false, .slice ua l2.length uc, .int .i64 cnt2], vReply (rV l2.length)]) (by simp [results, Tryz.results82, go_sem, vReply, rC, rV, rT, cell_set_at, cell_set_ne, p0, p1, p2, p3, p4, r0, r1, r2, r3, r4, s0, s1, s2, s3, s4]) rfl ?_
      rw [HE.out]
      refine ⟨_, rfl, Or.inr ?_, belDr (belP5 (belP5 (Below.setCell (Below.setCell HB6.out (by simp) _) (by simp) _) _ (by omega) _ _ _ _ _) _ (by omega) _ _ _ _ _)⟩
      exact ownsF_base (B := w1.heap.size) (ownsF_drew (flat_p5 _ (flat_p5 _ (ownsF_set (ownsF_set HO.out (by simp; omega)) (by simp; omega)) _ (by omega) _ _ _ _ _) _ (by omega) _ _ _ _ _)) (by omega)
  case false.false.true =>
    have HE := Lib.hid (show out = ((⟨kd, false, false, l2, cnt2⟩ : CoreD), rV l2.length) from by rw [HG.out]; rfl)
    clear HG
    go_wp2_with fail
    refine (HPT.out _ HB5.out).mono ?_
    rintro e w2 ⟨u, rfl, ho, hb⟩
    have HB6 := Lib.hid (belS HB5.out hb)
    have HO := Lib.hid ho
    have BP2 := Lib.hid (BP.out.below hb)
    have BR2 := Lib.hid (BR.out.below hb)
    have BS2 := Lib.hid (BS.out.below hb)
    have hs2 := hb.size
    clear hb ho p0 p1 p2 p3 p4 q0 q1 q2 q3 r0 r1 r2 r3 r4 s0 s1 s2 s3 s4 x0 x1 x2 x3 x4 y0 y1 y2 y3 y4 z0 z1 z2 z3 z4 BP BR BS BQ
    obtain ⟨ua, uc, rfl⟩ := slice_of HO.out
    have p0 := BP2.out.cell 0 (by simp)
    have p1 := BP2.out.cell 1 (by simp)
    have p2 := BP2.out.cell 2 (by simp)
    have p3 := BP2.out.cell 3 (by simp)
    have p4 := BP2.out.cell 4 (by simp)
    simp only [List.getElem_cons_zero, List.getElem_cons_succ] at p0 p1 p2 p3 p4
    have r0 := BR2.out.cell 0 (by simp)
    have r1 := BR2.out.cell 1 (by simp)
    have r2 := BR2.out.cell 2 (by simp)
    have r3 := BR2.out.cell 3 (by simp)
    have r4 := BR2.out.cell 4 (by simp)
    simp only [List.getElem_cons_zero, List.getElem_cons_succ] at r0 r1 r2 r3 r4
    have s0 := BS2.out.cell 0 (by simp)
    have s1 := BS2.out.cell 1 (by simp)
    have s2 := BS2.out.cell 2 (by simp)
    have s3 := BS2.out.cell 3 (by simp)
    have s4 := BS2.out.cell 4 (by simp)
    simp only [List.getElem_cons_zero, List.getElem_cons_succ] at s0 s1 s2 s3 s4
    have x0 := BP2.out.froz 0 (by simp)
    have x1 := BP2.out.froz 1 (by simp)
    have x2 := BP2.out.froz 2 (by simp)
    have x3 := BP2.out.froz 3 (by simp)
    have x4 := BP2.out.froz 4 (by simp)
    have y0 := BR2.out.froz 0 (by simp)
    have y1 := BR2.out.froz 1 (by simp)
    have y2 := BR2.out.froz 2 (by simp)
    have y3 := BR2.out.froz 3 (by simp)
    have y4 := BR2.out.froz 4 (by simp)
    have z0 := BS2.out.froz 0 (by simp)
    have z1 := BS2.out.froz 1 (by simp)
    have z2 := BS2.out.froz 2 (by simp)
    have z3 := BS2.out.froz 3 (by simp)
    have z4 := BS2.out.froz 4 (by simp)
    go_wp2_with fail
    refine (HU.out _).mono ?_
    rintro e w3 ⟨rfl, rfl⟩
    have hln := HLN.out
    go_wp2_with fail
    go_region
    go_wp2_with fail
    refine bodyPost_ret (v := .tuple #[.agg #[.string ⟨kd.toArray⟩, .bool false, .bool false, .slice ua l2.length uc, .int .i64 cnt2], vReply (rV l2.length)]) (by simp [results, Tryz.results82, go_sem, vReply, rC, rV, rT, cell_set_at, cell_set_ne, p0, p1, p2, p3, p4, r0, r1, r2, r3, r4, s0, s1, s2, s3, s4]) rfl ?_
    rw [HE.out]
    refine ⟨_, rfl, Or.inr ?_, belDr (belP5 (belP5 (Below.setCell (Below.setCell HB6.out (by simp) _) (by simp) _) _ (by omega) _ _ _ _ _) _ (by omega) _ _ _ _ _)⟩
    exact ownsF_base (B := w1.heap.size) (ownsF_drew (flat_p5 _ (flat_p5 _ (ownsF_set (ownsF_set HO.out (by simp; omega)) (by simp; omega)) _ (by omega) _ _ _ _ _) _ (by omega) _ _ _ _ _)) (by omega)
  case false.false.false =>
    by_cases h4 : (l.length : Int) = 4
    · have h4b : ((l.length : Int) == 4) = true := by simpa using h4
      have h5 : ¬ (false = true ∨ l.length < 4) := by simp; omega
      have HE := Lib.hid (show out = ((⟨kd, false, false, l, cnt⟩ : CoreD), rC 5) from by rw [HG.out, if_neg h5]; rfl)
      clear h4 h5
      clear HG HPT HU HLN
      go_wp2_with fail
      refine bodyPost_ret (v := .tuple #[.agg #[.string ⟨kd.toArray⟩, .bool false, .bool false, .slice a l.length c, .int .i64 cnt], vReply (rC 5)]) (by simp [results, Tryz.results82, go_sem, vReply, rC, rV, rT, cell_set_at, cell_set_ne, r0, r1, r2, r3, r4, s0, s1, s2, s3, s4]) rfl ?_
      rw [HE.out]
      exact saysC_of (cv := .slice a l.length c) ⟨rfl, belP5 (belP5 HB5.out _ (by omega) _ _ _ _ _) _ (by omega) _ _ _ _ _⟩ rfl
    · have h4b : ((l.length : Int) == 4) = false := by simpa using h4
      have h5 : (false = true ∨ l.length < 4) := by right; omega
      have HE := Lib.hid (show out = ((⟨kd, false, false, l2, cnt2⟩ : CoreD), rV l2.length) from by rw [HG.out, if_pos h5]; rfl)
      clear h4 h5
      clear HG
      go_wp2_with fail
      refine (HPT.out _ HB5.out).mono ?_
      rintro e w2 ⟨u, rfl, ho, hb⟩
      have HB6 := Lib.hid (belS HB5.out hb)
      have HO := Lib.hid ho
      have BP2 := Lib.hid (BP.out.below hb)
      have BR2 := Lib.hid (BR.out.below hb)
      have BS2 := Lib.hid (BS.out.below hb)
      have hs2 := hb.size
      clear hb ho p0 p1 p2 p3 p4 q0 q1 q2 q3 r0 r1 r2 r3 r4 s0 s1 s2 s3 s4 x0 x1 x2 x3 x4 y0 y1 y2 y3 y4 z0 z1 z2 z3 z4 BP BR BS BQ
      obtain ⟨ua, uc, rfl⟩ := slice_of HO.out
      have p0 := BP2.out.cell 0 (by simp)
      have p1 := BP2.out.cell 1 (by simp)
      have p2 := BP2.out.cell 2 (by simp)
      have p3 := BP2.out.cell 3 (by simp)
      have p4 := BP2.out.cell 4 (by simp)
      simp only [List.getElem_cons_zero, List.getElem_cons_succ] at p0 p1 p2 p3 p4
      have r0 := BR2.out.cell 0 (by simp)
      have r1 := BR2.out.cell 1 (by simp)
      have r2 := BR2.out.cell 2 (by simp)
      have r3 := BR2.out.cell 3 (by simp)
      have r4 := BR2.out.cell 4 (by simp)
      simp only [List.getElem_cons_zero, List.getElem_cons_succ] at r0 r1 r2 r3 r4
      have s0 := BS2.out.cell 0 (by simp)
      have s1 := BS2.out.cell 1 (by simp)
      have s2 := BS2.out.cell 2 (by simp)
      have s3 := BS2.out.cell 3 (by simp)
      have s4 := BS2.out.cell 4 (by simp)
      simp only [List.getElem_cons_zero, List.getElem_cons_succ] at s0 s1 s2 s3 s4
      have x0 := BP2.out.froz 0 (by simp)
      have x1 := BP2.out.froz 1 (by simp)
      have x2 := BP2.out.froz 2 (by simp)
      have x3 := BP2.out.froz 3 (by simp)
      have x4 := BP2.out.froz 4 (by simp)
      have y0 := BR2.out.froz 0 (by simp)
      have y1 := BR2.out.froz 1 (by simp)
      have y2 := BR2.out.froz 2 (by simp)
      have y3 := BR2.out.froz 3 (by simp)
      have y4 := BR2.out.froz 4 (by simp)
      have z0 := BS2.out.froz 0 (by simp)
      have z1 := BS2.out.froz 1 (by simp)
      have z2 := BS2.out.froz 2 (by simp)
      have z3 := BS2.out.froz 3 (by simp)
      have z4 := BS2.out.froz 4 (by simp)
      go_wp2_with fail
      refine (HU.out _).mono ?_
      rintro e w3 ⟨rfl, rfl⟩
      have hln := HLN.out
      go_wp2_with fail
      go_region
      go_wp2_with fail
      refine bodyPost_ret (v := .tuple #[.agg #[.string ⟨kd.toArray⟩, .bool false, .bool false, .slice ua l2.length uc, .int .i64 cnt2], vReply (rV l2.length)]) (by simp [results, Tryz.results82, go_sem, vReply, rC, rV, rT, cell_set_at, cell_set_ne, p0, p1, p2, p3, p4, r0, r1, r2, r3, r4, s0, s1, s2, s3, s4]) rfl ?_
      rw [HE.out]
      refine ⟨_, rfl, Or.inr ?_, belDr (belP5 (belP5 (Below.setCell (Below.setCell HB6.out (by simp) _) (by simp) _) _ (by omega) _ _ _ _ _) _ (by omega) _ _ _ _ _)⟩
      exact ownsF_base (B := w1.heap.size) (ownsF_drew (flat_p5 _ (flat_p5 _ (ownsF_set (ownsF_set HO.out (by simp; omega)) (by simp; omega)) _ (by omega) _ _ _ _ _) _ (by omega) _ _ _ _ _)) (by omega)
end Go.Proofs.YtghebbndfpbkcaaGreat
/- Contracts of chapter 3: the model's FormatCells. -/
namespace Go.Proofs.YtghebbndfpbkcaaGreat
set_option linter.unusedVariables false
open Go.RowKit
theorem cellT_cat (a0 : List UInt8) (z : Nat) : ((⟨a0.toArray⟩ ++ ⟨#[61]⟩ ++ ⟨(numL z).toArray⟩ : ByteArray)).data.toList = cellT ⟨a0, z⟩ := by
  rw [data_app, data_app]; simp [cellT]
theorem cell_cat (w : World) (a0 : List UInt8) (z : Nat) (t : TypeId) (blk : Nat) (h : blk = w.heap.size) : (w.alloc (.cells #[.string (⟨a0.toArray⟩ ++ ⟨#[61]⟩ ++ ⟨(numL z).toArray⟩ : ByteArray)] t)).cell? ⟨blk, 0, none⟩ = some (strV (cellT ⟨a0, z⟩)) := by
  rw [cell_newS _ _ _ _ h, cellT_cat]
set_option maxRecDepth 100000 in
set_option maxHeartbeats 1600000 in
theorem specFormatCells_any (v : Value) (l : List CellD) (w : World) (hx : FlatAt cCell 2 w v l) (hs : ∀ d ∈ l, d.fKey.length ≤ maxLen) :
    Calls Tryz.prog 84 #[v] w fun e w' => e = .returned (.string ⟨(fmtC l).toArray⟩) ∧ Below w.heap.size w w' := by
  have HC := Lib.hid (fun o => specIsCells_any v l (w.alloc o) (hx.below ((Below.refl w.heap.size w).alloc (Nat.le_refl _) o) (Nat.le_refl _)) hs)
  obtain ⟨a, c, rfl, hl⟩ := flatAt_len hx
  have HX := Lib.hid hx
  clear hx hs
  unfold maxLen at hl
  have HA0 := Lib.hid (show ∀ o, Below w.heap.size w (w.alloc o) from fun o => (Below.refl w.heap.size w).alloc (Nat.le_refl _) o)
  cases hc : cellsB l with
  | false =>
    have HF := Lib.hid (show fmtC l = [] by unfold fmtC; rw [hc]; rfl)
    rw [hc] at HC
    clear hc
    go_enter Tryz.func84, Tryz.ntmps84
    go_wp2_with fail
    refine (HC.out _).mono ?_
    rintro e w1 ⟨rfl, hb⟩
    go_wp2_with fail
    go_ret
    exact ⟨ret_str (by rw [HF.out]), (HA0.out _).trans (hb.mono (HA0.out _).size)⟩
  | true =>
    have hm := cellsB_mem hc
    have hl4 := cellsB_len hc
    have HSM := Lib.hid (fmt_small l hm hl4)
    have HM := Lib.hid hm
    have HF0 := Lib.hid (show l = [] → fmtC l = [45] by rintro rfl; rfl)
    have HF := Lib.hid (show l ≠ [] → fmtC l = joinL (l.map cellT) [44] from fun h0 => by unfold fmtC; rw [if_pos hc, if_neg h0])
    rw [hc] at HC
    clear hc hm
    have HO := Lib.hid (owns_new w)
    go_enter Tryz.func84, Tryz.ntmps84
    go_wp2_with fail
    refine (HC.out _).mono ?_
    rintro e w1 ⟨rfl, hb⟩
    have HO1 := Lib.hid (owns_below HO.out hb (Nat.le_refl _))
    have HB := Lib.hid ((HA0.out _).trans (hb.mono (HA0.out _).size))
    have HX1 := Lib.hid (FlatAt.below HX.out HB.out (Nat.le_refl _))
    clear hb
    go_wp2_with fail
    go_loopw [3, 5, 12] (fun ov _ i wr => ∃ k : Nat, k ≤ l.length ∧ i = .int .i64 k ∧ Owns wr w.heap.size ov ((l.take k).map cellT) ∧ Below w.heap.size w wr) (fun _ _ i _ => l.length - (intOf i).toNat)
    case atStart => exact ⟨0, Nat.zero_le _, rfl, HO1.out, HB.out⟩
    case round =>
      obtain ⟨k, hk, rfl, hO, hb⟩ := hrel
      have HO2 := Lib.hid hO
      have HB2 := Lib.hid hb
      have HXr := Lib.hid (FlatAt.below HX.out hb (Nat.le_refl _))
      clear hO hb
      by_cases hlt : k < l.length
      · obtain ⟨b, o, rfl, hbl, hd⟩ := flatAt_cell cCell_len HXr.out k hlt (by decide)
        have d0 := hd 0 (by decide)
        have d1 := hd 1 (by decide)
        clear hd
        have HSN := Lib.hid (map_cellT_snoc l k hlt)
        have hmm := HM.out l[k] (List.getElem_mem hlt)
        obtain ⟨z, hz, hz9⟩ := numB_nat hmm.2
        have HFM := Lib.hid (fun w0 => specFormat_any z w0 (by omega) (by omega))
        have hn8 := nameB_len8 hmm.1
        have hz3 := numL_len hz9
        clear hmm
        generalize l[k] = p at *
        obtain ⟨a0, a1⟩ := p
        simp only [cCell, List.getElem?_cons_zero, List.getElem?_cons_succ, Nat.add_zero] at d0 d1 hz
        subst hz
        have hc1 : ∀ w0, (Op.stringOp .add ⟨a0.toArray⟩ ⟨#[61]⟩).run Tryz.prog w0 = .ok (.string (⟨a0.toArray⟩ ++ ⟨#[61]⟩)) w0 := fun w0 => run_string_add_sum w0 _ _ (by rw [size_strB]; show a0.length + 1 ≤ _; simp only at hn8; omega)
        have hc2 : ∀ w0, (Op.stringOp .add (⟨a0.toArray⟩ ++ ⟨#[61]⟩) ⟨(numL z).toArray⟩).run Tryz.prog w0 = .ok (.string (⟨a0.toArray⟩ ++ ⟨#[61]⟩ ++ ⟨(numL z).toArray⟩)) w0 := fun w0 => run_string_add_sum w0 _ _ (by have h3 := size_strB (numL z); rw [ByteArray.size_append, size_strB]; show a0.length + 1 + _ ≤ _; simp only at hn8; omega)
        have HLT := Lib.hid (show ∀ g, u3.ownBlock = some g → g < wr.heap.size from fun g h => (World.ownsRow.lt HO2.out g h).2)
        go_wp2_with fail
        go_region_held3 (fun w' => w'.cell? ⟨wr.heap.size, 0, none⟩ = some (.string ⟨a0.toArray⟩) ∧ w'.cell? ⟨wr.heap.size, 1, none⟩ = some (.int .i64 z))
          (first
            | go_keep
            | (rw [hb1.cell (p := ⟨wr.heap.size, 0, none⟩) (by simp), hb1.cell (p := ⟨wr.heap.size, 1, none⟩) (by simp)]; assumption)
            | (rw [hg1.cell_far ⟨wr.heap.size, 0, none⟩ (by have := hb1.size; simp at *; omega) (by intro e; have := HLT.out _ e.symm; simp at this), hg1.cell_far ⟨wr.heap.size, 1, none⟩ (by have := hb1.size; simp at *; omega) (by intro e; have := HLT.out _ e.symm; simp at this)]; assumption))
          (first
            | (go_at_call 112; refine (HFM.out _).mono ?_; rintro e w2 ⟨rfl, hb1⟩)
            | (refine step_strs rfl _ _ rfl w.heap.size u3 ((l.take k).map cellT) (cellT ⟨a0, z⟩) _ w2.heap.size rfl (owns_alloc (owns_below (owns_drew (owns_alloc HO2.out _)) hb1 (Nat.le_refl _)) _) rfl (cell_cat _ a0 z _ _ rfl) ?_ ?_ ?_; (simp; omega); (have h1 := hb1.size; have h3 := HB2.out.size; simp at h1 h3; simp; omega); intro v' w4 hO4 hg1))
        have HA := Lib.hid (below_drew ((Below.refl wr.heap.size wr).alloc (Nat.le_refl _) (.cells #[.string ⟨a0.toArray⟩, .int .i64 z] 36)))
        have HA1 := Lib.hid ((HA.out.trans (hb1.mono HA.out.size)).alloc (HA.out.trans (hb1.mono HA.out.size)).size (.cells #[.string (⟨a0.toArray⟩ ++ ⟨#[61]⟩ ++ ⟨(numL z).toArray⟩ : ByteArray)] 9))
        have HA3 := Lib.hid (below_append (HB2.out.trans (HA1.out.mono HB2.out.size)) (owns_alloc (owns_below (owns_drew (owns_alloc HO2.out _)) hb1 (Nat.le_refl _)) _) hg1 (HB2.out.trans (HA1.out.mono HB2.out.size)).size)
        have HO4' := Lib.hid hO4
        rename_i hheld
        clear hb1 hg1 hO4 hheld
        go_wp2_with fail
        exact ⟨⟨k + 1, by omega, by go_num, by rw [HSN.out]; exact HO4'.out, HA3.out⟩, by simp [intOf]; omega⟩
      · have HN := Lib.hid (show (l.take k).map cellT = l.map cellT from by rw [List.take_of_length_le (by omega)])
        have hkl : k = l.length := by omega
        obtain ⟨a', c', e', _⟩ := rowAt_len (owns_row HO2.out (by simp; omega))
        rw [List.length_map, List.length_map, List.length_take, Nat.min_eq_left hk] at e'
        subst e'
        have HJ := Lib.hid (specJoin_any (.slice a' k c') (l.map cellT) ⟨#[44]⟩ wr (by rw [← HN.out]; exact owns_row HO2.out (by simp; omega)) (by have := HSM.out; simp only at *; omega) (by decide))
        by_cases h0 : k = 0
        · have hne : ((k : Int) == 0) = true := by rw [beq_iff_eq]; omega
          have HR := Lib.hid (HF0.out (List.eq_nil_of_length_eq_zero (by omega)))
          clear h0 hkl
          go_wp2_with fail
          go_ret
          exact ⟨ret_str (by rw [HR.out]), HB2.out⟩
        · have hne : ((k : Int) == 0) = false := by rw [beq_eq_false_iff_ne]; omega
          have HR := Lib.hid (HF.out (by intro h; rw [h] at hkl; exact h0 hkl))
          clear h0 hkl
          go_wp2_with fail
          refine HJ.out.mono ?_
          rintro e w2 ⟨rfl, hb⟩
          go_wp2_with fail
          go_ret
          exact ⟨ret_str HR.out.symm, HB2.out.trans (hb.mono HB2.out.size)⟩
end Go.Proofs.YtghebbndfpbkcaaGreat
/- Contracts of chapter 3: the model's ParseCells. -/
namespace Go.Proofs.YtghebbndfpbkcaaGreat
set_option linter.unusedVariables false
open Go.RowKit
theorem map_oneC_snoc (l : List (List UInt8)) (k : Nat) (h : k < l.length) : (l.take (k + 1)).map oneC = (l.take k).map oneC ++ [oneC l[k]] := by
  rw [List.take_succ_eq_append_getElem h, List.map_append]; rfl
theorem all_take_snoc (l : List (List UInt8)) (k : Nat) (h : k < l.length) (ha : (l.take k).all oneB = true) (hb : oneB l[k] = true) : (l.take (k + 1)).all oneB = true := by
  rw [List.take_succ_eq_append_getElem h, List.all_append, ha]; simp [hb]
theorem all_bad (l : List (List UInt8)) (k : Nat) (h : k < l.length) (hb : oneB l[k] = false) : l.all oneB = false := by
  rw [List.all_eq_false]; exact ⟨l[k], List.getElem_mem h, by simp [hb]⟩
theorem oneC_key (p : List UInt8) : (oneC p).fKey.length ≤ p.length := by
  unfold oneC
  simp only
  have := joinK_part (splitL p [61]) [61] (splitL p [61]).length 0 (List.length_pos_iff.2 (splitL_ne p 61)) (Nat.le_refl _)
  rw [show joinK (splitL p [61]) [61] (splitL p [61]).length = p from join_splitL p [61]] at this
  exact this
set_option maxRecDepth 100000 in
set_option maxHeartbeats 3200000 in
theorem specParseCells_any (s : ByteArray) (w : World) (hs : s.size ≤ 1048576) :
    Calls Tryz.prog 85 #[.string s] w fun e w' => GivesCells s.data.toList w e w' := by
  have HO := Lib.hid (ownsF_new cCell 36 2 w)
  unfold GivesCells
  by_cases hd : s.data.toList = [45]
  · have hb : (s.toList == [45]) = true := by rw [Lib.toList_data, hd]; rfl
    have HR := Lib.hid (show prsC s.data.toList = [] by rw [hd, prsC_yes prsB_dash]; rfl)
    have HR2 := Lib.hid (show prsB s.data.toList = true by rw [hd]; exact prsB_dash)
    clear hd
    go_enter Tryz.func85, Tryz.ntmps85
    go_wp2_with fail
    go_ret2
    exact ⟨_, ret_pairV HR2.out.symm, by rw [HR.out]; exact HO.out, (Below.refl _ _).alloc (Nat.le_refl _) _⟩
  · have hb : (s.toList == [45]) = false := by rw [Lib.toList_data]; simpa using hd
    have HP := Lib.hid (prs_strict s.data.toList hd)
    have HY := Lib.hid (@prsC_strict s.data.toList hd)
    have HN := Lib.hid (@prsC_no s.data.toList)
    have HA := Lib.hid (show ∀ o, Below w.heap.size w (w.alloc o) from fun o => (Below.refl w.heap.size w).alloc (Nat.le_refl _) o)
    have HSP := Lib.hid (fun o => specSplit_any s ⟨#[44]⟩ (w.alloc o) hs (by decide))
    have hxl : (splitL s.data.toList [44]).length ≤ 1048577 := by have := splitL_len s.data.toList [44]; rw [size_list] at this; omega
    have HPP := Lib.hid (fun p (hp : p ∈ splitL s.data.toList [44]) => show p.length ≤ 1048576 from by have := split_part _ _ p hp; rw [size_list] at this; omega)
    clear hd
    rw [show (⟨#[44]⟩ : ByteArray).data.toList = [44] from rfl] at HSP
    generalize prsC s.data.toList = z at *
    generalize prsB s.data.toList = y at *
    generalize splitL s.data.toList [44] = x at *
    go_enter Tryz.func85, Tryz.ntmps85
    go_wp2_with fail
    refine (HSP.out _).mono ?_
    rintro e w1 ⟨u, rfl, ho, hb1⟩
    have HO1 := Lib.hid (ownsF_below HO.out hb1 (Nat.le_refl _))
    have HB := Lib.hid ((HA.out _).trans (hb1.mono (HA.out _).size))
    have HX := Lib.hid (show Owns w1 (w.heap.size + 1) u x from by simpa using ho)
    obtain ⟨a, c, rfl, _⟩ := rowAt_len (owns_row ho (by omega))
    rw [List.length_map] at *
    clear ho hb1
    go_wp2_with fail
    go_loopw [4, 6, 7, 8, 9, 17] (fun ov _ _ _ _ i wr => ∃ k : Nat, k ≤ x.length ∧ i = .int .i64 k ∧ (x.take k).all oneB = true ∧ OwnsF cCell 36 2 wr w.heap.size ov ((x.take k).map oneC) ∧ Below w.heap.size w wr ∧ Owns wr (w.heap.size + 1) (.slice a x.length c) x) (fun _ _ _ _ _ i _ => x.length - (intOf i).toNat)
    case atStart => exact ⟨0, Nat.zero_le _, rfl, rfl, HO1.out, HB.out, HX.out⟩
    case round =>
      obtain ⟨k, hk, rfl, hall, hO, hb, hX⟩ := hrel
      have HAL := Lib.hid hall
      have HO2 := Lib.hid hO
      have HB2 := Lib.hid hb
      have HXr := Lib.hid hX
      clear hO hb hX hall
      by_cases hlt : k < x.length
      · obtain ⟨b, o, rfl, hbl, d1⟩ := rowAt_cell (owns_row HXr.out (by omega)) k (by simpa using hlt)
        rw [getElem_map_strV] at d1
        unfold strV at d1
        have HSN := Lib.hid (map_oneC_snoc x k hlt)
        have HBAD := Lib.hid (all_bad x k hlt)
        have HGD := Lib.hid (all_take_snoc x k hlt HAL.out)
        have hp := HPP.out x[k] (List.getElem_mem hlt)
        generalize x[k] = p at *
        have HSQ := Lib.hid (specSplit_any ⟨p.toArray⟩ ⟨#[61]⟩ wr (by rw [size_strB]; omega) (by decide))
        rw [dataL, show (⟨#[61]⟩ : ByteArray).data.toList = [61] from rfl] at HSQ
        have hql : (splitL p [61]).length ≤ 1048577 := by have := splitL_len p [61]; omega
        have HQ := Lib.hid (fun t (ht : t ∈ splitL p [61]) => show t.length ≤ 1048576 from by have := split_part _ _ t ht; omega)
        have HOB := Lib.hid (show oneB p = (decide ((splitL p [61]).length = 2) && pok ((splitL p [61]).getD 1 [])) from rfl)
        have HOC := Lib.hid (show oneC p = ⟨(splitL p [61]).getD 0 [], pnum ((splitL p [61]).getD 1 [])⟩ from rfl)
        generalize splitL p [61] = q at *
        by_cases h2 : q.length = 2
        · obtain ⟨q0, q1, rfl⟩ : ∃ q0 q1, q = [q0, q1] := by
            match q, h2 with
            | [q0, q1], _ => exact ⟨q0, q1, rfl⟩
          clear h2 hql
          simp only [List.getD_cons_zero, List.getD_cons_succ, List.length_cons, List.length_nil] at HOB HOC
          have hq0 := HQ.out q0 (by simp)
          have hq1 := HQ.out q1 (by simp)
          have HPN := Lib.hid (fun w0 => specParse_any ⟨q1.toArray⟩ w0 (by rw [size_strB]; unfold maxLen; omega))
          simp only at HPN
          cases hpk : pok q1 with
          | false =>
            have HYF := Lib.hid (show y = false by rw [HP.out, HBAD.out (by rw [HOB.out, hpk]; rfl)]; rfl)
            have HZ := Lib.hid (HN.out HYF.out)
            rw [hpk] at HPN
            clear hpk
            go_wp2_with fail
            refine HSQ.out.mono ?_
            rintro e w2 ⟨u2, rfl, ho2, hb2⟩
            have HB3 := Lib.hid (HB2.out.trans (hb2.mono HB2.out.size))
            have HQR := Lib.hid (owns_row ho2 (by simp))
            obtain ⟨a2, c2, rfl, _⟩ := rowAt_len HQR.out
            simp only [List.length_map, List.length_cons, List.length_nil, Nat.zero_add] at *
            obtain ⟨b2, o2, rfl, _, f0⟩ := rowAt_cell HQR.out 0 (by simp)
            have f1 := rowAt_cellS HQR.out 1 (by simp)
            simp only [List.map_cons, List.map_nil, List.getElem_cons_zero, List.getElem_cons_succ, strV, Nat.add_zero] at f0 f1
            clear ho2 hb2
            go_wp2_with fail
            refine (HPN.out _).mono ?_
            rintro e w3 ⟨rfl, hb3⟩
            have HB4 := Lib.hid (HB3.out.trans (hb3.mono HB3.out.size))
            clear hb3
            go_wp2_with fail
            go_ret2
            exact ⟨_, ret_pairV HYF.out.symm, by rw [HZ.out]; exact ownsF_base (ownsF_new cCell 36 2 w3) HB4.out.size, HB4.out.alloc HB4.out.size _⟩
          | true =>
            have HG := Lib.hid (HGD.out (by rw [HOB.out, hpk]; rfl))
            rw [hpk] at HPN
            clear hpk
            go_wp2_with fail
            refine HSQ.out.mono ?_
            rintro e w2 ⟨u2, rfl, ho2, hb2⟩
            have HB3 := Lib.hid (HB2.out.trans (hb2.mono HB2.out.size))
            have HX3 := Lib.hid (owns_below HXr.out hb2 (Nat.le_refl _))
            have HO3 := Lib.hid (ownsF_below HO2.out hb2 (Nat.le_refl _))
            have HQR := Lib.hid (owns_row ho2 (by simp))
            obtain ⟨a2, c2, rfl, _⟩ := rowAt_len HQR.out
            simp only [List.length_map, List.length_cons, List.length_nil, Nat.zero_add] at *
            obtain ⟨b2, o2, rfl, hb2l, f0⟩ := rowAt_cell HQR.out 0 (by simp)
            have f1 := rowAt_cellS HQR.out 1 (by simp)
            simp only [List.map_cons, List.map_nil, List.getElem_cons_zero, List.getElem_cons_succ, strV, Nat.add_zero] at f0 f1
            clear ho2 hb2
            go_wp2_with fail
            refine (HPN.out _).mono ?_
            rintro e w3 ⟨rfl, hb3⟩
            have HB4 := Lib.hid (HB3.out.trans (hb3.mono HB3.out.size))
            have HX4 := Lib.hid (owns_below HX3.out hb3 (Nat.le_refl _))
            have HO4 := Lib.hid (ownsF_below HO3.out hb3 (Nat.le_refl _))
            have g0 := (hb3.cell (p := ⟨b2, o2, none⟩) hb2l).trans f0
            clear hb3 f0 f1
            go_wp2_with (at_builtin; refine append_cell rfl _ _ rfl w.heap.size _ ((x.take k).map oneC) ⟨q0, pnum q1⟩ _ w3.heap.size rfl (ownsF_alloc HO4.out _) rfl (cell_newC w3 ⟨q0, pnum q1⟩ _ rfl) (by simp; omega) (by have := HB4.out.size; simp; omega) ?_; intro v' w4 hO4 hg4)
            have HB5 := Lib.hid (below_appendF (HB4.out.alloc HB4.out.size _) (ownsF_alloc HO4.out _) hg4 (by have := HB4.out.size; simp; omega))
            exact ⟨⟨k + 1, by omega, by go_num, HG.out, by rw [HSN.out, HOC.out]; exact hO4, HB5.out, owns_keptF (owns_alloc HX4.out _) (ownsF_alloc HO4.out _) hg4 (by decide)⟩, by simp [intOf]; omega⟩
        · have HYF := Lib.hid (show y = false by rw [HP.out, HBAD.out (by rw [HOB.out, show decide (q.length = 2) = false by simpa using h2]; rfl)]; rfl)
          have HZ := Lib.hid (HN.out HYF.out)
          have hne : ((q.length : Int) == 2) = false := by rw [beq_eq_false_iff_ne]; omega
          have hne2 : ((q.length : Int) != 2) = true := by rw [bne, hne]; rfl
          clear h2
          go_wp2_with fail
          refine HSQ.out.mono ?_
          rintro e w2 ⟨u2, rfl, ho2, hb2⟩
          have HB3 := Lib.hid (HB2.out.trans (hb2.mono HB2.out.size))
          obtain ⟨a2, c2, rfl, _⟩ := rowAt_len (owns_row ho2 (by omega))
          rw [List.length_map] at *
          clear ho2 hb2
          go_wp2_with fail
          go_ret2
          exact ⟨_, ret_pairV HYF.out.symm, by rw [HZ.out]; exact ownsF_base (ownsF_new cCell 36 2 w2) HB3.out.size, HB3.out.alloc HB3.out.size _⟩
      · have HT := Lib.hid (show x.take k = x from List.take_of_length_le (by omega))
        rw [HT.out] at HAL HO2
        have HK := Lib.hid (show ∀ d ∈ x.map oneC, d.fKey.length ≤ maxLen from fun d hd => by
          obtain ⟨p, hp, rfl⟩ := List.mem_map.1 hd
          have h1 := HPP.out p hp
          have h2 := oneC_key p
          unfold maxLen; omega)
        have HIC := Lib.hid (specIsCells_any u4 (x.map oneC) wr (ownsF_at HO2.out (by simp; omega)) HK.out)
        cases hc : cellsB (x.map oneC) with
        | false =>
          have HYF := Lib.hid (show y = false by rw [HP.out, hc]; simp)
          have HZ := Lib.hid (HN.out HYF.out)
          rw [hc] at HIC
          clear hc
          go_wp2_with fail
          refine HIC.out.mono ?_
          rintro e w2 ⟨rfl, hb⟩
          have HB3 := Lib.hid (HB2.out.trans (hb.mono HB2.out.size))
          clear hb
          go_wp2_with fail
          go_ret2
          exact ⟨_, ret_pairV HYF.out.symm, by rw [HZ.out]; exact ownsF_base (ownsF_new cCell 36 2 w2) HB3.out.size, HB3.out.alloc HB3.out.size _⟩
        | true =>
          have HYF := Lib.hid (show y = true by rw [HP.out, hc, HAL.out]; rfl)
          have HZ := Lib.hid (HY.out HYF.out)
          rw [hc] at HIC
          clear hc
          go_wp2_with fail
          refine HIC.out.mono ?_
          rintro e w2 ⟨rfl, hb⟩
          have HB3 := Lib.hid (HB2.out.trans (hb.mono HB2.out.size))
          have HO5 := Lib.hid (ownsF_below HO2.out hb (Nat.le_refl _))
          clear hb
          go_wp2_with fail
          go_ret2
          exact ⟨_, ret_pairV HYF.out.symm, by rw [HZ.out]; exact HO5.out, HB3.out⟩
end Go.Proofs.YtghebbndfpbkcaaGreat
namespace Go.Proofs.YtghebbndfpbkcaaGreat
set_option linter.unusedVariables false
set_option linter.unusedSimpArgs false
open Go.RowKit
theorem bx_dr {w : World} {b : Nat} {cs : List Value} (h : Bx w b cs) : Bx w.drew b cs := ⟨h.lt, h.cell, h.froz⟩
theorem cP5 {w : World} {b c j : Nat} {v u0 u1 u2 u3 u4 : Value} (hne : b ≠ c) (h : w.cell? ⟨b, j, none⟩ = some v) : (((((w.setCell ⟨c, 0, none⟩ u0).setCell ⟨c, 1, none⟩ u1).setCell ⟨c, 2, none⟩ u2).setCell ⟨c, 3, none⟩ u3).setCell ⟨c, 4, none⟩ u4).cell? ⟨b, j, none⟩ = some v := by
  rw [bx_set_ne (Or.inl hne), bx_set_ne (Or.inl hne), bx_set_ne (Or.inl hne), bx_set_ne (Or.inl hne), bx_set_ne (Or.inl hne)]; exact h
theorem start_cells (d : CoreD) : (startD d).1.fCells = d.fCells := by unfold startD; repeat' split
                                                                       all_goals rfl
theorem stop_cells (d : CoreD) : (stopD d).1.fCells = d.fCells := by unfold stopD; repeat' split
                                                                     all_goals rfl
theorem get_cells (d : CoreD) (k : List UInt8) : (getD1 d k).1.fCells = d.fCells := by unfold getD1; repeat' split
                                                                                       all_goals rfl
set_option maxRecDepth 100000 in
set_option maxHeartbeats 3200000 in
theorem l3Do_Start (d : CoreD) (cv : Value) (key : List UInt8) (n : Int) (t : List UInt8) (runs : Bool) (w : World) (hx : FlatAt cCell 2 w cv d.fCells) (hs : SortC d.fCells) (hm : d.fCells.length ≤ 4) (hk : ∀ y ∈ d.fCells, y.fKey.length ≤ maxLen) (ht : t.length ≤ 1048576) (hn1 : -9223372036854775808 ≤ d.fCount) (hn2 : d.fCount ≤ 9223372036854775807) (hr : hasI (coreF d) 0 = runs) :
    Calls Tryz.prog 54 #[vCore d cv, .agg #[.string ⟨#[83, 116, 97, 114, 116]⟩, .string ⟨key.toArray⟩, .int .i64 n, .string ⟨t.toArray⟩], .bool runs] w fun e w' => SaysC cv d (startD d) w e w' := by
  have HX := Lib.hid hx
  have HCV := Lib.hid (show cvAny cv from by obtain ⟨a, c, e, _⟩ := flatAt_len hx; exact ⟨_, _, _, e⟩)
  have HK0 := Lib.hid (fun W (h : d.fBroken = false) => l3Run_start d cv W HCV.out h hn1 hn2)
  have HO := Lib.hid (show ∀ out, startD d = out → startD d = out from fun _ h => h)
  obtain ⟨a, c, rfl, _⟩ := flatAt_len HX.out
  clear hx hs hr hk ht hn1 hn2
  obtain ⟨kd, on, br, l, cnt⟩ := d
  simp only at *
  have B0 := Lib.hid (bx_start4 w [.string ⟨kd.toArray⟩, .bool on, .bool br, .slice a l.length c, .int .i64 cnt] [.string ⟨#[83, 116, 97, 114, 116]⟩, .string ⟨key.toArray⟩, .int .i64 n, .string ⟨t.toArray⟩] [.string ⟨#[]⟩, .bool false, .bool false, .slice none 0 0, .int .i64 0] [.int .i64 0, .int .i64 0, .string ⟨#[]⟩, .int .i64 0, .int .i64 0] 26 28 26 32)
  have HB4 := Lib.hid (show ∀ o1 o2 o3 o4, Below w.heap.size w ((((w.alloc o1).alloc o2).alloc o3).alloc o4) from fun o1 o2 o3 o4 => ((((Below.refl _ _).alloc (Nat.le_refl _) _).alloc (by simp) _).alloc (by simp; omega) _).alloc (by simp; omega) _)
  cases br with
  | true =>
    have HE := Lib.hid (show startD ⟨kd, on, true, l, cnt⟩ = ((⟨kd, on, true, l, cnt⟩ : CoreD), rC 3) from rfl)
    generalize startD ⟨kd, on, true, l, cnt⟩ = out at *
    clear HO
    obtain ⟨BP0, BQ0, BR0, BS0, HB0⟩ := B0.out
    have BP := Lib.hid BP0
    have BQ := Lib.hid BQ0
    have BR := Lib.hid BR0
    have BS := Lib.hid BS0
    have HB := Lib.hid HB0
    clear BP0 BQ0 BR0 BS0 HB0 B0
    unfold vCore
    go_enter Tryz.func54, Tryz.ntmps54
    go_wp2_with fail
    refine bodyPost_ret (v := .tuple #[.agg #[.string ⟨kd.toArray⟩, .bool on, .bool true, .slice a l.length c, .int .i64 cnt], vReply (rC 3)]) (by simp [results, Tryz.results54, go_sem, vReply, rC]) rfl ?_
    rw [HE.out]
    exact saysC_of (cv := .slice a l.length c) ⟨rfl, HB4.out _ _ _ _⟩ rfl
  | false =>
    have HC := Lib.hid (show (startD ⟨kd, on, false, l, cnt⟩).1.fCells = l from start_cells _)
    have HK := Lib.hid (fun W => HK0.out W rfl)
    clear HK0
    clear HO
    generalize startD ⟨kd, on, false, l, cnt⟩ = out at *
    obtain ⟨BP0, BQ0, BR0, BS0, HB0⟩ := B0.out
    have BP := Lib.hid BP0
    have BQ := Lib.hid BQ0
    have BR := Lib.hid BR0
    have BS := Lib.hid BS0
    have HB := Lib.hid HB0
    clear BP0 BQ0 BR0 BS0 HB0 B0
    unfold vCore at HK ⊢
    go_enter Tryz.func54, Tryz.ntmps54
    go_wp2_with fail
    refine (HK.out _).mono ?_
    rintro e w1 ⟨rfl, hb⟩
    have BP := Lib.hid (BP.out.below hb)
    have BQ := Lib.hid (BQ.out.below hb)
    have BR := Lib.hid (BR.out.below hb)
    have BS := Lib.hid (BS.out.below hb)
    have HB := Lib.hid (belS HB.out hb)
    clear hb
    have p0 := BP.out.cell 0 (by simp)
    have p1 := BP.out.cell 1 (by simp)
    have p2 := BP.out.cell 2 (by simp)
    have p3 := BP.out.cell 3 (by simp)
    have p4 := BP.out.cell 4 (by simp)
    simp only [List.getElem_cons_zero, List.getElem_cons_succ] at p0 p1 p2 p3 p4
    have q0 := BQ.out.cell 0 (by simp)
    have q1 := BQ.out.cell 1 (by simp)
    have q2 := BQ.out.cell 2 (by simp)
    have q3 := BQ.out.cell 3 (by simp)
    simp only [List.getElem_cons_zero, List.getElem_cons_succ] at q0 q1 q2 q3
    have r0 := BR.out.cell 0 (by simp)
    have r1 := BR.out.cell 1 (by simp)
    have r2 := BR.out.cell 2 (by simp)
    have r3 := BR.out.cell 3 (by simp)
    have r4 := BR.out.cell 4 (by simp)
    simp only [List.getElem_cons_zero, List.getElem_cons_succ] at r0 r1 r2 r3 r4
    have s0 := BS.out.cell 0 (by simp)
    have s1 := BS.out.cell 1 (by simp)
    have s2 := BS.out.cell 2 (by simp)
    have s3 := BS.out.cell 3 (by simp)
    have s4 := BS.out.cell 4 (by simp)
    simp only [List.getElem_cons_zero, List.getElem_cons_succ] at s0 s1 s2 s3 s4
    have x0 := BP.out.froz 0 (by simp)
    have x1 := BP.out.froz 1 (by simp)
    have x2 := BP.out.froz 2 (by simp)
    have x3 := BP.out.froz 3 (by simp)
    have x4 := BP.out.froz 4 (by simp)
    have y0 := BR.out.froz 0 (by simp)
    have y1 := BR.out.froz 1 (by simp)
    have y2 := BR.out.froz 2 (by simp)
    have y3 := BR.out.froz 3 (by simp)
    have y4 := BR.out.froz 4 (by simp)
    have z0 := BS.out.froz 0 (by simp)
    have z1 := BS.out.froz 1 (by simp)
    have z2 := BS.out.froz 2 (by simp)
    have z3 := BS.out.froz 3 (by simp)
    have z4 := BS.out.froz 4 (by simp)
    have L0 := BP.out.lt
    have L3 := BS.out.lt
    obtain ⟨⟨kd1, on1, br1, l1, cnt1⟩, t0, t1, t2, t3, t4⟩ := out
    unfold vCore vReply
    simp only at HC
    go_wp2_with fail
    refine bodyPost_ret (v := .tuple #[.agg #[.string ⟨kd1.toArray⟩, .bool on1, .bool br1, .slice a l.length c, .int .i64 cnt1], .agg #[.int .i64 t0, .int .i64 t1, .string ⟨t2.toArray⟩, .int .i64 t3, .int .i64 t4]]) (by simp [results, Tryz.results54, go_sem, cell_set_at, cell_set_ne, r0, r1, r2, r3, r4, s0, s1, s2, s3, s4]) rfl ?_
    exact saysC_of (cv := .slice a l.length c) ⟨rfl, belP5 (belP5 HB.out _ (by omega) _ _ _ _ _) _ (by omega) _ _ _ _ _⟩ HC.out
set_option maxRecDepth 100000 in
set_option maxHeartbeats 3200000 in
theorem l3Do_Stop (d : CoreD) (cv : Value) (key : List UInt8) (n : Int) (t : List UInt8) (runs : Bool) (w : World) (hx : FlatAt cCell 2 w cv d.fCells) (hs : SortC d.fCells) (hm : d.fCells.length ≤ 4) (hk : ∀ y ∈ d.fCells, y.fKey.length ≤ maxLen) (ht : t.length ≤ 1048576) (hn1 : -9223372036854775808 ≤ d.fCount) (hn2 : d.fCount ≤ 9223372036854775807) (hr : hasI (coreF d) 0 = runs) :
    Calls Tryz.prog 54 #[vCore d cv, .agg #[.string ⟨#[83, 116, 111, 112]⟩, .string ⟨key.toArray⟩, .int .i64 n, .string ⟨t.toArray⟩], .bool runs] w fun e w' => SaysC cv d (stopD d) w e w' := by
  have HX := Lib.hid hx
  have HCV := Lib.hid (show cvAny cv from by obtain ⟨a, c, e, _⟩ := flatAt_len hx; exact ⟨_, _, _, e⟩)
  have HK0 := Lib.hid (fun W (h : d.fBroken = false) => l3Run_stop d cv W HCV.out h)
  have HO := Lib.hid (show ∀ out, stopD d = out → stopD d = out from fun _ h => h)
  obtain ⟨a, c, rfl, _⟩ := flatAt_len HX.out
  clear hx hs hr hk ht hn1 hn2
  obtain ⟨kd, on, br, l, cnt⟩ := d
  simp only at *
  have B0 := Lib.hid (bx_start4 w [.string ⟨kd.toArray⟩, .bool on, .bool br, .slice a l.length c, .int .i64 cnt] [.string ⟨#[83, 116, 111, 112]⟩, .string ⟨key.toArray⟩, .int .i64 n, .string ⟨t.toArray⟩] [.string ⟨#[]⟩, .bool false, .bool false, .slice none 0 0, .int .i64 0] [.int .i64 0, .int .i64 0, .string ⟨#[]⟩, .int .i64 0, .int .i64 0] 26 28 26 32)
  have HB4 := Lib.hid (show ∀ o1 o2 o3 o4, Below w.heap.size w ((((w.alloc o1).alloc o2).alloc o3).alloc o4) from fun o1 o2 o3 o4 => ((((Below.refl _ _).alloc (Nat.le_refl _) _).alloc (by simp) _).alloc (by simp; omega) _).alloc (by simp; omega) _)
  cases br with
  | true =>
    have HE := Lib.hid (show stopD ⟨kd, on, true, l, cnt⟩ = ((⟨kd, on, true, l, cnt⟩ : CoreD), rC 3) from rfl)
    generalize stopD ⟨kd, on, true, l, cnt⟩ = out at *
    clear HO
    obtain ⟨BP0, BQ0, BR0, BS0, HB0⟩ := B0.out
    have BP := Lib.hid BP0
    have BQ := Lib.hid BQ0
    have BR := Lib.hid BR0
    have BS := Lib.hid BS0
    have HB := Lib.hid HB0
    clear BP0 BQ0 BR0 BS0 HB0 B0
    unfold vCore
    go_enter Tryz.func54, Tryz.ntmps54
    go_wp2_with fail
    refine bodyPost_ret (v := .tuple #[.agg #[.string ⟨kd.toArray⟩, .bool on, .bool true, .slice a l.length c, .int .i64 cnt], vReply (rC 3)]) (by simp [results, Tryz.results54, go_sem, vReply, rC]) rfl ?_
    rw [HE.out]
    exact saysC_of (cv := .slice a l.length c) ⟨rfl, HB4.out _ _ _ _⟩ rfl
  | false =>
    have HC := Lib.hid (show (stopD ⟨kd, on, false, l, cnt⟩).1.fCells = l from stop_cells _)
    have HK := Lib.hid (fun W => HK0.out W rfl)
    clear HK0
    clear HO
    generalize stopD ⟨kd, on, false, l, cnt⟩ = out at *
    obtain ⟨BP0, BQ0, BR0, BS0, HB0⟩ := B0.out
    have BP := Lib.hid BP0
    have BQ := Lib.hid BQ0
    have BR := Lib.hid BR0
    have BS := Lib.hid BS0
    have HB := Lib.hid HB0
    clear BP0 BQ0 BR0 BS0 HB0 B0
    unfold vCore at HK ⊢
    go_enter Tryz.func54, Tryz.ntmps54
    go_wp2_with fail
    refine (HK.out _).mono ?_
    rintro e w1 ⟨rfl, hb⟩
    have BP := Lib.hid (BP.out.below hb)
    have BQ := Lib.hid (BQ.out.below hb)
    have BR := Lib.hid (BR.out.below hb)
    have BS := Lib.hid (BS.out.below hb)
    have HB := Lib.hid (belS HB.out hb)
    clear hb
    have p0 := BP.out.cell 0 (by simp)
    have p1 := BP.out.cell 1 (by simp)
    have p2 := BP.out.cell 2 (by simp)
    have p3 := BP.out.cell 3 (by simp)
    have p4 := BP.out.cell 4 (by simp)
    simp only [List.getElem_cons_zero, List.getElem_cons_succ] at p0 p1 p2 p3 p4
    have q0 := BQ.out.cell 0 (by simp)
    have q1 := BQ.out.cell 1 (by simp)
    have q2 := BQ.out.cell 2 (by simp)
    have q3 := BQ.out.cell 3 (by simp)
    simp only [List.getElem_cons_zero, List.getElem_cons_succ] at q0 q1 q2 q3
    have r0 := BR.out.cell 0 (by simp)
    have r1 := BR.out.cell 1 (by simp)
    have r2 := BR.out.cell 2 (by simp)
    have r3 := BR.out.cell 3 (by simp)
    have r4 := BR.out.cell 4 (by simp)
    simp only [List.getElem_cons_zero, List.getElem_cons_succ] at r0 r1 r2 r3 r4
    have s0 := BS.out.cell 0 (by simp)
    have s1 := BS.out.cell 1 (by simp)
    have s2 := BS.out.cell 2 (by simp)
    have s3 := BS.out.cell 3 (by simp)
    have s4 := BS.out.cell 4 (by simp)
    simp only [List.getElem_cons_zero, List.getElem_cons_succ] at s0 s1 s2 s3 s4
    have x0 := BP.out.froz 0 (by simp)
    have x1 := BP.out.froz 1 (by simp)
    have x2 := BP.out.froz 2 (by simp)
    have x3 := BP.out.froz 3 (by simp)
    have x4 := BP.out.froz 4 (by simp)
    have y0 := BR.out.froz 0 (by simp)
    have y1 := BR.out.froz 1 (by simp)
    have y2 := BR.out.froz 2 (by simp)
    have y3 := BR.out.froz 3 (by simp)
    have y4 := BR.out.froz 4 (by simp)
    have z0 := BS.out.froz 0 (by simp)
    have z1 := BS.out.froz 1 (by simp)
    have z2 := BS.out.froz 2 (by simp)
    have z3 := BS.out.froz 3 (by simp)
    have z4 := BS.out.froz 4 (by simp)
    have L0 := BP.out.lt
    have L3 := BS.out.lt
    obtain ⟨⟨kd1, on1, br1, l1, cnt1⟩, t0, t1, t2, t3, t4⟩ := out
    unfold vCore vReply
    simp only at HC
    go_wp2_with fail
    refine bodyPost_ret (v := .tuple #[.agg #[.string ⟨kd1.toArray⟩, .bool on1, .bool br1, .slice a l.length c, .int .i64 cnt1], .agg #[.int .i64 t0, .int .i64 t1, .string ⟨t2.toArray⟩, .int .i64 t3, .int .i64 t4]]) (by simp [results, Tryz.results54, go_sem, cell_set_at, cell_set_ne, r0, r1, r2, r3, r4, s0, s1, s2, s3, s4]) rfl ?_
    exact saysC_of (cv := .slice a l.length c) ⟨rfl, belP5 (belP5 HB.out _ (by omega) _ _ _ _ _) _ (by omega) _ _ _ _ _⟩ HC.out
set_option maxRecDepth 100000 in
set_option maxHeartbeats 3200000 in
theorem l3Do_Get (d : CoreD) (cv : Value) (key : List UInt8) (n : Int) (t : List UInt8) (runs : Bool) (w : World) (hx : FlatAt cCell 2 w cv d.fCells) (hs : SortC d.fCells) (hm : d.fCells.length ≤ 4) (hk : ∀ y ∈ d.fCells, y.fKey.length ≤ maxLen) (ht : t.length ≤ 1048576) (hn1 : -9223372036854775808 ≤ d.fCount) (hn2 : d.fCount ≤ 9223372036854775807) (hr : hasI (coreF d) 0 = runs) :
    Calls Tryz.prog 54 #[vCore d cv, .agg #[.string ⟨#[71, 101, 116]⟩, .string ⟨key.toArray⟩, .int .i64 n, .string ⟨t.toArray⟩], .bool runs] w fun e w' => SaysC cv d (getD1 d key) w e w' := by
  have HX := Lib.hid hx
  have HCV := Lib.hid (show cvAny cv from by obtain ⟨a, c, e, _⟩ := flatAt_len hx; exact ⟨_, _, _, e⟩)
  have HK0 := Lib.hid (fun W (hw : Below w.heap.size w W) (h : d.fBroken = false) => l3Keep_get d cv key n t runs W (hx.below hw (Nat.le_refl _)) hs h hr)
  have HO := Lib.hid (show ∀ out, getD1 d key = out → getD1 d key = out from fun _ h => h)
  obtain ⟨a, c, rfl, _⟩ := flatAt_len HX.out
  clear hx hs hr hk ht hn1 hn2
  obtain ⟨kd, on, br, l, cnt⟩ := d
  simp only at *
  have B0 := Lib.hid (bx_start4 w [.string ⟨kd.toArray⟩, .bool on, .bool br, .slice a l.length c, .int .i64 cnt] [.string ⟨#[71, 101, 116]⟩, .string ⟨key.toArray⟩, .int .i64 n, .string ⟨t.toArray⟩] [.string ⟨#[]⟩, .bool false, .bool false, .slice none 0 0, .int .i64 0] [.int .i64 0, .int .i64 0, .string ⟨#[]⟩, .int .i64 0, .int .i64 0] 26 28 26 32)
  have HB4 := Lib.hid (show ∀ o1 o2 o3 o4, Below w.heap.size w ((((w.alloc o1).alloc o2).alloc o3).alloc o4) from fun o1 o2 o3 o4 => ((((Below.refl _ _).alloc (Nat.le_refl _) _).alloc (by simp) _).alloc (by simp; omega) _).alloc (by simp; omega) _)
  cases br with
  | true =>
    have HE := Lib.hid (show getD1 ⟨kd, on, true, l, cnt⟩ key = ((⟨kd, on, true, l, cnt⟩ : CoreD), rC 3) from by simp [getD1, putD, idleI])
    generalize getD1 ⟨kd, on, true, l, cnt⟩ key = out at *
    clear HO
    obtain ⟨BP0, BQ0, BR0, BS0, HB0⟩ := B0.out
    have BP := Lib.hid BP0
    have BQ := Lib.hid BQ0
    have BR := Lib.hid BR0
    have BS := Lib.hid BS0
    have HB := Lib.hid HB0
    clear BP0 BQ0 BR0 BS0 HB0 B0
    unfold vCore
    go_enter Tryz.func54, Tryz.ntmps54
    go_wp2_with fail
    refine bodyPost_ret (v := .tuple #[.agg #[.string ⟨kd.toArray⟩, .bool on, .bool true, .slice a l.length c, .int .i64 cnt], vReply (rC 3)]) (by simp [results, Tryz.results54, go_sem, vReply, rC]) rfl ?_
    rw [HE.out]
    exact saysC_of (cv := .slice a l.length c) ⟨rfl, HB4.out _ _ _ _⟩ rfl
  | false =>
    have HC := Lib.hid (show (getD1 ⟨kd, on, false, l, cnt⟩ key).1.fCells = l from get_cells _ _)
    have HK := Lib.hid (fun W hw => HK0.out W hw rfl)
    clear HK0
    clear HO
    generalize getD1 ⟨kd, on, false, l, cnt⟩ key = out at *
    obtain ⟨BP0, BQ0, BR0, BS0, HB0⟩ := B0.out
    have BP := Lib.hid BP0
    have BQ := Lib.hid BQ0
    have BR := Lib.hid BR0
    have BS := Lib.hid BS0
    have HB := Lib.hid HB0
    clear BP0 BQ0 BR0 BS0 HB0 B0
    unfold vCore at HK ⊢
    go_enter Tryz.func54, Tryz.ntmps54
    go_wp2_with fail
    refine (HK.out _ HB.out).mono ?_
    rintro e w1 ⟨rfl, hb⟩
    have BP := Lib.hid (BP.out.below hb)
    have BQ := Lib.hid (BQ.out.below hb)
    have BR := Lib.hid (BR.out.below hb)
    have BS := Lib.hid (BS.out.below hb)
    have HB := Lib.hid (belS HB.out hb)
    clear hb
    have p0 := BP.out.cell 0 (by simp)
    have p1 := BP.out.cell 1 (by simp)
    have p2 := BP.out.cell 2 (by simp)
    have p3 := BP.out.cell 3 (by simp)
    have p4 := BP.out.cell 4 (by simp)
    simp only [List.getElem_cons_zero, List.getElem_cons_succ] at p0 p1 p2 p3 p4
    have q0 := BQ.out.cell 0 (by simp)
    have q1 := BQ.out.cell 1 (by simp)
    have q2 := BQ.out.cell 2 (by simp)
    have q3 := BQ.out.cell 3 (by simp)
    simp only [List.getElem_cons_zero, List.getElem_cons_succ] at q0 q1 q2 q3
    have r0 := BR.out.cell 0 (by simp)
    have r1 := BR.out.cell 1 (by simp)
    have r2 := BR.out.cell 2 (by simp)
    have r3 := BR.out.cell 3 (by simp)
    have r4 := BR.out.cell 4 (by simp)
    simp only [List.getElem_cons_zero, List.getElem_cons_succ] at r0 r1 r2 r3 r4
    have s0 := BS.out.cell 0 (by simp)
    have s1 := BS.out.cell 1 (by simp)
    have s2 := BS.out.cell 2 (by simp)
    have s3 := BS.out.cell 3 (by simp)
    have s4 := BS.out.cell 4 (by simp)
    simp only [List.getElem_cons_zero, List.getElem_cons_succ] at s0 s1 s2 s3 s4
    have x0 := BP.out.froz 0 (by simp)
    have x1 := BP.out.froz 1 (by simp)
    have x2 := BP.out.froz 2 (by simp)
    have x3 := BP.out.froz 3 (by simp)
    have x4 := BP.out.froz 4 (by simp)
    have y0 := BR.out.froz 0 (by simp)
    have y1 := BR.out.froz 1 (by simp)
    have y2 := BR.out.froz 2 (by simp)
    have y3 := BR.out.froz 3 (by simp)
    have y4 := BR.out.froz 4 (by simp)
    have z0 := BS.out.froz 0 (by simp)
    have z1 := BS.out.froz 1 (by simp)
    have z2 := BS.out.froz 2 (by simp)
    have z3 := BS.out.froz 3 (by simp)
    have z4 := BS.out.froz 4 (by simp)
    have L0 := BP.out.lt
    have L3 := BS.out.lt
    obtain ⟨⟨kd1, on1, br1, l1, cnt1⟩, t0, t1, t2, t3, t4⟩ := out
    unfold vCore vReply
    simp only at HC
    go_wp2_with fail
    refine bodyPost_ret (v := .tuple #[.agg #[.string ⟨kd1.toArray⟩, .bool on1, .bool br1, .slice a l.length c, .int .i64 cnt1], .agg #[.int .i64 t0, .int .i64 t1, .string ⟨t2.toArray⟩, .int .i64 t3, .int .i64 t4]]) (by simp [results, Tryz.results54, go_sem, cell_set_at, cell_set_ne, r0, r1, r2, r3, r4, s0, s1, s2, s3, s4]) rfl ?_
    exact saysC_of (cv := .slice a l.length c) ⟨rfl, belP5 (belP5 HB.out _ (by omega) _ _ _ _ _) _ (by omega) _ _ _ _ _⟩ HC.out
set_option maxRecDepth 100000 in
set_option maxHeartbeats 3200000 in
theorem l3Do_Put (d : CoreD) (cv : Value) (key : List UInt8) (n : Int) (t : List UInt8) (runs : Bool) (w : World) (hx : FlatAt cCell 2 w cv d.fCells) (hs : SortC d.fCells) (hm : d.fCells.length ≤ 4) (hk : ∀ y ∈ d.fCells, y.fKey.length ≤ maxLen) (ht : t.length ≤ 1048576) (hn1 : -9223372036854775808 ≤ d.fCount) (hn2 : d.fCount ≤ 9223372036854775807) (hr : hasI (coreF d) 0 = runs) :
    Calls Tryz.prog 54 #[vCore d cv, .agg #[.string ⟨#[80, 117, 116]⟩, .string ⟨key.toArray⟩, .int .i64 n, .string ⟨t.toArray⟩], .bool runs] w fun e w' => SaysC cv d (putD d key n) w e w' := by
  have HX := Lib.hid hx
  have HCV := Lib.hid (show cvAny cv from by obtain ⟨a, c, e, _⟩ := flatAt_len hx; exact ⟨_, _, _, e⟩)
  have HK0 := Lib.hid (fun W (hw : Below w.heap.size w W) (h : d.fBroken = false) => l3Keep_put d cv key n t runs W (hx.below hw (Nat.le_refl _)) hs hm hn1 hn2 h hr)
  have HO := Lib.hid (show ∀ out, putD d key n = out → putD d key n = out from fun _ h => h)
  obtain ⟨a, c, rfl, _⟩ := flatAt_len HX.out
  clear hx hs hr hk ht hn1 hn2
  obtain ⟨kd, on, br, l, cnt⟩ := d
  simp only at *
  have B0 := Lib.hid (bx_start4 w [.string ⟨kd.toArray⟩, .bool on, .bool br, .slice a l.length c, .int .i64 cnt] [.string ⟨#[80, 117, 116]⟩, .string ⟨key.toArray⟩, .int .i64 n, .string ⟨t.toArray⟩] [.string ⟨#[]⟩, .bool false, .bool false, .slice none 0 0, .int .i64 0] [.int .i64 0, .int .i64 0, .string ⟨#[]⟩, .int .i64 0, .int .i64 0] 26 28 26 32)
  have HB4 := Lib.hid (show ∀ o1 o2 o3 o4, Below w.heap.size w ((((w.alloc o1).alloc o2).alloc o3).alloc o4) from fun o1 o2 o3 o4 => ((((Below.refl _ _).alloc (Nat.le_refl _) _).alloc (by simp) _).alloc (by simp; omega) _).alloc (by simp; omega) _)
  cases br with
  | true =>
    have HE := Lib.hid (show putD ⟨kd, on, true, l, cnt⟩ key n = ((⟨kd, on, true, l, cnt⟩ : CoreD), rC 3) from by simp [getD1, putD, idleI])
    generalize putD ⟨kd, on, true, l, cnt⟩ key n = out at *
    clear HO
    obtain ⟨BP0, BQ0, BR0, BS0, HB0⟩ := B0.out
    have BP := Lib.hid BP0
    have BQ := Lib.hid BQ0
    have BR := Lib.hid BR0
    have BS := Lib.hid BS0
    have HB := Lib.hid HB0
    clear BP0 BQ0 BR0 BS0 HB0 B0
    unfold vCore
    go_enter Tryz.func54, Tryz.ntmps54
    go_wp2_with fail
    refine bodyPost_ret (v := .tuple #[.agg #[.string ⟨kd.toArray⟩, .bool on, .bool true, .slice a l.length c, .int .i64 cnt], vReply (rC 3)]) (by simp [results, Tryz.results54, go_sem, vReply, rC]) rfl ?_
    rw [HE.out]
    exact saysC_of (cv := .slice a l.length c) ⟨rfl, HB4.out _ _ _ _⟩ rfl
  | false =>
    have HK := Lib.hid (fun W hw => HK0.out W hw rfl)
    clear HK0
    clear HO
    generalize putD ⟨kd, on, false, l, cnt⟩ key n = out at *
    obtain ⟨BP0, BQ0, BR0, BS0, HB0⟩ := B0.out
    have BP := Lib.hid BP0
    have BQ := Lib.hid BQ0
    have BR := Lib.hid BR0
    have BS := Lib.hid BS0
    have HB := Lib.hid HB0
    clear BP0 BQ0 BR0 BS0 HB0 B0
    unfold vCore at HK ⊢
    go_enter Tryz.func54, Tryz.ntmps54
    go_wp2_with fail
    refine (HK.out _ HB.out).mono ?_
    rintro e w1 ⟨u, rfl, hf, hb⟩
    have BP := Lib.hid (BP.out.below hb)
    have BQ := Lib.hid (BQ.out.below hb)
    have BR := Lib.hid (BR.out.below hb)
    have BS := Lib.hid (BS.out.below hb)
    have HB := Lib.hid (belS HB.out hb)
    have hsz0 := hb.size
    simp at hsz0
    clear hb
    have p0 := BP.out.cell 0 (by simp)
    have p1 := BP.out.cell 1 (by simp)
    have p2 := BP.out.cell 2 (by simp)
    have p3 := BP.out.cell 3 (by simp)
    have p4 := BP.out.cell 4 (by simp)
    simp only [List.getElem_cons_zero, List.getElem_cons_succ] at p0 p1 p2 p3 p4
    have q0 := BQ.out.cell 0 (by simp)
    have q1 := BQ.out.cell 1 (by simp)
    have q2 := BQ.out.cell 2 (by simp)
    have q3 := BQ.out.cell 3 (by simp)
    simp only [List.getElem_cons_zero, List.getElem_cons_succ] at q0 q1 q2 q3
    have r0 := BR.out.cell 0 (by simp)
    have r1 := BR.out.cell 1 (by simp)
    have r2 := BR.out.cell 2 (by simp)
    have r3 := BR.out.cell 3 (by simp)
    have r4 := BR.out.cell 4 (by simp)
    simp only [List.getElem_cons_zero, List.getElem_cons_succ] at r0 r1 r2 r3 r4
    have s0 := BS.out.cell 0 (by simp)
    have s1 := BS.out.cell 1 (by simp)
    have s2 := BS.out.cell 2 (by simp)
    have s3 := BS.out.cell 3 (by simp)
    have s4 := BS.out.cell 4 (by simp)
    simp only [List.getElem_cons_zero, List.getElem_cons_succ] at s0 s1 s2 s3 s4
    have x0 := BP.out.froz 0 (by simp)
    have x1 := BP.out.froz 1 (by simp)
    have x2 := BP.out.froz 2 (by simp)
    have x3 := BP.out.froz 3 (by simp)
    have x4 := BP.out.froz 4 (by simp)
    have y0 := BR.out.froz 0 (by simp)
    have y1 := BR.out.froz 1 (by simp)
    have y2 := BR.out.froz 2 (by simp)
    have y3 := BR.out.froz 3 (by simp)
    have y4 := BR.out.froz 4 (by simp)
    have z0 := BS.out.froz 0 (by simp)
    have z1 := BS.out.froz 1 (by simp)
    have z2 := BS.out.froz 2 (by simp)
    have z3 := BS.out.froz 3 (by simp)
    have z4 := BS.out.froz 4 (by simp)
    have L0 := BP.out.lt
    have L3 := BS.out.lt
    have HF := Lib.hid (show (u = .slice a l.length c ∧ out.1.fCells = l) ∨ OwnsF cCell 36 2 w1 (w.heap.size + 1 + 1 + 1 + 1) u out.1.fCells from by simpa using hf)
    obtain ⟨ua, uc, rfl⟩ : ∃ ua uc, u = .slice ua out.1.fCells.length uc := by rcases HF.out with ⟨h1, h2⟩ | h; exact ⟨a, c, by rw [h1, h2]⟩; exact slice_of h
    clear hf
    obtain ⟨⟨kd1, on1, br1, l1, cnt1⟩, t0, t1, t2, t3, t4⟩ := out
    unfold vCore vReply
    simp only at *
    go_wp2_with fail
    refine bodyPost_ret (v := .tuple #[.agg #[.string ⟨kd1.toArray⟩, .bool on1, .bool br1, .slice ua l1.length uc, .int .i64 cnt1], .agg #[.int .i64 t0, .int .i64 t1, .string ⟨t2.toArray⟩, .int .i64 t3, .int .i64 t4]]) (by simp [results, Tryz.results54, go_sem, cell_set_at, cell_set_ne, r0, r1, r2, r3, r4, s0, s1, s2, s3, s4]) rfl ?_
    refine ⟨_, rfl, HF.out.imp id (fun h => ?_), belP5 (belP5 HB.out _ (by omega) _ _ _ _ _) _ (by omega) _ _ _ _ _⟩
    exact ownsF_base (B := w.heap.size + 1 + 1 + 1 + 1) (flat_p5 _ (flat_p5 _ h _ (by omega) _ _ _ _ _) _ (by omega) _ _ _ _ _) (by omega)
set_option maxRecDepth 100000 in
set_option maxHeartbeats 3200000 in
theorem l3Do_Tell (d : CoreD) (cv : Value) (key : List UInt8) (n : Int) (t : List UInt8) (runs : Bool) (w : World) (hx : FlatAt cCell 2 w cv d.fCells) (hs : SortC d.fCells) (hm : d.fCells.length ≤ 4) (hk : ∀ y ∈ d.fCells, y.fKey.length ≤ maxLen) (ht : t.length ≤ 1048576) (hn1 : -9223372036854775808 ≤ d.fCount) (hn2 : d.fCount ≤ 9223372036854775807) (hr : hasI (coreF d) 0 = runs) :
    Calls Tryz.prog 54 #[vCore d cv, .agg #[.string ⟨#[84, 101, 108, 108]⟩, .string ⟨key.toArray⟩, .int .i64 n, .string ⟨t.toArray⟩], .bool runs] w fun e w' => SaysC cv d (tellD d) w e w' := by
  have HX := Lib.hid hx
  have HCV := Lib.hid (show cvAny cv from by obtain ⟨a, c, e, _⟩ := flatAt_len hx; exact ⟨_, _, _, e⟩)
  have HO := Lib.hid (show ∀ out, tellD d = out → tellD d = out from fun _ h => h)
  obtain ⟨a, c, rfl, _⟩ := flatAt_len HX.out
  clear hx hs hr hk ht hn1 hn2
  obtain ⟨kd, on, br, l, cnt⟩ := d
  simp only at *
  have B0 := Lib.hid (bx_start4 w [.string ⟨kd.toArray⟩, .bool on, .bool br, .slice a l.length c, .int .i64 cnt] [.string ⟨#[84, 101, 108, 108]⟩, .string ⟨key.toArray⟩, .int .i64 n, .string ⟨t.toArray⟩] [.string ⟨#[]⟩, .bool false, .bool false, .slice none 0 0, .int .i64 0] [.int .i64 0, .int .i64 0, .string ⟨#[]⟩, .int .i64 0, .int .i64 0] 26 28 26 32)
  have HB4 := Lib.hid (show ∀ o1 o2 o3 o4, Below w.heap.size w ((((w.alloc o1).alloc o2).alloc o3).alloc o4) from fun o1 o2 o3 o4 => ((((Below.refl _ _).alloc (Nat.le_refl _) _).alloc (by simp) _).alloc (by simp; omega) _).alloc (by simp; omega) _)
  have HE := Lib.hid (show tellD ⟨kd, on, br, l, cnt⟩ = ((⟨kd, on, br, l, cnt⟩ : CoreD), rV cnt) from rfl)
  generalize tellD ⟨kd, on, br, l, cnt⟩ = out at *
  clear HO
  obtain ⟨BP0, BQ0, BR0, BS0, HB0⟩ := B0.out
  have BP := Lib.hid BP0
  have BQ := Lib.hid BQ0
  have BR := Lib.hid BR0
  have BS := Lib.hid BS0
  have HB := Lib.hid HB0
  clear BP0 BQ0 BR0 BS0 HB0 B0
  unfold vCore
  cases br
  case false =>
    go_enter Tryz.func54, Tryz.ntmps54
    go_wp2_with fail
    go_region
    go_wp2_with fail
    refine bodyPost_ret (v := .tuple #[.agg #[.string ⟨kd.toArray⟩, .bool on, .bool false, .slice a l.length c, .int .i64 cnt], vReply (rV cnt)]) (by simp [results, Tryz.results54, go_sem, vReply, rV]) rfl ?_
    rw [HE.out]
    exact saysC_of (cv := .slice a l.length c) ⟨rfl, belDr (HB4.out _ _ _ _)⟩ rfl
  case true =>
    go_enter Tryz.func54, Tryz.ntmps54
    go_wp2_with fail
    go_region
    go_wp2_with fail
    refine bodyPost_ret (v := .tuple #[.agg #[.string ⟨kd.toArray⟩, .bool on, .bool true, .slice a l.length c, .int .i64 cnt], vReply (rV cnt)]) (by simp [results, Tryz.results54, go_sem, vReply, rV]) rfl ?_
    rw [HE.out]
    exact saysC_of (cv := .slice a l.length c) ⟨rfl, belDr (HB4.out _ _ _ _)⟩ rfl
set_option maxRecDepth 100000 in
set_option maxHeartbeats 3200000 in
theorem l3Do_Heal (d : CoreD) (cv : Value) (key : List UInt8) (n : Int) (t : List UInt8) (runs : Bool) (w : World) (hx : FlatAt cCell 2 w cv d.fCells) (hs : SortC d.fCells) (hm : d.fCells.length ≤ 4) (hk : ∀ y ∈ d.fCells, y.fKey.length ≤ maxLen) (ht : t.length ≤ 1048576) (hn1 : -9223372036854775808 ≤ d.fCount) (hn2 : d.fCount ≤ 9223372036854775807) (hr : hasI (coreF d) 0 = runs) :
    Calls Tryz.prog 54 #[vCore d cv, .agg #[.string ⟨#[72, 101, 97, 108]⟩, .string ⟨key.toArray⟩, .int .i64 n, .string ⟨t.toArray⟩], .bool runs] w fun e w' => SaysC cv d (healD d) w e w' := by
  have HX := Lib.hid hx
  have HCV := Lib.hid (show cvAny cv from by obtain ⟨a, c, e, _⟩ := flatAt_len hx; exact ⟨_, _, _, e⟩)
  have HK := Lib.hid (fun W => l3Run_heal d cv W HCV.out)
  have HO := Lib.hid (show ∀ out, healD d = out → healD d = out from fun _ h => h)
  obtain ⟨a, c, rfl, _⟩ := flatAt_len HX.out
  clear hx hs hr hk ht hn1 hn2
  obtain ⟨kd, on, br, l, cnt⟩ := d
  simp only at *
  have B0 := Lib.hid (bx_start4 w [.string ⟨kd.toArray⟩, .bool on, .bool br, .slice a l.length c, .int .i64 cnt] [.string ⟨#[72, 101, 97, 108]⟩, .string ⟨key.toArray⟩, .int .i64 n, .string ⟨t.toArray⟩] [.string ⟨#[]⟩, .bool false, .bool false, .slice none 0 0, .int .i64 0] [.int .i64 0, .int .i64 0, .string ⟨#[]⟩, .int .i64 0, .int .i64 0] 26 28 26 32)
  have HB4 := Lib.hid (show ∀ o1 o2 o3 o4, Below w.heap.size w ((((w.alloc o1).alloc o2).alloc o3).alloc o4) from fun o1 o2 o3 o4 => ((((Below.refl _ _).alloc (Nat.le_refl _) _).alloc (by simp) _).alloc (by simp; omega) _).alloc (by simp; omega) _)
  cases br
  case false =>
    have HC := Lib.hid (show (healD ⟨kd, on, false, l, cnt⟩).1.fCells = l from rfl)
    clear HO
    generalize healD ⟨kd, on, false, l, cnt⟩ = out at *
    obtain ⟨BP0, BQ0, BR0, BS0, HB0⟩ := B0.out
    have BP := Lib.hid BP0
    have BQ := Lib.hid BQ0
    have BR := Lib.hid BR0
    have BS := Lib.hid BS0
    have HB := Lib.hid HB0
    clear BP0 BQ0 BR0 BS0 HB0 B0
    unfold vCore at HK ⊢
    go_enter Tryz.func54, Tryz.ntmps54
    go_wp2_with fail
    refine (HK.out _).mono ?_
    rintro e w1 ⟨rfl, hb⟩
    have BP := Lib.hid (BP.out.below hb)
    have BQ := Lib.hid (BQ.out.below hb)
    have BR := Lib.hid (BR.out.below hb)
    have BS := Lib.hid (BS.out.below hb)
    have HB := Lib.hid (belS HB.out hb)
    clear hb
    have p0 := BP.out.cell 0 (by simp)
    have p1 := BP.out.cell 1 (by simp)
    have p2 := BP.out.cell 2 (by simp)
    have p3 := BP.out.cell 3 (by simp)
    have p4 := BP.out.cell 4 (by simp)
    simp only [List.getElem_cons_zero, List.getElem_cons_succ] at p0 p1 p2 p3 p4
    have q0 := BQ.out.cell 0 (by simp)
    have q1 := BQ.out.cell 1 (by simp)
    have q2 := BQ.out.cell 2 (by simp)
    have q3 := BQ.out.cell 3 (by simp)
    simp only [List.getElem_cons_zero, List.getElem_cons_succ] at q0 q1 q2 q3
    have r0 := BR.out.cell 0 (by simp)
    have r1 := BR.out.cell 1 (by simp)
    have r2 := BR.out.cell 2 (by simp)
    have r3 := BR.out.cell 3 (by simp)
    have r4 := BR.out.cell 4 (by simp)
    simp only [List.getElem_cons_zero, List.getElem_cons_succ] at r0 r1 r2 r3 r4
    have s0 := BS.out.cell 0 (by simp)
    have s1 := BS.out.cell 1 (by simp)
    have s2 := BS.out.cell 2 (by simp)
    have s3 := BS.out.cell 3 (by simp)
    have s4 := BS.out.cell 4 (by simp)
    simp only [List.getElem_cons_zero, List.getElem_cons_succ] at s0 s1 s2 s3 s4
    have x0 := BP.out.froz 0 (by simp)
    have x1 := BP.out.froz 1 (by simp)
    have x2 := BP.out.froz 2 (by simp)
    have x3 := BP.out.froz 3 (by simp)
    have x4 := BP.out.froz 4 (by simp)
    have y0 := BR.out.froz 0 (by simp)
    have y1 := BR.out.froz 1 (by simp)
    have y2 := BR.out.froz 2 (by simp)
    have y3 := BR.out.froz 3 (by simp)
    have y4 := BR.out.froz 4 (by simp)
    have z0 := BS.out.froz 0 (by simp)
    have z1 := BS.out.froz 1 (by simp)
    have z2 := BS.out.froz 2 (by simp)
    have z3 := BS.out.froz 3 (by simp)
    have z4 := BS.out.froz 4 (by simp)
    have L0 := BP.out.lt
    have L3 := BS.out.lt
    obtain ⟨⟨kd1, on1, br1, l1, cnt1⟩, t0, t1, t2, t3, t4⟩ := out
    unfold vCore vReply
    simp only at HC
    go_wp2_with fail
    refine bodyPost_ret (v := .tuple #[.agg #[.string ⟨kd1.toArray⟩, .bool on1, .bool br1, .slice a l.length c, .int .i64 cnt1], .agg #[.int .i64 t0, .int .i64 t1, .string ⟨t2.toArray⟩, .int .i64 t3, .int .i64 t4]]) (by simp [results, Tryz.results54, go_sem, cell_set_at, cell_set_ne, r0, r1, r2, r3, r4, s0, s1, s2, s3, s4]) rfl ?_
    exact saysC_of (cv := .slice a l.length c) ⟨rfl, belP5 (belP5 HB.out _ (by omega) _ _ _ _ _) _ (by omega) _ _ _ _ _⟩ HC.out
  case true =>
    have HC := Lib.hid (show (healD ⟨kd, on, true, l, cnt⟩).1.fCells = l from rfl)
    clear HO
    generalize healD ⟨kd, on, true, l, cnt⟩ = out at *
    obtain ⟨BP0, BQ0, BR0, BS0, HB0⟩ := B0.out
    have BP := Lib.hid BP0
    have BQ := Lib.hid BQ0
    have BR := Lib.hid BR0
    have BS := Lib.hid BS0
    have HB := Lib.hid HB0
    clear BP0 BQ0 BR0 BS0 HB0 B0
    unfold vCore at HK ⊢
    go_enter Tryz.func54, Tryz.ntmps54
    go_wp2_with fail
    refine (HK.out _).mono ?_
    rintro e w1 ⟨rfl, hb⟩
    have BP := Lib.hid (BP.out.below hb)
    have BQ := Lib.hid (BQ.out.below hb)
    have BR := Lib.hid (BR.out.below hb)
    have BS := Lib.hid (BS.out.below hb)
    have HB := Lib.hid (belS HB.out hb)
    clear hb
    have p0 := BP.out.cell 0 (by simp)
    have p1 := BP.out.cell 1 (by simp)
    have p2 := BP.out.cell 2 (by simp)
    have p3 := BP.out.cell 3 (by simp)
    have p4 := BP.out.cell 4 (by simp)
    simp only [List.getElem_cons_zero, List.getElem_cons_succ] at p0 p1 p2 p3 p4
    have q0 := BQ.out.cell 0 (by simp)
    have q1 := BQ.out.cell 1 (by simp)
    have q2 := BQ.out.cell 2 (by simp)
    have q3 := BQ.out.cell 3 (by simp)
    simp only [List.getElem_cons_zero, List.getElem_cons_succ] at q0 q1 q2 q3
    have r0 := BR.out.cell 0 (by simp)
    have r1 := BR.out.cell 1 (by simp)
    have r2 := BR.out.cell 2 (by simp)
    have r3 := BR.out.cell 3 (by simp)
    have r4 := BR.out.cell 4 (by simp)
    simp only [List.getElem_cons_zero, List.getElem_cons_succ] at r0 r1 r2 r3 r4
    have s0 := BS.out.cell 0 (by simp)
    have s1 := BS.out.cell 1 (by simp)
    have s2 := BS.out.cell 2 (by simp)
    have s3 := BS.out.cell 3 (by simp)
    have s4 := BS.out.cell 4 (by simp)
    simp only [List.getElem_cons_zero, List.getElem_cons_succ] at s0 s1 s2 s3 s4
    have x0 := BP.out.froz 0 (by simp)
    have x1 := BP.out.froz 1 (by simp)
    have x2 := BP.out.froz 2 (by simp)
    have x3 := BP.out.froz 3 (by simp)
    have x4 := BP.out.froz 4 (by simp)
    have y0 := BR.out.froz 0 (by simp)
    have y1 := BR.out.froz 1 (by simp)
    have y2 := BR.out.froz 2 (by simp)
    have y3 := BR.out.froz 3 (by simp)
    have y4 := BR.out.froz 4 (by simp)
    have z0 := BS.out.froz 0 (by simp)
    have z1 := BS.out.froz 1 (by simp)
    have z2 := BS.out.froz 2 (by simp)
    have z3 := BS.out.froz 3 (by simp)
    have z4 := BS.out.froz 4 (by simp)
    have L0 := BP.out.lt
    have L3 := BS.out.lt
    obtain ⟨⟨kd1, on1, br1, l1, cnt1⟩, t0, t1, t2, t3, t4⟩ := out
    unfold vCore vReply
    simp only at HC
    go_wp2_with fail
    refine bodyPost_ret (v := .tuple #[.agg #[.string ⟨kd1.toArray⟩, .bool on1, .bool br1, .slice a l.length c, .int .i64 cnt1], .agg #[.int .i64 t0, .int .i64 t1, .string ⟨t2.toArray⟩, .int .i64 t3, .int .i64 t4]]) (by simp [results, Tryz.results54, go_sem, cell_set_at, cell_set_ne, r0, r1, r2, r3, r4, s0, s1, s2, s3, s4]) rfl ?_
    exact saysC_of (cv := .slice a l.length c) ⟨rfl, belP5 (belP5 HB.out _ (by omega) _ _ _ _ _) _ (by omega) _ _ _ _ _⟩ HC.out
set_option maxRecDepth 100000 in
set_option maxHeartbeats 3200000 in
theorem l3Do_Load (d : CoreD) (cv : Value) (key : List UInt8) (n : Int) (t : List UInt8) (runs : Bool) (w : World) (hx : FlatAt cCell 2 w cv d.fCells) (hs : SortC d.fCells) (hm : d.fCells.length ≤ 4) (hk : ∀ y ∈ d.fCells, y.fKey.length ≤ maxLen) (ht : t.length ≤ 1048576) (hn1 : -9223372036854775808 ≤ d.fCount) (hn2 : d.fCount ≤ 9223372036854775807) (hr : hasI (coreF d) 0 = runs) :
    Calls Tryz.prog 54 #[vCore d cv, .agg #[.string ⟨#[76, 111, 97, 100]⟩, .string ⟨key.toArray⟩, .int .i64 n, .string ⟨t.toArray⟩], .bool runs] w fun e w' => SaysC cv d (loadD d t) w e w' := by
  have HX := Lib.hid hx
  have HCV := Lib.hid (show cvAny cv from by obtain ⟨a, c, e, _⟩ := flatAt_len hx; exact ⟨_, _, _, e⟩)
  have HPC := Lib.hid (fun W => specParseCells_any ⟨t.toArray⟩ W (by rw [← size_list]; simpa using ht))
  have HO := Lib.hid (show ∀ out, loadD d t = out → loadD d t = out from fun _ h => h)
  have hpl := Lib.hid (show (prsC t).length ≤ t.length + 1 from prsC_len t)
  simp only [GivesCells, List.toList_toArray] at HPC
  obtain ⟨a, c, rfl, _⟩ := flatAt_len HX.out
  clear hx hs hr hk ht hn1 hn2
  obtain ⟨kd, on, br, l, cnt⟩ := d
  simp only at *
  have B0 := Lib.hid (bx_start4 w [.string ⟨kd.toArray⟩, .bool on, .bool br, .slice a l.length c, .int .i64 cnt] [.string ⟨#[76, 111, 97, 100]⟩, .string ⟨key.toArray⟩, .int .i64 n, .string ⟨t.toArray⟩] [.string ⟨#[]⟩, .bool false, .bool false, .slice none 0 0, .int .i64 0] [.int .i64 0, .int .i64 0, .string ⟨#[]⟩, .int .i64 0, .int .i64 0] 26 28 26 32)
  have HB4 := Lib.hid (show ∀ o1 o2 o3 o4, Below w.heap.size w ((((w.alloc o1).alloc o2).alloc o3).alloc o4) from fun o1 o2 o3 o4 => ((((Below.refl _ _).alloc (Nat.le_refl _) _).alloc (by simp) _).alloc (by simp; omega) _).alloc (by simp; omega) _)
  cases br with
  | true =>
    have HE := Lib.hid (show loadD ⟨kd, on, true, l, cnt⟩ t = ((⟨kd, on, true, l, cnt⟩ : CoreD), rC 3) from rfl)
    generalize loadD ⟨kd, on, true, l, cnt⟩ t = out at *
    clear HO
    obtain ⟨BP0, BQ0, BR0, BS0, HB0⟩ := B0.out
    have BP := Lib.hid BP0
    have BQ := Lib.hid BQ0
    have BR := Lib.hid BR0
    have BS := Lib.hid BS0
    have HB := Lib.hid HB0
    clear BP0 BQ0 BR0 BS0 HB0 B0
    unfold vCore
    go_enter Tryz.func54, Tryz.ntmps54
    go_wp2_with fail
    refine bodyPost_ret (v := .tuple #[.agg #[.string ⟨kd.toArray⟩, .bool on, .bool true, .slice a l.length c, .int .i64 cnt], vReply (rC 3)]) (by simp [results, Tryz.results54, go_sem, vReply, rC]) rfl ?_
    rw [HE.out]
    exact saysC_of (cv := .slice a l.length c) ⟨rfl, HB4.out _ _ _ _⟩ rfl
  | false =>
    cases hp : prsB t
    case true =>
      have HE := Lib.hid (show loadD ⟨kd, on, false, l, cnt⟩ t = ((⟨kd, on, false, prsC t, cnt⟩ : CoreD), rV (prsC t).length) from by unfold loadD; rw [hp]; rfl)
      rw [hp] at HPC
      generalize loadD ⟨kd, on, false, l, cnt⟩ t = out at *
      generalize prsC t = l2 at *
      clear HO hp
      obtain ⟨BP0, BQ0, BR0, BS0, HB0⟩ := B0.out
      have BP := Lib.hid BP0
      have BQ := Lib.hid BQ0
      have BR := Lib.hid BR0
      have BS := Lib.hid BS0
      have HB := Lib.hid HB0
      clear BP0 BQ0 BR0 BS0 HB0 B0
      unfold vCore
      go_enter Tryz.func54, Tryz.ntmps54
      go_wp2_with fail
      refine (HPC.out _).mono ?_
      rintro e w1 ⟨u, rfl, ho, hb⟩
      have BP := Lib.hid (BP.out.below hb)
      have BQ := Lib.hid (BQ.out.below hb)
      have BR := Lib.hid (BR.out.below hb)
      have BS := Lib.hid (BS.out.below hb)
      have HB := Lib.hid (belS HB.out hb)
      clear hb
      have p0 := BP.out.cell 0 (by simp)
      have p1 := BP.out.cell 1 (by simp)
      have p2 := BP.out.cell 2 (by simp)
      have p3 := BP.out.cell 3 (by simp)
      have p4 := BP.out.cell 4 (by simp)
      simp only [List.getElem_cons_zero, List.getElem_cons_succ] at p0 p1 p2 p3 p4
      have q0 := BQ.out.cell 0 (by simp)
      have q1 := BQ.out.cell 1 (by simp)
      have q2 := BQ.out.cell 2 (by simp)
      have q3 := BQ.out.cell 3 (by simp)
      simp only [List.getElem_cons_zero, List.getElem_cons_succ] at q0 q1 q2 q3
      have r0 := BR.out.cell 0 (by simp)
      have r1 := BR.out.cell 1 (by simp)
      have r2 := BR.out.cell 2 (by simp)
      have r3 := BR.out.cell 3 (by simp)
      have r4 := BR.out.cell 4 (by simp)
      simp only [List.getElem_cons_zero, List.getElem_cons_succ] at r0 r1 r2 r3 r4
      have s0 := BS.out.cell 0 (by simp)
      have s1 := BS.out.cell 1 (by simp)
      have s2 := BS.out.cell 2 (by simp)
      have s3 := BS.out.cell 3 (by simp)
      have s4 := BS.out.cell 4 (by simp)
      simp only [List.getElem_cons_zero, List.getElem_cons_succ] at s0 s1 s2 s3 s4
      have x0 := BP.out.froz 0 (by simp)
      have x1 := BP.out.froz 1 (by simp)
      have x2 := BP.out.froz 2 (by simp)
      have x3 := BP.out.froz 3 (by simp)
      have x4 := BP.out.froz 4 (by simp)
      have y0 := BR.out.froz 0 (by simp)
      have y1 := BR.out.froz 1 (by simp)
      have y2 := BR.out.froz 2 (by simp)
      have y3 := BR.out.froz 3 (by simp)
      have y4 := BR.out.froz 4 (by simp)
      have z0 := BS.out.froz 0 (by simp)
      have z1 := BS.out.froz 1 (by simp)
      have z2 := BS.out.froz 2 (by simp)
      have z3 := BS.out.froz 3 (by simp)
      have z4 := BS.out.froz 4 (by simp)
      have L0 := BP.out.lt
      have L3 := BS.out.lt
      have HOW := Lib.hid ho
      obtain ⟨ua, uc, rfl⟩ := slice_of ho
      clear ho
      have htl := hpl.out
      go_wp2_with fail
      refine bodyPost_ret (v := .tuple #[.agg #[.string ⟨kd.toArray⟩, .bool on, .bool false, .slice ua l2.length uc, .int .i64 cnt], vReply (rV l2.length)]) (by simp [results, Tryz.results54, go_sem, vReply, rV, cell_set_at, cell_set_ne, p0, p1, p2, p3, p4, r0, r1, r2, r3, r4, s0, s1, s2, s3, s4]) rfl ?_
      rw [HE.out]
      refine ⟨_, rfl, Or.inr ?_, belP5 (belP5 (Below.setCell HB.out (by simp) _) _ (by omega) _ _ _ _ _) _ (by omega) _ _ _ _ _⟩
      exact ownsF_base (B := w.heap.size + 1 + 1 + 1 + 1) (flat_p5 _ (flat_p5 _ (ownsF_set (show OwnsF cCell 36 2 w1 (w.heap.size + 1 + 1 + 1 + 1) _ l2 from by simpa using HOW.out) (by simp; omega)) _ (by omega) _ _ _ _ _) _ (by omega) _ _ _ _ _) (by omega)
    case false =>
      have HE := Lib.hid (show loadD ⟨kd, on, false, l, cnt⟩ t = ((⟨kd, on, false, l, cnt⟩ : CoreD), rC 6) from by unfold loadD; rw [hp]; rfl)
      rw [hp] at HPC
      generalize loadD ⟨kd, on, false, l, cnt⟩ t = out at *
      generalize prsC t = l2 at *
      clear HO hp
      obtain ⟨BP0, BQ0, BR0, BS0, HB0⟩ := B0.out
      have BP := Lib.hid BP0
      have BQ := Lib.hid BQ0
      have BR := Lib.hid BR0
      have BS := Lib.hid BS0
      have HB := Lib.hid HB0
      clear BP0 BQ0 BR0 BS0 HB0 B0
      unfold vCore
      go_enter Tryz.func54, Tryz.ntmps54
      go_wp2_with fail
      refine (HPC.out _).mono ?_
      rintro e w1 ⟨u, rfl, ho, hb⟩
      have BP := Lib.hid (BP.out.below hb)
      have BQ := Lib.hid (BQ.out.below hb)
      have BR := Lib.hid (BR.out.below hb)
      have BS := Lib.hid (BS.out.below hb)
      have HB := Lib.hid (belS HB.out hb)
      clear hb
      have p0 := BP.out.cell 0 (by simp)
      have p1 := BP.out.cell 1 (by simp)
      have p2 := BP.out.cell 2 (by simp)
      have p3 := BP.out.cell 3 (by simp)
      have p4 := BP.out.cell 4 (by simp)
      simp only [List.getElem_cons_zero, List.getElem_cons_succ] at p0 p1 p2 p3 p4
      have q0 := BQ.out.cell 0 (by simp)
      have q1 := BQ.out.cell 1 (by simp)
      have q2 := BQ.out.cell 2 (by simp)
      have q3 := BQ.out.cell 3 (by simp)
      simp only [List.getElem_cons_zero, List.getElem_cons_succ] at q0 q1 q2 q3
      have r0 := BR.out.cell 0 (by simp)
      have r1 := BR.out.cell 1 (by simp)
      have r2 := BR.out.cell 2 (by simp)
      have r3 := BR.out.cell 3 (by simp)
      have r4 := BR.out.cell 4 (by simp)
      simp only [List.getElem_cons_zero, List.getElem_cons_succ] at r0 r1 r2 r3 r4
      have s0 := BS.out.cell 0 (by simp)
      have s1 := BS.out.cell 1 (by simp)
      have s2 := BS.out.cell 2 (by simp)
      have s3 := BS.out.cell 3 (by simp)
      have s4 := BS.out.cell 4 (by simp)
      simp only [List.getElem_cons_zero, List.getElem_cons_succ] at s0 s1 s2 s3 s4
      have x0 := BP.out.froz 0 (by simp)
      have x1 := BP.out.froz 1 (by simp)
      have x2 := BP.out.froz 2 (by simp)
      have x3 := BP.out.froz 3 (by simp)
      have x4 := BP.out.froz 4 (by simp)
      have y0 := BR.out.froz 0 (by simp)
      have y1 := BR.out.froz 1 (by simp)
      have y2 := BR.out.froz 2 (by simp)
      have y3 := BR.out.froz 3 (by simp)
      have y4 := BR.out.froz 4 (by simp)
      have z0 := BS.out.froz 0 (by simp)
      have z1 := BS.out.froz 1 (by simp)
      have z2 := BS.out.froz 2 (by simp)
      have z3 := BS.out.froz 3 (by simp)
      have z4 := BS.out.froz 4 (by simp)
      have L0 := BP.out.lt
      have L3 := BS.out.lt
      have HOW := Lib.hid ho
      obtain ⟨ua, uc, rfl⟩ := slice_of ho
      clear ho
      have htl := hpl.out
      go_wp2_with fail
      refine bodyPost_ret (v := .tuple #[.agg #[.string ⟨kd.toArray⟩, .bool on, .bool false, .slice a l.length c, .int .i64 cnt], vReply (rC 6)]) (by simp [results, Tryz.results54, go_sem, vReply, rC, cell_set_at, cell_set_ne, r0, r1, r2, r3, r4, s0, s1, s2, s3, s4]) rfl ?_
      rw [HE.out]
      exact saysC_of (cv := .slice a l.length c) ⟨rfl, belP5 (belP5 HB.out _ (by omega) _ _ _ _ _) _ (by omega) _ _ _ _ _⟩ rfl
end Go.Proofs.YtghebbndfpbkcaaGreat
