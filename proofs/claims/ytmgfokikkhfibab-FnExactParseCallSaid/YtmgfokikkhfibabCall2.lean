/- Calls, plain; takesKey, takesValue, takesText, WantOf. Written by gen/ch3calls.py. -/
import Derived.Test.YtmgfokikkhfibabCore1
import Derived.Test.YtmgfokikkhfibabCells1
import Derived.Test.YtmgfokikkhfibabTCall
import Derived.Test.YtmgfokikkhfibabFace5
namespace Go.Proofs.Ytmgfokikkhfibab
set_option linter.unusedVariables false
open Go.RowKit
abbrev mStart : List UInt8 := [83, 116, 97, 114, 116]
abbrev mStop : List UInt8 := [83, 116, 111, 112]
abbrev mGet : List UInt8 := [71, 101, 116]
abbrev mPut : List UInt8 := [80, 117, 116]
abbrev mTell : List UInt8 := [84, 101, 108, 108]
abbrev mHear : List UInt8 := [72, 101, 97, 114]
abbrev mLoad : List UInt8 := [76, 111, 97, 100]
abbrev mSave : List UInt8 := [83, 97, 118, 101]
abbrev mHeal : List UInt8 := [72, 101, 97, 108]
def takesK (m : List UInt8) : Bool := m == mGet || m == mPut
def takesV (m : List UInt8) : Bool := m == mPut || m == mHear
def takesT (m : List UInt8) : Bool := m == mLoad
def callB (d : CallD) : Bool := (wantF d.fMethod != 0) && (if takesK d.fMethod then nameB d.fKey else d.fKey.isEmpty) && (if takesV d.fMethod then numB d.fValue else d.fValue == 0) && (d.fText.isEmpty || takesT d.fMethod)
/-- a text is one of the nine methods, or wants nothing and is none of them -/
theorem meth_cases (m : List UInt8) : m = mStart ∨ m = mStop ∨ m = mGet ∨ m = mPut ∨ m = mTell ∨ m = mHear ∨ m = mLoad ∨ m = mSave ∨ m = mHeal ∨ (wantF m = 0 ∧ m ≠ mStart ∧ m ≠ mStop ∧ m ≠ mGet ∧ m ≠ mPut ∧ m ≠ mTell ∧ m ≠ mHear ∧ m ≠ mLoad ∧ m ≠ mSave ∧ m ≠ mHeal) := by
  by_cases h : wantF m = 0
  · iterate 9 right
    refine ⟨h, ?_, ?_, ?_, ?_, ?_, ?_, ?_, ?_, ?_⟩ <;> (rintro rfl; exact absurd h (by decide))
  · unfold wantF at h
    rcases findK_bd (fun k => decide (m ∈ mthN k)) 6 0 with e | ⟨j, e, hj, hm⟩
    · exact absurd (show wantI (abOfM m) = 0 by unfold abOfM; rw [e]; rfl) h
    · have hm := of_decide_eq_true hm
      rcases (show j = 0 ∨ j = 1 ∨ j = 2 ∨ j = 3 ∨ j = 4 ∨ j = 5 by omega) with rfl | rfl | rfl | rfl | rfl | rfl <;> simp [mthN] at hm <;> (first | (rcases hm with hm | hm <;> subst hm <;> decide) | (subst hm; decide))
set_option maxHeartbeats 800000 in
theorem takesKey_any (m : List UInt8) (w : World) : Calls Try.prog 32 #[.string ⟨m.toArray⟩] w fun e w' => e = .returned (.bool (takesK m)) ∧ w = w' := by
  by_cases hGet : m = mGet
  · subst hGet
    go_enter Try.func32, Try.ntmps32
    go_wp2
    go_ret
    exact ⟨rfl, rfl⟩
  by_cases hPut : m = mPut
  · subst hPut
    go_enter Try.func32, Try.ntmps32
    go_wp2
    go_ret
    exact ⟨rfl, rfl⟩
  have bGet : (m == [71, 101, 116]) = false := by simpa using hGet
  have bPut : (m == [80, 117, 116]) = false := by simpa using hPut
  have HR := Lib.hid (show takesK m = false by simp only [takesK, bGet, bPut] <;> rfl)
  clear hGet hPut
  go_enter Try.func32, Try.ntmps32
  go_wp2
  go_ret
  exact ⟨ret_bool HR.out.symm, rfl⟩
theorem takesKey_b (m : List UInt8) (x : Bool) (h : takesK m = x) (w : World) : Calls Try.prog 32 #[.string ⟨m.toArray⟩] w fun e w' => e = .returned (.bool x) ∧ w = w' := by subst h; exact takesKey_any m w
set_option maxHeartbeats 800000 in
theorem takesValue_any (m : List UInt8) (w : World) : Calls Try.prog 34 #[.string ⟨m.toArray⟩] w fun e w' => e = .returned (.bool (takesV m)) ∧ w = w' := by
  by_cases hPut : m = mPut
  · subst hPut
    go_enter Try.func34, Try.ntmps34
    go_wp2
    go_ret
    exact ⟨rfl, rfl⟩
  by_cases hHear : m = mHear
  · subst hHear
    go_enter Try.func34, Try.ntmps34
    go_wp2
    go_ret
    exact ⟨rfl, rfl⟩
  have bPut : (m == [80, 117, 116]) = false := by simpa using hPut
  have bHear : (m == [72, 101, 97, 114]) = false := by simpa using hHear
  have HR := Lib.hid (show takesV m = false by simp only [takesV, bPut, bHear] <;> rfl)
  clear hPut hHear
  go_enter Try.func34, Try.ntmps34
  go_wp2
  go_ret
  exact ⟨ret_bool HR.out.symm, rfl⟩
theorem takesValue_b (m : List UInt8) (x : Bool) (h : takesV m = x) (w : World) : Calls Try.prog 34 #[.string ⟨m.toArray⟩] w fun e w' => e = .returned (.bool x) ∧ w = w' := by subst h; exact takesValue_any m w
set_option maxHeartbeats 800000 in
theorem takesText_any (m : List UInt8) (w : World) : Calls Try.prog 36 #[.string ⟨m.toArray⟩] w fun e w' => e = .returned (.bool (takesT m)) ∧ w = w' := by
  by_cases hLoad : m = mLoad
  · subst hLoad
    go_enter Try.func36, Try.ntmps36
    go_wp2
    go_ret
    exact ⟨rfl, rfl⟩
  have bLoad : (m == [76, 111, 97, 100]) = false := by simpa using hLoad
  have HR := Lib.hid (show takesT m = false by simp only [takesT, bLoad] <;> rfl)
  clear hLoad
  go_enter Try.func36, Try.ntmps36
  go_wp2
  go_ret
  exact ⟨ret_bool HR.out.symm, rfl⟩
theorem takesText_b (m : List UInt8) (x : Bool) (h : takesT m = x) (w : World) : Calls Try.prog 36 #[.string ⟨m.toArray⟩] w fun e w' => e = .returned (.bool x) ∧ w = w' := by subst h; exact takesText_any m w
set_option maxHeartbeats 800000 in
theorem implWant_any (s : ByteArray) (w : World) :
    Calls Try.prog 10 #[.string s] w fun e w' => e = .returned (.int .i64 (wantF s.data.toList)) ∧ Below w.heap.size w w' := by
  have HA := Lib.hid (implAbilityOfMethod_any s)
  have hb := abOfM_bd s.data.toList
  unfold wantF
  generalize abOfM s.data.toList = k at *
  rcases hb with rfl | ⟨j, rfl, hj⟩
  · go_enter Try.func10, Try.ntmps10
    go_wp2_with fail
    refine (HA.out w).mono ?_
    rintro e w1 ⟨rfl, hb⟩
    go_wp2_with fail
    go_ret
    exact ⟨rfl, hb⟩
  · have HP := Lib.hid (show wrap64 (2 ^ j) = wantI (j : Nat) by unfold wantI; rw [if_neg (by omega), pow_of j hj]; simp)
    go_enter Try.func10, Try.ntmps10
    go_wp2_with fail
    refine (HA.out w).mono ?_
    rintro e w1 ⟨rfl, hb⟩
    go_wp2_with fail
    go_ret
    exact ⟨ret_int HP.out, hb⟩
theorem implWant_b (m : List UInt8) (x : Int) (h : wantF m = x) (w : World) : Calls Try.prog 10 #[.string ⟨m.toArray⟩] w fun e w' => e = .returned (.int .i64 x) ∧ Below w.heap.size w w' := by
  subst h; exact implWant_any ⟨m.toArray⟩ w
theorem specWant_b (m : List UInt8) (x : Int) (h : wantF m = x) (w : World) : Calls Try.prog 9 #[.string ⟨m.toArray⟩] w fun e w' => e = .returned (.int .i64 x) ∧ Below w.heap.size w w' := by
  subst h; exact specWant_any ⟨m.toArray⟩ w
end Go.Proofs.Ytmgfokikkhfibab
