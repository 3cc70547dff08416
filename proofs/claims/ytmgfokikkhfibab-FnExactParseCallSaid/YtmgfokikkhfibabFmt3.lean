/- The model's FormatCall, method by method. Written by gen/ch3fmt.py. -/
import Derived.Test.YtmgfokikkhfibabFmt1
import Derived.Test.YtmgfokikkhfibabCall4c
import Derived.Test.YtmgfokikkhfibabCells3
import Derived.Deep.RegionHeld3
namespace Go.Proofs.Ytmgfokikkhfibab
set_option linter.unusedVariables false
open Go.RowKit
set_option maxRecDepth 100000 in
set_option maxHeartbeats 1600000 in
theorem specFormatCall_Start (key : List UInt8) (v : Int) (text : List UInt8) (w : World) (hk : key.length ≤ maxLen) (ht : text.length ≤ 1048576) (hc : callB ⟨mStart, key, v, text⟩ = true) :
    Calls Try.prog 20 #[.agg #[.string ⟨#[83, 116, 97, 114, 116]⟩, .string ⟨key.toArray⟩, .int .i64 v, .string ⟨text.toArray⟩]] w fun e w' => e = .returned (.string ⟨(fmtCall ⟨mStart, key, v, text⟩).toArray⟩) ∧ Below w.heap.size w w' := by
  have HIC := Lib.hid (fun w0 => specIsCall_any ⟨mStart, key, v, text⟩ w0 hk)
  rw [hc] at HIC
  unfold vCall at HIC
  simp only at HIC
  obtain ⟨p1, p2, p3, p4, p5⟩ := callB_parts hc
  have HF := Lib.hid (fmtCall_yes hc)
  clear hc
  obtain rfl : key = [] := p2 rfl
  obtain rfl : v = 0 := p4 rfl
  obtain rfl : text = [] := p5 rfl
  have HW := Lib.hid (show joinL [mStart] [32] = joinL (wordsC ⟨mStart, [], 0, []⟩) [32] from rfl)
  clear p1 p2 p3 p4 p5
  have HB0 := Lib.hid (show ∀ o, Below w.heap.size w (w.alloc o) from fun o => (Below.refl w.heap.size w).alloc (Nat.le_refl _) o)
  go_enter Try.func20, Try.ntmps20
  go_wp2_with fail
  refine (HIC.out _).mono ?_
  rintro e w1 ⟨rfl, hb⟩
  have HB := Lib.hid ((HB0.out _).trans (hb.mono (HB0.out _).size))
  obtain ⟨hcc, _⟩ := bcell hb
  simp at hcc
  have c0 := hcc w.heap.size 0 (by omega)
  have c1 := hcc w.heap.size 1 (by omega)
  have c2 := hcc w.heap.size 2 (by omega)
  have c3 := hcc w.heap.size 3 (by omega)
  simp at c0 c1 c2 c3
  have hlt : w.heap.size < w1.heap.size := by have h := hb.size; simp at h; omega
  clear hb hcc
  go_wp2_with fail
  go_ret
  exact ⟨ret_strB (by rw [HF.out, ← HW.out]; rw [joinL_one]), HB.out⟩
set_option maxRecDepth 100000 in
set_option maxHeartbeats 1600000 in
theorem specFormatCall_Stop (key : List UInt8) (v : Int) (text : List UInt8) (w : World) (hk : key.length ≤ maxLen) (ht : text.length ≤ 1048576) (hc : callB ⟨mStop, key, v, text⟩ = true) :
    Calls Try.prog 20 #[.agg #[.string ⟨#[83, 116, 111, 112]⟩, .string ⟨key.toArray⟩, .int .i64 v, .string ⟨text.toArray⟩]] w fun e w' => e = .returned (.string ⟨(fmtCall ⟨mStop, key, v, text⟩).toArray⟩) ∧ Below w.heap.size w w' := by
  have HIC := Lib.hid (fun w0 => specIsCall_any ⟨mStop, key, v, text⟩ w0 hk)
  rw [hc] at HIC
  unfold vCall at HIC
  simp only at HIC
  obtain ⟨p1, p2, p3, p4, p5⟩ := callB_parts hc
  have HF := Lib.hid (fmtCall_yes hc)
  clear hc
  obtain rfl : key = [] := p2 rfl
  obtain rfl : v = 0 := p4 rfl
  obtain rfl : text = [] := p5 rfl
  have HW := Lib.hid (show joinL [mStop] [32] = joinL (wordsC ⟨mStop, [], 0, []⟩) [32] from rfl)
  clear p1 p2 p3 p4 p5
  have HB0 := Lib.hid (show ∀ o, Below w.heap.size w (w.alloc o) from fun o => (Below.refl w.heap.size w).alloc (Nat.le_refl _) o)
  go_enter Try.func20, Try.ntmps20
  go_wp2_with fail
  refine (HIC.out _).mono ?_
  rintro e w1 ⟨rfl, hb⟩
  have HB := Lib.hid ((HB0.out _).trans (hb.mono (HB0.out _).size))
  obtain ⟨hcc, _⟩ := bcell hb
  simp at hcc
  have c0 := hcc w.heap.size 0 (by omega)
  have c1 := hcc w.heap.size 1 (by omega)
  have c2 := hcc w.heap.size 2 (by omega)
  have c3 := hcc w.heap.size 3 (by omega)
  simp at c0 c1 c2 c3
  have hlt : w.heap.size < w1.heap.size := by have h := hb.size; simp at h; omega
  clear hb hcc
  go_wp2_with fail
  go_ret
  exact ⟨ret_strB (by rw [HF.out, ← HW.out]; rw [joinL_one]), HB.out⟩
set_option maxRecDepth 100000 in
set_option maxHeartbeats 1600000 in
theorem specFormatCall_Get (key : List UInt8) (v : Int) (text : List UInt8) (w : World) (hk : key.length ≤ maxLen) (ht : text.length ≤ 1048576) (hc : callB ⟨mGet, key, v, text⟩ = true) :
    Calls Try.prog 20 #[.agg #[.string ⟨#[71, 101, 116]⟩, .string ⟨key.toArray⟩, .int .i64 v, .string ⟨text.toArray⟩]] w fun e w' => e = .returned (.string ⟨(fmtCall ⟨mGet, key, v, text⟩).toArray⟩) ∧ Below w.heap.size w w' := by
  have HIC := Lib.hid (fun w0 => specIsCall_any ⟨mGet, key, v, text⟩ w0 hk)
  rw [hc] at HIC
  unfold vCall at HIC
  simp only at HIC
  obtain ⟨p1, p2, p3, p4, p5⟩ := callB_parts hc
  have HF := Lib.hid (fmtCall_yes hc)
  clear hc
  have hn := nameB_len8 (p1 rfl)
  simp only at hn
  obtain rfl : v = 0 := p4 rfl
  obtain rfl : text = [] := p5 rfl
  have HW := Lib.hid (show joinL [mGet, key] [32] = joinL (wordsC ⟨mGet, key, 0, []⟩) [32] from rfl)
  clear p1 p2 p3 p4 p5
  have HB0 := Lib.hid (show ∀ o, Below w.heap.size w (w.alloc o) from fun o => (Below.refl w.heap.size w).alloc (Nat.le_refl _) o)
  go_enter Try.func20, Try.ntmps20
  go_wp2_with fail
  refine (HIC.out _).mono ?_
  rintro e w1 ⟨rfl, hb⟩
  have HB := Lib.hid ((HB0.out _).trans (hb.mono (HB0.out _).size))
  obtain ⟨hcc, _⟩ := bcell hb
  simp at hcc
  have c0 := hcc w.heap.size 0 (by omega)
  have c1 := hcc w.heap.size 1 (by omega)
  have c2 := hcc w.heap.size 2 (by omega)
  have c3 := hcc w.heap.size 3 (by omega)
  simp at c0 c1 c2 c3
  have hlt : w.heap.size < w1.heap.size := by have h := hb.size; simp at h; omega
  clear hb hcc
  have hs3 := size_strB key
  go_wp2_with fail
  go_ret
  exact ⟨ret_strB (by rw [HF.out, ← HW.out]; rw [joinL_two, data_app]; simp), HB.out⟩
set_option maxRecDepth 100000 in
set_option maxHeartbeats 1600000 in
theorem specFormatCall_Put (key : List UInt8) (v : Int) (text : List UInt8) (w : World) (hk : key.length ≤ maxLen) (ht : text.length ≤ 1048576) (hc : callB ⟨mPut, key, v, text⟩ = true) :
    Calls Try.prog 20 #[.agg #[.string ⟨#[80, 117, 116]⟩, .string ⟨key.toArray⟩, .int .i64 v, .string ⟨text.toArray⟩]] w fun e w' => e = .returned (.string ⟨(fmtCall ⟨mPut, key, v, text⟩).toArray⟩) ∧ Below w.heap.size w w' := by
  have HIC := Lib.hid (fun w0 => specIsCall_any ⟨mPut, key, v, text⟩ w0 hk)
  rw [hc] at HIC
  unfold vCall at HIC
  simp only at HIC
  obtain ⟨p1, p2, p3, p4, p5⟩ := callB_parts hc
  have HF := Lib.hid (fmtCall_yes hc)
  clear hc
  have hn := nameB_len8 (p1 rfl)
  simp only at hn
  obtain ⟨z, hz, hz9⟩ := numB_nat (p3 rfl)
  simp only at hz
  subst hz
  have hl3 := numL_len hz9
  have HFN := Lib.hid (fun w0 => specFormat_any z w0 (by omega) (by omega))
  obtain rfl : text = [] := p5 rfl
  have HW := Lib.hid (show joinL [mPut, key, numL z] [32] = joinL (wordsC ⟨mPut, key, (z : Int), []⟩) [32] from rfl)
  clear p1 p2 p3 p4 p5
  have HB0 := Lib.hid (show ∀ o, Below w.heap.size w (w.alloc o) from fun o => (Below.refl w.heap.size w).alloc (Nat.le_refl _) o)
  go_enter Try.func20, Try.ntmps20
  go_wp2_with fail
  refine (HIC.out _).mono ?_
  rintro e w1 ⟨rfl, hb⟩
  have HB := Lib.hid ((HB0.out _).trans (hb.mono (HB0.out _).size))
  obtain ⟨hcc, _⟩ := bcell hb
  simp at hcc
  have c0 := hcc w.heap.size 0 (by omega)
  have c1 := hcc w.heap.size 1 (by omega)
  have c2 := hcc w.heap.size 2 (by omega)
  have c3 := hcc w.heap.size 3 (by omega)
  simp at c0 c1 c2 c3
  have hlt : w.heap.size < w1.heap.size := by have h := hb.size; simp at h; omega
  clear hb hcc
  have hs3 := size_strB (numL z)
  have hs1 := size_strB key
  have hq1 : ∀ w0, (Op.stringOp .add ⟨#[80, 117, 116, 32]⟩ ⟨key.toArray⟩).run Try.prog w0 = .ok (.string (⟨#[80, 117, 116, 32]⟩ ++ ⟨key.toArray⟩)) w0 := fun w0 => run_string_add_sum w0 _ _ (by rw [hs1]; show 4 + _ ≤ _; omega)
  have hq2 : ∀ w0, (Op.stringOp .add (⟨#[80, 117, 116, 32]⟩ ++ ⟨key.toArray⟩) ⟨#[32]⟩).run Try.prog w0 = .ok (.string (⟨#[80, 117, 116, 32]⟩ ++ ⟨key.toArray⟩ ++ ⟨#[32]⟩)) w0 := fun w0 => run_string_add_sum w0 _ _ (by rw [ByteArray.size_append, hs1]; show 4 + _ + 1 ≤ _; omega)
  have hq3 : ∀ w0, (Op.stringOp .add (⟨#[80, 117, 116, 32]⟩ ++ ⟨key.toArray⟩ ++ ⟨#[32]⟩) ⟨(numL z).toArray⟩).run Try.prog w0 = .ok (.string (⟨#[80, 117, 116, 32]⟩ ++ ⟨key.toArray⟩ ++ ⟨#[32]⟩ ++ ⟨(numL z).toArray⟩)) w0 := fun w0 => run_string_add_sum w0 _ _ (by rw [ByteArray.size_append, ByteArray.size_append, hs1, hs3]; show 4 + _ + 1 + _ ≤ _; omega)
  clear hs1 hs3
  go_wp2_with fail
  go_region_held3 (fun w' => w'.cell? ⟨w.heap.size, 1, none⟩ = some (.string ⟨key.toArray⟩) ∧ w'.cell? ⟨w.heap.size, 2, none⟩ = some (.int .i64 z))
    (first
      | go_keep
      | exact ⟨(hb1.cell (p := ⟨w.heap.size, 1, none⟩) (by simp; omega)).trans c1, (hb1.cell (p := ⟨w.heap.size, 2, none⟩) (by simp; omega)).trans c2⟩)
    (first
      | (go_at_call 41; refine (HFN.out _).mono ?_; rintro e w2 ⟨rfl, hb1⟩))
  have HB1 := Lib.hid (HB.out.trans ((show Below w1.heap.size w1 w2 from ⟨hb1.os, hb1.tape, hb1.output, hb1.size, hb1.block⟩).mono HB.out.size))
  clear hb1
  go_wp2_with fail
  go_ret
  exact ⟨ret_strB (by rw [HF.out, ← HW.out]; rw [joinL_cons _ _ _ (by simp), joinL_two, data_app, data_app, data_app]; simp), HB1.out⟩
set_option maxRecDepth 100000 in
set_option maxHeartbeats 1600000 in
theorem specFormatCall_Tell (key : List UInt8) (v : Int) (text : List UInt8) (w : World) (hk : key.length ≤ maxLen) (ht : text.length ≤ 1048576) (hc : callB ⟨mTell, key, v, text⟩ = true) :
    Calls Try.prog 20 #[.agg #[.string ⟨#[84, 101, 108, 108]⟩, .string ⟨key.toArray⟩, .int .i64 v, .string ⟨text.toArray⟩]] w fun e w' => e = .returned (.string ⟨(fmtCall ⟨mTell, key, v, text⟩).toArray⟩) ∧ Below w.heap.size w w' := by
  have HIC := Lib.hid (fun w0 => specIsCall_any ⟨mTell, key, v, text⟩ w0 hk)
  rw [hc] at HIC
  unfold vCall at HIC
  simp only at HIC
  obtain ⟨p1, p2, p3, p4, p5⟩ := callB_parts hc
  have HF := Lib.hid (fmtCall_yes hc)
  clear hc
  obtain rfl : key = [] := p2 rfl
  obtain rfl : v = 0 := p4 rfl
  obtain rfl : text = [] := p5 rfl
  have HW := Lib.hid (show joinL [mTell] [32] = joinL (wordsC ⟨mTell, [], 0, []⟩) [32] from rfl)
  clear p1 p2 p3 p4 p5
  have HB0 := Lib.hid (show ∀ o, Below w.heap.size w (w.alloc o) from fun o => (Below.refl w.heap.size w).alloc (Nat.le_refl _) o)
  go_enter Try.func20, Try.ntmps20
  go_wp2_with fail
  refine (HIC.out _).mono ?_
  rintro e w1 ⟨rfl, hb⟩
  have HB := Lib.hid ((HB0.out _).trans (hb.mono (HB0.out _).size))
  obtain ⟨hcc, _⟩ := bcell hb
  simp at hcc
  have c0 := hcc w.heap.size 0 (by omega)
  have c1 := hcc w.heap.size 1 (by omega)
  have c2 := hcc w.heap.size 2 (by omega)
  have c3 := hcc w.heap.size 3 (by omega)
  simp at c0 c1 c2 c3
  have hlt : w.heap.size < w1.heap.size := by have h := hb.size; simp at h; omega
  clear hb hcc
  go_wp2_with fail
  go_ret
  exact ⟨ret_strB (by rw [HF.out, ← HW.out]; rw [joinL_one]), HB.out⟩
set_option maxRecDepth 100000 in
set_option maxHeartbeats 1600000 in
theorem specFormatCall_Hear (key : List UInt8) (v : Int) (text : List UInt8) (w : World) (hk : key.length ≤ maxLen) (ht : text.length ≤ 1048576) (hc : callB ⟨mHear, key, v, text⟩ = true) :
    Calls Try.prog 20 #[.agg #[.string ⟨#[72, 101, 97, 114]⟩, .string ⟨key.toArray⟩, .int .i64 v, .string ⟨text.toArray⟩]] w fun e w' => e = .returned (.string ⟨(fmtCall ⟨mHear, key, v, text⟩).toArray⟩) ∧ Below w.heap.size w w' := by
  have HIC := Lib.hid (fun w0 => specIsCall_any ⟨mHear, key, v, text⟩ w0 hk)
  rw [hc] at HIC
  unfold vCall at HIC
  simp only at HIC
  obtain ⟨p1, p2, p3, p4, p5⟩ := callB_parts hc
  have HF := Lib.hid (fmtCall_yes hc)
  clear hc
  obtain rfl : key = [] := p2 rfl
  obtain ⟨z, hz, hz9⟩ := numB_nat (p3 rfl)
  simp only at hz
  subst hz
  have hl3 := numL_len hz9
  have HFN := Lib.hid (fun w0 => specFormat_any z w0 (by omega) (by omega))
  obtain rfl : text = [] := p5 rfl
  have HW := Lib.hid (show joinL [mHear, numL z] [32] = joinL (wordsC ⟨mHear, [], (z : Int), []⟩) [32] from rfl)
  clear p1 p2 p3 p4 p5
  have HB0 := Lib.hid (show ∀ o, Below w.heap.size w (w.alloc o) from fun o => (Below.refl w.heap.size w).alloc (Nat.le_refl _) o)
  go_enter Try.func20, Try.ntmps20
  go_wp2_with fail
  refine (HIC.out _).mono ?_
  rintro e w1 ⟨rfl, hb⟩
  have HB := Lib.hid ((HB0.out _).trans (hb.mono (HB0.out _).size))
  obtain ⟨hcc, _⟩ := bcell hb
  simp at hcc
  have c0 := hcc w.heap.size 0 (by omega)
  have c1 := hcc w.heap.size 1 (by omega)
  have c2 := hcc w.heap.size 2 (by omega)
  have c3 := hcc w.heap.size 3 (by omega)
  simp at c0 c1 c2 c3
  have hlt : w.heap.size < w1.heap.size := by have h := hb.size; simp at h; omega
  clear hb hcc
  have hs3 := size_strB (numL z)
  go_wp2_with fail
  refine (HFN.out _).mono ?_
  rintro e w2 ⟨rfl, hb1⟩
  have HB1 := Lib.hid (HB.out.trans (hb1.mono HB.out.size))
  clear hb1
  go_wp2_with fail
  go_ret
  exact ⟨ret_strB (by rw [HF.out, ← HW.out]; rw [joinL_two, data_app]; simp), HB1.out⟩
set_option maxRecDepth 100000 in
set_option maxHeartbeats 1600000 in
theorem specFormatCall_Load (key : List UInt8) (v : Int) (text : List UInt8) (w : World) (hk : key.length ≤ maxLen) (ht : text.length ≤ 1048576) (hc : callB ⟨mLoad, key, v, text⟩ = true) :
    Calls Try.prog 20 #[.agg #[.string ⟨#[76, 111, 97, 100]⟩, .string ⟨key.toArray⟩, .int .i64 v, .string ⟨text.toArray⟩]] w fun e w' => e = .returned (.string ⟨(fmtCall ⟨mLoad, key, v, text⟩).toArray⟩) ∧ Below w.heap.size w w' := by
  have HIC := Lib.hid (fun w0 => specIsCall_any ⟨mLoad, key, v, text⟩ w0 hk)
  rw [hc] at HIC
  unfold vCall at HIC
  simp only at HIC
  obtain ⟨p1, p2, p3, p4, p5⟩ := callB_parts hc
  have HF := Lib.hid (fmtCall_yes hc)
  clear hc
  obtain rfl : key = [] := p2 rfl
  obtain rfl : v = 0 := p4 rfl
  have HW := Lib.hid (show joinL [mLoad, text] [32] = joinL (wordsC ⟨mLoad, [], 0, text⟩) [32] from rfl)
  clear p1 p2 p3 p4 p5
  have HB0 := Lib.hid (show ∀ o, Below w.heap.size w (w.alloc o) from fun o => (Below.refl w.heap.size w).alloc (Nat.le_refl _) o)
  go_enter Try.func20, Try.ntmps20
  go_wp2_with fail
  refine (HIC.out _).mono ?_
  rintro e w1 ⟨rfl, hb⟩
  have HB := Lib.hid ((HB0.out _).trans (hb.mono (HB0.out _).size))
  obtain ⟨hcc, _⟩ := bcell hb
  simp at hcc
  have c0 := hcc w.heap.size 0 (by omega)
  have c1 := hcc w.heap.size 1 (by omega)
  have c2 := hcc w.heap.size 2 (by omega)
  have c3 := hcc w.heap.size 3 (by omega)
  simp at c0 c1 c2 c3
  have hlt : w.heap.size < w1.heap.size := by have h := hb.size; simp at h; omega
  clear hb hcc
  have hs3 := size_strB text
  go_wp2_with fail
  go_ret
  exact ⟨ret_strB (by rw [HF.out, ← HW.out]; rw [joinL_two, data_app]; simp), HB.out⟩
set_option maxRecDepth 100000 in
set_option maxHeartbeats 1600000 in
theorem specFormatCall_Save (key : List UInt8) (v : Int) (text : List UInt8) (w : World) (hk : key.length ≤ maxLen) (ht : text.length ≤ 1048576) (hc : callB ⟨mSave, key, v, text⟩ = true) :
    Calls Try.prog 20 #[.agg #[.string ⟨#[83, 97, 118, 101]⟩, .string ⟨key.toArray⟩, .int .i64 v, .string ⟨text.toArray⟩]] w fun e w' => e = .returned (.string ⟨(fmtCall ⟨mSave, key, v, text⟩).toArray⟩) ∧ Below w.heap.size w w' := by
  have HIC := Lib.hid (fun w0 => specIsCall_any ⟨mSave, key, v, text⟩ w0 hk)
  rw [hc] at HIC
  unfold vCall at HIC
  simp only at HIC
  obtain ⟨p1, p2, p3, p4, p5⟩ := callB_parts hc
  have HF := Lib.hid (fmtCall_yes hc)
  clear hc
  obtain rfl : key = [] := p2 rfl
  obtain rfl : v = 0 := p4 rfl
  obtain rfl : text = [] := p5 rfl
  have HW := Lib.hid (show joinL [mSave] [32] = joinL (wordsC ⟨mSave, [], 0, []⟩) [32] from rfl)
  clear p1 p2 p3 p4 p5
  have HB0 := Lib.hid (show ∀ o, Below w.heap.size w (w.alloc o) from fun o => (Below.refl w.heap.size w).alloc (Nat.le_refl _) o)
  go_enter Try.func20, Try.ntmps20
  go_wp2_with fail
  refine (HIC.out _).mono ?_
  rintro e w1 ⟨rfl, hb⟩
  have HB := Lib.hid ((HB0.out _).trans (hb.mono (HB0.out _).size))
  obtain ⟨hcc, _⟩ := bcell hb
  simp at hcc
  have c0 := hcc w.heap.size 0 (by omega)
  have c1 := hcc w.heap.size 1 (by omega)
  have c2 := hcc w.heap.size 2 (by omega)
  have c3 := hcc w.heap.size 3 (by omega)
  simp at c0 c1 c2 c3
  have hlt : w.heap.size < w1.heap.size := by have h := hb.size; simp at h; omega
  clear hb hcc
  go_wp2_with fail
  go_ret
  exact ⟨ret_strB (by rw [HF.out, ← HW.out]; rw [joinL_one]), HB.out⟩
set_option maxRecDepth 100000 in
set_option maxHeartbeats 1600000 in
theorem specFormatCall_Heal (key : List UInt8) (v : Int) (text : List UInt8) (w : World) (hk : key.length ≤ maxLen) (ht : text.length ≤ 1048576) (hc : callB ⟨mHeal, key, v, text⟩ = true) :
    Calls Try.prog 20 #[.agg #[.string ⟨#[72, 101, 97, 108]⟩, .string ⟨key.toArray⟩, .int .i64 v, .string ⟨text.toArray⟩]] w fun e w' => e = .returned (.string ⟨(fmtCall ⟨mHeal, key, v, text⟩).toArray⟩) ∧ Below w.heap.size w w' := by
  have HIC := Lib.hid (fun w0 => specIsCall_any ⟨mHeal, key, v, text⟩ w0 hk)
  rw [hc] at HIC
  unfold vCall at HIC
  simp only at HIC
  obtain ⟨p1, p2, p3, p4, p5⟩ := callB_parts hc
  have HF := Lib.hid (fmtCall_yes hc)
  clear hc
  obtain rfl : key = [] := p2 rfl
  obtain rfl : v = 0 := p4 rfl
  obtain rfl : text = [] := p5 rfl
  have HW := Lib.hid (show joinL [mHeal] [32] = joinL (wordsC ⟨mHeal, [], 0, []⟩) [32] from rfl)
  clear p1 p2 p3 p4 p5
  have HB0 := Lib.hid (show ∀ o, Below w.heap.size w (w.alloc o) from fun o => (Below.refl w.heap.size w).alloc (Nat.le_refl _) o)
  go_enter Try.func20, Try.ntmps20
  go_wp2_with fail
  refine (HIC.out _).mono ?_
  rintro e w1 ⟨rfl, hb⟩
  have HB := Lib.hid ((HB0.out _).trans (hb.mono (HB0.out _).size))
  obtain ⟨hcc, _⟩ := bcell hb
  simp at hcc
  have c0 := hcc w.heap.size 0 (by omega)
  have c1 := hcc w.heap.size 1 (by omega)
  have c2 := hcc w.heap.size 2 (by omega)
  have c3 := hcc w.heap.size 3 (by omega)
  simp at c0 c1 c2 c3
  have hlt : w.heap.size < w1.heap.size := by have h := hb.size; simp at h; omega
  clear hb hcc
  go_wp2_with fail
  go_ret
  exact ⟨ret_strB (by rw [HF.out, ← HW.out]; rw [joinL_one]), HB.out⟩
set_option maxHeartbeats 1600000 in
theorem specFormatCall_any (d : CallD) (w : World) (hk : d.fKey.length ≤ maxLen) (ht : d.fText.length ≤ 1048576) :
    Calls Try.prog 20 #[vCall d] w fun e w' => e = .returned (.string ⟨(fmtCall d).toArray⟩) ∧ Below w.heap.size w w' := by
  cases hc : callB d with
  | false =>
    have HF := Lib.hid (fmtCall_no hc)
    have HIC := Lib.hid (fun w0 => specIsCall_any d w0 hk)
    rw [hc] at HIC
    clear hc
    obtain ⟨m, key, v, text⟩ := d
    unfold vCall at *
    simp only at *
    have HB0 := Lib.hid (show ∀ o, Below w.heap.size w (w.alloc o) from fun o => (Below.refl w.heap.size w).alloc (Nat.le_refl _) o)
    go_enter Try.func20, Try.ntmps20
    go_wp2_with fail
    refine (HIC.out _).mono ?_
    rintro e w1 ⟨rfl, hb⟩
    have HB := Lib.hid ((HB0.out _).trans (hb.mono (HB0.out _).size))
    clear hb
    go_wp2_with fail
    go_ret
    exact ⟨ret_str (by rw [HF.out]), HB.out⟩
  | true =>
    obtain ⟨m, key, v, text⟩ := d
    rcases meth_cases m with rfl | rfl | rfl | rfl | rfl | rfl | rfl | rfl | rfl | ⟨hw, _⟩
    · exact specFormatCall_Start key v text w hk ht hc
    · exact specFormatCall_Stop key v text w hk ht hc
    · exact specFormatCall_Get key v text w hk ht hc
    · exact specFormatCall_Put key v text w hk ht hc
    · exact specFormatCall_Tell key v text w hk ht hc
    · exact specFormatCall_Hear key v text w hk ht hc
    · exact specFormatCall_Load key v text w hk ht hc
    · exact specFormatCall_Save key v text w hk ht hc
    · exact specFormatCall_Heal key v text w hk ht hc
    · exfalso; unfold callB at hc; simp only at hc; rw [hw] at hc; simp at hc
end Go.Proofs.Ytmgfokikkhfibab
