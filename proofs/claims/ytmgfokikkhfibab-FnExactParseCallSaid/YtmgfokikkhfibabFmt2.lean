/- The program's FormatCall, method by method. Written by gen/ch3fmt.py. -/
import Derived.Test.YtmgfokikkhfibabFmt1
import Derived.Test.YtmgfokikkhfibabCall3c
import Derived.Test.YtmgfokikkhfibabCells3
import Derived.Test.YtmgfokikkhfibabJoin
namespace Go.Proofs.Ytmgfokikkhfibab
set_option linter.unusedVariables false
open Go.RowKit
set_option maxRecDepth 100000 in
set_option maxHeartbeats 1600000 in
theorem implFormatCall_Start (key : List UInt8) (v : Int) (text : List UInt8) (w : World) (hk : key.length ≤ maxLen) (ht : text.length ≤ 1048576) (hc : callB ⟨mStart, key, v, text⟩ = true) :
    Calls Try.prog 21 #[.agg #[.string ⟨#[83, 116, 97, 114, 116]⟩, .string ⟨key.toArray⟩, .int .i64 v, .string ⟨text.toArray⟩]] w fun e w' => e = .returned (.string ⟨(fmtCall ⟨mStart, key, v, text⟩).toArray⟩) ∧ Below w.heap.size w w' := by
  have HIC := Lib.hid (fun w0 => implIsCall_any ⟨mStart, key, v, text⟩ w0 hk)
  rw [hc] at HIC
  unfold vCall at HIC
  simp only at HIC
  obtain ⟨p1, p2, p3, p4, p5⟩ := callB_parts hc
  have HF := Lib.hid (fmtCall_yes hc)
  clear hc
  obtain rfl : key = [] := p2 rfl
  obtain rfl : v = 0 := p4 rfl
  obtain rfl : text = [] := p5 rfl
  have HW := Lib.hid (show joinL [mStart] [32] = joinL (wordsC ⟨mStart, [], 0, []⟩) [32] from rfl)
  have HTK := Lib.hid (show ∀ w0, Calls Try.prog 32 #[.string ⟨#[83, 116, 97, 114, 116]⟩] w0 fun e w' => e = .returned (.bool false) ∧ w0 = w' from takesKey_b mStart _ rfl)
  have HTV := Lib.hid (show ∀ w0, Calls Try.prog 34 #[.string ⟨#[83, 116, 97, 114, 116]⟩] w0 fun e w' => e = .returned (.bool false) ∧ w0 = w' from takesValue_b mStart _ rfl)
  have HTT := Lib.hid (show ∀ w0, Calls Try.prog 36 #[.string ⟨#[83, 116, 97, 114, 116]⟩] w0 fun e w' => e = .returned (.bool false) ∧ w0 = w' from takesText_b mStart _ rfl)
  clear p1 p2 p3 p4 p5
  have HB0 := Lib.hid (show ∀ o, Below w.heap.size w (w.alloc o) from fun o => (Below.refl w.heap.size w).alloc (Nat.le_refl _) o)
  go_enter Try.func21, Try.ntmps21
  go_wp2_with fail
  refine (HIC.out _).mono ?_
  rintro e w1 ⟨rfl, hb⟩
  have HB := Lib.hid ((HB0.out _).trans (hb.mono (HB0.out _).size))
  obtain ⟨hcc, _⟩ := bcell hb
  simp at hcc
  have c0 := hcc w.heap.size 0 (by omega)
  have c1 := hcc w.heap.size 1 (by omega)
  have c2 := hcc w.heap.size 2 (by omega)
  have c3 := hcc w.heap.size 3 (by omega)
  simp at c0 c1 c2 c3
  have hlt : w.heap.size < w1.heap.size := by have h := hb.size; simp at h; omega
  have HLT := Lib.hid hlt
  clear hb hcc
  have HO0 := Lib.hid (owns_one w1 w1.heap.size ⟨#[83, 116, 97, 114, 116]⟩ (Nat.le_refl _))
  have HA0 := Lib.hid (show ∀ o, Below w1.heap.size w1 (w1.alloc o) from fun o => (Below.refl w1.heap.size w1).alloc (Nat.le_refl _) o)
  go_wp2_with (first | (go_at_call 32; refine (HTK.out _).mono ?_; rintro e w8 ⟨rfl, rfl⟩) | (go_at_call 34; refine (HTV.out _).mono ?_; rintro e w8 ⟨rfl, rfl⟩) | (go_at_call 36; refine (HTT.out _).mono ?_; rintro e w8 ⟨rfl, rfl⟩))
  refine (implJoin_any _ [mStart] ⟨#[32]⟩ _ (owns_row HO0.out (by simp)) (by rw [joinL_one]; decide) (by decide)).mono ?_
  rintro e w9 ⟨rfl, hb9⟩
  go_wp2_with fail
  go_ret
  exact ⟨ret_str (by rw [HF.out]; exact HW.out), HB.out.trans (((HA0.out (.cells #[.string ⟨#[83, 116, 97, 114, 116]⟩] 9)).trans (hb9.mono (HA0.out (.cells #[.string ⟨#[83, 116, 97, 114, 116]⟩] 9)).size)).mono HB.out.size)⟩
set_option maxRecDepth 100000 in
set_option maxHeartbeats 1600000 in
theorem implFormatCall_Stop (key : List UInt8) (v : Int) (text : List UInt8) (w : World) (hk : key.length ≤ maxLen) (ht : text.length ≤ 1048576) (hc : callB ⟨mStop, key, v, text⟩ = true) :
    Calls Try.prog 21 #[.agg #[.string ⟨#[83, 116, 111, 112]⟩, .string ⟨key.toArray⟩, .int .i64 v, .string ⟨text.toArray⟩]] w fun e w' => e = .returned (.string ⟨(fmtCall ⟨mStop, key, v, text⟩).toArray⟩) ∧ Below w.heap.size w w' := by
  have HIC := Lib.hid (fun w0 => implIsCall_any ⟨mStop, key, v, text⟩ w0 hk)
  rw [hc] at HIC
  unfold vCall at HIC
  simp only at HIC
  obtain ⟨p1, p2, p3, p4, p5⟩ := callB_parts hc
  have HF := Lib.hid (fmtCall_yes hc)
  clear hc
  obtain rfl : key = [] := p2 rfl
  obtain rfl : v = 0 := p4 rfl
  obtain rfl : text = [] := p5 rfl
  have HW := Lib.hid (show joinL [mStop] [32] = joinL (wordsC ⟨mStop, [], 0, []⟩) [32] from rfl)
  have HTK := Lib.hid (show ∀ w0, Calls Try.prog 32 #[.string ⟨#[83, 116, 111, 112]⟩] w0 fun e w' => e = .returned (.bool false) ∧ w0 = w' from takesKey_b mStop _ rfl)
  have HTV := Lib.hid (show ∀ w0, Calls Try.prog 34 #[.string ⟨#[83, 116, 111, 112]⟩] w0 fun e w' => e = .returned (.bool false) ∧ w0 = w' from takesValue_b mStop _ rfl)
  have HTT := Lib.hid (show ∀ w0, Calls Try.prog 36 #[.string ⟨#[83, 116, 111, 112]⟩] w0 fun e w' => e = .returned (.bool false) ∧ w0 = w' from takesText_b mStop _ rfl)
  clear p1 p2 p3 p4 p5
  have HB0 := Lib.hid (show ∀ o, Below w.heap.size w (w.alloc o) from fun o => (Below.refl w.heap.size w).alloc (Nat.le_refl _) o)
  go_enter Try.func21, Try.ntmps21
  go_wp2_with fail
  refine (HIC.out _).mono ?_
  rintro e w1 ⟨rfl, hb⟩
  have HB := Lib.hid ((HB0.out _).trans (hb.mono (HB0.out _).size))
  obtain ⟨hcc, _⟩ := bcell hb
  simp at hcc
  have c0 := hcc w.heap.size 0 (by omega)
  have c1 := hcc w.heap.size 1 (by omega)
  have c2 := hcc w.heap.size 2 (by omega)
  have c3 := hcc w.heap.size 3 (by omega)
  simp at c0 c1 c2 c3
  have hlt : w.heap.size < w1.heap.size := by have h := hb.size; simp at h; omega
  have HLT := Lib.hid hlt
  clear hb hcc
  have HO0 := Lib.hid (owns_one w1 w1.heap.size ⟨#[83, 116, 111, 112]⟩ (Nat.le_refl _))
  have HA0 := Lib.hid (show ∀ o, Below w1.heap.size w1 (w1.alloc o) from fun o => (Below.refl w1.heap.size w1).alloc (Nat.le_refl _) o)
  go_wp2_with (first | (go_at_call 32; refine (HTK.out _).mono ?_; rintro e w8 ⟨rfl, rfl⟩) | (go_at_call 34; refine (HTV.out _).mono ?_; rintro e w8 ⟨rfl, rfl⟩) | (go_at_call 36; refine (HTT.out _).mono ?_; rintro e w8 ⟨rfl, rfl⟩))
  refine (implJoin_any _ [mStop] ⟨#[32]⟩ _ (owns_row HO0.out (by simp)) (by rw [joinL_one]; decide) (by decide)).mono ?_
  rintro e w9 ⟨rfl, hb9⟩
  go_wp2_with fail
  go_ret
  exact ⟨ret_str (by rw [HF.out]; exact HW.out), HB.out.trans (((HA0.out (.cells #[.string ⟨#[83, 116, 111, 112]⟩] 9)).trans (hb9.mono (HA0.out (.cells #[.string ⟨#[83, 116, 111, 112]⟩] 9)).size)).mono HB.out.size)⟩
set_option maxRecDepth 100000 in
set_option maxHeartbeats 1600000 in
theorem implFormatCall_Get (key : List UInt8) (v : Int) (text : List UInt8) (w : World) (hk : key.length ≤ maxLen) (ht : text.length ≤ 1048576) (hc : callB ⟨mGet, key, v, text⟩ = true) :
    Calls Try.prog 21 #[.agg #[.string ⟨#[71, 101, 116]⟩, .string ⟨key.toArray⟩, .int .i64 v, .string ⟨text.toArray⟩]] w fun e w' => e = .returned (.string ⟨(fmtCall ⟨mGet, key, v, text⟩).toArray⟩) ∧ Below w.heap.size w w' := by
  have HIC := Lib.hid (fun w0 => implIsCall_any ⟨mGet, key, v, text⟩ w0 hk)
  rw [hc] at HIC
  unfold vCall at HIC
  simp only at HIC
  obtain ⟨p1, p2, p3, p4, p5⟩ := callB_parts hc
  have HF := Lib.hid (fmtCall_yes hc)
  clear hc
  have hn := nameB_len8 (p1 rfl)
  obtain rfl : v = 0 := p4 rfl
  obtain rfl : text = [] := p5 rfl
  have HW := Lib.hid (show joinL [mGet, key] [32] = joinL (wordsC ⟨mGet, key, 0, []⟩) [32] from rfl)
  have HTK := Lib.hid (show ∀ w0, Calls Try.prog 32 #[.string ⟨#[71, 101, 116]⟩] w0 fun e w' => e = .returned (.bool true) ∧ w0 = w' from takesKey_b mGet _ rfl)
  have HTV := Lib.hid (show ∀ w0, Calls Try.prog 34 #[.string ⟨#[71, 101, 116]⟩] w0 fun e w' => e = .returned (.bool false) ∧ w0 = w' from takesValue_b mGet _ rfl)
  have HTT := Lib.hid (show ∀ w0, Calls Try.prog 36 #[.string ⟨#[71, 101, 116]⟩] w0 fun e w' => e = .returned (.bool false) ∧ w0 = w' from takesText_b mGet _ rfl)
  clear p1 p2 p3 p4 p5
  have HB0 := Lib.hid (show ∀ o, Below w.heap.size w (w.alloc o) from fun o => (Below.refl w.heap.size w).alloc (Nat.le_refl _) o)
  go_enter Try.func21, Try.ntmps21
  go_wp2_with fail
  refine (HIC.out _).mono ?_
  rintro e w1 ⟨rfl, hb⟩
  have HB := Lib.hid ((HB0.out _).trans (hb.mono (HB0.out _).size))
  obtain ⟨hcc, _⟩ := bcell hb
  simp at hcc
  have c0 := hcc w.heap.size 0 (by omega)
  have c1 := hcc w.heap.size 1 (by omega)
  have c2 := hcc w.heap.size 2 (by omega)
  have c3 := hcc w.heap.size 3 (by omega)
  simp at c0 c1 c2 c3
  have hlt : w.heap.size < w1.heap.size := by have h := hb.size; simp at h; omega
  have HLT := Lib.hid hlt
  clear hb hcc
  have HO0 := Lib.hid (owns_one w1 w1.heap.size ⟨#[71, 101, 116]⟩ (Nat.le_refl _))
  have HA0 := Lib.hid (show ∀ o, Below w1.heap.size w1 (w1.alloc o) from fun o => (Below.refl w1.heap.size w1).alloc (Nat.le_refl _) o)
  go_wp2_with (first | (at_builtin; go_loud (refine append_strs rfl _ _ rfl w1.heap.size _ [mGet] (key) _ (w1.heap.size + 1) (by rfl) (owns_alloc HO0.out _) rfl (cell_newS _ _ ⟨(key).toArray⟩ _ (by simp)) (by simp) ?_ ?_; (have h1 := (HA0.out (.cells #[.string ⟨#[71, 101, 116]⟩] 9)).size; (try simp at h1); (try simp); omega)); intro va1 xa1 hOa1 hga1; have Ba1 := Lib.hid (below_append ((HA0.out (.cells #[.string ⟨#[71, 101, 116]⟩] 9)).alloc (HA0.out (.cells #[.string ⟨#[71, 101, 116]⟩] 9)).size _) (owns_alloc HO0.out _) hga1 ((HA0.out (.cells #[.string ⟨#[71, 101, 116]⟩] 9)).alloc (HA0.out (.cells #[.string ⟨#[71, 101, 116]⟩] 9)).size _).size); have Oa1 := Lib.hid hOa1; clear hOa1 hga1; have da1_0 := (Ba1.out.cell (p := ⟨w.heap.size, 0, none⟩) HLT.out).trans c0; have da1_1 := (Ba1.out.cell (p := ⟨w.heap.size, 1, none⟩) HLT.out).trans c1; have da1_2 := (Ba1.out.cell (p := ⟨w.heap.size, 2, none⟩) HLT.out).trans c2; have da1_3 := (Ba1.out.cell (p := ⟨w.heap.size, 3, none⟩) HLT.out).trans c3) | (go_at_call 32; refine (HTK.out _).mono ?_; rintro e w8 ⟨rfl, rfl⟩) | (go_at_call 34; refine (HTV.out _).mono ?_; rintro e w8 ⟨rfl, rfl⟩) | (go_at_call 36; refine (HTT.out _).mono ?_; rintro e w8 ⟨rfl, rfl⟩))
  refine (implJoin_any _ [mGet, key] ⟨#[32]⟩ _ (owns_row Oa1.out (by simp)) (by rw [join2_len]; simp; omega) (by decide)).mono ?_
  rintro e w9 ⟨rfl, hb9⟩
  go_wp2_with fail
  go_ret
  exact ⟨ret_str (by rw [HF.out]; exact HW.out), HB.out.trans ((Ba1.out.trans (hb9.mono Ba1.out.size)).mono HB.out.size)⟩
set_option maxRecDepth 100000 in
set_option maxHeartbeats 1600000 in
theorem implFormatCall_Put (key : List UInt8) (v : Int) (text : List UInt8) (w : World) (hk : key.length ≤ maxLen) (ht : text.length ≤ 1048576) (hc : callB ⟨mPut, key, v, text⟩ = true) :
    Calls Try.prog 21 #[.agg #[.string ⟨#[80, 117, 116]⟩, .string ⟨key.toArray⟩, .int .i64 v, .string ⟨text.toArray⟩]] w fun e w' => e = .returned (.string ⟨(fmtCall ⟨mPut, key, v, text⟩).toArray⟩) ∧ Below w.heap.size w w' := by
  have HIC := Lib.hid (fun w0 => implIsCall_any ⟨mPut, key, v, text⟩ w0 hk)
  rw [hc] at HIC
  unfold vCall at HIC
  simp only at HIC
  obtain ⟨p1, p2, p3, p4, p5⟩ := callB_parts hc
  have HF := Lib.hid (fmtCall_yes hc)
  clear hc
  have hn := nameB_len8 (p1 rfl)
  obtain ⟨z, hz, hz9⟩ := numB_nat (p3 rfl)
  simp only at hz
  subst hz
  have hl3 := numL_len hz9
  have HFN := Lib.hid (fun w0 => implFormat_any z w0 (by omega) (by omega))
  obtain rfl : text = [] := p5 rfl
  have HW := Lib.hid (show joinL [mPut, key, numL z] [32] = joinL (wordsC ⟨mPut, key, (z : Int), []⟩) [32] from rfl)
  have HTK := Lib.hid (show ∀ w0, Calls Try.prog 32 #[.string ⟨#[80, 117, 116]⟩] w0 fun e w' => e = .returned (.bool true) ∧ w0 = w' from takesKey_b mPut _ rfl)
  have HTV := Lib.hid (show ∀ w0, Calls Try.prog 34 #[.string ⟨#[80, 117, 116]⟩] w0 fun e w' => e = .returned (.bool true) ∧ w0 = w' from takesValue_b mPut _ rfl)
  have HTT := Lib.hid (show ∀ w0, Calls Try.prog 36 #[.string ⟨#[80, 117, 116]⟩] w0 fun e w' => e = .returned (.bool false) ∧ w0 = w' from takesText_b mPut _ rfl)
  clear p1 p2 p3 p4 p5
  have HB0 := Lib.hid (show ∀ o, Below w.heap.size w (w.alloc o) from fun o => (Below.refl w.heap.size w).alloc (Nat.le_refl _) o)
  go_enter Try.func21, Try.ntmps21
  go_wp2_with fail
  refine (HIC.out _).mono ?_
  rintro e w1 ⟨rfl, hb⟩
  have HB := Lib.hid ((HB0.out _).trans (hb.mono (HB0.out _).size))
  obtain ⟨hcc, _⟩ := bcell hb
  simp at hcc
  have c0 := hcc w.heap.size 0 (by omega)
  have c1 := hcc w.heap.size 1 (by omega)
  have c2 := hcc w.heap.size 2 (by omega)
  have c3 := hcc w.heap.size 3 (by omega)
  simp at c0 c1 c2 c3
  have hlt : w.heap.size < w1.heap.size := by have h := hb.size; simp at h; omega
  have HLT := Lib.hid hlt
  clear hb hcc
  have HO0 := Lib.hid (owns_one w1 w1.heap.size ⟨#[80, 117, 116]⟩ (Nat.le_refl _))
  have HA0 := Lib.hid (show ∀ o, Below w1.heap.size w1 (w1.alloc o) from fun o => (Below.refl w1.heap.size w1).alloc (Nat.le_refl _) o)
  go_wp2_with (first | (at_builtin; go_loud (refine append_strs rfl _ _ rfl w1.heap.size _ [mPut] (key) _ (w1.heap.size + 1) (by rfl) (owns_alloc HO0.out _) rfl (cell_newS _ _ ⟨(key).toArray⟩ _ (by simp)) (by simp) ?_ ?_; (have h1 := (HA0.out (.cells #[.string ⟨#[80, 117, 116]⟩] 9)).size; (try simp at h1); (try simp); omega)); intro va1 xa1 hOa1 hga1; have Ba1 := Lib.hid (below_append ((HA0.out (.cells #[.string ⟨#[80, 117, 116]⟩] 9)).alloc (HA0.out (.cells #[.string ⟨#[80, 117, 116]⟩] 9)).size _) (owns_alloc HO0.out _) hga1 ((HA0.out (.cells #[.string ⟨#[80, 117, 116]⟩] 9)).alloc (HA0.out (.cells #[.string ⟨#[80, 117, 116]⟩] 9)).size _).size); have Oa1 := Lib.hid hOa1; clear hOa1 hga1; have da1_0 := (Ba1.out.cell (p := ⟨w.heap.size, 0, none⟩) HLT.out).trans c0; have da1_1 := (Ba1.out.cell (p := ⟨w.heap.size, 1, none⟩) HLT.out).trans c1; have da1_2 := (Ba1.out.cell (p := ⟨w.heap.size, 2, none⟩) HLT.out).trans c2; have da1_3 := (Ba1.out.cell (p := ⟨w.heap.size, 3, none⟩) HLT.out).trans c3) | (go_at_call 32; refine (HTK.out _).mono ?_; rintro e w8 ⟨rfl, rfl⟩) | (go_at_call 34; refine (HTV.out _).mono ?_; rintro e w8 ⟨rfl, rfl⟩) | (go_at_call 36; refine (HTT.out _).mono ?_; rintro e w8 ⟨rfl, rfl⟩))
  go_wp2_with (first | (go_at_call 32; refine (HTK.out _).mono ?_; rintro e w8 ⟨rfl, rfl⟩) | (go_at_call 34; refine (HTV.out _).mono ?_; rintro e w8 ⟨rfl, rfl⟩) | (go_at_call 36; refine (HTT.out _).mono ?_; rintro e w8 ⟨rfl, rfl⟩))
  refine (HFN.out _).mono ?_
  rintro e wf ⟨rfl, hbf⟩
  have Bf := Lib.hid (Ba1.out.trans (hbf.mono Ba1.out.size))
  have Of := Lib.hid (owns_below Oa1.out hbf (Nat.le_refl _))
  clear hbf
  have f0 := (Bf.out.cell (p := ⟨w.heap.size, 0, none⟩) HLT.out).trans c0
  have f1 := (Bf.out.cell (p := ⟨w.heap.size, 1, none⟩) HLT.out).trans c1
  have f2 := (Bf.out.cell (p := ⟨w.heap.size, 2, none⟩) HLT.out).trans c2
  have f3 := (Bf.out.cell (p := ⟨w.heap.size, 3, none⟩) HLT.out).trans c3
  go_wp2_with (first | (at_builtin; go_loud (refine append_strs rfl _ _ rfl w1.heap.size _ [mPut, key] (numL z) _ (wf.heap.size) (by rfl) (owns_alloc Of.out _) rfl (cell_newS _ _ ⟨(numL z).toArray⟩ _ (by simp)) (by simp) ?_ ?_; (have h1 := Bf.out.size; (try simp at h1); (try simp); omega)); intro va2 xa2 hOa2 hga2; have Ba2 := Lib.hid (below_append (Bf.out.alloc Bf.out.size _) (owns_alloc Of.out _) hga2 (Bf.out.alloc Bf.out.size _).size); have Oa2 := Lib.hid hOa2; clear hOa2 hga2; have da2_0 := (Ba2.out.cell (p := ⟨w.heap.size, 0, none⟩) HLT.out).trans c0; have da2_1 := (Ba2.out.cell (p := ⟨w.heap.size, 1, none⟩) HLT.out).trans c1; have da2_2 := (Ba2.out.cell (p := ⟨w.heap.size, 2, none⟩) HLT.out).trans c2; have da2_3 := (Ba2.out.cell (p := ⟨w.heap.size, 3, none⟩) HLT.out).trans c3) | (go_at_call 32; refine (HTK.out _).mono ?_; rintro e w8 ⟨rfl, rfl⟩) | (go_at_call 34; refine (HTV.out _).mono ?_; rintro e w8 ⟨rfl, rfl⟩) | (go_at_call 36; refine (HTT.out _).mono ?_; rintro e w8 ⟨rfl, rfl⟩))
  refine (implJoin_any _ [mPut, key, numL z] ⟨#[32]⟩ _ (owns_row Oa2.out (by simp)) (by rw [join3_len]; simp; omega) (by decide)).mono ?_
  rintro e w9 ⟨rfl, hb9⟩
  go_wp2_with fail
  go_ret
  exact ⟨ret_str (by rw [HF.out]; exact HW.out), HB.out.trans ((Ba2.out.trans (hb9.mono Ba2.out.size)).mono HB.out.size)⟩
set_option maxRecDepth 100000 in
set_option maxHeartbeats 1600000 in
theorem implFormatCall_Tell (key : List UInt8) (v : Int) (text : List UInt8) (w : World) (hk : key.length ≤ maxLen) (ht : text.length ≤ 1048576) (hc : callB ⟨mTell, key, v, text⟩ = true) :
    Calls Try.prog 21 #[.agg #[.string ⟨#[84, 101, 108, 108]⟩, .string ⟨key.toArray⟩, .int .i64 v, .string ⟨text.toArray⟩]] w fun e w' => e = .returned (.string ⟨(fmtCall ⟨mTell, key, v, text⟩).toArray⟩) ∧ Below w.heap.size w w' := by
  have HIC := Lib.hid (fun w0 => implIsCall_any ⟨mTell, key, v, text⟩ w0 hk)
  rw [hc] at HIC
  unfold vCall at HIC
  simp only at HIC
  obtain ⟨p1, p2, p3, p4, p5⟩ := callB_parts hc
  have HF := Lib.hid (fmtCall_yes hc)
  clear hc
  obtain rfl : key = [] := p2 rfl
  obtain rfl : v = 0 := p4 rfl
  obtain rfl : text = [] := p5 rfl
  have HW := Lib.hid (show joinL [mTell] [32] = joinL (wordsC ⟨mTell, [], 0, []⟩) [32] from rfl)
  have HTK := Lib.hid (show ∀ w0, Calls Try.prog 32 #[.string ⟨#[84, 101, 108, 108]⟩] w0 fun e w' => e = .returned (.bool false) ∧ w0 = w' from takesKey_b mTell _ rfl)
  have HTV := Lib.hid (show ∀ w0, Calls Try.prog 34 #[.string ⟨#[84, 101, 108, 108]⟩] w0 fun e w' => e = .returned (.bool false) ∧ w0 = w' from takesValue_b mTell _ rfl)
  have HTT := Lib.hid (show ∀ w0, Calls Try.prog 36 #[.string ⟨#[84, 101, 108, 108]⟩] w0 fun e w' => e = .returned (.bool false) ∧ w0 = w' from takesText_b mTell _ rfl)
  clear p1 p2 p3 p4 p5
  have HB0 := Lib.hid (show ∀ o, Below w.heap.size w (w.alloc o) from fun o => (Below.refl w.heap.size w).alloc (Nat.le_refl _) o)
  go_enter Try.func21, Try.ntmps21
  go_wp2_with fail
  refine (HIC.out _).mono ?_
  rintro e w1 ⟨rfl, hb⟩
  have HB := Lib.hid ((HB0.out _).trans (hb.mono (HB0.out _).size))
  obtain ⟨hcc, _⟩ := bcell hb
  simp at hcc
  have c0 := hcc w.heap.size 0 (by omega)
  have c1 := hcc w.heap.size 1 (by omega)
  have c2 := hcc w.heap.size 2 (by omega)
  have c3 := hcc w.heap.size 3 (by omega)
  simp at c0 c1 c2 c3
  have hlt : w.heap.size < w1.heap.size := by have h := hb.size; simp at h; omega
  have HLT := Lib.hid hlt
  clear hb hcc
  have HO0 := Lib.hid (owns_one w1 w1.heap.size ⟨#[84, 101, 108, 108]⟩ (Nat.le_refl _))
  have HA0 := Lib.hid (show ∀ o, Below w1.heap.size w1 (w1.alloc o) from fun o => (Below.refl w1.heap.size w1).alloc (Nat.le_refl _) o)
  go_wp2_with (first | (go_at_call 32; refine (HTK.out _).mono ?_; rintro e w8 ⟨rfl, rfl⟩) | (go_at_call 34; refine (HTV.out _).mono ?_; rintro e w8 ⟨rfl, rfl⟩) | (go_at_call 36; refine (HTT.out _).mono ?_; rintro e w8 ⟨rfl, rfl⟩))
  refine (implJoin_any _ [mTell] ⟨#[32]⟩ _ (owns_row HO0.out (by simp)) (by rw [joinL_one]; decide) (by decide)).mono ?_
  rintro e w9 ⟨rfl, hb9⟩
  go_wp2_with fail
  go_ret
  exact ⟨ret_str (by rw [HF.out]; exact HW.out), HB.out.trans (((HA0.out (.cells #[.string ⟨#[84, 101, 108, 108]⟩] 9)).trans (hb9.mono (HA0.out (.cells #[.string ⟨#[84, 101, 108, 108]⟩] 9)).size)).mono HB.out.size)⟩
set_option maxRecDepth 100000 in
set_option maxHeartbeats 1600000 in
theorem implFormatCall_Hear (key : List UInt8) (v : Int) (text : List UInt8) (w : World) (hk : key.length ≤ maxLen) (ht : text.length ≤ 1048576) (hc : callB ⟨mHear, key, v, text⟩ = true) :
    Calls Try.prog 21 #[.agg #[.string ⟨#[72, 101, 97, 114]⟩, .string ⟨key.toArray⟩, .int .i64 v, .string ⟨text.toArray⟩]] w fun e w' => e = .returned (.string ⟨(fmtCall ⟨mHear, key, v, text⟩).toArray⟩) ∧ Below w.heap.size w w' := by
  have HIC := Lib.hid (fun w0 => implIsCall_any ⟨mHear, key, v, text⟩ w0 hk)
  rw [hc] at HIC
  unfold vCall at HIC
  simp only at HIC
  obtain ⟨p1, p2, p3, p4, p5⟩ := callB_parts hc
  have HF := Lib.hid (fmtCall_yes hc)
  clear hc
  obtain rfl : key = [] := p2 rfl
  obtain ⟨z, hz, hz9⟩ := numB_nat (p3 rfl)
  simp only at hz
  subst hz
  have hl3 := numL_len hz9
  have HFN := Lib.hid (fun w0 => implFormat_any z w0 (by omega) (by omega))
  obtain rfl : text = [] := p5 rfl
  have HW := Lib.hid (show joinL [mHear, numL z] [32] = joinL (wordsC ⟨mHear, [], (z : Int), []⟩) [32] from rfl)
  have HTK := Lib.hid (show ∀ w0, Calls Try.prog 32 #[.string ⟨#[72, 101, 97, 114]⟩] w0 fun e w' => e = .returned (.bool false) ∧ w0 = w' from takesKey_b mHear _ rfl)
  have HTV := Lib.hid (show ∀ w0, Calls Try.prog 34 #[.string ⟨#[72, 101, 97, 114]⟩] w0 fun e w' => e = .returned (.bool true) ∧ w0 = w' from takesValue_b mHear _ rfl)
  have HTT := Lib.hid (show ∀ w0, Calls Try.prog 36 #[.string ⟨#[72, 101, 97, 114]⟩] w0 fun e w' => e = .returned (.bool false) ∧ w0 = w' from takesText_b mHear _ rfl)
  clear p1 p2 p3 p4 p5
  have HB0 := Lib.hid (show ∀ o, Below w.heap.size w (w.alloc o) from fun o => (Below.refl w.heap.size w).alloc (Nat.le_refl _) o)
  go_enter Try.func21, Try.ntmps21
  go_wp2_with fail
  refine (HIC.out _).mono ?_
  rintro e w1 ⟨rfl, hb⟩
  have HB := Lib.hid ((HB0.out _).trans (hb.mono (HB0.out _).size))
  obtain ⟨hcc, _⟩ := bcell hb
  simp at hcc
  have c0 := hcc w.heap.size 0 (by omega)
  have c1 := hcc w.heap.size 1 (by omega)
  have c2 := hcc w.heap.size 2 (by omega)
  have c3 := hcc w.heap.size 3 (by omega)
  simp at c0 c1 c2 c3
  have hlt : w.heap.size < w1.heap.size := by have h := hb.size; simp at h; omega
  have HLT := Lib.hid hlt
  clear hb hcc
  have HO0 := Lib.hid (owns_one w1 w1.heap.size ⟨#[72, 101, 97, 114]⟩ (Nat.le_refl _))
  have HA0 := Lib.hid (show ∀ o, Below w1.heap.size w1 (w1.alloc o) from fun o => (Below.refl w1.heap.size w1).alloc (Nat.le_refl _) o)
  go_wp2_with (first | (go_at_call 32; refine (HTK.out _).mono ?_; rintro e w8 ⟨rfl, rfl⟩) | (go_at_call 34; refine (HTV.out _).mono ?_; rintro e w8 ⟨rfl, rfl⟩) | (go_at_call 36; refine (HTT.out _).mono ?_; rintro e w8 ⟨rfl, rfl⟩))
  refine (HFN.out _).mono ?_
  rintro e wf ⟨rfl, hbf⟩
  have Bf := Lib.hid ((HA0.out (.cells #[.string ⟨#[72, 101, 97, 114]⟩] 9)).trans (hbf.mono (HA0.out (.cells #[.string ⟨#[72, 101, 97, 114]⟩] 9)).size))
  have Of := Lib.hid (owns_below HO0.out hbf (Nat.le_refl _))
  clear hbf
  have f0 := (Bf.out.cell (p := ⟨w.heap.size, 0, none⟩) HLT.out).trans c0
  have f1 := (Bf.out.cell (p := ⟨w.heap.size, 1, none⟩) HLT.out).trans c1
  have f2 := (Bf.out.cell (p := ⟨w.heap.size, 2, none⟩) HLT.out).trans c2
  have f3 := (Bf.out.cell (p := ⟨w.heap.size, 3, none⟩) HLT.out).trans c3
  go_wp2_with (first | (at_builtin; go_loud (refine append_strs rfl _ _ rfl w1.heap.size _ [mHear] (numL z) _ (wf.heap.size) (by rfl) (owns_alloc Of.out _) rfl (cell_newS _ _ ⟨(numL z).toArray⟩ _ (by simp)) (by simp) ?_ ?_; (have h1 := Bf.out.size; (try simp at h1); (try simp); omega)); intro va1 xa1 hOa1 hga1; have Ba1 := Lib.hid (below_append (Bf.out.alloc Bf.out.size _) (owns_alloc Of.out _) hga1 (Bf.out.alloc Bf.out.size _).size); have Oa1 := Lib.hid hOa1; clear hOa1 hga1; have da1_0 := (Ba1.out.cell (p := ⟨w.heap.size, 0, none⟩) HLT.out).trans c0; have da1_1 := (Ba1.out.cell (p := ⟨w.heap.size, 1, none⟩) HLT.out).trans c1; have da1_2 := (Ba1.out.cell (p := ⟨w.heap.size, 2, none⟩) HLT.out).trans c2; have da1_3 := (Ba1.out.cell (p := ⟨w.heap.size, 3, none⟩) HLT.out).trans c3) | (go_at_call 32; refine (HTK.out _).mono ?_; rintro e w8 ⟨rfl, rfl⟩) | (go_at_call 34; refine (HTV.out _).mono ?_; rintro e w8 ⟨rfl, rfl⟩) | (go_at_call 36; refine (HTT.out _).mono ?_; rintro e w8 ⟨rfl, rfl⟩))
  refine (implJoin_any _ [mHear, numL z] ⟨#[32]⟩ _ (owns_row Oa1.out (by simp)) (by rw [join2_len]; simp; omega) (by decide)).mono ?_
  rintro e w9 ⟨rfl, hb9⟩
  go_wp2_with fail
  go_ret
  exact ⟨ret_str (by rw [HF.out]; exact HW.out), HB.out.trans ((Ba1.out.trans (hb9.mono Ba1.out.size)).mono HB.out.size)⟩
set_option maxRecDepth 100000 in
set_option maxHeartbeats 1600000 in
theorem implFormatCall_Load (key : List UInt8) (v : Int) (text : List UInt8) (w : World) (hk : key.length ≤ maxLen) (ht : text.length ≤ 1048576) (hc : callB ⟨mLoad, key, v, text⟩ = true) :
    Calls Try.prog 21 #[.agg #[.string ⟨#[76, 111, 97, 100]⟩, .string ⟨key.toArray⟩, .int .i64 v, .string ⟨text.toArray⟩]] w fun e w' => e = .returned (.string ⟨(fmtCall ⟨mLoad, key, v, text⟩).toArray⟩) ∧ Below w.heap.size w w' := by
  have HIC := Lib.hid (fun w0 => implIsCall_any ⟨mLoad, key, v, text⟩ w0 hk)
  rw [hc] at HIC
  unfold vCall at HIC
  simp only at HIC
  obtain ⟨p1, p2, p3, p4, p5⟩ := callB_parts hc
  have HF := Lib.hid (fmtCall_yes hc)
  clear hc
  obtain rfl : key = [] := p2 rfl
  obtain rfl : v = 0 := p4 rfl
  have HW := Lib.hid (show joinL [mLoad, text] [32] = joinL (wordsC ⟨mLoad, [], 0, text⟩) [32] from rfl)
  have HTK := Lib.hid (show ∀ w0, Calls Try.prog 32 #[.string ⟨#[76, 111, 97, 100]⟩] w0 fun e w' => e = .returned (.bool false) ∧ w0 = w' from takesKey_b mLoad _ rfl)
  have HTV := Lib.hid (show ∀ w0, Calls Try.prog 34 #[.string ⟨#[76, 111, 97, 100]⟩] w0 fun e w' => e = .returned (.bool false) ∧ w0 = w' from takesValue_b mLoad _ rfl)
  have HTT := Lib.hid (show ∀ w0, Calls Try.prog 36 #[.string ⟨#[76, 111, 97, 100]⟩] w0 fun e w' => e = .returned (.bool true) ∧ w0 = w' from takesText_b mLoad _ rfl)
  clear p1 p2 p3 p4 p5
  have HB0 := Lib.hid (show ∀ o, Below w.heap.size w (w.alloc o) from fun o => (Below.refl w.heap.size w).alloc (Nat.le_refl _) o)
  go_enter Try.func21, Try.ntmps21
  go_wp2_with fail
  refine (HIC.out _).mono ?_
  rintro e w1 ⟨rfl, hb⟩
  have HB := Lib.hid ((HB0.out _).trans (hb.mono (HB0.out _).size))
  obtain ⟨hcc, _⟩ := bcell hb
  simp at hcc
  have c0 := hcc w.heap.size 0 (by omega)
  have c1 := hcc w.heap.size 1 (by omega)
  have c2 := hcc w.heap.size 2 (by omega)
  have c3 := hcc w.heap.size 3 (by omega)
  simp at c0 c1 c2 c3
  have hlt : w.heap.size < w1.heap.size := by have h := hb.size; simp at h; omega
  have HLT := Lib.hid hlt
  clear hb hcc
  have HO0 := Lib.hid (owns_one w1 w1.heap.size ⟨#[76, 111, 97, 100]⟩ (Nat.le_refl _))
  have HA0 := Lib.hid (show ∀ o, Below w1.heap.size w1 (w1.alloc o) from fun o => (Below.refl w1.heap.size w1).alloc (Nat.le_refl _) o)
  go_wp2_with (first | (at_builtin; go_loud (refine append_strs rfl _ _ rfl w1.heap.size _ [mLoad] (text) _ (w1.heap.size + 1) (by rfl) (owns_alloc HO0.out _) rfl (cell_newS _ _ ⟨(text).toArray⟩ _ (by simp)) (by simp) ?_ ?_; (have h1 := (HA0.out (.cells #[.string ⟨#[76, 111, 97, 100]⟩] 9)).size; (try simp at h1); (try simp); omega)); intro va1 xa1 hOa1 hga1; have Ba1 := Lib.hid (below_append ((HA0.out (.cells #[.string ⟨#[76, 111, 97, 100]⟩] 9)).alloc (HA0.out (.cells #[.string ⟨#[76, 111, 97, 100]⟩] 9)).size _) (owns_alloc HO0.out _) hga1 ((HA0.out (.cells #[.string ⟨#[76, 111, 97, 100]⟩] 9)).alloc (HA0.out (.cells #[.string ⟨#[76, 111, 97, 100]⟩] 9)).size _).size); have Oa1 := Lib.hid hOa1; clear hOa1 hga1; have da1_0 := (Ba1.out.cell (p := ⟨w.heap.size, 0, none⟩) HLT.out).trans c0; have da1_1 := (Ba1.out.cell (p := ⟨w.heap.size, 1, none⟩) HLT.out).trans c1; have da1_2 := (Ba1.out.cell (p := ⟨w.heap.size, 2, none⟩) HLT.out).trans c2; have da1_3 := (Ba1.out.cell (p := ⟨w.heap.size, 3, none⟩) HLT.out).trans c3) | (go_at_call 32; refine (HTK.out _).mono ?_; rintro e w8 ⟨rfl, rfl⟩) | (go_at_call 34; refine (HTV.out _).mono ?_; rintro e w8 ⟨rfl, rfl⟩) | (go_at_call 36; refine (HTT.out _).mono ?_; rintro e w8 ⟨rfl, rfl⟩))
  refine (implJoin_any _ [mLoad, text] ⟨#[32]⟩ _ (owns_row Oa1.out (by simp)) (by rw [join2_len]; simp; omega) (by decide)).mono ?_
  rintro e w9 ⟨rfl, hb9⟩
  go_wp2_with fail
  go_ret
  exact ⟨ret_str (by rw [HF.out]; exact HW.out), HB.out.trans ((Ba1.out.trans (hb9.mono Ba1.out.size)).mono HB.out.size)⟩
set_option maxRecDepth 100000 in
set_option maxHeartbeats 1600000 in
theorem implFormatCall_Save (key : List UInt8) (v : Int) (text : List UInt8) (w : World) (hk : key.length ≤ maxLen) (ht : text.length ≤ 1048576) (hc : callB ⟨mSave, key, v, text⟩ = true) :
    Calls Try.prog 21 #[.agg #[.string ⟨#[83, 97, 118, 101]⟩, .string ⟨key.toArray⟩, .int .i64 v, .string ⟨text.toArray⟩]] w fun e w' => e = .returned (.string ⟨(fmtCall ⟨mSave, key, v, text⟩).toArray⟩) ∧ Below w.heap.size w w' := by
  have HIC := Lib.hid (fun w0 => implIsCall_any ⟨mSave, key, v, text⟩ w0 hk)
  rw [hc] at HIC
  unfold vCall at HIC
  simp only at HIC
  obtain ⟨p1, p2, p3, p4, p5⟩ := callB_parts hc
  have HF := Lib.hid (fmtCall_yes hc)
  clear hc
  obtain rfl : key = [] := p2 rfl
  obtain rfl : v = 0 := p4 rfl
  obtain rfl : text = [] := p5 rfl
  have HW := Lib.hid (show joinL [mSave] [32] = joinL (wordsC ⟨mSave, [], 0, []⟩) [32] from rfl)
  have HTK := Lib.hid (show ∀ w0, Calls Try.prog 32 #[.string ⟨#[83, 97, 118, 101]⟩] w0 fun e w' => e = .returned (.bool false) ∧ w0 = w' from takesKey_b mSave _ rfl)
  have HTV := Lib.hid (show ∀ w0, Calls Try.prog 34 #[.string ⟨#[83, 97, 118, 101]⟩] w0 fun e w' => e = .returned (.bool false) ∧ w0 = w' from takesValue_b mSave _ rfl)
  have HTT := Lib.hid (show ∀ w0, Calls Try.prog 36 #[.string ⟨#[83, 97, 118, 101]⟩] w0 fun e w' => e = .returned (.bool false) ∧ w0 = w' from takesText_b mSave _ rfl)
  clear p1 p2 p3 p4 p5
  have HB0 := Lib.hid (show ∀ o, Below w.heap.size w (w.alloc o) from fun o => (Below.refl w.heap.size w).alloc (Nat.le_refl _) o)
  go_enter Try.func21, Try.ntmps21
  go_wp2_with fail
  refine (HIC.out _).mono ?_
  rintro e w1 ⟨rfl, hb⟩
  have HB := Lib.hid ((HB0.out _).trans (hb.mono (HB0.out _).size))
  obtain ⟨hcc, _⟩ := bcell hb
  simp at hcc
  have c0 := hcc w.heap.size 0 (by omega)
  have c1 := hcc w.heap.size 1 (by omega)
  have c2 := hcc w.heap.size 2 (by omega)
  have c3 := hcc w.heap.size 3 (by omega)
  simp at c0 c1 c2 c3
  have hlt : w.heap.size < w1.heap.size := by have h := hb.size; simp at h; omega
  have HLT := Lib.hid hlt
  clear hb hcc
  have HO0 := Lib.hid (owns_one w1 w1.heap.size ⟨#[83, 97, 118, 101]⟩ (Nat.le_refl _))
  have HA0 := Lib.hid (show ∀ o, Below w1.heap.size w1 (w1.alloc o) from fun o => (Below.refl w1.heap.size w1).alloc (Nat.le_refl _) o)
  go_wp2_with (first | (go_at_call 32; refine (HTK.out _).mono ?_; rintro e w8 ⟨rfl, rfl⟩) | (go_at_call 34; refine (HTV.out _).mono ?_; rintro e w8 ⟨rfl, rfl⟩) | (go_at_call 36; refine (HTT.out _).mono ?_; rintro e w8 ⟨rfl, rfl⟩))
  refine (implJoin_any _ [mSave] ⟨#[32]⟩ _ (owns_row HO0.out (by simp)) (by rw [joinL_one]; decide) (by decide)).mono ?_
  rintro e w9 ⟨rfl, hb9⟩
  go_wp2_with fail
  go_ret
  exact ⟨ret_str (by rw [HF.out]; exact HW.out), HB.out.trans (((HA0.out (.cells #[.string ⟨#[83, 97, 118, 101]⟩] 9)).trans (hb9.mono (HA0.out (.cells #[.string ⟨#[83, 97, 118, 101]⟩] 9)).size)).mono HB.out.size)⟩
set_option maxRecDepth 100000 in
set_option maxHeartbeats 1600000 in
theorem implFormatCall_Heal (key : List UInt8) (v : Int) (text : List UInt8) (w : World) (hk : key.length ≤ maxLen) (ht : text.length ≤ 1048576) (hc : callB ⟨mHeal, key, v, text⟩ = true) :
    Calls Try.prog 21 #[.agg #[.string ⟨#[72, 101, 97, 108]⟩, .string ⟨key.toArray⟩, .int .i64 v, .string ⟨text.toArray⟩]] w fun e w' => e = .returned (.string ⟨(fmtCall ⟨mHeal, key, v, text⟩).toArray⟩) ∧ Below w.heap.size w w' := by
  have HIC := Lib.hid (fun w0 => implIsCall_any ⟨mHeal, key, v, text⟩ w0 hk)
  rw [hc] at HIC
  unfold vCall at HIC
  simp only at HIC
  obtain ⟨p1, p2, p3, p4, p5⟩ := callB_parts hc
  have HF := Lib.hid (fmtCall_yes hc)
  clear hc
  obtain rfl : key = [] := p2 rfl
  obtain rfl : v = 0 := p4 rfl
  obtain rfl : text = [] := p5 rfl
  have HW := Lib.hid (show joinL [mHeal] [32] = joinL (wordsC ⟨mHeal, [], 0, []⟩) [32] from rfl)
  have HTK := Lib.hid (show ∀ w0, Calls Try.prog 32 #[.string ⟨#[72, 101, 97, 108]⟩] w0 fun e w' => e = .returned (.bool false) ∧ w0 = w' from takesKey_b mHeal _ rfl)
  have HTV := Lib.hid (show ∀ w0, Calls Try.prog 34 #[.string ⟨#[72, 101, 97, 108]⟩] w0 fun e w' => e = .returned (.bool false) ∧ w0 = w' from takesValue_b mHeal _ rfl)
  have HTT := Lib.hid (show ∀ w0, Calls Try.prog 36 #[.string ⟨#[72, 101, 97, 108]⟩] w0 fun e w' => e = .returned (.bool false) ∧ w0 = w' from takesText_b mHeal _ rfl)
  clear p1 p2 p3 p4 p5
  have HB0 := Lib.hid (show ∀ o, Below w.heap.size w (w.alloc o) from fun o => (Below.refl w.heap.size w).alloc (Nat.le_refl _) o)
  go_enter Try.func21, Try.ntmps21
  go_wp2_with fail
  refine (HIC.out _).mono ?_
  rintro e w1 ⟨rfl, hb⟩
  have HB := Lib.hid ((HB0.out _).trans (hb.mono (HB0.out _).size))
  obtain ⟨hcc, _⟩ := bcell hb
  simp at hcc
  have c0 := hcc w.heap.size 0 (by omega)
  have c1 := hcc w.heap.size 1 (by omega)
  have c2 := hcc w.heap.size 2 (by omega)
  have c3 := hcc w.heap.size 3 (by omega)
  simp at c0 c1 c2 c3
  have hlt : w.heap.size < w1.heap.size := by have h := hb.size; simp at h; omega
  have HLT := Lib.hid hlt
  clear hb hcc
  have HO0 := Lib.hid (owns_one w1 w1.heap.size ⟨#[72, 101, 97, 108]⟩ (Nat.le_refl _))
  have HA0 := Lib.hid (show ∀ o, Below w1.heap.size w1 (w1.alloc o) from fun o => (Below.refl w1.heap.size w1).alloc (Nat.le_refl _) o)
  go_wp2_with (first | (go_at_call 32; refine (HTK.out _).mono ?_; rintro e w8 ⟨rfl, rfl⟩) | (go_at_call 34; refine (HTV.out _).mono ?_; rintro e w8 ⟨rfl, rfl⟩) | (go_at_call 36; refine (HTT.out _).mono ?_; rintro e w8 ⟨rfl, rfl⟩))
  refine (implJoin_any _ [mHeal] ⟨#[32]⟩ _ (owns_row HO0.out (by simp)) (by rw [joinL_one]; decide) (by decide)).mono ?_
  rintro e w9 ⟨rfl, hb9⟩
  go_wp2_with fail
  go_ret
  exact ⟨ret_str (by rw [HF.out]; exact HW.out), HB.out.trans (((HA0.out (.cells #[.string ⟨#[72, 101, 97, 108]⟩] 9)).trans (hb9.mono (HA0.out (.cells #[.string ⟨#[72, 101, 97, 108]⟩] 9)).size)).mono HB.out.size)⟩
set_option maxHeartbeats 1600000 in
theorem implFormatCall_any (d : CallD) (w : World) (hk : d.fKey.length ≤ maxLen) (ht : d.fText.length ≤ 1048576) :
    Calls Try.prog 21 #[vCall d] w fun e w' => e = .returned (.string ⟨(fmtCall d).toArray⟩) ∧ Below w.heap.size w w' := by
  cases hc : callB d with
  | false =>
    have HF := Lib.hid (fmtCall_no hc)
    have HIC := Lib.hid (fun w0 => implIsCall_any d w0 hk)
    rw [hc] at HIC
    clear hc
    obtain ⟨m, key, v, text⟩ := d
    unfold vCall at *
    simp only at *
    have HB0 := Lib.hid (show ∀ o, Below w.heap.size w (w.alloc o) from fun o => (Below.refl w.heap.size w).alloc (Nat.le_refl _) o)
    go_enter Try.func21, Try.ntmps21
    go_wp2_with fail
    refine (HIC.out _).mono ?_
    rintro e w1 ⟨rfl, hb⟩
    have HB := Lib.hid ((HB0.out _).trans (hb.mono (HB0.out _).size))
    clear hb
    go_wp2_with fail
    go_ret
    exact ⟨ret_str (by rw [HF.out]), HB.out⟩
  | true =>
    obtain ⟨m, key, v, text⟩ := d
    rcases meth_cases m with rfl | rfl | rfl | rfl | rfl | rfl | rfl | rfl | rfl | ⟨hw, _⟩
    · exact implFormatCall_Start key v text w hk ht hc
    · exact implFormatCall_Stop key v text w hk ht hc
    · exact implFormatCall_Get key v text w hk ht hc
    · exact implFormatCall_Put key v text w hk ht hc
    · exact implFormatCall_Tell key v text w hk ht hc
    · exact implFormatCall_Hear key v text w hk ht hc
    · exact implFormatCall_Load key v text w hk ht hc
    · exact implFormatCall_Save key v text w hk ht hc
    · exact implFormatCall_Heal key v text w hk ht hc
    · exfalso; unfold callB at hc; simp only at hc; rw [hw] at hc; simp at hc
end Go.Proofs.Ytmgfokikkhfibab
