/- FnBreaks: a core that is started while it is on is broken, and answers so until it is healed, at every code that is drawn from. No condition. -/
import Derived.Test.YtandbnpgccpcoaaGreatCallWantsFnM3
import Derived.Test.YtandbnpgccpcoaaGreatCallWantsFnM0
import Derived.Test.YtandbnpgccpcoaaGreatCallWantsFnM1
import Derived.Test.YtandbnpgccpcoaaGreatCallWantsFnM2
import Derived.HandedShaped
import Derived.Deep.CutRange
import Derived.Deep.QuietTactic
import Derived.BigQuiet
/- The program's IsCall, method by method: the last three; whatever the method is. Written by gen/ch3calls.py. -/
namespace Go.Proofs.YtandbnpgccpcoaaGreat
set_option linter.unusedVariables false
open Go.RowKit
set_option maxRecDepth 100000 in
set_option maxHeartbeats 3200000 in
theorem implIsCall_Load (key : List UInt8) (v : Int) (text : List UInt8) (w : World) (hk : key.length ≤ maxLen) :
    Calls Tryz.prog 32 #[.agg #[.string ⟨#[76, 111, 97, 100]⟩, .string ⟨key.toArray⟩, .int .i64 v, .string ⟨text.toArray⟩]] w fun e w' => e = .returned (.bool (callB ⟨mLoad, key, v, text⟩)) ∧ Below w.heap.size w w' := by
  have HR := Lib.hid (show callB ⟨mLoad, key, v, text⟩ = (key.isEmpty && (v == 0) && (text.isEmpty || true)) from rfl)
  have HW := Lib.hid (show ∀ w0, Calls Tryz.prog 35 #[.string ⟨#[76, 111, 97, 100]⟩] w0 fun e w' => e = .returned (.int .i64 16) ∧ Below w0.heap.size w0 w' from fun w0 => implWant_b mLoad 16 rfl w0)
  have HTK := Lib.hid (show ∀ w0, Calls Tryz.prog 62 #[.string ⟨#[76, 111, 97, 100]⟩] w0 fun e w' => e = .returned (.bool false) ∧ w0 = w' from takesKey_b mLoad _ rfl)
  have HTV := Lib.hid (show ∀ w0, Calls Tryz.prog 64 #[.string ⟨#[76, 111, 97, 100]⟩] w0 fun e w' => e = .returned (.bool false) ∧ w0 = w' from takesValue_b mLoad _ rfl)
  have HTT := Lib.hid (show ∀ w0, Calls Tryz.prog 65 #[.string ⟨#[76, 111, 97, 100]⟩] w0 fun e w' => e = .returned (.bool true) ∧ w0 = w' from takesText_b mLoad _ rfl)
  generalize callB ⟨mLoad, key, v, text⟩ = res at *
  clear hk
  have HB0 := Lib.hid (show ∀ o, Below w.heap.size w (w.alloc o) from fun o => (Below.refl w.heap.size w).alloc (Nat.le_refl _) o)
  go_enter Tryz.func32, Tryz.ntmps32
  go_wp2_with fail
  refine (HW.out _).mono ?_
  rintro e w1 ⟨rfl, hb⟩
  have HB := Lib.hid ((HB0.out _).trans (hb.mono (HB0.out _).size))
  obtain ⟨hcc, _⟩ := bcell hb
  simp at hcc
  have c0 := hcc w.heap.size 0 (by omega)
  have c1 := hcc w.heap.size 1 (by omega)
  have c2 := hcc w.heap.size 2 (by omega)
  have c3 := hcc w.heap.size 3 (by omega)
  simp at c0 c1 c2 c3
  clear hb hcc
  cases key <;> cases text
  all_goals
    by_cases h0 : v = 0
    · subst h0
      go_wp2_with (first | (go_at_call 62; (with_reducible refine (HTK.out _).mono ?_); rintro e w' ⟨rfl, rfl⟩) | (go_at_call 64; (with_reducible refine (HTV.out _).mono ?_); rintro e w' ⟨rfl, rfl⟩) | (go_at_call 65; (with_reducible refine (HTT.out _).mono ?_); rintro e w' ⟨rfl, rfl⟩))
      go_ret
      exact ⟨ret_bool (by rw [HR.out]; rfl), HB.out⟩
    · have hv0 : (v == 0) = false := by simpa using h0
      rw [hv0] at HR
      clear h0
      go_wp2_with (first | (go_at_call 62; (with_reducible refine (HTK.out _).mono ?_); rintro e w' ⟨rfl, rfl⟩) | (go_at_call 64; (with_reducible refine (HTV.out _).mono ?_); rintro e w' ⟨rfl, rfl⟩) | (go_at_call 65; (with_reducible refine (HTT.out _).mono ?_); rintro e w' ⟨rfl, rfl⟩))
      go_ret
      exact ⟨ret_bool (by rw [HR.out]; rfl), HB.out⟩
set_option maxRecDepth 100000 in
set_option maxHeartbeats 3200000 in
theorem implIsCall_Save (key : List UInt8) (v : Int) (text : List UInt8) (w : World) (hk : key.length ≤ maxLen) :
    Calls Tryz.prog 32 #[.agg #[.string ⟨#[83, 97, 118, 101]⟩, .string ⟨key.toArray⟩, .int .i64 v, .string ⟨text.toArray⟩]] w fun e w' => e = .returned (.bool (callB ⟨mSave, key, v, text⟩)) ∧ Below w.heap.size w w' := by
  have HR := Lib.hid (show callB ⟨mSave, key, v, text⟩ = (key.isEmpty && (v == 0) && (text.isEmpty || false)) from rfl)
  have HW := Lib.hid (show ∀ w0, Calls Tryz.prog 35 #[.string ⟨#[83, 97, 118, 101]⟩] w0 fun e w' => e = .returned (.int .i64 16) ∧ Below w0.heap.size w0 w' from fun w0 => implWant_b mSave 16 rfl w0)
  have HTK := Lib.hid (show ∀ w0, Calls Tryz.prog 62 #[.string ⟨#[83, 97, 118, 101]⟩] w0 fun e w' => e = .returned (.bool false) ∧ w0 = w' from takesKey_b mSave _ rfl)
  have HTV := Lib.hid (show ∀ w0, Calls Tryz.prog 64 #[.string ⟨#[83, 97, 118, 101]⟩] w0 fun e w' => e = .returned (.bool false) ∧ w0 = w' from takesValue_b mSave _ rfl)
  have HTT := Lib.hid (show ∀ w0, Calls Tryz.prog 65 #[.string ⟨#[83, 97, 118, 101]⟩] w0 fun e w' => e = .returned (.bool false) ∧ w0 = w' from takesText_b mSave _ rfl)
  generalize callB ⟨mSave, key, v, text⟩ = res at *
  clear hk
  have HB0 := Lib.hid (show ∀ o, Below w.heap.size w (w.alloc o) from fun o => (Below.refl w.heap.size w).alloc (Nat.le_refl _) o)
  go_enter Tryz.func32, Tryz.ntmps32
  go_wp2_with fail
  refine (HW.out _).mono ?_
  rintro e w1 ⟨rfl, hb⟩
  have HB := Lib.hid ((HB0.out _).trans (hb.mono (HB0.out _).size))
  obtain ⟨hcc, _⟩ := bcell hb
  simp at hcc
  have c0 := hcc w.heap.size 0 (by omega)
  have c1 := hcc w.heap.size 1 (by omega)
  have c2 := hcc w.heap.size 2 (by omega)
  have c3 := hcc w.heap.size 3 (by omega)
  simp at c0 c1 c2 c3
  clear hb hcc
  cases key <;> cases text
  all_goals
    by_cases h0 : v = 0
    · subst h0
      go_wp2_with (first | (go_at_call 62; (with_reducible refine (HTK.out _).mono ?_); rintro e w' ⟨rfl, rfl⟩) | (go_at_call 64; (with_reducible refine (HTV.out _).mono ?_); rintro e w' ⟨rfl, rfl⟩) | (go_at_call 65; (with_reducible refine (HTT.out _).mono ?_); rintro e w' ⟨rfl, rfl⟩))
      go_ret
      exact ⟨ret_bool (by rw [HR.out]; rfl), HB.out⟩
    · have hv0 : (v == 0) = false := by simpa using h0
      rw [hv0] at HR
      clear h0
      go_wp2_with (first | (go_at_call 62; (with_reducible refine (HTK.out _).mono ?_); rintro e w' ⟨rfl, rfl⟩) | (go_at_call 64; (with_reducible refine (HTV.out _).mono ?_); rintro e w' ⟨rfl, rfl⟩) | (go_at_call 65; (with_reducible refine (HTT.out _).mono ?_); rintro e w' ⟨rfl, rfl⟩))
      go_ret
      exact ⟨ret_bool (by rw [HR.out]; rfl), HB.out⟩
set_option maxRecDepth 100000 in
set_option maxHeartbeats 3200000 in
theorem implIsCall_Heal (key : List UInt8) (v : Int) (text : List UInt8) (w : World) (hk : key.length ≤ maxLen) :
    Calls Tryz.prog 32 #[.agg #[.string ⟨#[72, 101, 97, 108]⟩, .string ⟨key.toArray⟩, .int .i64 v, .string ⟨text.toArray⟩]] w fun e w' => e = .returned (.bool (callB ⟨mHeal, key, v, text⟩)) ∧ Below w.heap.size w w' := by
  have HR := Lib.hid (show callB ⟨mHeal, key, v, text⟩ = (key.isEmpty && (v == 0) && (text.isEmpty || false)) from rfl)
  have HW := Lib.hid (show ∀ w0, Calls Tryz.prog 35 #[.string ⟨#[72, 101, 97, 108]⟩] w0 fun e w' => e = .returned (.int .i64 32) ∧ Below w0.heap.size w0 w' from fun w0 => implWant_b mHeal 32 rfl w0)
  have HTK := Lib.hid (show ∀ w0, Calls Tryz.prog 62 #[.string ⟨#[72, 101, 97, 108]⟩] w0 fun e w' => e = .returned (.bool false) ∧ w0 = w' from takesKey_b mHeal _ rfl)
  have HTV := Lib.hid (show ∀ w0, Calls Tryz.prog 64 #[.string ⟨#[72, 101, 97, 108]⟩] w0 fun e w' => e = .returned (.bool false) ∧ w0 = w' from takesValue_b mHeal _ rfl)
  have HTT := Lib.hid (show ∀ w0, Calls Tryz.prog 65 #[.string ⟨#[72, 101, 97, 108]⟩] w0 fun e w' => e = .returned (.bool false) ∧ w0 = w' from takesText_b mHeal _ rfl)
  generalize callB ⟨mHeal, key, v, text⟩ = res at *
  clear hk
  have HB0 := Lib.hid (show ∀ o, Below w.heap.size w (w.alloc o) from fun o => (Below.refl w.heap.size w).alloc (Nat.le_refl _) o)
  go_enter Tryz.func32, Tryz.ntmps32
  go_wp2_with fail
  refine (HW.out _).mono ?_
  rintro e w1 ⟨rfl, hb⟩
  have HB := Lib.hid ((HB0.out _).trans (hb.mono (HB0.out _).size))
  obtain ⟨hcc, _⟩ := bcell hb
  simp at hcc
  have c0 := hcc w.heap.size 0 (by omega)
  have c1 := hcc w.heap.size 1 (by omega)
  have c2 := hcc w.heap.size 2 (by omega)
  have c3 := hcc w.heap.size 3 (by omega)
  simp at c0 c1 c2 c3
  clear hb hcc
  cases key <;> cases text
  all_goals
    by_cases h0 : v = 0
    · subst h0
      go_wp2_with (first | (go_at_call 62; (with_reducible refine (HTK.out _).mono ?_); rintro e w' ⟨rfl, rfl⟩) | (go_at_call 64; (with_reducible refine (HTV.out _).mono ?_); rintro e w' ⟨rfl, rfl⟩) | (go_at_call 65; (with_reducible refine (HTT.out _).mono ?_); rintro e w' ⟨rfl, rfl⟩))
      go_ret
      exact ⟨ret_bool (by rw [HR.out]; rfl), HB.out⟩
    · have hv0 : (v == 0) = false := by simpa using h0
      rw [hv0] at HR
      clear h0
      go_wp2_with (first | (go_at_call 62; (with_reducible refine (HTK.out _).mono ?_); rintro e w' ⟨rfl, rfl⟩) | (go_at_call 64; (with_reducible refine (HTV.out _).mono ?_); rintro e w' ⟨rfl, rfl⟩) | (go_at_call 65; (with_reducible refine (HTT.out _).mono ?_); rintro e w' ⟨rfl, rfl⟩))
      go_ret
      exact ⟨ret_bool (by rw [HR.out]; rfl), HB.out⟩
set_option maxRecDepth 100000 in
set_option maxHeartbeats 1600000 in
theorem implIsCall_any (d : CallD) (w : World) (hk : d.fKey.length ≤ maxLen) :
    Calls Tryz.prog 32 #[vCall d] w fun e w' => e = .returned (.bool (callB d)) ∧ Below w.heap.size w w' := by
  obtain ⟨m, key, v, text⟩ := d
  unfold vCall
  simp only at *
  rcases meth_cases m with rfl | rfl | rfl | rfl | rfl | rfl | rfl | rfl | rfl | ⟨hw, hStart, hStop, hGet, hPut, hTell, hHear, hLoad, hSave, hHeal⟩
  · exact implIsCall_Start key v text w hk
  · exact implIsCall_Stop key v text w hk
  · exact implIsCall_Get key v text w hk
  · exact implIsCall_Put key v text w hk
  · exact implIsCall_Tell key v text w hk
  · exact implIsCall_Hear key v text w hk
  · exact implIsCall_Load key v text w hk
  · exact implIsCall_Save key v text w hk
  · exact implIsCall_Heal key v text w hk
  · have HR := Lib.hid (show callB ⟨m, key, v, text⟩ = false by unfold callB; simp only; rw [hw]; rfl)
    have bGet : (m == [71, 101, 116]) = false := by simpa using hGet
    have bPut : (m == [80, 117, 116]) = false := by simpa using hPut
    have bHear : (m == [72, 101, 97, 114]) = false := by simpa using hHear
    have bLoad : (m == [76, 111, 97, 100]) = false := by simpa using hLoad
    have HW := Lib.hid (implWant_b m 0 hw)
    have HB0 := Lib.hid (show ∀ o, Below w.heap.size w (w.alloc o) from fun o => (Below.refl w.heap.size w).alloc (Nat.le_refl _) o)
    generalize callB ⟨m, key, v, text⟩ = res at *
    clear hw hk hStart hStop hGet hPut hTell hHear hLoad hSave hHeal
    go_enter Tryz.func32, Tryz.ntmps32
    go_wp2_with fail
    refine (HW.out _).mono ?_
    rintro e w1 ⟨rfl, hb⟩
    have HB := Lib.hid ((HB0.out _).trans (hb.mono (HB0.out _).size))
    clear hb
    go_wp2_with fail
    go_ret
    exact ⟨ret_bool HR.out.symm, HB.out⟩
end Go.Proofs.YtandbnpgccpcoaaGreat
/- changeCore, CallCore: the program's (over what Put does). -/
namespace Go.Proofs.YtandbnpgccpcoaaGreat
set_option linter.unusedVariables false
set_option linter.unusedSimpArgs false
open Go.RowKit
theorem implIsCore_b (v : Value) (d : CoreD) (q : Bool) (hq : coreB d = q) (w : World) (hx : CoreAt w v d) (hs : ∀ c ∈ d.fCells, c.fKey.length ≤ maxLen) :
    Calls Tryz.prog 31 #[v] w fun e w' => e = .returned (.bool q) ∧ Below w.heap.size w w' := by subst hq; exact implIsCore_any v d w hx hs
theorem implIsCall_b (d : CallD) (q : Bool) (hq : callB d = q) (w : World) (hk : d.fKey.length ≤ maxLen) :
    Calls Tryz.prog 32 #[vCall d] w fun e w' => e = .returned (.bool q) ∧ Below w.heap.size w w' := by subst hq; exact implIsCall_any d w hk
set_option maxRecDepth 100000 in
set_option maxHeartbeats 3200000 in
theorem change_bad1 (N b : Nat) (cv : Value) (d : CoreD) (x : CallD) (mx : Int) (w : World) (P : Pre N b cv d x mx w) (hv : coreB d = false) :
    Calls Tryz.prog 50 #[.pointer (some ⟨b, 0, none⟩), vCall x] w fun e w' => Does N b cv (doD d x) w e w' := by
  have HS := Lib.hid P.st
  have HB := Lib.hid P.st.box
  have hl0 := P.st.box.lt
  have HX := Lib.hid (ownsF_at P.st.own P.hm)
  obtain ⟨c0, c1, c2, c3, c4, z1, z2, z3, z4⟩ := P.st.box
  have HD := Lib.hid (fun w' (hw : Below w.heap.size w w') => show CoreBox w' b cv d ∧ Kept2 w w' (some b) none from ⟨HB.out.keep (hw.block b hl0), Kept2.of_below hw⟩)
  have HI := Lib.hid (fun w' (hw : Below w.heap.size w w') => implIsCore_b (vCore d cv) d false hv w' ⟨cv, rfl, HX.out.below hw (Nat.le_refl _)⟩ P.hs)
  have HG := Lib.hid (show doD d x = (d, rC 7) from if_neg (by rw [hv]; simp))
  generalize doD d x = out at *
  clear hv P
  obtain ⟨kd, on, br, l, cnt⟩ := d
  obtain ⟨m, k, n, t⟩ := x
  unfold vCore at HI
  unfold vCall
  simp only at *
  have hl1 : b < w.heap.size + 1 := by omega
  have hl2 : b < w.heap.size + 1 + 1 := by omega
  have hn0 : ¬ b = w.heap.size := by omega
  have hn1 : ¬ b = w.heap.size + 1 := by omega
  have hap := @past_cell b
  have HB2 := Lib.hid (show ∀ o1 o2, Below w.heap.size w ((w.alloc o1).alloc o2) from fun o1 o2 => ((Below.refl _ _).alloc (Nat.le_refl _) _).alloc (by simp) _)
  go_enter Tryz.func50, Tryz.ntmps50
  go_wp2_with fail
  refine (HI.out _ (HB2.out _ _)).mono ?_
  rintro e w1 ⟨rfl, hb⟩
  have HB3 := Lib.hid ((HB2.out _ _).trans (hb.mono (HB2.out _ _).size))
  obtain ⟨hcc, hff⟩ := bcell hb
  simp at hcc hff
  have hsz := hb.size
  simp at hsz
  clear hb
  go_wp2_with fail
  refine bodyPost_ret (v := vReply (rC 7)) (by simp [results, Tryz.results50, go_sem, vReply, rC, rV, rT, cell_set_at, cell_set_ne, hcc]) rfl ?_
  refine does_of (d' := ⟨kd, on, br, l, cnt⟩) (r := rC 7) HS.out ?_ rfl ?_ HG.out rfl
  · exact (HD.out _ (by repeat (first | with_reducible exact HB3.out | with_reducible refine Below.setCell ?_ (by simp; try omega) _)) ).1
  · exact (HD.out _ (by repeat (first | with_reducible exact HB3.out | with_reducible refine Below.setCell ?_ (by simp; try omega) _)) ).2
set_option maxRecDepth 100000 in
set_option maxHeartbeats 3200000 in
theorem change_bad2 (N b : Nat) (cv : Value) (d : CoreD) (x : CallD) (mx : Int) (w : World) (P : Pre N b cv d x mx w) (hv : coreB d = true) (hc : callB x = false) :
    Calls Tryz.prog 50 #[.pointer (some ⟨b, 0, none⟩), vCall x] w fun e w' => Does N b cv (doD d x) w e w' := by
  have HS := Lib.hid P.st
  have HB := Lib.hid P.st.box
  have hl0 := P.st.box.lt
  have HX := Lib.hid (ownsF_at P.st.own P.hm)
  obtain ⟨c0, c1, c2, c3, c4, z1, z2, z3, z4⟩ := P.st.box
  have HD := Lib.hid (fun w' (hw : Below w.heap.size w w') => show CoreBox w' b cv d ∧ Kept2 w w' (some b) none from ⟨HB.out.keep (hw.block b hl0), Kept2.of_below hw⟩)
  have HI := Lib.hid (fun w' (hw : Below w.heap.size w w') => implIsCore_b (vCore d cv) d true hv w' ⟨cv, rfl, HX.out.below hw (Nat.le_refl _)⟩ P.hs)
  have HJ := Lib.hid (fun w' => implIsCall_b x false hc w' P.hk)
  have HG := Lib.hid (show doD d x = (d, rC 7) from if_neg (by rw [hc]; simp))
  generalize doD d x = out at *
  clear hv hc P
  obtain ⟨kd, on, br, l, cnt⟩ := d
  obtain ⟨m, k, n, t⟩ := x
  unfold vCore at HI
  unfold vCall at HJ ⊢
  simp only at *
  have hl1 : b < w.heap.size + 1 := by omega
  have hl2 : b < w.heap.size + 1 + 1 := by omega
  have hn0 : ¬ b = w.heap.size := by omega
  have hn1 : ¬ b = w.heap.size + 1 := by omega
  have hap := @past_cell b
  have HB2 := Lib.hid (show ∀ o1 o2, Below w.heap.size w ((w.alloc o1).alloc o2) from fun o1 o2 => ((Below.refl _ _).alloc (Nat.le_refl _) _).alloc (by simp) _)
  go_enter Tryz.func50, Tryz.ntmps50
  go_wp2_with fail
  refine (HI.out _ (HB2.out _ _)).mono ?_
  rintro e w1 ⟨rfl, hb⟩
  have HB3 := Lib.hid ((HB2.out _ _).trans (hb.mono (HB2.out _ _).size))
  obtain ⟨hcc, hff⟩ := bcell hb
  simp at hcc hff
  have hsz := hb.size
  simp at hsz
  clear hb
  go_wp2_with fail
  refine (HJ.out _).mono ?_
  rintro e w2 ⟨rfl, hb⟩
  have HB4 := Lib.hid (HB3.out.trans (hb.mono HB3.out.size))
  obtain ⟨hcd, hfd⟩ := bcell hb
  have hsz2 := hb.size
  have hq1 : w.heap.size < w1.heap.size := by omega
  have hq2 : w.heap.size + 1 < w1.heap.size := by omega
  clear hb
  go_wp2_with fail
  refine bodyPost_ret (v := vReply (rC 7)) (by simp [results, Tryz.results50, go_sem, vReply, rC, rV, rT, cell_set_at, cell_set_ne, hcd, hcc, hq1, hq2]) rfl ?_
  refine does_of (d' := ⟨kd, on, br, l, cnt⟩) (r := rC 7) HS.out ?_ rfl ?_ HG.out rfl
  · exact (HD.out _ (by repeat (first | with_reducible exact HB4.out | with_reducible refine Below.setCell ?_ (by simp; try omega) _)) ).1
  · exact (HD.out _ (by repeat (first | with_reducible exact HB4.out | with_reducible refine Below.setCell ?_ (by simp; try omega) _)) ).2
end Go.Proofs.YtandbnpgccpcoaaGreat
/- A core's methods: Put of a key that is not there. -/
namespace Go.Proofs.YtandbnpgccpcoaaGreat
set_option linter.unusedVariables false
set_option linter.unusedSimpArgs false
open Go.RowKit
set_option maxRecDepth 100000 in
set_option maxHeartbeats 3200000 in
theorem put_new (N b : Nat) (cv : Value) (d : CoreD) (key : List UInt8) (n : Int) (w : World) (h : CoreSt N b cv d w) (hr : -9223372036854775808 ≤ d.fCount) (h4 : d.fCells.length < 4) (hk : key.length ≤ 1048576) (hi : idleI d = 0) (hf : fnd d.fCells key = false) :
    Calls Tryz.prog 147 #[.agg #[.pointer (some ⟨b, 0, none⟩)], .string ⟨key.toArray⟩, .int .i64 n] w fun e w' => Does N b cv (putD d key n) w e w' := by
  have HS := Lib.hid h
  have HB := Lib.hid h.box
  have hl0 := h.box.lt
  have HX := Lib.hid (ownsF_at h.own (by omega))
  obtain ⟨c0, c1, c2, c3, c4, z1, z2, z3, z4⟩ := h.box
  have hne := h.ne
  clear h
  have HD := Lib.hid (fun w' (hw : Below w.heap.size w w') => show CoreBox w' b cv d ∧ Kept2 w w' (some b) none from ⟨HB.out.keep (hw.block b hl0), Kept2.of_below hw⟩)
  have HI := Lib.hid (fun w' (hw : Below w.heap.size w w') => idle_c b cv d w' (HD.out w' hw).1)
  have HF := Lib.hid (fun w' (hw : Below w.heap.size w w') => find_c cv d.fCells key w' (HX.out.below hw (Nat.le_refl _)))
  rw [hi] at HI
  rw [hf] at HF
  have HG := Lib.hid (show putD d key n = ({ d with fCells := putC d.fCells key n, fCount := upI d.fCount }, rV (putC d.fCells key n).length) from by unfold putD; rw [if_pos hi, if_pos (Or.inr h4)])
  have HP := Lib.hid (show putC d.fCells key n = d.fCells.take (plc d.fCells key) ++ ⟨key, n⟩ :: d.fCells.drop (plc d.fCells key) from putC_new _ _ _ hf)
  have hple := plc_le d.fCells key
  have HLN := Lib.hid (show (putC d.fCells key n).length = d.fCells.length + 1 from by rw [putC_len, hf]; rfl)
  clear hf hi
  generalize putD d key n = out at *
  generalize plc d.fCells key = p at *
  generalize putC d.fCells key n = l2 at *
  obtain ⟨kd, on, br, l, cnt⟩ := d
  simp only at *
  have hl1 : b < w.heap.size + 1 := by omega
  have hl2 : b < w.heap.size + 1 + 1 := by omega
  have hn0 : ¬ b = w.heap.size := by omega
  have hn1 : ¬ b = w.heap.size + 1 := by omega
  have hap := @past_cell b
  have haf := @past_frozen b
  have HB2 := Lib.hid (show ∀ o1 o2, Below w.heap.size w ((w.alloc o1).alloc o2) from fun o1 o2 => ((Below.refl _ _).alloc (Nat.le_refl _) _).alloc (by simp) _)
  obtain ⟨ca, cc, rfl⟩ := slice_of HS.out.own
  simp only at *
  have h5 : ¬ (4 : Int) ≤ (l.length : Int) := by omega
  have HCT := Lib.hid (fun W => copyText_any ⟨key.toArray⟩ W (by rw [← size_list]; simp; omega))
  have HLT := Lib.hid (show ∀ g, (Value.slice ca l.length cc).ownBlock = some g → g < w.heap.size from fun g h => (World.ownsRow.lt HS.out.own g h).2)
  have hge := HS.out.ge
  have hlen : (l.take p ++ (⟨key, n⟩ : CellD) :: l.drop p).length = l.length + 1 := by simp; omega
  go_enter Tryz.func147, Tryz.ntmps147
  go_wp2_with fail
  refine (HI.out _ (HB2.out _ _)).mono ?_
  rintro e w1 ⟨rfl, rfl⟩
  go_wp2_with fail
  refine (HF.out _ (HB2.out _ _)).mono ?_
  rintro e w1 ⟨rfl, hb⟩
  have HB3 := Lib.hid ((HB2.out _ _).trans (hb.mono (HB2.out _ _).size))
  have HO1 := Lib.hid (show OwnsF cCell 66 2 w1 N (.slice ca l.length cc) l from ownsF_below HS.out.own HB3.out (Nat.le_refl _))
  have HBX1 := Lib.hid (HD.out _ HB3.out).1
  have k3 := HBX1.out.c3
  have hsz := hb.size
  simp at hsz
  have g0 : w1.cell? ⟨w.heap.size, 0, none⟩ = some (.pointer (some ⟨b, 0, none⟩)) := (hb.cell (p := ⟨w.heap.size, 0, none⟩) (by simp; try omega)).trans (by simp [go_sem])
  have r0 : w1.cell? ⟨w.heap.size + 1, 0, none⟩ = some (.int .i64 0) := (hb.cell (p := ⟨w.heap.size + 1, 0, none⟩) (by simp)).trans (by simp [go_sem])
  have r1 : w1.cell? ⟨w.heap.size + 1, 1, none⟩ = some (.int .i64 0) := (hb.cell (p := ⟨w.heap.size + 1, 1, none⟩) (by simp)).trans (by simp [go_sem])
  have r2 : w1.cell? ⟨w.heap.size + 1, 2, none⟩ = some (.string ⟨#[]⟩) := (hb.cell (p := ⟨w.heap.size + 1, 2, none⟩) (by simp)).trans (by simp [go_sem])
  have r3 : w1.cell? ⟨w.heap.size + 1, 3, none⟩ = some (.int .i64 0) := (hb.cell (p := ⟨w.heap.size + 1, 3, none⟩) (by simp)).trans (by simp [go_sem])
  have r4 : w1.cell? ⟨w.heap.size + 1, 4, none⟩ = some (.int .i64 0) := (hb.cell (p := ⟨w.heap.size + 1, 4, none⟩) (by simp)).trans (by simp [go_sem])
  have y0 : ∀ o, w1.frozen? ⟨w.heap.size + 1, o, none⟩ = false := fun o => (hb.frozen (p := ⟨w.heap.size + 1, o, none⟩) (by simp)).trans (by simp [go_sem])
  have HR := Lib.hid (And.intro r0 (And.intro r1 (And.intro r2 (And.intro r3 r4))))
  have HY := Lib.hid y0
  have hbw : b < w1.heap.size := by omega
  clear hb c0 c1 c2 c3 c4 z1 z2 z3 z4 r0 r1 r2 r3 r4 y0
  go_wp2_with fail
  have hpn := @past_cell w.heap.size
  refine region_T (S := fun w' => w'.cell? ⟨w.heap.size, 0, none⟩ = some (.pointer (some ⟨b, 0, none⟩)) ∧ w'.cell? ⟨b, 3, none⟩ = some (.slice ca l.length cc)) (t := 16) (by kernel_rfl) ?_ (fun hHeld => ?_)
  · exact ⟨g0, k3⟩
  refine anyT_take (i := 0) (v := ?_) rfl (by kernel_rfl) (by kernel_rfl) (by kernel_rfl) (by kernel_rfl) (by kernel_rfl) (fun _ _ _ h => h) (Or.inl ⟨by rfl, ?_⟩) (by assumption) ?_
  rotate_left
  · intro w hSw; (try dsimp only at hSw); go_simp; with_reducible rfl
  try simp only [Act.put, List.getElem_toArray, List.getElem_cons_zero, List.getElem_cons_succ, List.setIfInBounds_toArray, List.set_cons_zero, List.set_cons_succ]
  refine anyT_take (i := 1) (v := ?_) rfl (by kernel_rfl) (by kernel_rfl) (by kernel_rfl) (by kernel_rfl) (by kernel_rfl) (fun _ _ _ h => h) (Or.inl ⟨by rfl, ?_⟩) (by assumption) ?_
  rotate_left
  · intro w hSw; (try dsimp only at hSw); go_simp; with_reducible rfl
  try simp only [Act.put, List.getElem_toArray, List.getElem_cons_zero, List.getElem_cons_succ, List.setIfInBounds_toArray, List.set_cons_zero, List.set_cons_succ]
  refine anyT_take (i := 2) (v := ?_) rfl (by kernel_rfl) (by kernel_rfl) (by kernel_rfl) (by kernel_rfl) (by kernel_rfl) (fun _ _ _ h => h) (Or.inl ⟨by rfl, ?_⟩) (by assumption) ?_
  rotate_left
  · intro w hSw; (try dsimp only at hSw); go_simp; with_reducible rfl
  try simp only [Act.put, List.getElem_toArray, List.getElem_cons_zero, List.getElem_cons_succ, List.setIfInBounds_toArray, List.set_cons_zero, List.set_cons_succ]
  refine anyT_take (i := 3) (v := ?_) rfl (by kernel_rfl) (by kernel_rfl) (by kernel_rfl) (by kernel_rfl) (by kernel_rfl) (fun _ _ _ h => h) (Or.inl ⟨by rfl, ?_⟩) (by assumption) ?_
  rotate_left
  · intro w hSw; (try dsimp only at hSw); go_simp; with_reducible rfl
  try simp only [Act.put, List.getElem_toArray, List.getElem_cons_zero, List.getElem_cons_succ, List.setIfInBounds_toArray, List.set_cons_zero, List.set_cons_succ]
  refine anyT_take (i := 4) (v := ?_) rfl (by kernel_rfl) (by kernel_rfl) (by kernel_rfl) (by kernel_rfl) (by kernel_rfl) (fun _ _ _ h => h) (Or.inl ⟨by rfl, ?_⟩) (by assumption) ?_
  rotate_left
  · intro w hSw; (try dsimp only at hSw); go_simp; with_reducible rfl
  try simp only [Act.put, List.getElem_toArray, List.getElem_cons_zero, List.getElem_cons_succ, List.setIfInBounds_toArray, List.set_cons_zero, List.set_cons_succ]
  refine anyT_take (i := 5) (v := ?_) rfl (by kernel_rfl) (by kernel_rfl) (by kernel_rfl) (by kernel_rfl) (by kernel_rfl) (fun _ _ _ h => h) (Or.inl ⟨by rfl, ?_⟩) (by assumption) ?_
  rotate_left
  · intro w hSw; (try dsimp only at hSw); go_simp; with_reducible rfl
  try simp only [Act.put, List.getElem_toArray, List.getElem_cons_zero, List.getElem_cons_succ, List.setIfInBounds_toArray, List.set_cons_zero, List.set_cons_succ]
  refine anyT_take (i := 6) (v := ?_) rfl (by kernel_rfl) (by kernel_rfl) (by kernel_rfl) (by kernel_rfl) (by kernel_rfl) (fun _ _ _ h => h) (Or.inl ⟨by rfl, ?_⟩) (by assumption) ?_
  rotate_left
  · intro w hSw; (try dsimp only at hSw); go_simp; with_reducible rfl
  try simp only [Act.put, List.getElem_toArray, List.getElem_cons_zero, List.getElem_cons_succ, List.setIfInBounds_toArray, List.set_cons_zero, List.set_cons_succ]
  refine anyT_take (i := 7) (v := ?_) rfl (by kernel_rfl) (by kernel_rfl) (by kernel_rfl) (by kernel_rfl) (by kernel_rfl) (fun _ _ _ h => h) (Or.inl ⟨by rfl, ?_⟩) (by assumption) ?_
  rotate_left
  · intro w hSw; (try dsimp only at hSw); go_simp; with_reducible rfl
  try simp only [Act.put, List.getElem_toArray, List.getElem_cons_zero, List.getElem_cons_succ, List.setIfInBounds_toArray, List.set_cons_zero, List.set_cons_succ]
  refine anyT_take (i := 8) (v := ?_) rfl (by kernel_rfl) (by kernel_rfl) (by kernel_rfl) (by kernel_rfl) (by kernel_rfl) (fun _ _ _ h => h) (Or.inl ⟨by rfl, ?_⟩) (by assumption) ?_
  rotate_left
  · intro w hSw; (try dsimp only at hSw); go_simp; with_reducible rfl
  try simp only [Act.put, List.getElem_toArray, List.getElem_cons_zero, List.getElem_cons_succ, List.setIfInBounds_toArray, List.set_cons_zero, List.set_cons_succ]
  refine anyT_take (i := 10) (v := ?_) rfl (by kernel_rfl) (by kernel_rfl) (by kernel_rfl) (by kernel_rfl) (by kernel_rfl) (fun _ _ _ h => h) (Or.inl ⟨by rfl, ?_⟩) (by assumption) ?_
  rotate_left
  · intro w hSw; (try dsimp only at hSw); go_simp; with_reducible rfl
  try simp only [Act.put, List.getElem_toArray, List.getElem_cons_zero, List.getElem_cons_succ, List.setIfInBounds_toArray, List.set_cons_zero, List.set_cons_succ]
  refine anyT_only (i := 9) (by kernel_rfl) rfl (fun K hK => ?_)
  go_simp
  go_at_call 84; (with_reducible refine (HCT.out _).mono ?_); rintro e w2 ⟨rfl, hb1⟩; have s2 : w1.heap.size ≤ w2.heap.size := hb1.size; have g2 : w2.cell? ⟨w.heap.size, 0, none⟩ = some (.pointer (some ⟨b, 0, none⟩)) := (hb1.cell (p := ⟨w.heap.size, 0, none⟩) (show w.heap.size < w1.heap.size by omega)).trans g0; have k32 : w2.cell? ⟨b, 3, none⟩ = some (.slice ca l.length cc) := (hb1.cell (p := ⟨b, 3, none⟩) hbw).trans k3; have z32 : w2.frozen? ⟨b, 3, none⟩ = false := (hb1.frozen (p := ⟨b, 3, none⟩) hbw).trans HBX1.out.z3; have hbw2 : b < w2.heap.size := (by omega); have hnw2 : w.heap.size < w2.heap.size := (by omega)
  refine hK.out _ _ ?_ (fun hHeld => ?_)
  · exact ⟨g2, k32⟩
  clear hK K
  try simp only [Act.put, List.getElem_toArray, List.getElem_cons_zero, List.getElem_cons_succ, List.setIfInBounds_toArray, List.set_cons_zero, List.set_cons_succ]
  refine anyT_take (i := 11) (v := ?_) rfl (by kernel_rfl) (by kernel_rfl) (by kernel_rfl) (by kernel_rfl) (by kernel_rfl) (fun _ _ _ h => h) (Or.inl ⟨by rfl, ?_⟩) (by assumption) ?_
  rotate_left
  · intro w hSw; (try dsimp only at hSw); go_simp; with_reducible rfl
  try simp only [Act.put, List.getElem_toArray, List.getElem_cons_zero, List.getElem_cons_succ, List.setIfInBounds_toArray, List.set_cons_zero, List.set_cons_succ]
  refine anyT_only (i := 12) (by kernel_rfl) rfl (fun K hK => ?_)
  go_simp
  skip
  refine hK.out _ _ ?_ (fun hHeld => ?_)
  · exact ⟨(past_cell w2 _ 0 hnw2).trans g2, (past_cell w2 _ 3 hbw2).trans k32⟩
  clear hK K
  try simp only [Act.put, List.getElem_toArray, List.getElem_cons_zero, List.getElem_cons_succ, List.setIfInBounds_toArray, List.set_cons_zero, List.set_cons_succ]
  refine anyT_only (i := 13) (by kernel_rfl) rfl (fun K hK => ?_)
  go_simp
  go_at_call 150; refine (ins_c N _ l p ⟨key, n⟩ w2.heap.size _ (ownsF_alloc (ownsF_below (ownsF_drew HO1.out) hb1 (Nat.le_refl _)) _) hple (by omega) (by simp; omega) (heap_alloc_new w2 _) (fun e => by have := HLT.out _ e; omega)).mono ?_; rintro e w4 ⟨v', rfl, hO4, hg2⟩; have HO4 := Lib.hid hO4; obtain ⟨va, vc, rfl⟩ := slice_len hO4 hlen; clear hO4; have s4 : w2.heap.size + 1 ≤ w4.heap.size := (by have := hg2.size; simpa using this); have b3 : w4.cell? ⟨b, 3, none⟩ = some (.slice ca l.length cc) := (hg2.cell_far ⟨b, 3, none⟩ (by simp; omega) (fun e => hne e.symm)).trans ((past_cell w2 _ 3 hbw2).trans k32); have b0 : w4.cell? ⟨w.heap.size, 0, none⟩ = some (.pointer (some ⟨b, 0, none⟩)) := (hg2.cell_far ⟨w.heap.size, 0, none⟩ (by simp; omega) (fun e => by have h9 := HLT.out _ e.symm; simp at h9)).trans ((past_cell w2 _ 0 hnw2).trans g2); have z3 : w4.frozen? ⟨b, 3, none⟩ = false := (hg2.frozen_far ⟨b, 3, none⟩ (by simp; omega) (fun e => hne e.symm)).trans ((past_frozen w2 _ 3 hbw2).trans z32)
  refine hK.out _ _ ?_ (fun hHeld => ?_)
  · exact ⟨b0, b3⟩
  clear hK K
  try simp only [Act.put, List.getElem_toArray, List.getElem_cons_zero, List.getElem_cons_succ, List.setIfInBounds_toArray, List.set_cons_zero, List.set_cons_succ]
  refine anyT_take (i := 14) (v := ?_) rfl (by kernel_rfl) (by kernel_rfl) (by kernel_rfl) (by kernel_rfl) (by kernel_rfl) (fun _ _ _ h => h) (Or.inl ⟨by rfl, ?_⟩) (by assumption) ?_
  rotate_left
  · intro w hSw; (try dsimp only at hSw); go_simp; with_reducible rfl
  try simp only [Act.put, List.getElem_toArray, List.getElem_cons_zero, List.getElem_cons_succ, List.setIfInBounds_toArray, List.set_cons_zero, List.set_cons_succ]
  refine anyT_take (i := 15) (v := ?_) rfl (by kernel_rfl) (by kernel_rfl) (by kernel_rfl) (by kernel_rfl) (by kernel_rfl) (fun _ _ _ h => h) (Or.inl ⟨by rfl, ?_⟩) (by assumption) ?_
  rotate_left
  · intro w hSw; (try dsimp only at hSw); go_simp; with_reducible rfl
  try simp only [Act.put, List.getElem_toArray, List.getElem_cons_zero, List.getElem_cons_succ, List.setIfInBounds_toArray, List.set_cons_zero, List.set_cons_succ]
  refine anyT_tail (by kernel_rfl) rfl (fun K hK => ?_)
  go_simp
  refine hK.out _ _ ?_
  clear hK K
  try simp only [Act.put, List.getElem_toArray, List.getElem_cons_zero, List.getElem_cons_succ, List.setIfInBounds_toArray, List.set_cons_zero, List.set_cons_succ]
  refine anyT_done (by kernel_rfl) ?_ _
  obtain ⟨r0, r1, r2, r3, r4⟩ := HR.out
  have y0 := HY.out
  have hn1w : w.heap.size + 1 < w1.heap.size := by omega
  have hfar : ∀ o, w4.cell? ⟨w.heap.size + 1, o, none⟩ = w1.cell? ⟨w.heap.size + 1, o, none⟩ := fun o => (hg2.cell_far ⟨w.heap.size + 1, o, none⟩ (by simp; omega) (fun e => by have h9 := HLT.out _ e.symm; simp at h9; omega)).trans ((past_cell w2 _ o (by omega)).trans (hb1.cell (p := ⟨w.heap.size + 1, o, none⟩) hn1w))
  have hfrz : ∀ o, w4.frozen? ⟨w.heap.size + 1, o, none⟩ = w1.frozen? ⟨w.heap.size + 1, o, none⟩ := fun o => (hg2.frozen_far ⟨w.heap.size + 1, o, none⟩ (by simp; omega) (fun e => by have h9 := HLT.out _ e.symm; simp at h9; omega)).trans ((past_frozen w2 _ o (by omega)).trans (hb1.frozen (p := ⟨w.heap.size + 1, o, none⟩) hn1w))
  have BX4 := Lib.hid (show CoreBox w4 b (.slice ca l.length cc) ⟨kd, on, br, l, cnt⟩ from HBX1.out.keep ((hg2.block b (by simp; omega) (fun e => hne e.symm)).trans ((Below.heap_alloc w2 _ b hbw2).trans (hb1.block b hbw))))
  have HK4 := Lib.hid (show Kept2 w w4 (some b) (Value.slice ca l.length cc).ownBlock from (((Kept2.of_below HB3.out).below (show Below w1.heap.size w1 w2 from ⟨hb1.os, hb1.tape, hb1.output, hb1.size, hb1.block⟩)).alloc _).grown hg2)
  have HO5 := Lib.hid (show OwnsF cCell 66 2 w4 N (.slice va (l.length + 1) vc) l2 from by rw [HP.out]; exact HO4.out)
  have hneb : (Value.slice va (l.length + 1) vc).ownBlock ≠ some b := row_not_bool HO5.out (by rw [HLN.out]; omega) BX4.out.c1
  have hnen : (Value.slice va (l.length + 1) vc).ownBlock ≠ some (w.heap.size + 1) := row_not_int HO5.out (by rw [HLN.out]; omega) ((hfar 0).trans r0)
  have S1 := Lib.hid (show CoreSt N b (.slice va (l.length + 1) vc) ⟨kd, on, br, l2, cnt⟩ (w4.setCell ⟨b, 3, none⟩ (.slice va (l.length + 1) vc)) from
    ⟨CoreBox.s3 (cv0 := .slice ca l.length cc) (l0 := l) BX4.out _ _, World.ownsRow.kept HO5.out (row := some b) ⟨rfl, rfl, rfl, by simp, fun i hi hni => Below.heap_setCell w4 _ _ i (fun e => hni (by rw [e]))⟩ (Or.inr hneb), hneb, hge⟩)
  have KS := Lib.hid (Kept2.set (p := ⟨b, 3, none⟩) HK4.out (.slice va (l.length + 1) vc) (Or.inr (Or.inl rfl)))
  have hu : ∀ o, (w4.setCell ⟨b, 3, none⟩ (.slice va (l.length + 1) vc)).cell? ⟨w.heap.size + 1, o, none⟩ = w1.cell? ⟨w.heap.size + 1, o, none⟩ := fun o => (set_blk_cell _ _ _ _ (by simp; omega)).trans (hfar o)
  have hu0 : (w4.setCell ⟨b, 3, none⟩ (.slice va (l.length + 1) vc)).cell? ⟨w.heap.size, 0, none⟩ = some (.pointer (some ⟨b, 0, none⟩)) := (set_blk_cell _ _ _ _ (by simp; omega)).trans b0
  clear hb1 hg2
  go_wp2_with fail
  refine (countUp_c b (.slice va (l.length + 1) vc) ⟨kd, on, br, l2, cnt⟩ _ S1.out.box hr).mono ?_
  rintro e w5 ⟨rfl, hbx, hk5⟩
  have HBX := Lib.hid hbx
  have HK := Lib.hid hk5
  have g5 : w5.cell? ⟨w.heap.size, 0, none⟩ = some (.pointer (some ⟨b, 0, none⟩)) := (hk5.cell (p := ⟨w.heap.size, 0, none⟩) (by simp; omega) (by simp; omega) (by simp)).trans hu0
  have t0 : w5.cell? ⟨w.heap.size + 1, 0, none⟩ = some (.int .i64 0) := (hk5.cell (p := ⟨w.heap.size + 1, 0, none⟩) (by simp; omega) (by simp; omega) (by simp)).trans ((hu 0).trans r0)
  have t1 : w5.cell? ⟨w.heap.size + 1, 1, none⟩ = some (.int .i64 0) := (hk5.cell (p := ⟨w.heap.size + 1, 1, none⟩) (by simp; omega) (by simp; omega) (by simp)).trans ((hu 1).trans r1)
  have t2 : w5.cell? ⟨w.heap.size + 1, 2, none⟩ = some (.string ⟨#[]⟩) := (hk5.cell (p := ⟨w.heap.size + 1, 2, none⟩) (by simp; omega) (by simp; omega) (by simp)).trans ((hu 2).trans r2)
  have t3 : w5.cell? ⟨w.heap.size + 1, 3, none⟩ = some (.int .i64 0) := (hk5.cell (p := ⟨w.heap.size + 1, 3, none⟩) (by simp; omega) (by simp; omega) (by simp)).trans ((hu 3).trans r3)
  have t4 : w5.cell? ⟨w.heap.size + 1, 4, none⟩ = some (.int .i64 0) := (hk5.cell (p := ⟨w.heap.size + 1, 4, none⟩) (by simp; omega) (by simp; omega) (by simp)).trans ((hu 4).trans r4)
  have y5 : ∀ o, w5.frozen? ⟨w.heap.size + 1, o, none⟩ = false := fun o => (hk5.frozen (p := ⟨w.heap.size + 1, o, none⟩) (by simp; omega) (by simp; omega) (by simp)).trans ((frz_set _ _ _ _).trans ((hfrz o).trans (y0 o)))
  have d3 := hbx.c3
  have HFN := Lib.hid (show Fin N b (.slice ca l.length cc) ⟨kd, on, br, l2, upI cnt⟩ (w.heap.size + 1) w w5 from ⟨⟨_, st_count S1.out HBX.out rfl HK.out, hnen⟩, by omega, by omega, KS.out.both HK.out⟩)
  clear hbx hk5 hu hu0 hfar hfrz b0 b3 z3
  go_wp2_with fail
  refine bodyPost_ret (v := vReply (rV (l.length + 1))) (by simp [results, Tryz.results147, go_sem, vReply, rC, rV, rT, cell_set_at, cell_set_ne, t0, t1, t2, t3, t4]) rfl ?_
  rw [HG.out, HLN.out]
  refine fin_does (out := ((⟨kd, on, br, l2, upI cnt⟩ : CoreD), rV ((l.length + 1 : Nat) : Int))) (n := w.heap.size + 1) ?_
  repeat (with_reducible refine fin_set ?_ _ _)
  exact HFN.out
end Go.Proofs.YtandbnpgccpcoaaGreat
/- changeCore, CallCore: the program's. -/
namespace Go.Proofs.YtandbnpgccpcoaaGreat
set_option linter.unusedVariables false
set_option linter.unusedSimpArgs false
open Go.RowKit
theorem coreB_len {d : CoreD} (h : coreB d = true) : d.fCells.length ≤ 4 := by
  simp only [coreB, Bool.and_eq_true] at h
  exact cellsB_len h.1.1.1.1.2
theorem put_c (N b : Nat) (cv : Value) (d : CoreD) (x : CallD) (hv : coreB d = true) (hr : -9223372036854775808 ≤ d.fCount) (hk : x.fKey.length ≤ 1048576) : PutOk N b cv d x := fun w h => by
  have hm := coreB_len hv
  by_cases hi : idleI d = 0
  · cases hf : fnd d.fCells x.fKey with
    | true => exact put_found N b cv d x.fKey x.fValue w h hm hr hi hf
    | false =>
      by_cases h4 : d.fCells.length < 4
      · exact put_new N b cv d x.fKey x.fValue w h hr h4 hk hi hf
      · exact put_full N b cv d x.fKey x.fValue w h hr hm hi hf h4
  · exact put_idle N b cv d x.fKey x.fValue w h hr hm hi
set_option maxRecDepth 100000 in
set_option maxHeartbeats 3200000 in
theorem change_good (N b : Nat) (cv : Value) (d : CoreD) (x : CallD) (mx : Int) (w : World) (P : Pre N b cv d x mx w) (hk : x.fKey.length ≤ 1048576) (hv : coreB d = true) (hc : callB x = true) :
    Calls Tryz.prog 50 #[.pointer (some ⟨b, 0, none⟩), vCall x] w fun e w' => Does N b cv (doD d x) w e w' := by
  have HP := Lib.hid P
  have HB := Lib.hid P.st.box
  have hl0 := P.st.box.lt
  have HX := Lib.hid (ownsF_at P.st.own P.hm)
  obtain ⟨c0, c1, c2, c3, c4, z1, z2, z3, z4⟩ := P.st.box
  obtain ⟨j, hj, hkd, hf⟩ := coreB_kind hv
  have HD := Lib.hid (fun w' (hw : Below w.heap.size w w') => show CoreBox w' b cv d from HB.out.keep (hw.block b hl0))
  have HI := Lib.hid (fun w' (hw : Below w.heap.size w w') => implIsCore_b (vCore d cv) d true hv w' ⟨cv, rfl, HX.out.below hw (Nat.le_refl _)⟩ P.hs)
  have HJ := Lib.hid (fun w' => implIsCall_b x true hc w' P.hk)
  have HPO := Lib.hid (fun w' (hw : Below w.heap.size w w') => partOf_c j hj b cv d w' (HD.out w' hw) hkd)
  have HDC := Lib.hid (fun w' (hw : Below w.heap.size w w') => door_c N b cv d x mx w' j (HP.out.below hw) hj hf hc (Lib.hid (put_c N b cv d x hv P.hr hk)))
  have HG := Lib.hid (show doD d x = doV d x from if_pos (by rw [hv, hc]; rfl))
  rw [HG.out]
  generalize doV d x = out at *
  generalize partV b j = pt at *
  clear hv hc hkd hf P HG
  obtain ⟨kd, on, br, l, cnt⟩ := d
  obtain ⟨m, k, n, t⟩ := x
  unfold vCore at HI
  unfold vCall at HJ HDC ⊢
  simp only at *
  have hl1 : b < w.heap.size + 1 := by omega
  have hl2 : b < w.heap.size + 1 + 1 := by omega
  have hn0 : ¬ b = w.heap.size := by omega
  have hn1 : ¬ b = w.heap.size + 1 := by omega
  have hap := @past_cell b
  have HB2 := Lib.hid (show ∀ o1 o2, Below w.heap.size w ((w.alloc o1).alloc o2) from fun o1 o2 => ((Below.refl _ _).alloc (Nat.le_refl _) _).alloc (by simp) _)
  go_enter Tryz.func50, Tryz.ntmps50
  go_wp2_with fail
  refine (HI.out _ (HB2.out _ _)).mono ?_
  rintro e w1 ⟨rfl, hb⟩
  have HB3 := Lib.hid ((HB2.out _ _).trans (hb.mono (HB2.out _ _).size))
  obtain ⟨hcc, hff⟩ := bcell hb
  simp at hcc hff
  have hsz := hb.size
  simp at hsz
  have hg1 := Lib.hid (show w1.heap[w.heap.size + 1]? = some (.cells #[.int .i64 0, .int .i64 0, .string ⟨#[]⟩, .int .i64 0, .int .i64 0] 33 (0, 0)) from (hb.block (w.heap.size + 1) (by simp)).trans (heap_two _ _ _))
  clear hb
  go_wp2_with fail
  refine (HJ.out _).mono ?_
  rintro e w2 ⟨rfl, hb⟩
  have HB4 := Lib.hid (HB3.out.trans (hb.mono HB3.out.size))
  obtain ⟨hcd, hfd⟩ := bcell hb
  have hsz2 := hb.size
  have hg2 := Lib.hid ((hb.block (w.heap.size + 1) (by omega)).trans hg1.out)
  have hq1 : w.heap.size < w1.heap.size := by omega
  have hq2 : w.heap.size + 1 < w1.heap.size := by omega
  clear hb
  have x0 : w2.cell? ⟨w.heap.size, 0, none⟩ = some (.string ⟨m.toArray⟩) := (hcd _ _ hq1).trans ((hcc _ _ (by omega)).trans (by simp [go_sem]))
  have x1 : w2.cell? ⟨w.heap.size, 1, none⟩ = some (.string ⟨k.toArray⟩) := (hcd _ _ hq1).trans ((hcc _ _ (by omega)).trans (by simp [go_sem]))
  have x2 : w2.cell? ⟨w.heap.size, 2, none⟩ = some (.int .i64 n) := (hcd _ _ hq1).trans ((hcc _ _ (by omega)).trans (by simp [go_sem]))
  have x3 : w2.cell? ⟨w.heap.size, 3, none⟩ = some (.string ⟨t.toArray⟩) := (hcd _ _ hq1).trans ((hcc _ _ (by omega)).trans (by simp [go_sem]))
  have hn2 : w.heap.size < w2.heap.size := by omega
  have hrp : ∀ W : World, W.heap[w.heap.size + 1]? = some (.cells #[.int .i64 0, .int .i64 0, .string ⟨#[]⟩, .int .i64 0, .int .i64 0] 33 (0, 0)) → ∀ o, W.cell? ⟨w.heap.size + 1, o, none⟩ = (#[.int .i64 0, .int .i64 0, .string ⟨#[]⟩, .int .i64 0, .int .i64 0] : Array Value)[o]? := fun W h o => cell_of_row W (w.heap.size + 1) o _ 33 (0, 0) h
  have HRP := Lib.hid hrp
  clear hcd hcc hff hfd hrp
  go_wp2_with fail
  go_region_with (first
    | (go_at_call 86; refine (HPO.out w2.drew HB4.out.drew).mono ?_; rintro e w3 ⟨rfl, hb3⟩; have HB5 := Lib.hid (show Below w2.heap.size w2 w3 from ⟨hb3.os, hb3.tape, hb3.output, hb3.size, hb3.block⟩); have HG3 := Lib.hid ((hb3.block (w.heap.size + 1) (show w.heap.size + 1 < w2.heap.size by omega)).trans hg2.out); have u0 := (HB5.out.cell (p := ⟨w.heap.size, 0, none⟩) hn2).trans x0; have u1 := (HB5.out.cell (p := ⟨w.heap.size, 1, none⟩) hn2).trans x1; have u2 := (HB5.out.cell (p := ⟨w.heap.size, 2, none⟩) hn2).trans x2; have u3 := (HB5.out.cell (p := ⟨w.heap.size, 3, none⟩) hn2).trans x3; clear hb3)
    | (go_at_call 85; refine (HDC.out w3 (HB4.out.trans (HB5.out.mono HB4.out.size))).mono ?_; rintro e w4 hd; obtain ⟨rfl, hf4, hc4, hz4⟩ := fin_of (n := w.heap.size + 1) HP.out.st (HB4.out.trans (HB5.out.mono HB4.out.size)) (by omega) ⟨_, HG3.out⟩ hd; have HF4 := Lib.hid hf4; clear hf4 hd; obtain ⟨d1, r0, r1, r2, r3, r4⟩ := out; unfold vReply; simp only at *; have hk0 := (hc4 0).trans (HRP.out w3 HG3.out 0); have hk1 := (hc4 1).trans (HRP.out w3 HG3.out 1); have hk2 := (hc4 2).trans (HRP.out w3 HG3.out 2); have hk3 := (hc4 3).trans (HRP.out w3 HG3.out 3); have hk4 := (hc4 4).trans (HRP.out w3 HG3.out 4); simp at hk0 hk1 hk2 hk3 hk4; have hz5 : ∀ o, w4.frozen? ⟨w.heap.size + 1, o, none⟩ = false := (fun o => (hz4 o).trans (by simp [World.frozen?, HG3.out])); clear hc4 hz4))
  all_goals
    go_wp2_with fail
    refine bodyPost_ret (v := vReply ⟨r0, r1, r2, r3, r4⟩) (by simp [results, Tryz.results50, go_sem, vReply, cell_set_at, cell_set_ne, hk0, hk1, hk2, hk3, hk4]) rfl ?_
    refine fin_does (out := (d1, (⟨r0, r1, r2, r3, r4⟩ : ReplyD))) (n := w.heap.size + 1) ?_
    repeat (with_reducible refine fin_set ?_ _ _)
    exact HF4.out
end Go.Proofs.YtandbnpgccpcoaaGreat
/- CallCore, the program's. -/
namespace Go.Proofs.YtandbnpgccpcoaaGreat
set_option linter.unusedVariables false
set_option linter.unusedSimpArgs false
open Go.RowKit
theorem change_c (N b : Nat) (cv : Value) (d : CoreD) (x : CallD) (mx : Int) (w : World) (P : Pre N b cv d x mx w) (hk : x.fKey.length ≤ 1048576) :
    Calls Tryz.prog 50 #[.pointer (some ⟨b, 0, none⟩), vCall x] w fun e w' => Does N b cv (doD d x) w e w' := by
  cases hv : coreB d with
  | false => exact change_bad1 N b cv d x mx w P hv
  | true =>
    cases hc : callB x with
    | false => exact change_bad2 N b cv d x mx w P hv hc
    | true => exact change_good N b cv d x mx w P hk hv hc
theorem ownsF_set_ne {α : Type} {f : α → List Value} {E k : Nat} {w : World} {B : Nat} {v : Value} {l : List α} {p : Addr} {u : Value} (h : OwnsF f E k w B v l) (hp : v.ownBlock ≠ some p.block) : OwnsF f E k (w.setCell p u) B v l :=
  World.ownsRow.kept h (row := some p.block) ⟨rfl, rfl, rfl, by simp, fun i hi hne => Below.heap_setCell w p u i (fun e => hne (by rw [e]))⟩ (Or.inr hp)
theorem heap_k (w : World) (o1 o2 o3 o4 : Obj) : ((((w.alloc o1).alloc o2).alloc o3).alloc o4).heap[w.heap.size + 1 + 1]? = some o3 ∧ ((((w.alloc o1).alloc o2).alloc o3).alloc o4).heap[w.heap.size + 1 + 1 + 1]? = some o4 := by
  constructor
  · have := Below.heap_alloc (((w.alloc o1).alloc o2).alloc o3) o4 (w.heap.size + 1 + 1) (by simp)
    rw [this]; have := heap_alloc_new ((w.alloc o1).alloc o2) o3; simpa using this
  · have := heap_alloc_new (((w.alloc o1).alloc o2).alloc o3) o4; simpa using this
set_option maxRecDepth 100000 in
set_option maxHeartbeats 3200000 in
theorem implCallCore_c (v : Value) (d : CoreD) (x : CallD) (mx : Int) (w : World) (hx : CoreAt w v d) (hm : d.fCells.length ≤ 2097152) (hs : ∀ c ∈ d.fCells, c.fKey.length ≤ 1048576) (hkd : d.fKind.length ≤ 1048576) (hr : -9223372036854775808 ≤ d.fCount)
    (hk : x.fKey.length ≤ 1048576) (ht : x.fText.length ≤ 1048576) (hM : w.cell? ⟨0, 0, none⟩ = some (.int .i64 mx)) :
    Calls Tryz.prog 15 #[v, vCall x] w fun e w' => ∃ cv, e = .returned (.tuple #[vCore (doD d x).1 cv, vReply (doD d x).2]) ∧ OwnsF cCell 66 2 w' w.heap.size cv (doD d x).1.fCells ∧ Below w.heap.size w w' := by
  obtain ⟨cv, rfl, hx⟩ := hx
  have HX := Lib.hid hx
  have HCP := Lib.hid (fun W (hw : Below w.heap.size w W) => copyCore_c (vCore d cv) d W ⟨cv, rfl, hx.below hw (Nat.le_refl _)⟩ hm hs hkd)
  have hMl := World.block_lt_of_cell? w _ hM
  simp only at hMl
  have HMX := Lib.hid (fun W (hw : Below w.heap.size w W) => (hw.cell (p := ⟨0, 0, none⟩) hMl).trans hM)
  clear hM
  have HPR := Lib.hid (fun b cv1 W (hst : CoreSt w.heap.size b cv1 d W) (hw : Below w.heap.size w W) => change_c w.heap.size b cv1 d x mx W ⟨hst, hw.size, hr, by omega, fun c hc => Nat.le_trans (hs c hc) (by unfold maxLen; omega), Nat.le_trans hk (by unfold maxLen; omega), ht, HMX.out W hw⟩ hk)
  generalize doD d x = out at *
  clear hs hx
  obtain ⟨a, c, rfl, _⟩ := flatAt_len HX.out
  obtain ⟨kd, on, br, l, cnt⟩ := d
  obtain ⟨m, k, n, t⟩ := x
  unfold vCore at HCP ⊢
  unfold vCall at HPR ⊢
  simp only at *
  have HB4 := Lib.hid (show ∀ o1 o2 o3 o4, Below w.heap.size w ((((w.alloc o1).alloc o2).alloc o3).alloc o4) from fun o1 o2 o3 o4 => ((((Below.refl _ _).alloc (Nat.le_refl _) _).alloc (by simp) _).alloc (by simp; omega) _).alloc (by simp; omega) _)
  go_enter Tryz.func15, Tryz.ntmps15
  go_wp2_with fail
  refine (HCP.out _ (HB4.out _ _ _ _)).mono ?_
  rintro e w1 ⟨_, rfl, ⟨cv1, rfl, ho⟩, hb⟩
  have HB1 := Lib.hid ((HB4.out _ _ _ _).trans (hb.mono (HB4.out _ _ _ _).size))
  have HO1 := Lib.hid (show OwnsF cCell 66 2 w1 (w.heap.size + 1 + 1 + 1 + 1) cv1 l from by simpa using ho)
  obtain ⟨hcc, hff⟩ := bcell hb
  simp at hcc hff
  have hsz := hb.size
  simp at hsz
  have H2 := Lib.hid ((hb.block (w.heap.size + 1 + 1) (by simp; try omega)).trans (heap_k _ _ _ _ _).1)
  have H3 := Lib.hid ((hb.block (w.heap.size + 1 + 1 + 1) (by simp)).trans (heap_k _ _ _ _ _).2)
  clear hb ho
  obtain ⟨ca, ccp, rfl⟩ := slice_of HO1.out
  simp only at *
  unfold vCore
  have x0 : w1.cell? ⟨w.heap.size + 1, 0, none⟩ = some (.string ⟨m.toArray⟩) := (hcc _ _ (by omega)).trans (by simp [go_sem])
  have x1 : w1.cell? ⟨w.heap.size + 1, 1, none⟩ = some (.string ⟨k.toArray⟩) := (hcc _ _ (by omega)).trans (by simp [go_sem])
  have x2 : w1.cell? ⟨w.heap.size + 1, 2, none⟩ = some (.int .i64 n) := (hcc _ _ (by omega)).trans (by simp [go_sem])
  have x3 : w1.cell? ⟨w.heap.size + 1, 3, none⟩ = some (.string ⟨t.toArray⟩) := (hcc _ _ (by omega)).trans (by simp [go_sem])
  have hx1 : w.heap.size + 1 < w1.heap.size := by omega
  have hxp := @past_cell (w.heap.size + 1)
  clear hcc hff
  go_wp2_with fail
  have hb1 : ∀ g, (Value.slice ca l.length ccp).ownBlock = some g → g < w1.heap.size ∧ w.heap.size + 1 + 1 + 1 + 1 ≤ g := fun g h => ⟨(World.ownsRow.lt HO1.out g h).2, (World.ownsRow.lt HO1.out g h).1⟩
  refine (HPR.out w1.heap.size (.slice ca l.length ccp) _ ⟨⟨by simp [go_sem], by simp [go_sem], by simp [go_sem], by simp [go_sem], by simp [go_sem], by simp [go_sem], by simp [go_sem], by simp [go_sem], by simp [go_sem]⟩, ownsF_alloc (ownsF_base HO1.out (by omega)) _, fun e => by have := (hb1 _ e).1; omega, by omega⟩ (HB1.out.alloc HB1.out.size _)).mono ?_
  rintro e w2 ⟨rfl, cv2, st2, hk2⟩
  have ST2 := Lib.hid st2
  have HBB := Lib.hid ((HB1.out.alloc HB1.out.size _).trans (hk2.toBelow (by simp; omega) (fun k h => by injection h; omega) (fun k h => by have := (hb1 _ h).2; omega)))
  have H2' := Lib.hid ((hk2.block (w.heap.size + 1 + 1) (by simp; omega) (by simp; omega) (fun e => by have := (hb1 _ e.symm).2; omega)).trans ((Below.heap_alloc w1 _ _ (by omega)).trans H2.out))
  have H3' := Lib.hid ((hk2.block (w.heap.size + 1 + 1 + 1) (by simp; omega) (by simp; omega) (fun e => by have := (hb1 _ e.symm).2; omega)).trans ((Below.heap_alloc w1 _ _ (by omega)).trans H3.out))
  have hs2 := hk2.size
  simp at hs2
  obtain ⟨c0, c1, c2, c3, c4, _, _, _, _⟩ := st2.box
  obtain ⟨cu, cw, rfl⟩ := slice_of st2.own
  have hb2 := row_ne ST2.out.own H2'.out (by decide)
  have hb3 := row_ne ST2.out.own H3'.out (by decide)
  clear hk2 st2 hxp x0 x1 x2 x3
  obtain ⟨⟨kd1, on1, br1, l1, cnt1⟩, r0, r1, r2, r3, r4⟩ := out
  unfold vReply
  simp only at *
  have e0 : w2.cell? ⟨w.heap.size + 1 + 1, 0, none⟩ = some (.string ⟨#[]⟩) := cell_of_row w2 _ 0 _ _ _ H2'.out
  have e1 : w2.cell? ⟨w.heap.size + 1 + 1, 1, none⟩ = some (.bool false) := cell_of_row w2 _ 1 _ _ _ H2'.out
  have e2 : w2.cell? ⟨w.heap.size + 1 + 1, 2, none⟩ = some (.bool false) := cell_of_row w2 _ 2 _ _ _ H2'.out
  have e3 : w2.cell? ⟨w.heap.size + 1 + 1, 3, none⟩ = some (.slice none 0 0) := cell_of_row w2 _ 3 _ _ _ H2'.out
  have e4 : w2.cell? ⟨w.heap.size + 1 + 1, 4, none⟩ = some (.int .i64 0) := cell_of_row w2 _ 4 _ _ _ H2'.out
  have ez : ∀ o, w2.frozen? ⟨w.heap.size + 1 + 1, o, none⟩ = false := fun o => by simp [World.frozen?, H2'.out]
  have f0 : w2.cell? ⟨w.heap.size + 1 + 1 + 1, 0, none⟩ = some (.int .i64 0) := cell_of_row w2 _ 0 _ _ _ H3'.out
  have f1 : w2.cell? ⟨w.heap.size + 1 + 1 + 1, 1, none⟩ = some (.int .i64 0) := cell_of_row w2 _ 1 _ _ _ H3'.out
  have f2 : w2.cell? ⟨w.heap.size + 1 + 1 + 1, 2, none⟩ = some (.string ⟨#[]⟩) := cell_of_row w2 _ 2 _ _ _ H3'.out
  have f3 : w2.cell? ⟨w.heap.size + 1 + 1 + 1, 3, none⟩ = some (.int .i64 0) := cell_of_row w2 _ 3 _ _ _ H3'.out
  have f4 : w2.cell? ⟨w.heap.size + 1 + 1 + 1, 4, none⟩ = some (.int .i64 0) := cell_of_row w2 _ 4 _ _ _ H3'.out
  have fz : ∀ o, w2.frozen? ⟨w.heap.size + 1 + 1 + 1, o, none⟩ = false := fun o => by simp [World.frozen?, H3'.out]
  have hq2 : w.heap.size + 1 + 1 < w2.heap.size := by omega
  have hq3 : w.heap.size + 1 + 1 + 1 < w2.heap.size := by omega
  have hqc : w1.heap.size < w2.heap.size := by omega
  have hp2 := @past_cell (w.heap.size + 1 + 1)
  have hp3 := @past_cell (w.heap.size + 1 + 1 + 1)
  have hpc := @past_cell w1.heap.size
  have hf2 := @past_frozen (w.heap.size + 1 + 1)
  have hf3 := @past_frozen (w.heap.size + 1 + 1 + 1)
  have hd1 : ¬ w1.heap.size = w.heap.size + 1 + 1 := by omega
  have hd2 : ¬ w1.heap.size = w.heap.size + 1 + 1 + 1 := by omega
  have hd3 : ¬ w2.heap.size = w.heap.size + 1 + 1 := by omega
  have hd4 : ¬ w2.heap.size = w.heap.size + 1 + 1 + 1 := by omega
  have hd5 : ¬ w.heap.size + 1 + 1 = w1.heap.size := by omega
  have hd6 : ¬ w.heap.size + 1 + 1 + 1 = w1.heap.size := by omega
  have hd7 : ¬ w.heap.size + 1 + 1 = w2.heap.size := by omega
  have hd8 : ¬ w.heap.size + 1 + 1 + 1 = w2.heap.size := by omega
  have hd9 : ¬ w1.heap.size = w2.heap.size := by omega
  go_wp2_with fail
  go_region
  all_goals (try go_wp2_with fail)
  all_goals
    refine bodyPost_ret (v := .tuple #[.agg #[.string ⟨kd1.toArray⟩, .bool on1, .bool br1, .slice cu l1.length cw, .int .i64 cnt1], .agg #[.int .i64 r0, .int .i64 r1, .string ⟨r2.toArray⟩, .int .i64 r3, .int .i64 r4]]) (by simp [results, Tryz.results15, go_sem, cell_set_at, cell_set_ne, e0, e1, e2, e3, e4, f0, f1, f2, f3, f4, hp2, hp3, hq2, hq3]) rfl ?_
    refine ⟨.slice cu l1.length cw, rfl, ?_, ?_⟩
    · repeat (first | with_reducible refine ownsF_set_ne ?_ hb2 | with_reducible refine ownsF_set_ne ?_ hb3 | with_reducible refine ownsF_alloc ?_ _ | with_reducible refine ownsF_drew ?_)
      exact ST2.out.own
    · repeat (first | with_reducible exact HBB.out | with_reducible refine Below.setCell ?_ (by simp; try omega) _ | with_reducible refine Below.alloc ?_ (by simp; try omega) _ | with_reducible refine Below.drew ?_)
end Go.Proofs.YtandbnpgccpcoaaGreat
/- What calls do to a core, plain: the kind stays, valid cores stay valid, what is refused changes nothing, what is put is got, what is saved is loaded. -/
namespace Go.Proofs.YtandbnpgccpcoaaGreat
set_option linter.unusedVariables false
set_option linter.unusedSimpArgs false
open Go.RowKit
theorem mthD_kind (d : CoreD) (x : CallD) : (mthD d x).1.fKind = d.fKind := by
  unfold mthD startD stopD getD1 putD tellD hearD loadD saveD healD
  repeat' split
  all_goals rfl
theorem doD_kind (d : CoreD) (x : CallD) : (doD d x).1.fKind = d.fKind := by
  unfold doD doV
  repeat' split
  all_goals first | rfl | exact mthD_kind d x
theorem coreB_iff (d : CoreD) : coreB d = true ↔ (0 ≤ kindI d.fKind ∧ cellsB d.fCells = true ∧ (d.fCells.length = 0 ∨ hasI (coreF d) 1 = true) ∧ ((d.fOn = false ∧ d.fBroken = false) ∨ hasI (coreF d) 0 = true) ∧ numB d.fCount = true ∧ ¬ (d.fOn = true ∧ d.fBroken = true)) := by
  unfold coreB
  simp only [Bool.and_eq_true, Bool.or_eq_true, decide_eq_true_eq, Bool.not_eq_true', Bool.or_eq_false_iff, Bool.and_eq_false_iff]
  constructor
  · rintro ⟨⟨⟨⟨⟨h1, h2⟩, h3⟩, h4⟩, h5⟩, h6⟩
    refine ⟨h1, h2, h3, h4, h5, ?_⟩
    rintro ⟨k1, k2⟩
    rcases h6 with h6 | h6
    · rw [k1] at h6; cases h6
    · rw [k2] at h6; cases h6
  · rintro ⟨h1, h2, h3, h4, h5, h6⟩
    refine ⟨⟨⟨⟨⟨h1, h2⟩, h3⟩, h4⟩, h5⟩, ?_⟩
    cases h : d.fOn
    · exact Or.inl rfl
    · right
      cases h' : d.fBroken
      · rfl
      · exact absurd ⟨h, h'⟩ h6
theorem kf_hear : ∀ j : _root_.Fin 8, offersF (kfN j) 8 = true → hasI (kfN j) 0 = true := by decide +kernel
theorem kf_save : ∀ j : _root_.Fin 8, offersF (kfN j) 16 = true → hasI (kfN j) 1 = true := by decide +kernel
theorem off_run {f : Int} (hf : isF f = true) (h : offersF f 1 = true) : hasI f 0 = true := by rw [← off_has hf 0 (by omega)]; exact h
theorem off_keep {f : Int} (hf : isF f = true) (h : offersF f 2 = true) : hasI f 1 = true := by rw [← off_has hf 1 (by omega)]; exact h
theorem core_hear {d : CoreD} (h : coreB d = true) (ho : offersF (coreF d) 8 = true) : hasI (coreF d) 0 = true := by
  obtain ⟨j, hj, _, e⟩ := coreB_kind h
  rw [e] at ho ⊢; exact kf_hear ⟨j, hj⟩ ho
theorem core_save {d : CoreD} (h : coreB d = true) (ho : offersF (coreF d) 16 = true) : hasI (coreF d) 1 = true := by
  obtain ⟨j, hj, _, e⟩ := coreB_kind h
  rw [e] at ho ⊢; exact kf_save ⟨j, hj⟩ ho
/-- the nine methods, and what each wants -/
theorem callB_meth {x : CallD} (h : callB x = true) : (x.fMethod = mStart ∧ wantF x.fMethod = 1) ∨ (x.fMethod = mStop ∧ wantF x.fMethod = 1) ∨ (x.fMethod = mGet ∧ wantF x.fMethod = 2) ∨ (x.fMethod = mPut ∧ wantF x.fMethod = 2) ∨ (x.fMethod = mTell ∧ wantF x.fMethod = 4) ∨
    (x.fMethod = mHear ∧ wantF x.fMethod = 8) ∨ (x.fMethod = mLoad ∧ wantF x.fMethod = 16) ∨ (x.fMethod = mSave ∧ wantF x.fMethod = 16) ∨ (x.fMethod = mHeal ∧ wantF x.fMethod = 32) := by
  have h0 := h
  simp only [callB, Bool.and_eq_true, bne_iff_ne, ne_eq] at h
  have hw := h.1.1.1
  rcases meth_cases x.fMethod with hm | hm | hm | hm | hm | hm | hm | hm | hm | hm
  case inr.inr.inr.inr.inr.inr.inr.inr.inr => exact absurd hm.1 hw
  all_goals rw [hm]; simp +decide
theorem callB_put {x : CallD} (h : callB x = true) (hm : x.fMethod = mPut) : nameB x.fKey = true ∧ numB x.fValue = true := by
  simp only [callB, Bool.and_eq_true, hm] at h
  have h1 := h.1.1.2
  have h2 := h.1.2
  simp +decide at h1 h2
  exact ⟨h1, h2⟩
theorem doD_good {d : CoreD} {x : CallD} (h1 : coreB d = true) (h2 : callB x = true) (h3 : offersF (coreF d) (wantF x.fMethod) = true) : doD d x = mthD d x := by
  unfold doD doV; rw [h1, h2, Bool.and_self, if_pos rfl, if_pos h3]
theorem doD_fail {d : CoreD} {x : CallD} (h1 : coreB d = true) (h2 : callB x = true) (h3 : offersF (coreF d) (wantF x.fMethod) = false) : doD d x = (d, ⟨1, 0, [], wantF x.fMethod, coreF d⟩) := by
  unfold doD doV; rw [h1, h2, Bool.and_self, if_pos rfl, if_neg (by rw [h3]; simp)]
theorem doD_bad {d : CoreD} {x : CallD} (h : coreB d = false ∨ callB x = false) : doD d x = (d, rC 7) := by
  unfold doD; rw [if_neg]; rcases h with h | h <;> rw [h] <;> simp
theorem mthD_Start {d : CoreD} {x : CallD} (h : x.fMethod = mStart) : mthD d x = startD d := if_pos h
theorem mthD_Stop {d : CoreD} {x : CallD} (h : x.fMethod = mStop) : mthD d x = stopD d := by unfold mthD; rw [h]; rfl
theorem mthD_Get {d : CoreD} {x : CallD} (h : x.fMethod = mGet) : mthD d x = getD1 d x.fKey := by unfold mthD; rw [h]; rfl
theorem mthD_Put {d : CoreD} {x : CallD} (h : x.fMethod = mPut) : mthD d x = putD d x.fKey x.fValue := by unfold mthD; rw [h]; rfl
theorem mthD_Tell {d : CoreD} {x : CallD} (h : x.fMethod = mTell) : mthD d x = tellD d := by unfold mthD; rw [h]; rfl
theorem mthD_Hear {d : CoreD} {x : CallD} (h : x.fMethod = mHear) : mthD d x = hearD d x.fValue := by unfold mthD; rw [h]; rfl
theorem mthD_Load {d : CoreD} {x : CallD} (h : x.fMethod = mLoad) : mthD d x = loadD d x.fText := by unfold mthD; rw [h]; rfl
theorem mthD_Save {d : CoreD} {x : CallD} (h : x.fMethod = mSave) : mthD d x = saveD d := by unfold mthD; rw [h]; rfl
theorem mthD_Heal {d : CoreD} {x : CallD} (h : x.fMethod = mHeal) : mthD d x = healD d := by unfold mthD; rw [h]; rfl
theorem coreF_face (d : CoreD) : isF (coreF d) = true := kfI_face _
theorem mthD_core {d : CoreD} {x : CallD} (h1 : coreB d = true) (h2 : callB x = true) (h3 : offersF (coreF d) (wantF x.fMethod) = true) : coreB (mthD d x).1 = true := by
  have h := (coreB_iff d).1 h1
  obtain ⟨hk, hc, hl, ho, hn, hb⟩ := h
  have hrun := off_run (coreF_face d)
  have hkeep := off_keep (coreF_face d)
  have hhear := core_hear h1
  have hsave := core_save h1
  rw [coreB_iff]
  rcases callB_meth h2 with ⟨hm, hw⟩ | ⟨hm, hw⟩ | ⟨hm, hw⟩ | ⟨hm, hw⟩ | ⟨hm, hw⟩ | ⟨hm, hw⟩ | ⟨hm, hw⟩ | ⟨hm, hw⟩ | ⟨hm, hw⟩ <;> rw [hw] at h3
  · rw [mthD_Start hm]; unfold startD
    repeat' split
    · exact ⟨hk, hc, hl, ho, hn, hb⟩
    · exact ⟨hk, hc, hl, Or.inr (hrun h3), hn, by simp⟩
    · rename_i k1 k2
      exact ⟨hk, hc, hl, Or.inr (hrun h3), upI_num hn, by simpa using k1⟩
  · rw [mthD_Stop hm]; unfold stopD
    repeat' split
    · exact ⟨hk, hc, hl, ho, hn, hb⟩
    · exact ⟨hk, hc, hl, Or.inr (hrun h3), hn, by simp⟩
    · exact ⟨hk, hc, hl, ho, hn, hb⟩
  · rw [mthD_Get hm]; unfold getD1
    repeat' split
    all_goals exact ⟨hk, hc, hl, ho, hn, hb⟩
  · rw [mthD_Put hm]; unfold putD
    have hp := callB_put h2 hm
    repeat' split
    · rename_i k1 k2
      exact ⟨hk, putC_cells hc hp.1 hp.2 k2, Or.inr (hkeep h3), ho, upI_num hn, hb⟩
    all_goals exact ⟨hk, hc, hl, ho, hn, hb⟩
  · rw [mthD_Tell hm]; exact ⟨hk, hc, hl, ho, hn, hb⟩
  · rw [mthD_Hear hm]; unfold hearD
    split
    · exact ⟨hk, hc, hl, ho, hn, hb⟩
    · rename_i k1
      exact ⟨hk, hc, hl, Or.inr (hhear h3), upI_num hn, fun h => k1 h.2⟩
  · rw [mthD_Load hm]; unfold loadD
    repeat' split
    · exact ⟨hk, hc, hl, ho, hn, hb⟩
    · rename_i k1 k2
      exact ⟨hk, (prsC_fmt k2).1, Or.inr (hsave h3), ho, hn, hb⟩
    · exact ⟨hk, hc, hl, ho, hn, hb⟩
  · rw [mthD_Save hm]; unfold saveD
    split <;> exact ⟨hk, hc, hl, ho, hn, hb⟩
  · rw [mthD_Heal hm]; exact ⟨hk, hc, hl, Or.inl ⟨rfl, rfl⟩, hn, by simp [healD]⟩
theorem doD_core {d : CoreD} (x : CallD) (h1 : coreB d = true) : coreB (doD d x).1 = true := by
  cases h2 : callB x with
  | false => rw [doD_bad (Or.inr h2)]; exact h1
  | true =>
    cases h3 : offersF (coreF d) (wantF x.fMethod) with
    | false => rw [doD_fail h1 h2 h3]; exact h1
    | true => rw [doD_good h1 h2 h3]; exact mthD_core h1 h2 h3
theorem mthD_code (d : CoreD) (x : CallD) : (mthD d x).2.fCode ≠ 1 ∧ (mthD d x).2.fCode ≠ 7 := by
  unfold mthD startD stopD getD1 putD tellD hearD loadD saveD healD idleI
  repeat' split
  all_goals simp [rC, rV, rT]
theorem mthD_quiet (d : CoreD) (x : CallD) (h : (mthD d x).2.fCode = 2 ∨ (mthD d x).2.fCode = 4 ∨ (mthD d x).2.fCode = 5 ∨ (mthD d x).2.fCode = 6) : (mthD d x).1 = d := by
  revert h
  unfold mthD startD stopD getD1 putD tellD hearD loadD saveD healD
  repeat' split
  all_goals first | (intro _; rfl) | (intro h; simp [rC, rV, rT] at h)
theorem doD_quiet {d : CoreD} {x : CallD} (h : (doD d x).2.fCode = 2 ∨ (doD d x).2.fCode = 4 ∨ (doD d x).2.fCode = 5 ∨ (doD d x).2.fCode = 6) : (doD d x).1 = d := by
  revert h
  unfold doD doV
  repeat' split
  · exact mthD_quiet d x
  · intro _; rfl
  · intro _; rfl
end Go.Proofs.YtandbnpgccpcoaaGreat
/- What calls do to a core, plain: Put and Get, Save and Load, a core that breaks; a list of calls. -/
namespace Go.Proofs.YtandbnpgccpcoaaGreat
set_option linter.unusedVariables false
set_option linter.unusedSimpArgs false
open Go.RowKit
theorem fnd_put_same (l : List CellD) (k : List UInt8) (v : Int) : fnd (putC l k v) k = true ∧ valAt (putC l k v) k = v := by
  induction l with
  | nil => unfold putC fnd valAt; simp [key_irr]
  | cons c r ih =>
    unfold putC
    by_cases h1 : c.fKey < k
    · rw [if_pos h1]; unfold fnd valAt; rw [if_pos h1, if_pos h1]; exact ih
    · rw [if_neg h1]
      by_cases h2 : c.fKey = k
      · rw [if_pos h2]; unfold fnd valAt; simp [key_irr]
      · rw [if_neg h2]; unfold fnd valAt; simp [key_irr]
theorem fnd_put_ne (l : List CellD) (k c : List UInt8) (v : Int) (hc : c ≠ k) : fnd (putC l k v) c = fnd l c ∧ (fnd l c = true → valAt (putC l k v) c = valAt l c) := by
  induction l with
  | nil =>
    unfold putC fnd valAt
    by_cases h : k < c
    · rw [if_pos h, if_pos h]; exact ⟨rfl, fun _ => rfl⟩
    · rw [if_neg h, if_neg h]; exact ⟨by simpa using fun e => hc e.symm, fun h => absurd h (by simp [fnd])⟩
  | cons a r ih =>
    unfold putC
    by_cases h1 : a.fKey < k
    · rw [if_pos h1]; unfold fnd valAt
      by_cases h2 : a.fKey < c
      · rw [if_pos h2, if_pos h2, if_pos h2, if_pos h2]; exact ih
      · rw [if_neg h2, if_neg h2, if_neg h2, if_neg h2]; exact ⟨rfl, fun _ => rfl⟩
    · rw [if_neg h1]
      by_cases h2 : a.fKey = k
      · rw [if_pos h2]; unfold fnd valAt; rw [h2]
        by_cases h3 : k < c
        · simp only [if_pos h3]; exact ⟨trivial, fun _ => trivial⟩
        · simp only [if_neg h3]
          have : ¬ k = c := fun e => hc e.symm
          simp [this]
      · rw [if_neg h2]
        have hka := key_tri h1 h2
        by_cases h3 : k < c
        · have e1 : fnd (⟨k, v⟩ :: a :: r) c = fnd (a :: r) c := by rw [fnd]; rw [if_pos h3]
          have e2 : valAt (⟨k, v⟩ :: a :: r) c = valAt (a :: r) c := by rw [valAt]; rw [if_pos h3]
          exact ⟨e1, fun _ => e2⟩
        · have hck := key_tri h3 (fun e => hc e.symm)
          have h4 : ¬ a.fKey < c := fun e => key_irr _ (key_trans (key_trans hck hka) e)
          have h5 : a.fKey ≠ c := fun e => h3 (by rw [← e]; exact hka)
          have e1 : fnd (⟨k, v⟩ :: a :: r) c = false := by rw [fnd]; rw [if_neg h3]; simpa using fun e => hc e.symm
          have e2 : fnd (a :: r) c = false := by rw [fnd]; rw [if_neg h4]; simpa using h5
          rw [e1, e2]; exact ⟨rfl, fun h => by cases h⟩
def getX (k : List UInt8) : CallD := ⟨mGet, k, 0, []⟩
def putX (x : CallD) : CallD := ⟨mPut, x.fKey, x.fValue, x.fText⟩
theorem getX_ok {k : List UInt8} (h : nameB k = true) : callB (getX k) = true := by
  have h1 : takesK mGet = true := by decide
  have h2 : takesV mGet = false := by decide
  have h3 : (wantF mGet != 0) = true := by decide
  unfold callB getX; simp only [h, h1, h2, h3]; rfl
theorem getX_no {k : List UInt8} (h : nameB k = false) : callB (getX k) = false := by
  have h1 : takesK mGet = true := by decide
  have h2 : takesV mGet = false := by decide
  have h3 : (wantF mGet != 0) = true := by decide
  unfold callB getX; simp only [h, h1, h2, h3]; rfl
/-- what is put, if it is put -/
theorem put_did {p : CoreD} {x : CallD} (hm : x.fMethod = mPut) (h : (doD p x).2.fCode = 0) : coreB p = true ∧ callB x = true ∧ offersF (coreF p) 2 = true ∧ idleI p = 0 ∧
    doD p x = ({ p with fCells := putC p.fCells x.fKey x.fValue, fCount := upI p.fCount }, rV (putC p.fCells x.fKey x.fValue).length) := by
  have hw : wantF x.fMethod = 2 := by rw [hm]; rfl
  cases h1 : coreB p with
  | false => rw [doD_bad (Or.inl h1)] at h; simp [rC] at h
  | true =>
    cases h2 : callB x with
    | false => rw [doD_bad (Or.inr h2)] at h; simp [rC] at h
    | true =>
      cases h3 : offersF (coreF p) (wantF x.fMethod) with
      | false => rw [doD_fail h1 h2 h3] at h; simp at h
      | true =>
        have e := doD_good h1 h2 h3
        rw [mthD_Put hm] at e
        rw [e] at h ⊢
        rw [hw] at h3
        unfold putD at h ⊢
        by_cases hi : idleI p = 0
        · rw [if_pos hi] at h ⊢
          split at h
          · rename_i h5
            rw [if_pos h5]; exact ⟨rfl, rfl, h3, hi, rfl⟩
          · simp [rC] at h
        · rw [if_neg hi] at h
          exact absurd h hi
theorem putX_vals {p : CoreD} {x : CallD} (h : (doD p (putX x)).2.fCode = 0) : (doD p (putX x)).2.fValue = ((doD p (putX x)).1.fCells.length : Int) := by
  obtain ⟨_, _, _, _, e⟩ := put_did (x := putX x) rfl h
  rw [e]; rfl
theorem put_get {p : CoreD} {x : CallD} (h : (doD p (putX x)).2.fCode = 0) : (doD (doD p (putX x)).1 (getX x.fKey)).2 = rV x.fValue := by
  obtain ⟨h1, h2, h3, h4, e⟩ := put_did (x := putX x) rfl h
  have hn : nameB x.fKey = true := (callB_put h2 rfl).1
  have hq : coreB (doD p (putX x)).1 = true := doD_core _ h1
  have hf : coreF (doD p (putX x)).1 = coreF p := by unfold coreF; rw [doD_kind]
  rw [doD_good hq (getX_ok hn) (by rw [hf]; exact h3), mthD_Get rfl]
  have hi : idleI (doD p (putX x)).1 = 0 := by rw [e]; exact h4
  unfold getD1
  rw [if_pos hi, e]
  have := fnd_put_same p.fCells x.fKey x.fValue
  show (if fnd (putC p.fCells x.fKey x.fValue) x.fKey = true then _ else _ : CoreD × ReplyD).2 = _
  rw [if_pos this.1]
  show rV (valAt (putC p.fCells x.fKey x.fValue) x.fKey) = _
  rw [this.2]
theorem put_other {p : CoreD} {x : CallD} (h : (doD p (putX x)).2.fCode = 0) (k : List UInt8) (hk : k ≠ x.fKey) : (doD p (getX k)).2 = (doD (doD p (putX x)).1 (getX k)).2 := by
  obtain ⟨h1, h2, h3, h4, e⟩ := put_did (x := putX x) rfl h
  have hq : coreB (doD p (putX x)).1 = true := doD_core _ h1
  have hf : coreF (doD p (putX x)).1 = coreF p := by unfold coreF; rw [doD_kind]
  cases hn : nameB k with
  | false => rw [doD_bad (Or.inr (getX_no hn)), doD_bad (Or.inr (getX_no hn))]
  | true =>
    rw [doD_good h1 (getX_ok hn) h3, doD_good hq (getX_ok hn) (by rw [hf]; exact h3), mthD_Get rfl, mthD_Get rfl]
    have hi : idleI (doD p (putX x)).1 = 0 := by rw [e]; exact h4
    unfold getD1
    rw [if_pos hi, if_pos h4, e]
    have := fnd_put_ne p.fCells x.fKey k x.fValue hk
    show (if fnd p.fCells k = true then _ else _ : CoreD × ReplyD).2 = (if fnd (putC p.fCells x.fKey x.fValue) k = true then _ else _ : CoreD × ReplyD).2
    rw [this.1]
    cases hfd : fnd p.fCells k with
    | false => rfl
    | true =>
      rw [if_pos rfl, if_pos rfl]
      show rV (valAt p.fCells k) = rV (valAt (putC p.fCells x.fKey x.fValue) k)
      rw [this.2 hfd]
/-- a list of calls, up to the first assertion that fails -/
def doS : CoreD → List CallD → CoreD × List ReplyD
  | d, [] => (d, [])
  | d, x :: r => if (doD d x).2.fCode = 1 then ((doD d x).1, [(doD d x).2]) else ((doS (doD d x).1 r).1, (doD d x).2 :: (doS (doD d x).1 r).2)
theorem doS_kind (l : List CallD) : ∀ d, (doS d l).1.fKind = d.fKind := by
  induction l with
  | nil => intro d; rfl
  | cons x r ih =>
    intro d; unfold doS
    split
    · exact doD_kind d x
    · exact (ih _).trans (doD_kind d x)
theorem doS_core (l : List CallD) : ∀ d, coreB d = true → coreB (doS d l).1 = true := by
  induction l with
  | nil => intro d h; exact h
  | cons x r ih =>
    intro d h; unfold doS
    split
    · exact doD_core x h
    · exact ih _ (doD_core x h)
def saveX : CallD := ⟨mSave, [], 0, []⟩
def loadX (t : List UInt8) : CallD := ⟨mLoad, [], 0, t⟩
def startX : CallD := ⟨mStart, [], 0, []⟩
theorem saveX_ok : callB saveX = true := by decide
theorem startX_ok : callB startX = true := by decide
theorem loadX_ok (t : List UInt8) : callB (loadX t) = true := by
  unfold callB loadX; simp +decide
/-- what Save answers, and that it changes nothing -/
theorem save_same {p : CoreD} : (doD p saveX).1 = p := by
  unfold doD doV
  repeat' split
  · rw [mthD_Save rfl]; unfold saveD; split <;> rfl
  · rfl
  · rfl
theorem save_did {p : CoreD} (hp : coreB p = true) (h : (doD p saveX).2.fCode = 0) : offersF (coreF p) 16 = true ∧ (doD p saveX).2.fText = fmtC p.fCells := by
  cases h3 : offersF (coreF p) (wantF saveX.fMethod) with
  | false => rw [doD_fail hp saveX_ok h3] at h; simp at h
  | true =>
    refine ⟨h3, ?_⟩
    rw [doD_good hp saveX_ok h3, mthD_Save rfl] at h ⊢
    unfold saveD at h ⊢
    split at h
    · simp [rC] at h
    · rename_i hb
      rw [if_neg hb]; rfl
/-- what Load does with what was saved -/
theorem load_did {p x : CoreD} (hp : coreB p = true) (hx : coreB x = true) (hk : x.fKind = p.fKind) (ho : offersF (coreF p) 16 = true) :
    doD x (loadX (fmtC p.fCells)) = if x.fBroken = true then (x, rC 3) else ({ x with fCells := p.fCells }, rV p.fCells.length) := by
  have hf : coreF x = coreF p := by unfold coreF; rw [hk]
  have hc := ((coreB_iff p).1 hp).2.1
  rw [doD_good hx (loadX_ok _) (by rw [hf]; exact ho), mthD_Load rfl]
  unfold loadD
  split
  · rfl
  · rw [show (loadX (fmtC p.fCells)).fText = fmtC p.fCells from rfl, (prs_fmt hc).1, (prs_fmt hc).2, if_pos rfl]
theorem breaks_start {p : CoreD} (hp : coreB p = true) (h : (doD p startX).2.fCode ≠ 1) : ((doD p startX).2.fCode == 3) = (p.fOn || p.fBroken) ∧ (doD p startX).1.fBroken = ((doD p startX).2.fCode == 3) := by
  cases h3 : offersF (coreF p) (wantF startX.fMethod) with
  | false => rw [doD_fail hp startX_ok h3] at h; simp at h
  | true =>
    rw [doD_good hp startX_ok h3, mthD_Start rfl]
    unfold startD
    cases hb : p.fBroken <;> cases ho : p.fOn <;> simp [rC, hb]
/-- a broken core answers so, until it is healed -/
theorem breaks_then {q : CoreD} {x : CallD} (hq : coreB q = true) (hb : q.fBroken = true) (hx : callB x = true) :
    ((doD q x).1.fBroken != ((doD q x).2.fCode == 0 && x.fMethod == mHeal)) = true ∧
    (((doD q x).2.fCode == 0 && x.fMethod == mHeal) || (x.fMethod == mTell || (doD q x).2.fCode == 1) || ((doD q x).2.fCode == 3 && decide (q = (doD q x).1))) = true := by
  have hi : idleI q = 3 := by unfold idleI; rw [if_pos hb]
  cases h3 : offersF (coreF q) (wantF x.fMethod) with
  | false => rw [doD_fail hq hx h3]; simp [hb]
  | true =>
    rw [doD_good hq hx h3]
    rcases callB_meth hx with ⟨hm, hw⟩ | ⟨hm, hw⟩ | ⟨hm, hw⟩ | ⟨hm, hw⟩ | ⟨hm, hw⟩ | ⟨hm, hw⟩ | ⟨hm, hw⟩ | ⟨hm, hw⟩ | ⟨hm, hw⟩
    · rw [mthD_Start hm]; unfold startD; rw [if_pos hb]; simp [hb, rC]
    · rw [mthD_Stop hm]; unfold stopD; rw [if_pos hb]; simp [hb, rC]
    · rw [mthD_Get hm]; unfold getD1; rw [hi]; simp [hb, rC]
    · rw [mthD_Put hm]; unfold putD; rw [hi]; simp [hb, rC]
    · rw [mthD_Tell hm]; unfold tellD; rw [hm]; simp +decide [hb, rV]
    · rw [mthD_Hear hm]; unfold hearD; rw [if_pos hb]; simp [hb, rC]
    · rw [mthD_Load hm]; unfold loadD; rw [if_pos hb]; simp [hb, rC]
    · rw [mthD_Save hm]; unfold saveD; rw [if_pos hb]; simp [hb, rC]
    · rw [mthD_Heal hm]; unfold healD; rw [hm]; simp [rC]
end Go.Proofs.YtandbnpgccpcoaaGreat
/- Contracts of chapter 3: slices.Equal of cells; SameCore, the program's and the model's. -/
namespace Go.Proofs.YtandbnpgccpcoaaGreat
set_option linter.unusedVariables false
open Go.RowKit
theorem belE {B : Nat} {a w : World} (h : Below B a w) (n : Nat) : Below B a (w.drewN n) := ⟨h.os, h.tape, h.output, h.size, h.block⟩
set_option maxRecDepth 100000 in
set_option maxHeartbeats 1600000 in
theorem equalCells_any (v u : Value) (x y : List CellD) (w : World) (hx : FlatAt cCell 2 w v x) (hy : FlatAt cCell 2 w u y) :
    Calls Tryz.prog 66 #[v, u] w fun e w' => e = .returned (.bool (decide (x = y))) ∧ Below w.heap.size w w' := by
  obtain ⟨a, c, rfl, hl⟩ := flatAt_len hx
  obtain ⟨a2, c2, rfl, hl2⟩ := flatAt_len hy
  have HX := Lib.hid hx
  have HY := Lib.hid hy
  clear hx hy
  unfold maxLen at hl hl2
  by_cases he : x.length = y.length
  · have hb : ((x.length : Int) == y.length) = true := beq_iff_eq.2 (by omega)
    have hbn : ((x.length : Int) != y.length) = false := by rw [bne_eq_false_iff_eq]; omega
    have HE := Lib.hid he
    clear he
    go_enter Tryz.func66, Tryz.ntmps66
    go_wp2
    go_loopw [5, 13] (fun _ i wr => ∃ k : Nat, k ≤ x.length ∧ i = .int .i64 k ∧ x.take k = y.take k ∧ Below w.heap.size w wr) (fun _ i _ => x.length - (intOf i).toNat)
    case atStart => exact ⟨0, Nat.zero_le _, rfl, rfl, Below.refl _ _⟩
    case round =>
      obtain ⟨k, hk, rfl, ht, hbr⟩ := hrel
      have HT := Lib.hid ht
      have HB := Lib.hid hbr
      have HXr := Lib.hid (FlatAt.below HX.out hbr (Nat.le_refl _))
      have HYr := Lib.hid (FlatAt.below HY.out hbr (Nat.le_refl _))
      clear ht hbr
      by_cases hlt : k < x.length
      · have hky : k < y.length := by have := HE.out; omega
        obtain ⟨b, o, rfl, _, hd⟩ := flatAt_cell cCell_len HXr.out k hlt (by decide)
        obtain ⟨b2, o2, rfl, _, hd2⟩ := flatAt_cell cCell_len HYr.out k hky (by decide)
        have d0 := hd 0 (by decide)
        have d1 := hd 1 (by decide)
        have q0 := hd2 0 (by decide)
        have q1 := hd2 1 (by decide)
        clear hd hd2
        have HS := Lib.hid (take_eq_step x y HE.out k hlt HT.out)
        have HD := Lib.hid (show x[k] ≠ y[k] → ¬ x = y from fun h e => h (by subst e; rfl))
        generalize x[k] = p at *
        generalize y[k] = q at *
        obtain ⟨a0, a1⟩ := p
        obtain ⟨b0, b1⟩ := q
        simp only [cCell, List.getElem?_cons_zero, List.getElem?_cons_succ, Nat.add_zero] at d0 d1 q0 q1
        have hk0 : (0 : Int) ≤ (k : Int) := by omega
        have hk1 : (k : Int) < (x.length : Int) := by omega
        have hk2 : (k : Int) < (y.length : Int) := by omega
        by_cases heq : (⟨a0, a1⟩ : CellD) = ⟨b0, b1⟩
        · have HN := Lib.hid (HS.out heq)
          injection heq with e0 e1
          subst e0 e1
          clear HS HD
          go_wp2
          go_quiet (fail)
          go_wp2_with fail
          exact ⟨⟨k + 1, by omega, by go_num, HN.out, belE HB.out _⟩, by simp [intOf]; omega⟩
        · have HN := Lib.hid (HD.out heq)
          by_cases e0 : a0 = b0
          · have e1 : ¬ a1 = b1 := fun e => heq (by rw [e0, e])
            have hn1 : (a1 == b1) = false := by simpa using e1
            subst e0
            clear HS HD heq e1
            go_wp2
            go_quiet (fail)
            go_wp2_with fail
            go_ret
            exact ⟨ret_bool (by simp [HN.out]), belE HB.out _⟩
          · have hn0 : (a0 == b0) = false := by simpa using e0
            clear HS HD heq e0
            go_wp2
            go_quiet (fail)
            go_wp2_with fail
            go_ret
            exact ⟨ret_bool (by simp [HN.out]), belE HB.out _⟩
      · have HN := Lib.hid (show x = y from by
          have h := HT.out
          rw [List.take_of_length_le (by omega), List.take_of_length_le (by have := HE.out; omega)] at h
          exact h)
        go_wp2
        go_ret
        exact ⟨ret_bool (by simp [HN.out]), HB.out⟩
  · have hb : ((x.length : Int) == y.length) = false := beq_eq_false_iff_ne.2 (by omega)
    have hbn : ((x.length : Int) != y.length) = true := by rw [bne_iff_ne]; omega
    have HN := Lib.hid (show ¬ x = y from fun e => he (by rw [e]))
    clear he
    go_enter Tryz.func66, Tryz.ntmps66
    go_wp2
    go_ret
    exact ⟨ret_bool (by simp [HN.out]), Below.refl _ _⟩
set_option maxRecDepth 100000 in
set_option maxHeartbeats 3200000 in
theorem implSame_b (v u : Value) (x y : CoreD) (q : Bool) (hq : decide (x = y) = q) (w : World) (hx : CoreAt w v x) (hy : CoreAt w u y) :
    Calls Tryz.prog 33 #[v, u] w fun e w' => e = .returned (.bool q) ∧ Below w.heap.size w w' := by
  obtain ⟨cv, rfl, hx⟩ := hx
  obtain ⟨cu, rfl, hy⟩ := hy
  have hex := coreD_ext x y
  obtain ⟨a0, a1, a2, a3, a4⟩ := x
  obtain ⟨b0, b1, b2, b3, b4⟩ := y
  unfold vCore
  simp only at *
  have B2 := Lib.hid (show ∀ o1 o2, Below w.heap.size w ((w.alloc o1).alloc o2) from fun o1 o2 => ((Below.refl _ _).alloc (Nat.le_refl _) _).alloc (by simp) _)
  have HX := Lib.hid hx
  have HY := Lib.hid hy
  have HN := Lib.hid (show ¬ (a0 = b0 ∧ a1 = b1 ∧ a2 = b2 ∧ a3 = b3 ∧ a4 = b4) → false = q from fun h => by rw [← hq]; symm; rw [decide_eq_false_iff_not, hex]; exact h)
  have HQ := Lib.hid (show a0 = b0 → a1 = b1 → a2 = b2 → a4 = b4 → decide (a3 = b3) = q from fun h0 h1 h2 h4 => by
    rw [← hq]
    by_cases h3 : a3 = b3
    · rw [decide_eq_true h3, decide_eq_true (hex.2 ⟨h0, h1, h2, h3, h4⟩)]
    · rw [decide_eq_false h3, decide_eq_false (fun e => h3 (hex.1 e).2.2.2.1)])
  have HC := Lib.hid (fun o1 o2 => equalCells_any cv cu a3 b3 ((w.alloc o1).alloc o2) (HX.out.below (B2.out o1 o2) (Nat.le_refl _)) (HY.out.below (B2.out o1 o2) (Nat.le_refl _)))
  clear hx hy hq hex
  by_cases h0 : a0 = b0
  case neg =>
    have HF := Lib.hid (HN.out fun e => h0 e.1)
    have hne : (a0 == b0) = false := by simpa using h0
    have hnf : (a0 != b0) = true := by simpa using h0
    clear h0
    go_enter Tryz.func33, Tryz.ntmps33
    go_wp2_with fail
    go_ret
    exact ⟨ret_bool HF.out, B2.out _ _⟩
  case pos =>
    by_cases h1 : a1 = b1
    case neg =>
      have HF := Lib.hid (HN.out fun e => h1 e.2.1)
      subst h0
      cases a1 <;> cases b1
      all_goals first
        | exact absurd rfl h1
        | (clear h1
           go_enter Tryz.func33, Tryz.ntmps33
           go_wp2_with fail
           go_ret
           exact ⟨ret_bool HF.out, B2.out _ _⟩)
    case pos =>
      by_cases h2 : a2 = b2
      case neg =>
        have HF := Lib.hid (HN.out fun e => h2 e.2.2.1)
        subst h0 h1
        cases a1 <;> cases a2 <;> cases b2
        all_goals first
          | exact absurd rfl h2
          | (clear h2
             go_enter Tryz.func33, Tryz.ntmps33
             go_wp2_with fail
             go_ret
             exact ⟨ret_bool HF.out, B2.out _ _⟩)
      case pos =>
        by_cases h4 : a4 = b4
        case neg =>
          have HF := Lib.hid (HN.out fun e => h4 e.2.2.2.2)
          have hne : (a4 == b4) = false := by simpa using h4
          have hnf : (a4 != b4) = true := by simpa using h4
          subst h0 h1 h2
          clear h4
          cases a1 <;> cases a2
          all_goals
            go_enter Tryz.func33, Tryz.ntmps33
            go_wp2_with fail
            go_ret
            exact ⟨ret_bool HF.out, B2.out _ _⟩
        case pos =>
          have HF := Lib.hid (HQ.out h0 h1 h2 h4)
          subst h0 h1 h2 h4
          obtain ⟨pa, pc, rfl, _⟩ := flatAt_len HX.out
          obtain ⟨qa, qc, rfl, _⟩ := flatAt_len HY.out
          generalize decide (a3 = b3) = eq at *
          cases a1 <;> cases a2
          all_goals
            go_enter Tryz.func33, Tryz.ntmps33
            go_wp2_with fail
            refine (HC.out _ _).mono ?_
            rintro e w1 ⟨rfl, hb⟩
            have HB := Lib.hid ((B2.out _ _).trans (hb.mono (B2.out _ _).size))
            clear hb
            go_wp2_with fail
            go_ret
            exact ⟨ret_bool HF.out, HB.out⟩
theorem implSame_any (v u : Value) (x y : CoreD) (w : World) (hx : CoreAt w v x) (hy : CoreAt w u y) :
    Calls Tryz.prog 33 #[v, u] w fun e w' => e = .returned (.bool (decide (x = y))) ∧ Below w.heap.size w w' := implSame_b v u x y _ rfl w hx hy
end Go.Proofs.YtandbnpgccpcoaaGreat
/- Valid cores have few cells, and short keys. -/
namespace Go.Proofs.YtandbnpgccpcoaaGreat
set_option linter.unusedVariables false
open Go.RowKit
theorem core_len {d : CoreD} (h : coreB d = true) : d.fCells.length ≤ 4 := by
  have := ((coreB_iff d).1 h).2.1
  simp only [cellsB, Bool.and_eq_true, decide_eq_true_eq] at this
  exact this.1
theorem core_keys {d : CoreD} (h : coreB d = true) : ∀ c ∈ d.fCells, c.fKey.length ≤ 8 := by
  have hc := ((coreB_iff d).1 h).2.1
  simp only [cellsB, Bool.and_eq_true, decide_eq_true_eq] at hc
  intro c hm
  obtain ⟨i, hi, rfl⟩ := List.mem_iff_getElem.1 hm
  have := okTo_at d.fCells _ i hc.2 hi
  simp only [okAt, Bool.and_eq_true] at this
  rw [getD_at d.fCells i hi] at this
  exact nameB_len8 this.1.1
theorem core_kind_len {d : CoreD} (h : coreB d = true) : d.fKind.length ≤ 8 := by
  obtain ⟨j, hj, e, _⟩ := coreB_kind h
  rw [e]
  rcases (show j = 0 ∨ j = 1 ∨ j = 2 ∨ j = 3 ∨ j = 4 ∨ j = 5 ∨ j = 6 ∨ j = 7 by omega) with rfl | rfl | rfl | rfl | rfl | rfl | rfl | rfl <;> decide
theorem core_cnt {d : CoreD} (h : coreB d = true) : 0 ≤ d.fCount ∧ d.fCount ≤ 999 := by
  have := ((coreB_iff d).1 h).2.2.2.2.1
  simpa only [numB, Bool.and_eq_true, decide_eq_true_eq] using this
end Go.Proofs.YtandbnpgccpcoaaGreat
namespace Go.Proofs.YtandbnpgccpcoaaGreat
set_option linter.unusedVariables false
set_option linter.unusedSimpArgs false
open Go.ChangeShapes Go.WideShapes Go.ChangeAt Go.RowKit Go.WideMaps Go.WideElems
open Go.ChangeMaps (open_string shut_string)
set_option maxRecDepth 100000 in
set_option maxHeartbeats 6400000 in
theorem fnBreaks_any (v : Value) (l : List UInt8) (w : World) (hR : RowAt w v (Lib.byteCells l)) (mx : Int) (hM : w.cell? ⟨0, 0, none⟩ = some (.int .i64 mx)) :
    Calls Tryz.prog 9 #[v] w fun e w' => e = .returned (.bool true) ∧ Below w.heap.size w w' := by
  have HR := Lib.hid hR
  have HBG := Lib.hid (big_any v l w hR)
  have hMl := World.block_lt_of_cell? w _ hM
  simp only at hMl
  have HMX := Lib.hid (fun W (hw : Below w.heap.size w W) => (hw.cell (p := ⟨0, 0, none⟩) hMl).trans hM)
  clear hR hM hMl
  go_enter Tryz.func9, Tryz.ntmps9
  go_wp2_with fail
  refine HBG.out.mono ?_
  rintro e w' ⟨rfl, rfl⟩
  by_cases hbig : 4096 < l.length
  · go_wp2_with fail
    go_ret
    exact ⟨rfl, Below.refl _ _⟩
  have hd : decide (4096 < l.length) = false := by simpa using hbig
  clear hbig
  rw [hd]
  clear hd HBG
  go_wp2_with fail
  refine (drawCallCore_any v l w HR.out).mono ?_
  rintro e w1 ⟨⟨kd, on, br, y, cnt⟩, cv, ⟨m, k, n, t⟩, rfl, ho, hok, hox, hb⟩
  obtain ⟨ua, uc, rfl⟩ := slice_of ho
  have HOK := Lib.hid hok
  have HOX := Lib.hid hox
  have HB := Lib.hid hb
  have HP := Lib.hid (ownsF_at ho (show y.length ≤ 4194304 by have := hok.2.1; simp only at this; omega))
  clear ho hok hox hb HR
  unfold vCore vCall
  simp only
  have HK1 := Lib.hid (show ∀ c ∈ y, c.fKey.length ≤ maxLen from fun c hc => Nat.le_trans (HOK.out.2.2.1 c hc).1 (by decide))
  have HK2 := Lib.hid (show ∀ c ∈ y, c.fKey.length ≤ 1048576 from fun c hc => Nat.le_trans (HOK.out.2.2.1 c hc).1 (by decide))
  have HYL := Lib.hid (show y.length ≤ 7 from HOK.out.2.1)
  go_upto_region 4 with fail
  have hbn := Bx.new (w1) [.string ⟨kd.toArray⟩, .bool on, .bool br, .slice ua y.length uc, .int .i64 cnt] 31
  have hbb := bx_box (w1) (.cells #[.string ⟨kd.toArray⟩, .bool on, .bool br, .slice ua y.length uc, .int .i64 cnt] 31)
  have Vb_p := Lib.hid hbn
  clear hbn
  replace HP := Lib.hid (FlatAt.below HP.out hbb (Nat.le_refl _))
  replace HB := Lib.hid (belS HB.out hbb)
  clear hbb
  have hbn := Bx.new ((w1).alloc (.cells #[.string ⟨kd.toArray⟩, .bool on, .bool br, .slice ua y.length uc, .int .i64 cnt] 31)) [.string ⟨m.toArray⟩, .string ⟨k.toArray⟩, .int .i64 n, .string ⟨t.toArray⟩] 37
  have hbb := bx_box ((w1).alloc (.cells #[.string ⟨kd.toArray⟩, .bool on, .bool br, .slice ua y.length uc, .int .i64 cnt] 31)) (.cells #[.string ⟨m.toArray⟩, .string ⟨k.toArray⟩, .int .i64 n, .string ⟨t.toArray⟩] 37)
  rw [show ((w1).alloc (.cells #[.string ⟨kd.toArray⟩, .bool on, .bool br, .slice ua y.length uc, .int .i64 cnt] 31)).heap.size = w1.heap.size + 1 by simp] at hbn
  have Vb_x := Lib.hid hbn
  clear hbn
  replace Vb_p := Lib.hid (Vb_p.out.below hbb)
  replace HP := Lib.hid (FlatAt.below HP.out hbb (Nat.le_refl _))
  replace HB := Lib.hid (belS HB.out hbb)
  clear hbb
  generalize ((w1).alloc (.cells #[.string ⟨kd.toArray⟩, .bool on, .bool br, .slice ua y.length uc, .int .i64 cnt] 31)).alloc (.cells #[.string ⟨m.toArray⟩, .string ⟨k.toArray⟩, .int .i64 n, .string ⟨t.toArray⟩] 37) = w4 at *
  have HIC := Lib.hid (fun W (h : FlatAt cCell 2 W (.slice ua y.length uc) y) => implIsCore_any (vCore (⟨kd, on, br, y, cnt⟩ : CoreD) (.slice ua y.length uc)) (⟨kd, on, br, y, cnt⟩ : CoreD) W ⟨_, rfl, h⟩ HK1.out)
  have HIX := Lib.hid (fun W => implIsCall_any (⟨m, k, n, t⟩ : CallD) W (Nat.le_trans HOX.out.2.1 (by decide)))
  have HSC := Lib.hid (fun W (h : FlatAt cCell 2 W (.slice ua y.length uc) y) => specIsCore_any (vCore (⟨kd, on, br, y, cnt⟩ : CoreD) (.slice ua y.length uc)) (⟨kd, on, br, y, cnt⟩ : CoreD) W ⟨_, rfl, h⟩ HK1.out)
  have HCC := Lib.hid (fun W (h : FlatAt cCell 2 W (.slice ua y.length uc) y) (hM : W.cell? ⟨0, 0, none⟩ = some (.int .i64 mx)) => implCallCore_c (vCore (⟨kd, on, br, y, cnt⟩ : CoreD) (.slice ua y.length uc)) (⟨kd, on, br, y, cnt⟩ : CoreD) startX mx W ⟨_, rfl, h⟩ (by have := HYL.out; simp only; omega) HK2.out (Nat.le_trans HOK.out.1 (by decide)) HOK.out.2.2.2.1 (by decide) (by decide) hM)
  have HKC := Lib.hid (fun h => @doD_core (⟨kd, on, br, y, cnt⟩ : CoreD) startX h)
  have HBS := Lib.hid (@breaks_start (⟨kd, on, br, y, cnt⟩ : CoreD))
  generalize doD (⟨kd, on, br, y, cnt⟩ : CoreD) startX = out at *
  generalize hkb : coreB (⟨kd, on, br, y, cnt⟩ : CoreD) = kb at *
  clear hkb
  generalize hcb : callB (⟨m, k, n, t⟩ : CallD) = cb at *
  unfold vCore at HIC HSC HCC
  unfold vCall at HIX
  simp only at HIC HSC HIX
  simp only [vCall, startX] at HCC
  obtain ⟨⟨ka, oa, ba, ya, na⟩, c0, c1, c2, c3, c4⟩ := out
  simp only [vCore, vReply] at HCC
  have B_p := Vb_p.out
  have p_0 := Vb_p.out.cell 0 (by simp)
  have p_1 := Vb_p.out.cell 1 (by simp)
  have p_2 := Vb_p.out.cell 2 (by simp)
  have p_3 := Vb_p.out.cell 3 (by simp)
  have p_4 := Vb_p.out.cell 4 (by simp)
  simp only [List.getElem_cons_zero, List.getElem_cons_succ] at p_0 p_1 p_2 p_3 p_4
  have p_l := Vb_p.out.lt
  clear B_p
  go_wp2_with fail
  clear p_0 p_1 p_2 p_3 p_4 p_l
  refine (HCC.out _ HP.out (HMX.out _ HB.out)).mono ?_
  rintro e w5 ⟨u, rfl, ho, hb⟩
  replace Vb_p := Lib.hid (Vb_p.out.below hb)
  replace Vb_x := Lib.hid (Vb_x.out.below hb)
  replace HP := Lib.hid (FlatAt.below HP.out hb (Nat.le_refl _))
  replace HB := Lib.hid (belS HB.out hb)
  clear hb
  have HOQ := Lib.hid ho
  obtain ⟨qa, qc, rfl⟩ := slice_of ho
  clear ho
  go_upto_region 5 with fail
  have hbn := Bx.new (w5) [.string ⟨ka.toArray⟩, .bool oa, .bool ba, .slice qa ya.length qc, .int .i64 na] 31
  have hbb := bx_box (w5) (.cells #[.string ⟨ka.toArray⟩, .bool oa, .bool ba, .slice qa ya.length qc, .int .i64 na] 31)
  have Vb_q := Lib.hid hbn
  clear hbn
  replace Vb_p := Lib.hid (Vb_p.out.below hbb)
  replace Vb_x := Lib.hid (Vb_x.out.below hbb)
  replace HP := Lib.hid (FlatAt.below HP.out hbb (Nat.le_refl _))
  replace HOQ := Lib.hid (ownsF_below HOQ.out hbb (Nat.le_refl _))
  replace HB := Lib.hid (belS HB.out hbb)
  clear hbb
  have hbn := Bx.new ((w5).alloc (.cells #[.string ⟨ka.toArray⟩, .bool oa, .bool ba, .slice qa ya.length qc, .int .i64 na] 31)) [.int .i64 c0, .int .i64 c1, .string ⟨c2.toArray⟩, .int .i64 c3, .int .i64 c4] 33
  have hbb := bx_box ((w5).alloc (.cells #[.string ⟨ka.toArray⟩, .bool oa, .bool ba, .slice qa ya.length qc, .int .i64 na] 31)) (.cells #[.int .i64 c0, .int .i64 c1, .string ⟨c2.toArray⟩, .int .i64 c3, .int .i64 c4] 33)
  rw [show ((w5).alloc (.cells #[.string ⟨ka.toArray⟩, .bool oa, .bool ba, .slice qa ya.length qc, .int .i64 na] 31)).heap.size = w5.heap.size + 1 by simp] at hbn
  have Vb_r := Lib.hid hbn
  clear hbn
  replace Vb_p := Lib.hid (Vb_p.out.below hbb)
  replace Vb_x := Lib.hid (Vb_x.out.below hbb)
  replace Vb_q := Lib.hid (Vb_q.out.below hbb)
  replace HP := Lib.hid (FlatAt.below HP.out hbb (Nat.le_refl _))
  replace HOQ := Lib.hid (ownsF_below HOQ.out hbb (Nat.le_refl _))
  replace HB := Lib.hid (belS HB.out hbb)
  clear hbb
  generalize ((w5).alloc (.cells #[.string ⟨ka.toArray⟩, .bool oa, .bool ba, .slice qa ya.length qc, .int .i64 na] 31)).alloc (.cells #[.int .i64 c0, .int .i64 c1, .string ⟨c2.toArray⟩, .int .i64 c3, .int .i64 c4] 33) = w8 at *
  have B_p := Vb_p.out
  have p_0 := Vb_p.out.cell 0 (by simp)
  have p_1 := Vb_p.out.cell 1 (by simp)
  have p_2 := Vb_p.out.cell 2 (by simp)
  have p_3 := Vb_p.out.cell 3 (by simp)
  have p_4 := Vb_p.out.cell 4 (by simp)
  simp only [List.getElem_cons_zero, List.getElem_cons_succ] at p_0 p_1 p_2 p_3 p_4
  have p_l := Vb_p.out.lt
  clear B_p
  go_wp2_with fail
  clear p_0 p_1 p_2 p_3 p_4 p_l
  have HSof := Lib.hid (fun W (h : Below w8.heap.size w8 W) => (show W.cell? ⟨w1.heap.size, 0, none⟩ = some (.string ⟨kd.toArray⟩) ∧ W.cell? ⟨w1.heap.size, 1, none⟩ = some (.bool on) ∧ W.cell? ⟨w1.heap.size, 2, none⟩ = some (.bool br) ∧ W.cell? ⟨w1.heap.size, 3, none⟩ = some (.slice ua y.length uc) ∧ W.cell? ⟨w1.heap.size, 4, none⟩ = some (.int .i64 cnt) ∧ Below w8.heap.size w8 W from ⟨(h.cell (p := ⟨w1.heap.size, 0, none⟩) Vb_p.out.lt).trans (Vb_p.out.cell 0 (by simp)), (h.cell (p := ⟨w1.heap.size, 1, none⟩) Vb_p.out.lt).trans (Vb_p.out.cell 1 (by simp)), (h.cell (p := ⟨w1.heap.size, 2, none⟩) Vb_p.out.lt).trans (Vb_p.out.cell 2 (by simp)), (h.cell (p := ⟨w1.heap.size, 3, none⟩) Vb_p.out.lt).trans (Vb_p.out.cell 3 (by simp)), (h.cell (p := ⟨w1.heap.size, 4, none⟩) Vb_p.out.lt).trans (Vb_p.out.cell 4 (by simp)), h⟩))
  refine wp_region_held_drew (S := (fun w' => w'.cell? ⟨w1.heap.size, 0, none⟩ = some (.string ⟨kd.toArray⟩) ∧ w'.cell? ⟨w1.heap.size, 1, none⟩ = some (.bool on) ∧ w'.cell? ⟨w1.heap.size, 2, none⟩ = some (.bool br) ∧ w'.cell? ⟨w1.heap.size, 3, none⟩ = some (.slice ua y.length uc) ∧ w'.cell? ⟨w1.heap.size, 4, none⟩ = some (.int .i64 cnt) ∧ Below w8.heap.size w8 w')) (by kernel_rfl) ?_ (fun hHeld => ?_)
  · exact HSof.out _ (Below.refl _ _).drew
  refine wpAnyH_take (i := 0) (v := ?_) rfl (by kernel_rfl) (by kernel_rfl) (by kernel_rfl) (fun _ _ _ h => h) (Or.inl ⟨by rfl, ?_⟩) (by assumption) ?_
  rotate_left
  · intro w hSw; (try dsimp only at hSw); go_simp; with_reducible rfl
  try simp only [Act.put, List.getElem_toArray, List.getElem_cons_zero, List.getElem_cons_succ, List.setIfInBounds_toArray, List.set_cons_zero, List.set_cons_succ]
  refine wpAnyH_take (i := 2) (v := ?_) rfl (by kernel_rfl) (by kernel_rfl) (by kernel_rfl) (fun _ _ _ h => h) (Or.inl ⟨by rfl, ?_⟩) (by assumption) ?_
  rotate_left
  · intro w hSw; (try dsimp only at hSw); go_simp; with_reducible rfl
  try simp only [Act.put, List.getElem_toArray, List.getElem_cons_zero, List.getElem_cons_succ, List.setIfInBounds_toArray, List.set_cons_zero, List.set_cons_succ]
  refine wpAnyH_ready (rs := [1]) (by kernel_rfl) (by simp) ?_
  refine AllReadyH.cons rfl (fun K hK => ?_) AllReadyH.nil
  go_simp
  go_at_call 31; (refine (HIC.out _ (FlatAt.below HP.out (hHeld.2.2.2.2.2) (Nat.le_refl _))).mono ?_); rintro e w71 ⟨rfl, hb⟩; have HBN := Lib.hid (belS (hHeld.2.2.2.2.2) hb); clear hb
  refine hK.out _ _ ?_ (fun hHeld => ?_)
  · exact HSof.out _ HBN.out
  clear hK K
  try simp only [Act.put, List.getElem_toArray, List.getElem_cons_zero, List.getElem_cons_succ, List.setIfInBounds_toArray, List.set_cons_zero, List.set_cons_succ]
  refine wpAnyH_ready (rs := [3]) (by kernel_rfl) (by simp) ?_
  refine AllReadyH.cons rfl (fun K hK => ?_) AllReadyH.nil
  go_simp
  go_at_call 37; (refine (HSC.out _ (FlatAt.below HP.out (hHeld.2.2.2.2.2) (Nat.le_refl _))).mono ?_); rintro e w72 ⟨rfl, hb⟩; have HBN := Lib.hid (belS (hHeld.2.2.2.2.2) hb); clear hb
  refine hK.out _ _ ?_ (fun hHeld => ?_)
  · exact HSof.out _ HBN.out
  clear hK K
  try simp only [Act.put, List.getElem_toArray, List.getElem_cons_zero, List.getElem_cons_succ, List.setIfInBounds_toArray, List.set_cons_zero, List.set_cons_succ]
  refine wpAnyH_take (i := 4) (v := ?_) rfl (by kernel_rfl) (by kernel_rfl) (by kernel_rfl) (fun _ _ _ h => h) (Or.inl ⟨by rfl, ?_⟩) (by assumption) ?_
  rotate_left
  · intro w hSw; (try dsimp only at hSw); go_simp; with_reducible rfl
  try simp only [Act.put, List.getElem_toArray, List.getElem_cons_zero, List.getElem_cons_succ, List.setIfInBounds_toArray, List.set_cons_zero, List.set_cons_succ]
  refine wpAnyH_done (by kernel_rfl) ?_ _
  have hb := HBN.out
  clear HBN HSof hHeld
  replace Vb_p := Lib.hid (Vb_p.out.below hb)
  replace Vb_x := Lib.hid (Vb_x.out.below hb)
  replace Vb_q := Lib.hid (Vb_q.out.below hb)
  replace Vb_r := Lib.hid (Vb_r.out.below hb)
  replace HP := Lib.hid (FlatAt.below HP.out hb (Nat.le_refl _))
  replace HOQ := Lib.hid (ownsF_below HOQ.out hb (Nat.le_refl _))
  replace HB := Lib.hid (belS HB.out hb)
  clear hb
  cases kb
  case false =>
    have B_p := Vb_p.out
    have p_0 := Vb_p.out.cell 0 (by simp)
    have p_1 := Vb_p.out.cell 1 (by simp)
    have p_2 := Vb_p.out.cell 2 (by simp)
    have p_3 := Vb_p.out.cell 3 (by simp)
    have p_4 := Vb_p.out.cell 4 (by simp)
    simp only [List.getElem_cons_zero, List.getElem_cons_succ] at p_0 p_1 p_2 p_3 p_4
    have p_l := Vb_p.out.lt
    clear B_p
    go_wp2_with fail
    clear p_0 p_1 p_2 p_3 p_4 p_l
    refine (HIC.out _ HP.out).mono ?_
    rintro e w9 ⟨rfl, hb⟩
    replace Vb_p := Lib.hid (Vb_p.out.below hb)
    replace Vb_x := Lib.hid (Vb_x.out.below hb)
    replace Vb_q := Lib.hid (Vb_q.out.below hb)
    replace Vb_r := Lib.hid (Vb_r.out.below hb)
    replace HP := Lib.hid (FlatAt.below HP.out hb (Nat.le_refl _))
    replace HOQ := Lib.hid (ownsF_below HOQ.out hb (Nat.le_refl _))
    replace HB := Lib.hid (belS HB.out hb)
    clear hb
    go_wp2_with fail
    go_ret
    exact ⟨rfl, HB.out⟩
  case true =>
    have B_p := Vb_p.out
    have p_0 := Vb_p.out.cell 0 (by simp)
    have p_1 := Vb_p.out.cell 1 (by simp)
    have p_2 := Vb_p.out.cell 2 (by simp)
    have p_3 := Vb_p.out.cell 3 (by simp)
    have p_4 := Vb_p.out.cell 4 (by simp)
    simp only [List.getElem_cons_zero, List.getElem_cons_succ] at p_0 p_1 p_2 p_3 p_4
    have p_l := Vb_p.out.lt
    clear B_p
    go_wp2_with fail
    clear p_0 p_1 p_2 p_3 p_4 p_l
    refine (HIC.out _ HP.out).mono ?_
    rintro e w9 ⟨rfl, hb⟩
    replace Vb_p := Lib.hid (Vb_p.out.below hb)
    replace Vb_x := Lib.hid (Vb_x.out.below hb)
    replace Vb_q := Lib.hid (Vb_q.out.below hb)
    replace Vb_r := Lib.hid (Vb_r.out.below hb)
    replace HP := Lib.hid (FlatAt.below HP.out hb (Nat.le_refl _))
    replace HOQ := Lib.hid (ownsF_below HOQ.out hb (Nat.le_refl _))
    replace HB := Lib.hid (belS HB.out hb)
    clear hb
    by_cases e1 : c0 = 1
    · skip
      subst e1
      have B_r := Vb_r.out
      have r_0 := Vb_r.out.cell 0 (by simp)
      have r_1 := Vb_r.out.cell 1 (by simp)
      have r_2 := Vb_r.out.cell 2 (by simp)
      have r_3 := Vb_r.out.cell 3 (by simp)
      have r_4 := Vb_r.out.cell 4 (by simp)
      simp only [List.getElem_cons_zero, List.getElem_cons_succ] at r_0 r_1 r_2 r_3 r_4
      have r_l := Vb_r.out.lt
      clear B_r
      go_wp2_with fail
      clear r_0 r_1 r_2 r_3 r_4 r_l
      go_ret
      exact ⟨rfl, HB.out⟩
    have E1 : (c0 == 1) = false := by simpa using e1
    have HF := Lib.hid (HBS.out (by first | rfl | trivial) e1)
    have hba : ba = (c0 == 3) := HF.out.2
    have h3 : (c0 == 3) = (on || br) := HF.out.1
    clear e1 HF HBS
    have HV := Lib.hid (show coreB (⟨ka, oa, ba, ya, na⟩ : CoreD) = true from HKC.out (by first | rfl | trivial))
    replace HOQ := Lib.hid (ownsF_at HOQ.out (show ya.length ≤ 4194304 by have h : ya.length ≤ 4 := core_len HV.out; omega))
    have HTH := Lib.hid (fun hb2 hx => @breaks_then (⟨ka, oa, ba, ya, na⟩ : CoreD) (⟨m, k, n, t⟩ : CallD) HV.out hb2 hx)
    have HCD := Lib.hid (fun W (h : FlatAt cCell 2 W (.slice qa ya.length qc) ya) (hM : W.cell? ⟨0, 0, none⟩ = some (.int .i64 mx)) => implCallCore_c (vCore (⟨ka, oa, ba, ya, na⟩ : CoreD) (.slice qa ya.length qc)) (⟨ka, oa, ba, ya, na⟩ : CoreD) (⟨m, k, n, t⟩ : CallD) mx W ⟨_, rfl, h⟩ (Nat.le_trans (core_len HV.out) (by decide)) (fun c hc => Nat.le_trans (core_keys HV.out c hc) (by decide)) (Nat.le_trans (core_kind_len HV.out) (by decide)) (by have := (core_cnt HV.out).1; simp only at this ⊢; omega) (Nat.le_trans HOX.out.2.1 (by decide)) (Nat.le_trans HOX.out.2.2.2 (by decide)) hM)
    have HSM := Lib.hid (fun z W ww (h : FlatAt cCell 2 W (.slice qa ya.length qc) ya) (h2 : FlatAt cCell 2 W ww z.fCells) => implSame_b (vCore (⟨ka, oa, ba, ya, na⟩ : CoreD) (.slice qa ya.length qc)) (vCore z ww) (⟨ka, oa, ba, ya, na⟩ : CoreD) z _ rfl W ⟨_, rfl, h⟩ ⟨_, rfl, h2⟩)
    have HKD := Lib.hid (fun h => @doD_core (⟨ka, oa, ba, ya, na⟩ : CoreD) (⟨m, k, n, t⟩ : CallD) h)
    rw [hcb] at HTH
    skip
    generalize hout : doD (⟨ka, oa, ba, ya, na⟩ : CoreD) (⟨m, k, n, t⟩ : CallD) = out2 at *
    clear hout
    have HVL := Lib.hid (HKD.out HV.out)
    have HKL := Lib.hid (core_len HVL.out)
    clear HKD HKC
    obtain ⟨⟨kz, oz, bz, yz, nz⟩, d0, d1, d2, d3, d4⟩ := out2
    unfold vCore at HCD HSM
    simp only [vCall, vReply] at HCD HSM HTH HKL
    cases hob : (on || br)
    case false =>
      rw [hob] at h3
      rw [h3] at hba
      subst hba
      cases on
      case false =>
        cases br
        case false =>
          clear hob
          have B_p := Vb_p.out
          have p_0 := Vb_p.out.cell 0 (by simp)
          have p_1 := Vb_p.out.cell 1 (by simp)
          have p_2 := Vb_p.out.cell 2 (by simp)
          have p_3 := Vb_p.out.cell 3 (by simp)
          have p_4 := Vb_p.out.cell 4 (by simp)
          simp only [List.getElem_cons_zero, List.getElem_cons_succ] at p_0 p_1 p_2 p_3 p_4
          have p_l := Vb_p.out.lt
          clear B_p
          have B_q := Vb_q.out
          have q_0 := Vb_q.out.cell 0 (by simp)
          have q_1 := Vb_q.out.cell 1 (by simp)
          have q_2 := Vb_q.out.cell 2 (by simp)
          have q_3 := Vb_q.out.cell 3 (by simp)
          have q_4 := Vb_q.out.cell 4 (by simp)
          simp only [List.getElem_cons_zero, List.getElem_cons_succ] at q_0 q_1 q_2 q_3 q_4
          have q_l := Vb_q.out.lt
          clear B_q
          have B_r := Vb_r.out
          have r_0 := Vb_r.out.cell 0 (by simp)
          have r_1 := Vb_r.out.cell 1 (by simp)
          have r_2 := Vb_r.out.cell 2 (by simp)
          have r_3 := Vb_r.out.cell 3 (by simp)
          have r_4 := Vb_r.out.cell 4 (by simp)
          simp only [List.getElem_cons_zero, List.getElem_cons_succ] at r_0 r_1 r_2 r_3 r_4
          have r_l := Vb_r.out.lt
          clear B_r
          have B_x := Vb_x.out
          have x_0 := Vb_x.out.cell 0 (by simp)
          have x_1 := Vb_x.out.cell 1 (by simp)
          have x_2 := Vb_x.out.cell 2 (by simp)
          have x_3 := Vb_x.out.cell 3 (by simp)
          simp only [List.getElem_cons_zero, List.getElem_cons_succ] at x_0 x_1 x_2 x_3
          have x_l := Vb_x.out.lt
          clear B_x
          go_wp2_with fail
          clear p_0 p_1 p_2 p_3 p_4 p_l q_0 q_1 q_2 q_3 q_4 q_l r_0 r_1 r_2 r_3 r_4 r_l x_0 x_1 x_2 x_3 x_l
          go_ret
          exact ⟨rfl, HB.out⟩
        case true =>
          simp at hob
      case true =>
        cases br
        case false =>
          simp at hob
        case true =>
          simp at hob
    case true =>
      rw [hob] at h3
      rw [h3] at hba
      subst hba
      cases on
      case false =>
        cases br
        case false =>
          simp at hob
        case true =>
          clear hob
          have B_p := Vb_p.out
          have p_0 := Vb_p.out.cell 0 (by simp)
          have p_1 := Vb_p.out.cell 1 (by simp)
          have p_2 := Vb_p.out.cell 2 (by simp)
          have p_3 := Vb_p.out.cell 3 (by simp)
          have p_4 := Vb_p.out.cell 4 (by simp)
          simp only [List.getElem_cons_zero, List.getElem_cons_succ] at p_0 p_1 p_2 p_3 p_4
          have p_l := Vb_p.out.lt
          clear B_p
          have B_q := Vb_q.out
          have q_0 := Vb_q.out.cell 0 (by simp)
          have q_1 := Vb_q.out.cell 1 (by simp)
          have q_2 := Vb_q.out.cell 2 (by simp)
          have q_3 := Vb_q.out.cell 3 (by simp)
          have q_4 := Vb_q.out.cell 4 (by simp)
          simp only [List.getElem_cons_zero, List.getElem_cons_succ] at q_0 q_1 q_2 q_3 q_4
          have q_l := Vb_q.out.lt
          clear B_q
          have B_r := Vb_r.out
          have r_0 := Vb_r.out.cell 0 (by simp)
          have r_1 := Vb_r.out.cell 1 (by simp)
          have r_2 := Vb_r.out.cell 2 (by simp)
          have r_3 := Vb_r.out.cell 3 (by simp)
          have r_4 := Vb_r.out.cell 4 (by simp)
          simp only [List.getElem_cons_zero, List.getElem_cons_succ] at r_0 r_1 r_2 r_3 r_4
          have r_l := Vb_r.out.lt
          clear B_r
          have B_x := Vb_x.out
          have x_0 := Vb_x.out.cell 0 (by simp)
          have x_1 := Vb_x.out.cell 1 (by simp)
          have x_2 := Vb_x.out.cell 2 (by simp)
          have x_3 := Vb_x.out.cell 3 (by simp)
          simp only [List.getElem_cons_zero, List.getElem_cons_succ] at x_0 x_1 x_2 x_3
          have x_l := Vb_x.out.lt
          clear B_x
          go_wp2_with fail
          clear p_0 p_1 p_2 p_3 p_4 p_l q_0 q_1 q_2 q_3 q_4 q_l r_0 r_1 r_2 r_3 r_4 r_l x_0 x_1 x_2 x_3 x_l
          refine (HIX.out _).mono ?_
          rintro e w80 ⟨rfl, hb⟩
          replace Vb_p := Lib.hid (Vb_p.out.below hb)
          replace Vb_x := Lib.hid (Vb_x.out.below hb)
          replace Vb_q := Lib.hid (Vb_q.out.below hb)
          replace Vb_r := Lib.hid (Vb_r.out.below hb)
          replace HP := Lib.hid (FlatAt.below HP.out hb (Nat.le_refl _))
          replace HOQ := Lib.hid (FlatAt.below HOQ.out hb (Nat.le_refl _))
          replace HB := Lib.hid (belS HB.out hb)
          clear hb
          cases cb
          case false =>
            go_wp2_with fail
            go_ret
            exact ⟨rfl, HB.out⟩
          case true =>
            have HT := Lib.hid (HTH.out (by first | rfl | trivial) (by first | rfl | trivial))
            clear HTH
            have B_q := Vb_q.out
            have q_0 := Vb_q.out.cell 0 (by simp)
            have q_1 := Vb_q.out.cell 1 (by simp)
            have q_2 := Vb_q.out.cell 2 (by simp)
            have q_3 := Vb_q.out.cell 3 (by simp)
            have q_4 := Vb_q.out.cell 4 (by simp)
            simp only [List.getElem_cons_zero, List.getElem_cons_succ] at q_0 q_1 q_2 q_3 q_4
            have q_l := Vb_q.out.lt
            clear B_q
            have B_x := Vb_x.out
            have x_0 := Vb_x.out.cell 0 (by simp)
            have x_1 := Vb_x.out.cell 1 (by simp)
            have x_2 := Vb_x.out.cell 2 (by simp)
            have x_3 := Vb_x.out.cell 3 (by simp)
            simp only [List.getElem_cons_zero, List.getElem_cons_succ] at x_0 x_1 x_2 x_3
            have x_l := Vb_x.out.lt
            clear B_x
            go_wp2_with fail
            clear q_0 q_1 q_2 q_3 q_4 q_l x_0 x_1 x_2 x_3 x_l
            refine (HCD.out _ HOQ.out (HMX.out _ HB.out)).mono ?_
            rintro e w10 ⟨u, rfl, ho, hb⟩
            replace Vb_p := Lib.hid (Vb_p.out.below hb)
            replace Vb_x := Lib.hid (Vb_x.out.below hb)
            replace Vb_q := Lib.hid (Vb_q.out.below hb)
            replace Vb_r := Lib.hid (Vb_r.out.below hb)
            replace HP := Lib.hid (FlatAt.below HP.out hb (Nat.le_refl _))
            replace HOQ := Lib.hid (FlatAt.below HOQ.out hb (Nat.le_refl _))
            replace HB := Lib.hid (belS HB.out hb)
            clear hb
            have HZ := Lib.hid (ownsF_at ho (show yz.length ≤ 4194304 by have h : yz.length ≤ 4 := HKL.out; omega))
            obtain ⟨za, zc, rfl⟩ := slice_of ho
            clear ho
            go_upto_region 14 with fail
            have hbn := Bx.new (w10) [.string ⟨kz.toArray⟩, .bool oz, .bool bz, .slice za yz.length zc, .int .i64 nz] 31
            have hbb := bx_box (w10) (.cells #[.string ⟨kz.toArray⟩, .bool oz, .bool bz, .slice za yz.length zc, .int .i64 nz] 31)
            have Vb_z := Lib.hid hbn
            clear hbn
            replace Vb_p := Lib.hid (Vb_p.out.below hbb)
            replace Vb_x := Lib.hid (Vb_x.out.below hbb)
            replace Vb_q := Lib.hid (Vb_q.out.below hbb)
            replace Vb_r := Lib.hid (Vb_r.out.below hbb)
            replace HP := Lib.hid (FlatAt.below HP.out hbb (Nat.le_refl _))
            replace HOQ := Lib.hid (FlatAt.below HOQ.out hbb (Nat.le_refl _))
            replace HZ := Lib.hid (FlatAt.below HZ.out hbb (Nat.le_refl _))
            replace HB := Lib.hid (belS HB.out hbb)
            clear hbb
            have hbn := Bx.new ((w10).alloc (.cells #[.string ⟨kz.toArray⟩, .bool oz, .bool bz, .slice za yz.length zc, .int .i64 nz] 31)) [.int .i64 d0, .int .i64 d1, .string ⟨d2.toArray⟩, .int .i64 d3, .int .i64 d4] 33
            have hbb := bx_box ((w10).alloc (.cells #[.string ⟨kz.toArray⟩, .bool oz, .bool bz, .slice za yz.length zc, .int .i64 nz] 31)) (.cells #[.int .i64 d0, .int .i64 d1, .string ⟨d2.toArray⟩, .int .i64 d3, .int .i64 d4] 33)
            rw [show ((w10).alloc (.cells #[.string ⟨kz.toArray⟩, .bool oz, .bool bz, .slice za yz.length zc, .int .i64 nz] 31)).heap.size = w10.heap.size + 1 by simp] at hbn
            have Vb_s := Lib.hid hbn
            clear hbn
            replace Vb_p := Lib.hid (Vb_p.out.below hbb)
            replace Vb_x := Lib.hid (Vb_x.out.below hbb)
            replace Vb_q := Lib.hid (Vb_q.out.below hbb)
            replace Vb_r := Lib.hid (Vb_r.out.below hbb)
            replace Vb_z := Lib.hid (Vb_z.out.below hbb)
            replace HP := Lib.hid (FlatAt.below HP.out hbb (Nat.le_refl _))
            replace HOQ := Lib.hid (FlatAt.below HOQ.out hbb (Nat.le_refl _))
            replace HZ := Lib.hid (FlatAt.below HZ.out hbb (Nat.le_refl _))
            replace HB := Lib.hid (belS HB.out hbb)
            clear hbb
            generalize ((w10).alloc (.cells #[.string ⟨kz.toArray⟩, .bool oz, .bool bz, .slice za yz.length zc, .int .i64 nz] 31)).alloc (.cells #[.int .i64 d0, .int .i64 d1, .string ⟨d2.toArray⟩, .int .i64 d3, .int .i64 d4] 33) = w13 at *
            have hT1 := HT.out.1
            have hT2 := HT.out.2
            clear HT
            by_cases eT : m = [84, 101, 108, 108]
            · skip
              subst eT
              have hbz : bz = true := by simpa +decide using hT1
              subst hbz
              clear hT1 hT2
              by_cases e0 : d0 = 0
              · skip
                subst e0
                have B_s := Vb_s.out
                have s_0 := Vb_s.out.cell 0 (by simp)
                have s_1 := Vb_s.out.cell 1 (by simp)
                have s_2 := Vb_s.out.cell 2 (by simp)
                have s_3 := Vb_s.out.cell 3 (by simp)
                have s_4 := Vb_s.out.cell 4 (by simp)
                simp only [List.getElem_cons_zero, List.getElem_cons_succ] at s_0 s_1 s_2 s_3 s_4
                have s_l := Vb_s.out.lt
                clear B_s
                have B_x := Vb_x.out
                have x_0 := Vb_x.out.cell 0 (by simp)
                have x_1 := Vb_x.out.cell 1 (by simp)
                have x_2 := Vb_x.out.cell 2 (by simp)
                have x_3 := Vb_x.out.cell 3 (by simp)
                simp only [List.getElem_cons_zero, List.getElem_cons_succ] at x_0 x_1 x_2 x_3
                have x_l := Vb_x.out.lt
                clear B_x
                have B_z := Vb_z.out
                have z_0 := Vb_z.out.cell 0 (by simp)
                have z_1 := Vb_z.out.cell 1 (by simp)
                have z_2 := Vb_z.out.cell 2 (by simp)
                have z_3 := Vb_z.out.cell 3 (by simp)
                have z_4 := Vb_z.out.cell 4 (by simp)
                simp only [List.getElem_cons_zero, List.getElem_cons_succ] at z_0 z_1 z_2 z_3 z_4
                have z_l := Vb_z.out.lt
                clear B_z
                go_wp2_with fail
                clear s_0 s_1 s_2 s_3 s_4 s_l x_0 x_1 x_2 x_3 x_l z_0 z_1 z_2 z_3 z_4 z_l
                go_ret
                exact ⟨rfl, HB.out⟩
              · skip
                have E0 : (d0 == 0) = false := by simpa using e0
                clear e0
                have B_s := Vb_s.out
                have s_0 := Vb_s.out.cell 0 (by simp)
                have s_1 := Vb_s.out.cell 1 (by simp)
                have s_2 := Vb_s.out.cell 2 (by simp)
                have s_3 := Vb_s.out.cell 3 (by simp)
                have s_4 := Vb_s.out.cell 4 (by simp)
                simp only [List.getElem_cons_zero, List.getElem_cons_succ] at s_0 s_1 s_2 s_3 s_4
                have s_l := Vb_s.out.lt
                clear B_s
                have B_x := Vb_x.out
                have x_0 := Vb_x.out.cell 0 (by simp)
                have x_1 := Vb_x.out.cell 1 (by simp)
                have x_2 := Vb_x.out.cell 2 (by simp)
                have x_3 := Vb_x.out.cell 3 (by simp)
                simp only [List.getElem_cons_zero, List.getElem_cons_succ] at x_0 x_1 x_2 x_3
                have x_l := Vb_x.out.lt
                clear B_x
                have B_z := Vb_z.out
                have z_0 := Vb_z.out.cell 0 (by simp)
                have z_1 := Vb_z.out.cell 1 (by simp)
                have z_2 := Vb_z.out.cell 2 (by simp)
                have z_3 := Vb_z.out.cell 3 (by simp)
                have z_4 := Vb_z.out.cell 4 (by simp)
                simp only [List.getElem_cons_zero, List.getElem_cons_succ] at z_0 z_1 z_2 z_3 z_4
                have z_l := Vb_z.out.lt
                clear B_z
                go_wp2_with fail
                clear s_0 s_1 s_2 s_3 s_4 s_l x_0 x_1 x_2 x_3 x_l z_0 z_1 z_2 z_3 z_4 z_l
                go_ret
                exact ⟨rfl, HB.out⟩
            have ET : (m == [84, 101, 108, 108]) = false := by simpa using eT
            by_cases e1 : d0 = 1
            · skip
              subst e1
              have hbz : bz = true := by simpa +decide using hT1
              subst hbz
              clear hT1 hT2 eT
              have B_s := Vb_s.out
              have s_0 := Vb_s.out.cell 0 (by simp)
              have s_1 := Vb_s.out.cell 1 (by simp)
              have s_2 := Vb_s.out.cell 2 (by simp)
              have s_3 := Vb_s.out.cell 3 (by simp)
              have s_4 := Vb_s.out.cell 4 (by simp)
              simp only [List.getElem_cons_zero, List.getElem_cons_succ] at s_0 s_1 s_2 s_3 s_4
              have s_l := Vb_s.out.lt
              clear B_s
              have B_x := Vb_x.out
              have x_0 := Vb_x.out.cell 0 (by simp)
              have x_1 := Vb_x.out.cell 1 (by simp)
              have x_2 := Vb_x.out.cell 2 (by simp)
              have x_3 := Vb_x.out.cell 3 (by simp)
              simp only [List.getElem_cons_zero, List.getElem_cons_succ] at x_0 x_1 x_2 x_3
              have x_l := Vb_x.out.lt
              clear B_x
              have B_z := Vb_z.out
              have z_0 := Vb_z.out.cell 0 (by simp)
              have z_1 := Vb_z.out.cell 1 (by simp)
              have z_2 := Vb_z.out.cell 2 (by simp)
              have z_3 := Vb_z.out.cell 3 (by simp)
              have z_4 := Vb_z.out.cell 4 (by simp)
              simp only [List.getElem_cons_zero, List.getElem_cons_succ] at z_0 z_1 z_2 z_3 z_4
              have z_l := Vb_z.out.lt
              clear B_z
              go_wp2_with fail
              clear s_0 s_1 s_2 s_3 s_4 s_l x_0 x_1 x_2 x_3 x_l z_0 z_1 z_2 z_3 z_4 z_l
              go_ret
              exact ⟨rfl, HB.out⟩
            have E1b : (d0 == 1) = false := by simpa using e1
            by_cases e0 : d0 = 0
            · skip
              subst e0
              have hmH : m = [72, 101, 97, 108] := by rw [show mTell = [84, 101, 108, 108] from rfl, ET] at hT2; simpa +decide using hT2
              subst hmH
              have hbz : bz = false := by simpa +decide using hT1
              subst hbz
              clear hT1 hT2 eT e1
              have B_s := Vb_s.out
              have s_0 := Vb_s.out.cell 0 (by simp)
              have s_1 := Vb_s.out.cell 1 (by simp)
              have s_2 := Vb_s.out.cell 2 (by simp)
              have s_3 := Vb_s.out.cell 3 (by simp)
              have s_4 := Vb_s.out.cell 4 (by simp)
              simp only [List.getElem_cons_zero, List.getElem_cons_succ] at s_0 s_1 s_2 s_3 s_4
              have s_l := Vb_s.out.lt
              clear B_s
              have B_x := Vb_x.out
              have x_0 := Vb_x.out.cell 0 (by simp)
              have x_1 := Vb_x.out.cell 1 (by simp)
              have x_2 := Vb_x.out.cell 2 (by simp)
              have x_3 := Vb_x.out.cell 3 (by simp)
              simp only [List.getElem_cons_zero, List.getElem_cons_succ] at x_0 x_1 x_2 x_3
              have x_l := Vb_x.out.lt
              clear B_x
              have B_z := Vb_z.out
              have z_0 := Vb_z.out.cell 0 (by simp)
              have z_1 := Vb_z.out.cell 1 (by simp)
              have z_2 := Vb_z.out.cell 2 (by simp)
              have z_3 := Vb_z.out.cell 3 (by simp)
              have z_4 := Vb_z.out.cell 4 (by simp)
              simp only [List.getElem_cons_zero, List.getElem_cons_succ] at z_0 z_1 z_2 z_3 z_4
              have z_l := Vb_z.out.lt
              clear B_z
              go_wp2_with fail
              clear s_0 s_1 s_2 s_3 s_4 s_l x_0 x_1 x_2 x_3 x_l z_0 z_1 z_2 z_3 z_4 z_l
              go_ret
              exact ⟨rfl, HB.out⟩
            have E0 : (d0 == 0) = false := by simpa using e0
            rw [show mTell = [84, 101, 108, 108] from rfl, ET, E0, E1b] at hT2
            rw [E0] at hT1
            simp only [Bool.false_and, Bool.or_false, Bool.false_or, Bool.and_eq_true, beq_iff_eq, decide_eq_true_eq] at hT2
            obtain ⟨h3d, hqz⟩ := hT2
            subst h3d
            have hbz : bz = true := by simpa using hT1
            subst hbz
            have HSZ := Lib.hid (HSM.out (⟨kz, oz, true, yz, nz⟩ : CoreD))
            rw [show decide ((⟨ka, oa, true, ya, na⟩ : CoreD) = ⟨kz, oz, true, yz, nz⟩) = true from decide_eq_true hqz] at HSZ
            clear hT1 hqz eT e1 e0
            have B_s := Vb_s.out
            have s_0 := Vb_s.out.cell 0 (by simp)
            have s_1 := Vb_s.out.cell 1 (by simp)
            have s_2 := Vb_s.out.cell 2 (by simp)
            have s_3 := Vb_s.out.cell 3 (by simp)
            have s_4 := Vb_s.out.cell 4 (by simp)
            simp only [List.getElem_cons_zero, List.getElem_cons_succ] at s_0 s_1 s_2 s_3 s_4
            have s_l := Vb_s.out.lt
            clear B_s
            have B_x := Vb_x.out
            have x_0 := Vb_x.out.cell 0 (by simp)
            have x_1 := Vb_x.out.cell 1 (by simp)
            have x_2 := Vb_x.out.cell 2 (by simp)
            have x_3 := Vb_x.out.cell 3 (by simp)
            simp only [List.getElem_cons_zero, List.getElem_cons_succ] at x_0 x_1 x_2 x_3
            have x_l := Vb_x.out.lt
            clear B_x
            have B_z := Vb_z.out
            have z_0 := Vb_z.out.cell 0 (by simp)
            have z_1 := Vb_z.out.cell 1 (by simp)
            have z_2 := Vb_z.out.cell 2 (by simp)
            have z_3 := Vb_z.out.cell 3 (by simp)
            have z_4 := Vb_z.out.cell 4 (by simp)
            simp only [List.getElem_cons_zero, List.getElem_cons_succ] at z_0 z_1 z_2 z_3 z_4
            have z_l := Vb_z.out.lt
            clear B_z
            have B_q := Vb_q.out
            have q_0 := Vb_q.out.cell 0 (by simp)
            have q_1 := Vb_q.out.cell 1 (by simp)
            have q_2 := Vb_q.out.cell 2 (by simp)
            have q_3 := Vb_q.out.cell 3 (by simp)
            have q_4 := Vb_q.out.cell 4 (by simp)
            simp only [List.getElem_cons_zero, List.getElem_cons_succ] at q_0 q_1 q_2 q_3 q_4
            have q_l := Vb_q.out.lt
            clear B_q
            go_wp2_with fail
            clear s_0 s_1 s_2 s_3 s_4 s_l x_0 x_1 x_2 x_3 x_l z_0 z_1 z_2 z_3 z_4 z_l q_0 q_1 q_2 q_3 q_4 q_l
            refine (HSZ.out _ _ HOQ.out HZ.out).mono ?_
            rintro e w14 ⟨rfl, hb⟩
            replace Vb_p := Lib.hid (Vb_p.out.below hb)
            replace Vb_x := Lib.hid (Vb_x.out.below hb)
            replace Vb_q := Lib.hid (Vb_q.out.below hb)
            replace Vb_r := Lib.hid (Vb_r.out.below hb)
            replace Vb_z := Lib.hid (Vb_z.out.below hb)
            replace Vb_s := Lib.hid (Vb_s.out.below hb)
            replace HP := Lib.hid (FlatAt.below HP.out hb (Nat.le_refl _))
            replace HOQ := Lib.hid (FlatAt.below HOQ.out hb (Nat.le_refl _))
            replace HZ := Lib.hid (FlatAt.below HZ.out hb (Nat.le_refl _))
            replace HB := Lib.hid (belS HB.out hb)
            clear hb
            have B_z := Vb_z.out
            have z_0 := Vb_z.out.cell 0 (by simp)
            have z_1 := Vb_z.out.cell 1 (by simp)
            have z_2 := Vb_z.out.cell 2 (by simp)
            have z_3 := Vb_z.out.cell 3 (by simp)
            have z_4 := Vb_z.out.cell 4 (by simp)
            simp only [List.getElem_cons_zero, List.getElem_cons_succ] at z_0 z_1 z_2 z_3 z_4
            have z_l := Vb_z.out.lt
            clear B_z
            have B_s := Vb_s.out
            have s_0 := Vb_s.out.cell 0 (by simp)
            have s_1 := Vb_s.out.cell 1 (by simp)
            have s_2 := Vb_s.out.cell 2 (by simp)
            have s_3 := Vb_s.out.cell 3 (by simp)
            have s_4 := Vb_s.out.cell 4 (by simp)
            simp only [List.getElem_cons_zero, List.getElem_cons_succ] at s_0 s_1 s_2 s_3 s_4
            have s_l := Vb_s.out.lt
            clear B_s
            go_wp2_with fail
            clear z_0 z_1 z_2 z_3 z_4 z_l s_0 s_1 s_2 s_3 s_4 s_l
            go_ret
            exact ⟨rfl, HB.out⟩
      case true =>
        cases br
        case false =>
          clear hob
          have B_p := Vb_p.out
          have p_0 := Vb_p.out.cell 0 (by simp)
          have p_1 := Vb_p.out.cell 1 (by simp)
          have p_2 := Vb_p.out.cell 2 (by simp)
          have p_3 := Vb_p.out.cell 3 (by simp)
          have p_4 := Vb_p.out.cell 4 (by simp)
          simp only [List.getElem_cons_zero, List.getElem_cons_succ] at p_0 p_1 p_2 p_3 p_4
          have p_l := Vb_p.out.lt
          clear B_p
          have B_q := Vb_q.out
          have q_0 := Vb_q.out.cell 0 (by simp)
          have q_1 := Vb_q.out.cell 1 (by simp)
          have q_2 := Vb_q.out.cell 2 (by simp)
          have q_3 := Vb_q.out.cell 3 (by simp)
          have q_4 := Vb_q.out.cell 4 (by simp)
          simp only [List.getElem_cons_zero, List.getElem_cons_succ] at q_0 q_1 q_2 q_3 q_4
          have q_l := Vb_q.out.lt
          clear B_q
          have B_r := Vb_r.out
          have r_0 := Vb_r.out.cell 0 (by simp)
          have r_1 := Vb_r.out.cell 1 (by simp)
          have r_2 := Vb_r.out.cell 2 (by simp)
          have r_3 := Vb_r.out.cell 3 (by simp)
          have r_4 := Vb_r.out.cell 4 (by simp)
          simp only [List.getElem_cons_zero, List.getElem_cons_succ] at r_0 r_1 r_2 r_3 r_4
          have r_l := Vb_r.out.lt
          clear B_r
          have B_x := Vb_x.out
          have x_0 := Vb_x.out.cell 0 (by simp)
          have x_1 := Vb_x.out.cell 1 (by simp)
          have x_2 := Vb_x.out.cell 2 (by simp)
          have x_3 := Vb_x.out.cell 3 (by simp)
          simp only [List.getElem_cons_zero, List.getElem_cons_succ] at x_0 x_1 x_2 x_3
          have x_l := Vb_x.out.lt
          clear B_x
          go_wp2_with fail
          clear p_0 p_1 p_2 p_3 p_4 p_l q_0 q_1 q_2 q_3 q_4 q_l r_0 r_1 r_2 r_3 r_4 r_l x_0 x_1 x_2 x_3 x_l
          refine (HIX.out _).mono ?_
          rintro e w80 ⟨rfl, hb⟩
          replace Vb_p := Lib.hid (Vb_p.out.below hb)
          replace Vb_x := Lib.hid (Vb_x.out.below hb)
          replace Vb_q := Lib.hid (Vb_q.out.below hb)
          replace Vb_r := Lib.hid (Vb_r.out.below hb)
          replace HP := Lib.hid (FlatAt.below HP.out hb (Nat.le_refl _))
          replace HOQ := Lib.hid (FlatAt.below HOQ.out hb (Nat.le_refl _))
          replace HB := Lib.hid (belS HB.out hb)
          clear hb
          cases cb
          case false =>
            go_wp2_with fail
            go_ret
            exact ⟨rfl, HB.out⟩
          case true =>
            have HT := Lib.hid (HTH.out (by first | rfl | trivial) (by first | rfl | trivial))
            clear HTH
            have B_q := Vb_q.out
            have q_0 := Vb_q.out.cell 0 (by simp)
            have q_1 := Vb_q.out.cell 1 (by simp)
            have q_2 := Vb_q.out.cell 2 (by simp)
            have q_3 := Vb_q.out.cell 3 (by simp)
            have q_4 := Vb_q.out.cell 4 (by simp)
            simp only [List.getElem_cons_zero, List.getElem_cons_succ] at q_0 q_1 q_2 q_3 q_4
            have q_l := Vb_q.out.lt
            clear B_q
            have B_x := Vb_x.out
            have x_0 := Vb_x.out.cell 0 (by simp)
            have x_1 := Vb_x.out.cell 1 (by simp)
            have x_2 := Vb_x.out.cell 2 (by simp)
            have x_3 := Vb_x.out.cell 3 (by simp)
            simp only [List.getElem_cons_zero, List.getElem_cons_succ] at x_0 x_1 x_2 x_3
            have x_l := Vb_x.out.lt
            clear B_x
            go_wp2_with fail
            clear q_0 q_1 q_2 q_3 q_4 q_l x_0 x_1 x_2 x_3 x_l
            refine (HCD.out _ HOQ.out (HMX.out _ HB.out)).mono ?_
            rintro e w10 ⟨u, rfl, ho, hb⟩
            replace Vb_p := Lib.hid (Vb_p.out.below hb)
            replace Vb_x := Lib.hid (Vb_x.out.below hb)
            replace Vb_q := Lib.hid (Vb_q.out.below hb)
            replace Vb_r := Lib.hid (Vb_r.out.below hb)
            replace HP := Lib.hid (FlatAt.below HP.out hb (Nat.le_refl _))
            replace HOQ := Lib.hid (FlatAt.below HOQ.out hb (Nat.le_refl _))
            replace HB := Lib.hid (belS HB.out hb)
            clear hb
            have HZ := Lib.hid (ownsF_at ho (show yz.length ≤ 4194304 by have h : yz.length ≤ 4 := HKL.out; omega))
            obtain ⟨za, zc, rfl⟩ := slice_of ho
            clear ho
            go_upto_region 14 with fail
            have hbn := Bx.new (w10) [.string ⟨kz.toArray⟩, .bool oz, .bool bz, .slice za yz.length zc, .int .i64 nz] 31
            have hbb := bx_box (w10) (.cells #[.string ⟨kz.toArray⟩, .bool oz, .bool bz, .slice za yz.length zc, .int .i64 nz] 31)
            have Vb_z := Lib.hid hbn
            clear hbn
            replace Vb_p := Lib.hid (Vb_p.out.below hbb)
            replace Vb_x := Lib.hid (Vb_x.out.below hbb)
            replace Vb_q := Lib.hid (Vb_q.out.below hbb)
            replace Vb_r := Lib.hid (Vb_r.out.below hbb)
            replace HP := Lib.hid (FlatAt.below HP.out hbb (Nat.le_refl _))
            replace HOQ := Lib.hid (FlatAt.below HOQ.out hbb (Nat.le_refl _))
            replace HZ := Lib.hid (FlatAt.below HZ.out hbb (Nat.le_refl _))
            replace HB := Lib.hid (belS HB.out hbb)
            clear hbb
            have hbn := Bx.new ((w10).alloc (.cells #[.string ⟨kz.toArray⟩, .bool oz, .bool bz, .slice za yz.length zc, .int .i64 nz] 31)) [.int .i64 d0, .int .i64 d1, .string ⟨d2.toArray⟩, .int .i64 d3, .int .i64 d4] 33
            have hbb := bx_box ((w10).alloc (.cells #[.string ⟨kz.toArray⟩, .bool oz, .bool bz, .slice za yz.length zc, .int .i64 nz] 31)) (.cells #[.int .i64 d0, .int .i64 d1, .string ⟨d2.toArray⟩, .int .i64 d3, .int .i64 d4] 33)
            rw [show ((w10).alloc (.cells #[.string ⟨kz.toArray⟩, .bool oz, .bool bz, .slice za yz.length zc, .int .i64 nz] 31)).heap.size = w10.heap.size + 1 by simp] at hbn
            have Vb_s := Lib.hid hbn
            clear hbn
            replace Vb_p := Lib.hid (Vb_p.out.below hbb)
            replace Vb_x := Lib.hid (Vb_x.out.below hbb)
            replace Vb_q := Lib.hid (Vb_q.out.below hbb)
            replace Vb_r := Lib.hid (Vb_r.out.below hbb)
            replace Vb_z := Lib.hid (Vb_z.out.below hbb)
            replace HP := Lib.hid (FlatAt.below HP.out hbb (Nat.le_refl _))
            replace HOQ := Lib.hid (FlatAt.below HOQ.out hbb (Nat.le_refl _))
            replace HZ := Lib.hid (FlatAt.below HZ.out hbb (Nat.le_refl _))
            replace HB := Lib.hid (belS HB.out hbb)
            clear hbb
            generalize ((w10).alloc (.cells #[.string ⟨kz.toArray⟩, .bool oz, .bool bz, .slice za yz.length zc, .int .i64 nz] 31)).alloc (.cells #[.int .i64 d0, .int .i64 d1, .string ⟨d2.toArray⟩, .int .i64 d3, .int .i64 d4] 33) = w13 at *
            have hT1 := HT.out.1
            have hT2 := HT.out.2
            clear HT
            by_cases eT : m = [84, 101, 108, 108]
            · skip
              subst eT
              have hbz : bz = true := by simpa +decide using hT1
              subst hbz
              clear hT1 hT2
              by_cases e0 : d0 = 0
              · skip
                subst e0
                have B_s := Vb_s.out
                have s_0 := Vb_s.out.cell 0 (by simp)
                have s_1 := Vb_s.out.cell 1 (by simp)
                have s_2 := Vb_s.out.cell 2 (by simp)
                have s_3 := Vb_s.out.cell 3 (by simp)
                have s_4 := Vb_s.out.cell 4 (by simp)
                simp only [List.getElem_cons_zero, List.getElem_cons_succ] at s_0 s_1 s_2 s_3 s_4
                have s_l := Vb_s.out.lt
                clear B_s
                have B_x := Vb_x.out
                have x_0 := Vb_x.out.cell 0 (by simp)
                have x_1 := Vb_x.out.cell 1 (by simp)
                have x_2 := Vb_x.out.cell 2 (by simp)
                have x_3 := Vb_x.out.cell 3 (by simp)
                simp only [List.getElem_cons_zero, List.getElem_cons_succ] at x_0 x_1 x_2 x_3
                have x_l := Vb_x.out.lt
                clear B_x
                have B_z := Vb_z.out
                have z_0 := Vb_z.out.cell 0 (by simp)
                have z_1 := Vb_z.out.cell 1 (by simp)
                have z_2 := Vb_z.out.cell 2 (by simp)
                have z_3 := Vb_z.out.cell 3 (by simp)
                have z_4 := Vb_z.out.cell 4 (by simp)
                simp only [List.getElem_cons_zero, List.getElem_cons_succ] at z_0 z_1 z_2 z_3 z_4
                have z_l := Vb_z.out.lt
                clear B_z
                go_wp2_with fail
                clear s_0 s_1 s_2 s_3 s_4 s_l x_0 x_1 x_2 x_3 x_l z_0 z_1 z_2 z_3 z_4 z_l
                go_ret
                exact ⟨rfl, HB.out⟩
              · skip
                have E0 : (d0 == 0) = false := by simpa using e0
                clear e0
                have B_s := Vb_s.out
                have s_0 := Vb_s.out.cell 0 (by simp)
                have s_1 := Vb_s.out.cell 1 (by simp)
                have s_2 := Vb_s.out.cell 2 (by simp)
                have s_3 := Vb_s.out.cell 3 (by simp)
                have s_4 := Vb_s.out.cell 4 (by simp)
                simp only [List.getElem_cons_zero, List.getElem_cons_succ] at s_0 s_1 s_2 s_3 s_4
                have s_l := Vb_s.out.lt
                clear B_s
                have B_x := Vb_x.out
                have x_0 := Vb_x.out.cell 0 (by simp)
                have x_1 := Vb_x.out.cell 1 (by simp)
                have x_2 := Vb_x.out.cell 2 (by simp)
                have x_3 := Vb_x.out.cell 3 (by simp)
                simp only [List.getElem_cons_zero, List.getElem_cons_succ] at x_0 x_1 x_2 x_3
                have x_l := Vb_x.out.lt
                clear B_x
                have B_z := Vb_z.out
                have z_0 := Vb_z.out.cell 0 (by simp)
                have z_1 := Vb_z.out.cell 1 (by simp)
                have z_2 := Vb_z.out.cell 2 (by simp)
                have z_3 := Vb_z.out.cell 3 (by simp)
                have z_4 := Vb_z.out.cell 4 (by simp)
                simp only [List.getElem_cons_zero, List.getElem_cons_succ] at z_0 z_1 z_2 z_3 z_4
                have z_l := Vb_z.out.lt
                clear B_z
                go_wp2_with fail
                clear s_0 s_1 s_2 s_3 s_4 s_l x_0 x_1 x_2 x_3 x_l z_0 z_1 z_2 z_3 z_4 z_l
                go_ret
                exact ⟨rfl, HB.out⟩
            have ET : (m == [84, 101, 108, 108]) = false := by simpa using eT
            by_cases e1 : d0 = 1
            · skip
              subst e1
              have hbz : bz = true := by simpa +decide using hT1
              subst hbz
              clear hT1 hT2 eT
              have B_s := Vb_s.out
              have s_0 := Vb_s.out.cell 0 (by simp)
              have s_1 := Vb_s.out.cell 1 (by simp)
              have s_2 := Vb_s.out.cell 2 (by simp)
              have s_3 := Vb_s.out.cell 3 (by simp)
              have s_4 := Vb_s.out.cell 4 (by simp)
              simp only [List.getElem_cons_zero, List.getElem_cons_succ] at s_0 s_1 s_2 s_3 s_4
              have s_l := Vb_s.out.lt
              clear B_s
              have B_x := Vb_x.out
              have x_0 := Vb_x.out.cell 0 (by simp)
              have x_1 := Vb_x.out.cell 1 (by simp)
              have x_2 := Vb_x.out.cell 2 (by simp)
              have x_3 := Vb_x.out.cell 3 (by simp)
              simp only [List.getElem_cons_zero, List.getElem_cons_succ] at x_0 x_1 x_2 x_3
              have x_l := Vb_x.out.lt
              clear B_x
              have B_z := Vb_z.out
              have z_0 := Vb_z.out.cell 0 (by simp)
              have z_1 := Vb_z.out.cell 1 (by simp)
              have z_2 := Vb_z.out.cell 2 (by simp)
              have z_3 := Vb_z.out.cell 3 (by simp)
              have z_4 := Vb_z.out.cell 4 (by simp)
              simp only [List.getElem_cons_zero, List.getElem_cons_succ] at z_0 z_1 z_2 z_3 z_4
              have z_l := Vb_z.out.lt
              clear B_z
              go_wp2_with fail
              clear s_0 s_1 s_2 s_3 s_4 s_l x_0 x_1 x_2 x_3 x_l z_0 z_1 z_2 z_3 z_4 z_l
              go_ret
              exact ⟨rfl, HB.out⟩
            have E1b : (d0 == 1) = false := by simpa using e1
            by_cases e0 : d0 = 0
            · skip
              subst e0
              have hmH : m = [72, 101, 97, 108] := by rw [show mTell = [84, 101, 108, 108] from rfl, ET] at hT2; simpa +decide using hT2
              subst hmH
              have hbz : bz = false := by simpa +decide using hT1
              subst hbz
              clear hT1 hT2 eT e1
              have B_s := Vb_s.out
              have s_0 := Vb_s.out.cell 0 (by simp)
              have s_1 := Vb_s.out.cell 1 (by simp)
              have s_2 := Vb_s.out.cell 2 (by simp)
              have s_3 := Vb_s.out.cell 3 (by simp)
              have s_4 := Vb_s.out.cell 4 (by simp)
              simp only [List.getElem_cons_zero, List.getElem_cons_succ] at s_0 s_1 s_2 s_3 s_4
              have s_l := Vb_s.out.lt
              clear B_s
              have B_x := Vb_x.out
              have x_0 := Vb_x.out.cell 0 (by simp)
              have x_1 := Vb_x.out.cell 1 (by simp)
              have x_2 := Vb_x.out.cell 2 (by simp)
              have x_3 := Vb_x.out.cell 3 (by simp)
              simp only [List.getElem_cons_zero, List.getElem_cons_succ] at x_0 x_1 x_2 x_3
              have x_l := Vb_x.out.lt
              clear B_x
              have B_z := Vb_z.out
              have z_0 := Vb_z.out.cell 0 (by simp)
              have z_1 := Vb_z.out.cell 1 (by simp)
              have z_2 := Vb_z.out.cell 2 (by simp)
              have z_3 := Vb_z.out.cell 3 (by simp)
              have z_4 := Vb_z.out.cell 4 (by simp)
              simp only [List.getElem_cons_zero, List.getElem_cons_succ] at z_0 z_1 z_2 z_3 z_4
              have z_l := Vb_z.out.lt
              clear B_z
              go_wp2_with fail
              clear s_0 s_1 s_2 s_3 s_4 s_l x_0 x_1 x_2 x_3 x_l z_0 z_1 z_2 z_3 z_4 z_l
              go_ret
              exact ⟨rfl, HB.out⟩
            have E0 : (d0 == 0) = false := by simpa using e0
            rw [show mTell = [84, 101, 108, 108] from rfl, ET, E0, E1b] at hT2
            rw [E0] at hT1
            simp only [Bool.false_and, Bool.or_false, Bool.false_or, Bool.and_eq_true, beq_iff_eq, decide_eq_true_eq] at hT2
            obtain ⟨h3d, hqz⟩ := hT2
            subst h3d
            have hbz : bz = true := by simpa using hT1
            subst hbz
            have HSZ := Lib.hid (HSM.out (⟨kz, oz, true, yz, nz⟩ : CoreD))
            rw [show decide ((⟨ka, oa, true, ya, na⟩ : CoreD) = ⟨kz, oz, true, yz, nz⟩) = true from decide_eq_true hqz] at HSZ
            clear hT1 hqz eT e1 e0
            have B_s := Vb_s.out
            have s_0 := Vb_s.out.cell 0 (by simp)
            have s_1 := Vb_s.out.cell 1 (by simp)
            have s_2 := Vb_s.out.cell 2 (by simp)
            have s_3 := Vb_s.out.cell 3 (by simp)
            have s_4 := Vb_s.out.cell 4 (by simp)
            simp only [List.getElem_cons_zero, List.getElem_cons_succ] at s_0 s_1 s_2 s_3 s_4
            have s_l := Vb_s.out.lt
            clear B_s
            have B_x := Vb_x.out
            have x_0 := Vb_x.out.cell 0 (by simp)
            have x_1 := Vb_x.out.cell 1 (by simp)
            have x_2 := Vb_x.out.cell 2 (by simp)
            have x_3 := Vb_x.out.cell 3 (by simp)
            simp only [List.getElem_cons_zero, List.getElem_cons_succ] at x_0 x_1 x_2 x_3
            have x_l := Vb_x.out.lt
            clear B_x
            have B_z := Vb_z.out
            have z_0 := Vb_z.out.cell 0 (by simp)
            have z_1 := Vb_z.out.cell 1 (by simp)
            have z_2 := Vb_z.out.cell 2 (by simp)
            have z_3 := Vb_z.out.cell 3 (by simp)
            have z_4 := Vb_z.out.cell 4 (by simp)
            simp only [List.getElem_cons_zero, List.getElem_cons_succ] at z_0 z_1 z_2 z_3 z_4
            have z_l := Vb_z.out.lt
            clear B_z
            have B_q := Vb_q.out
            have q_0 := Vb_q.out.cell 0 (by simp)
            have q_1 := Vb_q.out.cell 1 (by simp)
            have q_2 := Vb_q.out.cell 2 (by simp)
            have q_3 := Vb_q.out.cell 3 (by simp)
            have q_4 := Vb_q.out.cell 4 (by simp)
            simp only [List.getElem_cons_zero, List.getElem_cons_succ] at q_0 q_1 q_2 q_3 q_4
            have q_l := Vb_q.out.lt
            clear B_q
            go_wp2_with fail
            clear s_0 s_1 s_2 s_3 s_4 s_l x_0 x_1 x_2 x_3 x_l z_0 z_1 z_2 z_3 z_4 z_l q_0 q_1 q_2 q_3 q_4 q_l
            refine (HSZ.out _ _ HOQ.out HZ.out).mono ?_
            rintro e w14 ⟨rfl, hb⟩
            replace Vb_p := Lib.hid (Vb_p.out.below hb)
            replace Vb_x := Lib.hid (Vb_x.out.below hb)
            replace Vb_q := Lib.hid (Vb_q.out.below hb)
            replace Vb_r := Lib.hid (Vb_r.out.below hb)
            replace Vb_z := Lib.hid (Vb_z.out.below hb)
            replace Vb_s := Lib.hid (Vb_s.out.below hb)
            replace HP := Lib.hid (FlatAt.below HP.out hb (Nat.le_refl _))
            replace HOQ := Lib.hid (FlatAt.below HOQ.out hb (Nat.le_refl _))
            replace HZ := Lib.hid (FlatAt.below HZ.out hb (Nat.le_refl _))
            replace HB := Lib.hid (belS HB.out hb)
            clear hb
            have B_z := Vb_z.out
            have z_0 := Vb_z.out.cell 0 (by simp)
            have z_1 := Vb_z.out.cell 1 (by simp)
            have z_2 := Vb_z.out.cell 2 (by simp)
            have z_3 := Vb_z.out.cell 3 (by simp)
            have z_4 := Vb_z.out.cell 4 (by simp)
            simp only [List.getElem_cons_zero, List.getElem_cons_succ] at z_0 z_1 z_2 z_3 z_4
            have z_l := Vb_z.out.lt
            clear B_z
            have B_s := Vb_s.out
            have s_0 := Vb_s.out.cell 0 (by simp)
            have s_1 := Vb_s.out.cell 1 (by simp)
            have s_2 := Vb_s.out.cell 2 (by simp)
            have s_3 := Vb_s.out.cell 3 (by simp)
            have s_4 := Vb_s.out.cell 4 (by simp)
            simp only [List.getElem_cons_zero, List.getElem_cons_succ] at s_0 s_1 s_2 s_3 s_4
            have s_l := Vb_s.out.lt
            clear B_s
            go_wp2_with fail
            clear z_0 z_1 z_2 z_3 z_4 z_l s_0 s_1 s_2 s_3 s_4 s_l
            go_ret
            exact ⟨rfl, HB.out⟩
        case true =>
          clear hob
          have B_p := Vb_p.out
          have p_0 := Vb_p.out.cell 0 (by simp)
          have p_1 := Vb_p.out.cell 1 (by simp)
          have p_2 := Vb_p.out.cell 2 (by simp)
          have p_3 := Vb_p.out.cell 3 (by simp)
          have p_4 := Vb_p.out.cell 4 (by simp)
          simp only [List.getElem_cons_zero, List.getElem_cons_succ] at p_0 p_1 p_2 p_3 p_4
          have p_l := Vb_p.out.lt
          clear B_p
          have B_q := Vb_q.out
          have q_0 := Vb_q.out.cell 0 (by simp)
          have q_1 := Vb_q.out.cell 1 (by simp)
          have q_2 := Vb_q.out.cell 2 (by simp)
          have q_3 := Vb_q.out.cell 3 (by simp)
          have q_4 := Vb_q.out.cell 4 (by simp)
          simp only [List.getElem_cons_zero, List.getElem_cons_succ] at q_0 q_1 q_2 q_3 q_4
          have q_l := Vb_q.out.lt
          clear B_q
          have B_r := Vb_r.out
          have r_0 := Vb_r.out.cell 0 (by simp)
          have r_1 := Vb_r.out.cell 1 (by simp)
          have r_2 := Vb_r.out.cell 2 (by simp)
          have r_3 := Vb_r.out.cell 3 (by simp)
          have r_4 := Vb_r.out.cell 4 (by simp)
          simp only [List.getElem_cons_zero, List.getElem_cons_succ] at r_0 r_1 r_2 r_3 r_4
          have r_l := Vb_r.out.lt
          clear B_r
          have B_x := Vb_x.out
          have x_0 := Vb_x.out.cell 0 (by simp)
          have x_1 := Vb_x.out.cell 1 (by simp)
          have x_2 := Vb_x.out.cell 2 (by simp)
          have x_3 := Vb_x.out.cell 3 (by simp)
          simp only [List.getElem_cons_zero, List.getElem_cons_succ] at x_0 x_1 x_2 x_3
          have x_l := Vb_x.out.lt
          clear B_x
          go_wp2_with fail
          clear p_0 p_1 p_2 p_3 p_4 p_l q_0 q_1 q_2 q_3 q_4 q_l r_0 r_1 r_2 r_3 r_4 r_l x_0 x_1 x_2 x_3 x_l
          refine (HIX.out _).mono ?_
          rintro e w80 ⟨rfl, hb⟩
          replace Vb_p := Lib.hid (Vb_p.out.below hb)
          replace Vb_x := Lib.hid (Vb_x.out.below hb)
          replace Vb_q := Lib.hid (Vb_q.out.below hb)
          replace Vb_r := Lib.hid (Vb_r.out.below hb)
          replace HP := Lib.hid (FlatAt.below HP.out hb (Nat.le_refl _))
          replace HOQ := Lib.hid (FlatAt.below HOQ.out hb (Nat.le_refl _))
          replace HB := Lib.hid (belS HB.out hb)
          clear hb
          cases cb
          case false =>
            go_wp2_with fail
            go_ret
            exact ⟨rfl, HB.out⟩
          case true =>
            have HT := Lib.hid (HTH.out (by first | rfl | trivial) (by first | rfl | trivial))
            clear HTH
            have B_q := Vb_q.out
            have q_0 := Vb_q.out.cell 0 (by simp)
            have q_1 := Vb_q.out.cell 1 (by simp)
            have q_2 := Vb_q.out.cell 2 (by simp)
            have q_3 := Vb_q.out.cell 3 (by simp)
            have q_4 := Vb_q.out.cell 4 (by simp)
            simp only [List.getElem_cons_zero, List.getElem_cons_succ] at q_0 q_1 q_2 q_3 q_4
            have q_l := Vb_q.out.lt
            clear B_q
            have B_x := Vb_x.out
            have x_0 := Vb_x.out.cell 0 (by simp)
            have x_1 := Vb_x.out.cell 1 (by simp)
            have x_2 := Vb_x.out.cell 2 (by simp)
            have x_3 := Vb_x.out.cell 3 (by simp)
            simp only [List.getElem_cons_zero, List.getElem_cons_succ] at x_0 x_1 x_2 x_3
            have x_l := Vb_x.out.lt
            clear B_x
            go_wp2_with fail
            clear q_0 q_1 q_2 q_3 q_4 q_l x_0 x_1 x_2 x_3 x_l
            refine (HCD.out _ HOQ.out (HMX.out _ HB.out)).mono ?_
            rintro e w10 ⟨u, rfl, ho, hb⟩
            replace Vb_p := Lib.hid (Vb_p.out.below hb)
            replace Vb_x := Lib.hid (Vb_x.out.below hb)
            replace Vb_q := Lib.hid (Vb_q.out.below hb)
            replace Vb_r := Lib.hid (Vb_r.out.below hb)
            replace HP := Lib.hid (FlatAt.below HP.out hb (Nat.le_refl _))
            replace HOQ := Lib.hid (FlatAt.below HOQ.out hb (Nat.le_refl _))
            replace HB := Lib.hid (belS HB.out hb)
            clear hb
            have HZ := Lib.hid (ownsF_at ho (show yz.length ≤ 4194304 by have h : yz.length ≤ 4 := HKL.out; omega))
            obtain ⟨za, zc, rfl⟩ := slice_of ho
            clear ho
            go_upto_region 14 with fail
            have hbn := Bx.new (w10) [.string ⟨kz.toArray⟩, .bool oz, .bool bz, .slice za yz.length zc, .int .i64 nz] 31
            have hbb := bx_box (w10) (.cells #[.string ⟨kz.toArray⟩, .bool oz, .bool bz, .slice za yz.length zc, .int .i64 nz] 31)
            have Vb_z := Lib.hid hbn
            clear hbn
            replace Vb_p := Lib.hid (Vb_p.out.below hbb)
            replace Vb_x := Lib.hid (Vb_x.out.below hbb)
            replace Vb_q := Lib.hid (Vb_q.out.below hbb)
            replace Vb_r := Lib.hid (Vb_r.out.below hbb)
            replace HP := Lib.hid (FlatAt.below HP.out hbb (Nat.le_refl _))
            replace HOQ := Lib.hid (FlatAt.below HOQ.out hbb (Nat.le_refl _))
            replace HZ := Lib.hid (FlatAt.below HZ.out hbb (Nat.le_refl _))
            replace HB := Lib.hid (belS HB.out hbb)
            clear hbb
            have hbn := Bx.new ((w10).alloc (.cells #[.string ⟨kz.toArray⟩, .bool oz, .bool bz, .slice za yz.length zc, .int .i64 nz] 31)) [.int .i64 d0, .int .i64 d1, .string ⟨d2.toArray⟩, .int .i64 d3, .int .i64 d4] 33
            have hbb := bx_box ((w10).alloc (.cells #[.string ⟨kz.toArray⟩, .bool oz, .bool bz, .slice za yz.length zc, .int .i64 nz] 31)) (.cells #[.int .i64 d0, .int .i64 d1, .string ⟨d2.toArray⟩, .int .i64 d3, .int .i64 d4] 33)
            rw [show ((w10).alloc (.cells #[.string ⟨kz.toArray⟩, .bool oz, .bool bz, .slice za yz.length zc, .int .i64 nz] 31)).heap.size = w10.heap.size + 1 by simp] at hbn
            have Vb_s := Lib.hid hbn
            clear hbn
            replace Vb_p := Lib.hid (Vb_p.out.below hbb)
            replace Vb_x := Lib.hid (Vb_x.out.below hbb)
            replace Vb_q := Lib.hid (Vb_q.out.below hbb)
            replace Vb_r := Lib.hid (Vb_r.out.below hbb)
            replace Vb_z := Lib.hid (Vb_z.out.below hbb)
            replace HP := Lib.hid (FlatAt.below HP.out hbb (Nat.le_refl _))
            replace HOQ := Lib.hid (FlatAt.below HOQ.out hbb (Nat.le_refl _))
            replace HZ := Lib.hid (FlatAt.below HZ.out hbb (Nat.le_refl _))
            replace HB := Lib.hid (belS HB.out hbb)
            clear hbb
            generalize ((w10).alloc (.cells #[.string ⟨kz.toArray⟩, .bool oz, .bool bz, .slice za yz.length zc, .int .i64 nz] 31)).alloc (.cells #[.int .i64 d0, .int .i64 d1, .string ⟨d2.toArray⟩, .int .i64 d3, .int .i64 d4] 33) = w13 at *
            have hT1 := HT.out.1
            have hT2 := HT.out.2
            clear HT
            by_cases eT : m = [84, 101, 108, 108]
            · skip
              subst eT
              have hbz : bz = true := by simpa +decide using hT1
              subst hbz
              clear hT1 hT2
              by_cases e0 : d0 = 0
              · skip
                subst e0
                have B_s := Vb_s.out
                have s_0 := Vb_s.out.cell 0 (by simp)
                have s_1 := Vb_s.out.cell 1 (by simp)
                have s_2 := Vb_s.out.cell 2 (by simp)
                have s_3 := Vb_s.out.cell 3 (by simp)
                have s_4 := Vb_s.out.cell 4 (by simp)
                simp only [List.getElem_cons_zero, List.getElem_cons_succ] at s_0 s_1 s_2 s_3 s_4
                have s_l := Vb_s.out.lt
                clear B_s
                have B_x := Vb_x.out
                have x_0 := Vb_x.out.cell 0 (by simp)
                have x_1 := Vb_x.out.cell 1 (by simp)
                have x_2 := Vb_x.out.cell 2 (by simp)
                have x_3 := Vb_x.out.cell 3 (by simp)
                simp only [List.getElem_cons_zero, List.getElem_cons_succ] at x_0 x_1 x_2 x_3
                have x_l := Vb_x.out.lt
                clear B_x
                have B_z := Vb_z.out
                have z_0 := Vb_z.out.cell 0 (by simp)
                have z_1 := Vb_z.out.cell 1 (by simp)
                have z_2 := Vb_z.out.cell 2 (by simp)
                have z_3 := Vb_z.out.cell 3 (by simp)
                have z_4 := Vb_z.out.cell 4 (by simp)
                simp only [List.getElem_cons_zero, List.getElem_cons_succ] at z_0 z_1 z_2 z_3 z_4
                have z_l := Vb_z.out.lt
                clear B_z
                go_wp2_with fail
                clear s_0 s_1 s_2 s_3 s_4 s_l x_0 x_1 x_2 x_3 x_l z_0 z_1 z_2 z_3 z_4 z_l
                go_ret
                exact ⟨rfl, HB.out⟩
              · skip
                have E0 : (d0 == 0) = false := by simpa using e0
                clear e0
                have B_s := Vb_s.out
                have s_0 := Vb_s.out.cell 0 (by simp)
                have s_1 := Vb_s.out.cell 1 (by simp)
                have s_2 := Vb_s.out.cell 2 (by simp)
                have s_3 := Vb_s.out.cell 3 (by simp)
                have s_4 := Vb_s.out.cell 4 (by simp)
                simp only [List.getElem_cons_zero, List.getElem_cons_succ] at s_0 s_1 s_2 s_3 s_4
                have s_l := Vb_s.out.lt
                clear B_s
                have B_x := Vb_x.out
                have x_0 := Vb_x.out.cell 0 (by simp)
                have x_1 := Vb_x.out.cell 1 (by simp)
                have x_2 := Vb_x.out.cell 2 (by simp)
                have x_3 := Vb_x.out.cell 3 (by simp)
                simp only [List.getElem_cons_zero, List.getElem_cons_succ] at x_0 x_1 x_2 x_3
                have x_l := Vb_x.out.lt
                clear B_x
                have B_z := Vb_z.out
                have z_0 := Vb_z.out.cell 0 (by simp)
                have z_1 := Vb_z.out.cell 1 (by simp)
                have z_2 := Vb_z.out.cell 2 (by simp)
                have z_3 := Vb_z.out.cell 3 (by simp)
                have z_4 := Vb_z.out.cell 4 (by simp)
                simp only [List.getElem_cons_zero, List.getElem_cons_succ] at z_0 z_1 z_2 z_3 z_4
                have z_l := Vb_z.out.lt
                clear B_z
                go_wp2_with fail
                clear s_0 s_1 s_2 s_3 s_4 s_l x_0 x_1 x_2 x_3 x_l z_0 z_1 z_2 z_3 z_4 z_l
                go_ret
                exact ⟨rfl, HB.out⟩
            have ET : (m == [84, 101, 108, 108]) = false := by simpa using eT
            by_cases e1 : d0 = 1
            · skip
              subst e1
              have hbz : bz = true := by simpa +decide using hT1
              subst hbz
              clear hT1 hT2 eT
              have B_s := Vb_s.out
              have s_0 := Vb_s.out.cell 0 (by simp)
              have s_1 := Vb_s.out.cell 1 (by simp)
              have s_2 := Vb_s.out.cell 2 (by simp)
              have s_3 := Vb_s.out.cell 3 (by simp)
              have s_4 := Vb_s.out.cell 4 (by simp)
              simp only [List.getElem_cons_zero, List.getElem_cons_succ] at s_0 s_1 s_2 s_3 s_4
              have s_l := Vb_s.out.lt
              clear B_s
              have B_x := Vb_x.out
              have x_0 := Vb_x.out.cell 0 (by simp)
              have x_1 := Vb_x.out.cell 1 (by simp)
              have x_2 := Vb_x.out.cell 2 (by simp)
              have x_3 := Vb_x.out.cell 3 (by simp)
              simp only [List.getElem_cons_zero, List.getElem_cons_succ] at x_0 x_1 x_2 x_3
              have x_l := Vb_x.out.lt
              clear B_x
              have B_z := Vb_z.out
              have z_0 := Vb_z.out.cell 0 (by simp)
              have z_1 := Vb_z.out.cell 1 (by simp)
              have z_2 := Vb_z.out.cell 2 (by simp)
              have z_3 := Vb_z.out.cell 3 (by simp)
              have z_4 := Vb_z.out.cell 4 (by simp)
              simp only [List.getElem_cons_zero, List.getElem_cons_succ] at z_0 z_1 z_2 z_3 z_4
              have z_l := Vb_z.out.lt
              clear B_z
              go_wp2_with fail
              clear s_0 s_1 s_2 s_3 s_4 s_l x_0 x_1 x_2 x_3 x_l z_0 z_1 z_2 z_3 z_4 z_l
              go_ret
              exact ⟨rfl, HB.out⟩
            have E1b : (d0 == 1) = false := by simpa using e1
            by_cases e0 : d0 = 0
            · skip
              subst e0
              have hmH : m = [72, 101, 97, 108] := by rw [show mTell = [84, 101, 108, 108] from rfl, ET] at hT2; simpa +decide using hT2
              subst hmH
              have hbz : bz = false := by simpa +decide using hT1
              subst hbz
              clear hT1 hT2 eT e1
              have B_s := Vb_s.out
              have s_0 := Vb_s.out.cell 0 (by simp)
              have s_1 := Vb_s.out.cell 1 (by simp)
              have s_2 := Vb_s.out.cell 2 (by simp)
              have s_3 := Vb_s.out.cell 3 (by simp)
              have s_4 := Vb_s.out.cell 4 (by simp)
              simp only [List.getElem_cons_zero, List.getElem_cons_succ] at s_0 s_1 s_2 s_3 s_4
              have s_l := Vb_s.out.lt
              clear B_s
              have B_x := Vb_x.out
              have x_0 := Vb_x.out.cell 0 (by simp)
              have x_1 := Vb_x.out.cell 1 (by simp)
              have x_2 := Vb_x.out.cell 2 (by simp)
              have x_3 := Vb_x.out.cell 3 (by simp)
              simp only [List.getElem_cons_zero, List.getElem_cons_succ] at x_0 x_1 x_2 x_3
              have x_l := Vb_x.out.lt
              clear B_x
              have B_z := Vb_z.out
              have z_0 := Vb_z.out.cell 0 (by simp)
              have z_1 := Vb_z.out.cell 1 (by simp)
              have z_2 := Vb_z.out.cell 2 (by simp)
              have z_3 := Vb_z.out.cell 3 (by simp)
              have z_4 := Vb_z.out.cell 4 (by simp)
              simp only [List.getElem_cons_zero, List.getElem_cons_succ] at z_0 z_1 z_2 z_3 z_4
              have z_l := Vb_z.out.lt
              clear B_z
              go_wp2_with fail
              clear s_0 s_1 s_2 s_3 s_4 s_l x_0 x_1 x_2 x_3 x_l z_0 z_1 z_2 z_3 z_4 z_l
              go_ret
              exact ⟨rfl, HB.out⟩
            have E0 : (d0 == 0) = false := by simpa using e0
            rw [show mTell = [84, 101, 108, 108] from rfl, ET, E0, E1b] at hT2
            rw [E0] at hT1
            simp only [Bool.false_and, Bool.or_false, Bool.false_or, Bool.and_eq_true, beq_iff_eq, decide_eq_true_eq] at hT2
            obtain ⟨h3d, hqz⟩ := hT2
            subst h3d
            have hbz : bz = true := by simpa using hT1
            subst hbz
            have HSZ := Lib.hid (HSM.out (⟨kz, oz, true, yz, nz⟩ : CoreD))
            rw [show decide ((⟨ka, oa, true, ya, na⟩ : CoreD) = ⟨kz, oz, true, yz, nz⟩) = true from decide_eq_true hqz] at HSZ
            clear hT1 hqz eT e1 e0
            have B_s := Vb_s.out
            have s_0 := Vb_s.out.cell 0 (by simp)
            have s_1 := Vb_s.out.cell 1 (by simp)
            have s_2 := Vb_s.out.cell 2 (by simp)
            have s_3 := Vb_s.out.cell 3 (by simp)
            have s_4 := Vb_s.out.cell 4 (by simp)
            simp only [List.getElem_cons_zero, List.getElem_cons_succ] at s_0 s_1 s_2 s_3 s_4
            have s_l := Vb_s.out.lt
            clear B_s
            have B_x := Vb_x.out
            have x_0 := Vb_x.out.cell 0 (by simp)
            have x_1 := Vb_x.out.cell 1 (by simp)
            have x_2 := Vb_x.out.cell 2 (by simp)
            have x_3 := Vb_x.out.cell 3 (by simp)
            simp only [List.getElem_cons_zero, List.getElem_cons_succ] at x_0 x_1 x_2 x_3
            have x_l := Vb_x.out.lt
            clear B_x
            have B_z := Vb_z.out
            have z_0 := Vb_z.out.cell 0 (by simp)
            have z_1 := Vb_z.out.cell 1 (by simp)
            have z_2 := Vb_z.out.cell 2 (by simp)
            have z_3 := Vb_z.out.cell 3 (by simp)
            have z_4 := Vb_z.out.cell 4 (by simp)
            simp only [List.getElem_cons_zero, List.getElem_cons_succ] at z_0 z_1 z_2 z_3 z_4
            have z_l := Vb_z.out.lt
            clear B_z
            have B_q := Vb_q.out
            have q_0 := Vb_q.out.cell 0 (by simp)
            have q_1 := Vb_q.out.cell 1 (by simp)
            have q_2 := Vb_q.out.cell 2 (by simp)
            have q_3 := Vb_q.out.cell 3 (by simp)
            have q_4 := Vb_q.out.cell 4 (by simp)
            simp only [List.getElem_cons_zero, List.getElem_cons_succ] at q_0 q_1 q_2 q_3 q_4
            have q_l := Vb_q.out.lt
            clear B_q
            go_wp2_with fail
            clear s_0 s_1 s_2 s_3 s_4 s_l x_0 x_1 x_2 x_3 x_l z_0 z_1 z_2 z_3 z_4 z_l q_0 q_1 q_2 q_3 q_4 q_l
            refine (HSZ.out _ _ HOQ.out HZ.out).mono ?_
            rintro e w14 ⟨rfl, hb⟩
            replace Vb_p := Lib.hid (Vb_p.out.below hb)
            replace Vb_x := Lib.hid (Vb_x.out.below hb)
            replace Vb_q := Lib.hid (Vb_q.out.below hb)
            replace Vb_r := Lib.hid (Vb_r.out.below hb)
            replace Vb_z := Lib.hid (Vb_z.out.below hb)
            replace Vb_s := Lib.hid (Vb_s.out.below hb)
            replace HP := Lib.hid (FlatAt.below HP.out hb (Nat.le_refl _))
            replace HOQ := Lib.hid (FlatAt.below HOQ.out hb (Nat.le_refl _))
            replace HZ := Lib.hid (FlatAt.below HZ.out hb (Nat.le_refl _))
            replace HB := Lib.hid (belS HB.out hb)
            clear hb
            have B_z := Vb_z.out
            have z_0 := Vb_z.out.cell 0 (by simp)
            have z_1 := Vb_z.out.cell 1 (by simp)
            have z_2 := Vb_z.out.cell 2 (by simp)
            have z_3 := Vb_z.out.cell 3 (by simp)
            have z_4 := Vb_z.out.cell 4 (by simp)
            simp only [List.getElem_cons_zero, List.getElem_cons_succ] at z_0 z_1 z_2 z_3 z_4
            have z_l := Vb_z.out.lt
            clear B_z
            have B_s := Vb_s.out
            have s_0 := Vb_s.out.cell 0 (by simp)
            have s_1 := Vb_s.out.cell 1 (by simp)
            have s_2 := Vb_s.out.cell 2 (by simp)
            have s_3 := Vb_s.out.cell 3 (by simp)
            have s_4 := Vb_s.out.cell 4 (by simp)
            simp only [List.getElem_cons_zero, List.getElem_cons_succ] at s_0 s_1 s_2 s_3 s_4
            have s_l := Vb_s.out.lt
            clear B_s
            go_wp2_with fail
            clear z_0 z_1 z_2 z_3 z_4 z_l s_0 s_1 s_2 s_3 s_4 s_l
            go_ret
            exact ⟨rfl, HB.out⟩
set_option maxRecDepth 100000 in
theorem fnBreaks_lifted (os : Os) (started : os.Started) (H : Type) (enc : TypeId × Value → H) :
    ReturnsInHanded {} Tryz.checked os 9 .any (Rows.fnBreaksSpec.pre6 enc Tryz.prog Tryz.f9 Rows.fnBreaksRow.domain false) (Rows.fnBreaksSpec.post enc Tryz.prog Tryz.f9 false true false false) := by
  refine returnsInHanded_of_change_shaped (C := Tryz.checked) ownK started (by kernel_rfl) Tryz.func9
    (ChangeSpec.witness6 (enc := enc) (C := Tryz.checked) false ⟨#[], #[.slice none 0 0], []⟩ 8 (by kernel_rfl) (by kernel_rfl) (by kernel_rfl) (by kernel_rfl)) ?_
  intro W base args ds gs before hval0 hW _ _ hsh _
  have hval : ∀ (j : Nat) t v, Tryz.f9.params[j]? = some t → args[j]? = some v → Value.okWide Tryz.prog W .any base t v := hval0
  have hW' := hW
  obtain ⟨p, q, hA0, _, rfl, _, _⟩ := hW
  have hA : DataW.TrodAll enc Tryz.prog W 0 (fun _ => true) true Tryz.f9.params.toList args.toList ds p := hA0
  rw [Tryz.params9] at hA hval
  obtain ⟨v0, vs0, d0, ds0, p0, q0, hargs, rfl, rfl, h0, r0⟩ := trodAll_cons hA
  obtain ⟨rfl, rfl, rfl⟩ := trodAll_nil r0
  obtain rfl : args = #[v0] := by cases args; simp_all
  obtain ⟨l0, w0⟩ := open_byteRow Tryz.underlying55 Tryz.underlying5 (by kernel_rfl) (hval 0 55 v0 rfl rfl) h0
  clear hA0 hval0
  obtain ⟨m, hm⟩ := Tryz.laysM143.s1_3 W hsh
  refine (fnBreaks_any v0 l0 W w0 m hm).mono fun e W1 ⟨he, hb⟩ => ?_
  subst he
  exact ⟨_, rfl, law_post laidK rfl (by kernel_rfl) Tryz.underlying4 (by kernel_rfl) (fun ds h => by match ds, h with | [_], _ => rfl) hW' hb⟩
theorem fnBreaks_closed : joinedFacts Tryz.prog 9 Tryz.f9 Rows.fnBreaksSpec Rows.fnBreaksRow = true := by unfold joinedFacts; rw [mayEnter_k, liftsFinal_k, make_k]; kernel_rfl
theorem fnBreaks_holds : Rows.FnBreaksSaid :=
  OpenClaim.holds_of_wide 9 Tryz.f9 rfl rfl rfl rfl rfl rfl rfl ⟨rfl, rfl, rfl, rfl, rfl⟩ rfl rfl rfl rfl rfl (by kernel_rfl) Tryz.func9 fnBreaks_closed
    (of_decide_eq_true (by kernel_rfl)) (by unfold Func.isWrapper; first | (rw [if_pos (by decide +kernel)]; kernel_rfl) | (rw [if_neg (by decide +kernel)]; exact ⟨rfl, rfl⟩))
    (fun os started H enc _ => fnBreaks_lifted os started H enc)
end Go.Proofs.YtandbnpgccpcoaaGreat
