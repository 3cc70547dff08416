import Derived.Test.YteeopjcbpngofaaGreatFormatEventLawM0
import Derived.Test.YteeopjcbpngofaaGreatLinksOfLawM4
import Derived.Deep.RegionHeld3
import Derived.Test.YteeopjcbpngofaaGreatLinksOfLawM1
import Derived.Test.YteeopjcbpngofaaGreatLinksOfLawM0
import Derived.Deep.Slices
import Derived.Test.YteeopjcbpngofaaGreatLinksOfLawM2
namespace Go.Proofs.YteeopjcbpngofaaGreat
set_option linter.unusedVariables false
set_option linter.unusedSimpArgs false
open Go.RowKit
set_option maxRecDepth 100000 in
set_option maxHeartbeats 3200000 in
theorem specIsEvent_any (v : Value) (x : EventD) (w : World) (hx : ValAt rEvent 0 w v x) (hn : x.fName.length ≤ maxLen) (hk : x.fCall.fKey.length ≤ maxLen) (hr : ∀ s ∈ x.fRecipe, s.length ≤ 1048576) :
  Calls Tryz.prog 49 #[v] w fun e w' => e = .returned (.bool (evB x)) ∧ Below w.heap.size w w' := by
 have HRF := Lib.hid (fun v W (h : RowAt W v (x.fRecipe.map strV)) => specRecipeFace_any v x.fRecipe W h hr)
 have HNM := Lib.hid (fun W => specIsName_any ⟨x.fName.toArray⟩ W (by simpa [ByteArray.size] using hn))
 have HIC := Lib.hid (fun W => specIsCall_any x.fCall W hk)
 have HO := Lib.hid (@evB_out x)
 have HI := Lib.hid (@evB_in x)
 generalize evB x = ev at *
 generalize callB x.fCall = cb at *
 generalize recB x.fRecipe = rb at *
 generalize recI x.fRecipe = ri at *
 obtain ⟨_, rfl, hx⟩ := hx
 obtain ⟨k, a, ⟨m, ky, n, t⟩, l⟩ := x
 obtain ⟨v6, rfl, h6⟩ := hx
 simp only [List.toList_toArray, vCall] at *
 obtain ⟨ra, rc, rfl, hl⟩ := sliceAt_len h6
 have H6 := Lib.hid h6
 unfold maxLen at hl
 have BS := Lib.hid (bx_start1 w [.int .i64 k, .string ⟨a.toArray⟩, .string ⟨m.toArray⟩, .string ⟨ky.toArray⟩, .int .i64 n, .string ⟨t.toArray⟩, .slice ra l.length rc] 31)
 generalize nameB a = nb at *
 have BX0 := Lib.hid BS.out.1
 have HB0 := Lib.hid BS.out.2
 clear h6 hn hk hr BS
 by_cases h1 : k < 1
 ·obtain rfl : ev = false := HO.out (fun h => by omega)
  clear HO HI
  go_enter Tryz.func49, Tryz.ntmps49
  have x0 := BX0.out.cell 0 (by simp)
  have x1 := BX0.out.cell 1 (by simp)
  have x2 := BX0.out.cell 2 (by simp)
  have x3 := BX0.out.cell 3 (by simp)
  have x4 := BX0.out.cell 4 (by simp)
  have x5 := BX0.out.cell 5 (by simp)
  have x6 := BX0.out.cell 6 (by simp)
  simp only [List.getElem_cons_zero, List.getElem_cons_succ] at x0 x1 x2 x3 x4 x5 x6
  go_wp2_with fail
  refine (HRF.out _ _ (row_of_slice (SliceAt.below H6.out good_str HB0.out (Nat.le_refl _)))).mono ?_
  rintro e w1 ⟨rfl, hb⟩
  have HB1 := Lib.hid (belS HB0.out hb)
  have BX1 := Lib.hid (BX0.out.below hb)
  clear hb x0 x1 x2 x3 x4 x5 x6
  have x0 := BX1.out.cell 0 (by simp)
  have x1 := BX1.out.cell 1 (by simp)
  have x2 := BX1.out.cell 2 (by simp)
  have x3 := BX1.out.cell 3 (by simp)
  have x4 := BX1.out.cell 4 (by simp)
  have x5 := BX1.out.cell 5 (by simp)
  have x6 := BX1.out.cell 6 (by simp)
  simp only [List.getElem_cons_zero, List.getElem_cons_succ] at x0 x1 x2 x3 x4 x5 x6
  go_wp2_with fail
  refine (HIC.out _).mono ?_
  rintro e w2 ⟨rfl, hb⟩
  have HB2 := Lib.hid (belS HB1.out hb)
  have BX2 := Lib.hid (BX1.out.below hb)
  clear hb x0 x1 x2 x3 x4 x5 x6
  have x0 := BX2.out.cell 0 (by simp)
  have x1 := BX2.out.cell 1 (by simp)
  have x2 := BX2.out.cell 2 (by simp)
  have x3 := BX2.out.cell 3 (by simp)
  have x4 := BX2.out.cell 4 (by simp)
  have x5 := BX2.out.cell 5 (by simp)
  have x6 := BX2.out.cell 6 (by simp)
  simp only [List.getElem_cons_zero, List.getElem_cons_succ] at x0 x1 x2 x3 x4 x5 x6
  go_wp2_with (first | (go_at_call 94; (with_reducible refine (HNM.out _).mono ?_); rintro e w' ⟨rfl, rfl⟩))
  go_ret
  exact ⟨by first | rfl | exact ret_bool hbq, HB2.out⟩
 by_cases h5 : 5 < k
 ·obtain rfl : ev = false := HO.out (fun h => by omega)
  clear HO HI
  go_enter Tryz.func49, Tryz.ntmps49
  have x0 := BX0.out.cell 0 (by simp)
  have x1 := BX0.out.cell 1 (by simp)
  have x2 := BX0.out.cell 2 (by simp)
  have x3 := BX0.out.cell 3 (by simp)
  have x4 := BX0.out.cell 4 (by simp)
  have x5 := BX0.out.cell 5 (by simp)
  have x6 := BX0.out.cell 6 (by simp)
  simp only [List.getElem_cons_zero, List.getElem_cons_succ] at x0 x1 x2 x3 x4 x5 x6
  go_wp2_with fail
  refine (HRF.out _ _ (row_of_slice (SliceAt.below H6.out good_str HB0.out (Nat.le_refl _)))).mono ?_
  rintro e w1 ⟨rfl, hb⟩
  have HB1 := Lib.hid (belS HB0.out hb)
  have BX1 := Lib.hid (BX0.out.below hb)
  clear hb x0 x1 x2 x3 x4 x5 x6
  have x0 := BX1.out.cell 0 (by simp)
  have x1 := BX1.out.cell 1 (by simp)
  have x2 := BX1.out.cell 2 (by simp)
  have x3 := BX1.out.cell 3 (by simp)
  have x4 := BX1.out.cell 4 (by simp)
  have x5 := BX1.out.cell 5 (by simp)
  have x6 := BX1.out.cell 6 (by simp)
  simp only [List.getElem_cons_zero, List.getElem_cons_succ] at x0 x1 x2 x3 x4 x5 x6
  go_wp2_with fail
  refine (HIC.out _).mono ?_
  rintro e w2 ⟨rfl, hb⟩
  have HB2 := Lib.hid (belS HB1.out hb)
  have BX2 := Lib.hid (BX1.out.below hb)
  clear hb x0 x1 x2 x3 x4 x5 x6
  have x0 := BX2.out.cell 0 (by simp)
  have x1 := BX2.out.cell 1 (by simp)
  have x2 := BX2.out.cell 2 (by simp)
  have x3 := BX2.out.cell 3 (by simp)
  have x4 := BX2.out.cell 4 (by simp)
  have x5 := BX2.out.cell 5 (by simp)
  have x6 := BX2.out.cell 6 (by simp)
  simp only [List.getElem_cons_zero, List.getElem_cons_succ] at x0 x1 x2 x3 x4 x5 x6
  go_wp2_with (first | (go_at_call 94; (with_reducible refine (HNM.out _).mono ?_); rintro e w' ⟨rfl, rfl⟩))
  go_ret
  exact ⟨by first | rfl | exact ret_bool hbq, HB2.out⟩
 cases nb
 ·obtain rfl : ev = false := HO.out (fun h => by simp at h)
  clear HO HI
  go_enter Tryz.func49, Tryz.ntmps49
  have x0 := BX0.out.cell 0 (by simp)
  have x1 := BX0.out.cell 1 (by simp)
  have x2 := BX0.out.cell 2 (by simp)
  have x3 := BX0.out.cell 3 (by simp)
  have x4 := BX0.out.cell 4 (by simp)
  have x5 := BX0.out.cell 5 (by simp)
  have x6 := BX0.out.cell 6 (by simp)
  simp only [List.getElem_cons_zero, List.getElem_cons_succ] at x0 x1 x2 x3 x4 x5 x6
  go_wp2_with fail
  refine (HRF.out _ _ (row_of_slice (SliceAt.below H6.out good_str HB0.out (Nat.le_refl _)))).mono ?_
  rintro e w1 ⟨rfl, hb⟩
  have HB1 := Lib.hid (belS HB0.out hb)
  have BX1 := Lib.hid (BX0.out.below hb)
  clear hb x0 x1 x2 x3 x4 x5 x6
  have x0 := BX1.out.cell 0 (by simp)
  have x1 := BX1.out.cell 1 (by simp)
  have x2 := BX1.out.cell 2 (by simp)
  have x3 := BX1.out.cell 3 (by simp)
  have x4 := BX1.out.cell 4 (by simp)
  have x5 := BX1.out.cell 5 (by simp)
  have x6 := BX1.out.cell 6 (by simp)
  simp only [List.getElem_cons_zero, List.getElem_cons_succ] at x0 x1 x2 x3 x4 x5 x6
  go_wp2_with fail
  refine (HIC.out _).mono ?_
  rintro e w2 ⟨rfl, hb⟩
  have HB2 := Lib.hid (belS HB1.out hb)
  have BX2 := Lib.hid (BX1.out.below hb)
  clear hb x0 x1 x2 x3 x4 x5 x6
  have x0 := BX2.out.cell 0 (by simp)
  have x1 := BX2.out.cell 1 (by simp)
  have x2 := BX2.out.cell 2 (by simp)
  have x3 := BX2.out.cell 3 (by simp)
  have x4 := BX2.out.cell 4 (by simp)
  have x5 := BX2.out.cell 5 (by simp)
  have x6 := BX2.out.cell 6 (by simp)
  simp only [List.getElem_cons_zero, List.getElem_cons_succ] at x0 x1 x2 x3 x4 x5 x6
  go_wp2_with (first | (go_at_call 94; (with_reducible refine (HNM.out _).mono ?_); rintro e w' ⟨rfl, rfl⟩))
  go_ret
  exact ⟨by first | rfl | exact ret_bool hbq, HB2.out⟩
 replace HI := Lib.hid (HI.out ⟨by omega, by omega, rfl⟩)
 clear HO
 by_cases h3 : k = 3
 ·subst h3
  replace HI := Lib.hid (show ev = (cb && decide (l.length = 0)) by rw [HI.out, if_pos rfl, if_neg (by decide)])
  clear h1 h5
  cases cb
  ·obtain rfl : ev = false := by rw [HI.out]; rfl
   clear HI
   go_enter Tryz.func49, Tryz.ntmps49
   have x0 := BX0.out.cell 0 (by simp)
   have x1 := BX0.out.cell 1 (by simp)
   have x2 := BX0.out.cell 2 (by simp)
   have x3 := BX0.out.cell 3 (by simp)
   have x4 := BX0.out.cell 4 (by simp)
   have x5 := BX0.out.cell 5 (by simp)
   have x6 := BX0.out.cell 6 (by simp)
   simp only [List.getElem_cons_zero, List.getElem_cons_succ] at x0 x1 x2 x3 x4 x5 x6
   go_wp2_with fail
   refine (HRF.out _ _ (row_of_slice (SliceAt.below H6.out good_str HB0.out (Nat.le_refl _)))).mono ?_
   rintro e w1 ⟨rfl, hb⟩
   have HB1 := Lib.hid (belS HB0.out hb)
   have BX1 := Lib.hid (BX0.out.below hb)
   clear hb x0 x1 x2 x3 x4 x5 x6
   have x0 := BX1.out.cell 0 (by simp)
   have x1 := BX1.out.cell 1 (by simp)
   have x2 := BX1.out.cell 2 (by simp)
   have x3 := BX1.out.cell 3 (by simp)
   have x4 := BX1.out.cell 4 (by simp)
   have x5 := BX1.out.cell 5 (by simp)
   have x6 := BX1.out.cell 6 (by simp)
   simp only [List.getElem_cons_zero, List.getElem_cons_succ] at x0 x1 x2 x3 x4 x5 x6
   go_wp2_with fail
   refine (HIC.out _).mono ?_
   rintro e w2 ⟨rfl, hb⟩
   have HB2 := Lib.hid (belS HB1.out hb)
   have BX2 := Lib.hid (BX1.out.below hb)
   clear hb x0 x1 x2 x3 x4 x5 x6
   have x0 := BX2.out.cell 0 (by simp)
   have x1 := BX2.out.cell 1 (by simp)
   have x2 := BX2.out.cell 2 (by simp)
   have x3 := BX2.out.cell 3 (by simp)
   have x4 := BX2.out.cell 4 (by simp)
   have x5 := BX2.out.cell 5 (by simp)
   have x6 := BX2.out.cell 6 (by simp)
   simp only [List.getElem_cons_zero, List.getElem_cons_succ] at x0 x1 x2 x3 x4 x5 x6
   go_wp2_with (first | (go_at_call 94; (with_reducible refine (HNM.out _).mono ?_); rintro e w' ⟨rfl, rfl⟩))
   go_ret
   exact ⟨by first | rfl | exact ret_bool hbq, HB2.out⟩
  ·by_cases h0 : l.length = 0
   ·obtain rfl : l = [] := List.eq_nil_of_length_eq_zero h0
    simp only [List.length_nil] at *
    clear h0
    obtain rfl : ev = true := by rw [HI.out]; rfl
    clear HI
    go_enter Tryz.func49, Tryz.ntmps49
    have x0 := BX0.out.cell 0 (by simp)
    have x1 := BX0.out.cell 1 (by simp)
    have x2 := BX0.out.cell 2 (by simp)
    have x3 := BX0.out.cell 3 (by simp)
    have x4 := BX0.out.cell 4 (by simp)
    have x5 := BX0.out.cell 5 (by simp)
    have x6 := BX0.out.cell 6 (by simp)
    simp only [List.getElem_cons_zero, List.getElem_cons_succ] at x0 x1 x2 x3 x4 x5 x6
    go_wp2_with fail
    refine (HRF.out _ _ (row_of_slice (SliceAt.below H6.out good_str HB0.out (Nat.le_refl _)))).mono ?_
    rintro e w1 ⟨rfl, hb⟩
    have HB1 := Lib.hid (belS HB0.out hb)
    have BX1 := Lib.hid (BX0.out.below hb)
    clear hb x0 x1 x2 x3 x4 x5 x6
    have x0 := BX1.out.cell 0 (by simp)
    have x1 := BX1.out.cell 1 (by simp)
    have x2 := BX1.out.cell 2 (by simp)
    have x3 := BX1.out.cell 3 (by simp)
    have x4 := BX1.out.cell 4 (by simp)
    have x5 := BX1.out.cell 5 (by simp)
    have x6 := BX1.out.cell 6 (by simp)
    simp only [List.getElem_cons_zero, List.getElem_cons_succ] at x0 x1 x2 x3 x4 x5 x6
    go_wp2_with fail
    refine (HIC.out _).mono ?_
    rintro e w2 ⟨rfl, hb⟩
    have HB2 := Lib.hid (belS HB1.out hb)
    have BX2 := Lib.hid (BX1.out.below hb)
    clear hb x0 x1 x2 x3 x4 x5 x6
    have x0 := BX2.out.cell 0 (by simp)
    have x1 := BX2.out.cell 1 (by simp)
    have x2 := BX2.out.cell 2 (by simp)
    have x3 := BX2.out.cell 3 (by simp)
    have x4 := BX2.out.cell 4 (by simp)
    have x5 := BX2.out.cell 5 (by simp)
    have x6 := BX2.out.cell 6 (by simp)
    simp only [List.getElem_cons_zero, List.getElem_cons_succ] at x0 x1 x2 x3 x4 x5 x6
    go_wp2_with (first | (go_at_call 94; (with_reducible refine (HNM.out _).mono ?_); rintro e w' ⟨rfl, rfl⟩))
    go_ret
    exact ⟨by first | rfl | exact ret_bool hbq, HB2.out⟩
   ·have hne : ¬ (l.length : Int) = 0 := by omega
    have hnd : decide (l.length = 0) = false := decide_eq_false h0
    have hbq : ((l.length : Int) == 0) = false := beq_eq_false_iff_ne.2 hne
    obtain rfl : ev = false := by rw [HI.out, hnd, Bool.and_false]
    clear HI
    clear hnd h0
    go_enter Tryz.func49, Tryz.ntmps49
    have x0 := BX0.out.cell 0 (by simp)
    have x1 := BX0.out.cell 1 (by simp)
    have x2 := BX0.out.cell 2 (by simp)
    have x3 := BX0.out.cell 3 (by simp)
    have x4 := BX0.out.cell 4 (by simp)
    have x5 := BX0.out.cell 5 (by simp)
    have x6 := BX0.out.cell 6 (by simp)
    simp only [List.getElem_cons_zero, List.getElem_cons_succ] at x0 x1 x2 x3 x4 x5 x6
    go_wp2_with fail
    refine (HRF.out _ _ (row_of_slice (SliceAt.below H6.out good_str HB0.out (Nat.le_refl _)))).mono ?_
    rintro e w1 ⟨rfl, hb⟩
    have HB1 := Lib.hid (belS HB0.out hb)
    have BX1 := Lib.hid (BX0.out.below hb)
    clear hb x0 x1 x2 x3 x4 x5 x6
    have x0 := BX1.out.cell 0 (by simp)
    have x1 := BX1.out.cell 1 (by simp)
    have x2 := BX1.out.cell 2 (by simp)
    have x3 := BX1.out.cell 3 (by simp)
    have x4 := BX1.out.cell 4 (by simp)
    have x5 := BX1.out.cell 5 (by simp)
    have x6 := BX1.out.cell 6 (by simp)
    simp only [List.getElem_cons_zero, List.getElem_cons_succ] at x0 x1 x2 x3 x4 x5 x6
    go_wp2_with fail
    refine (HIC.out _).mono ?_
    rintro e w2 ⟨rfl, hb⟩
    have HB2 := Lib.hid (belS HB1.out hb)
    have BX2 := Lib.hid (BX1.out.below hb)
    clear hb x0 x1 x2 x3 x4 x5 x6
    have x0 := BX2.out.cell 0 (by simp)
    have x1 := BX2.out.cell 1 (by simp)
    have x2 := BX2.out.cell 2 (by simp)
    have x3 := BX2.out.cell 3 (by simp)
    have x4 := BX2.out.cell 4 (by simp)
    have x5 := BX2.out.cell 5 (by simp)
    have x6 := BX2.out.cell 6 (by simp)
    simp only [List.getElem_cons_zero, List.getElem_cons_succ] at x0 x1 x2 x3 x4 x5 x6
    go_wp2_with (first | (go_at_call 94; (with_reducible refine (HNM.out _).mono ?_); rintro e w' ⟨rfl, rfl⟩))
    go_ret
    exact ⟨by first | rfl | exact ret_bool hbq, HB2.out⟩
 replace HI := Lib.hid (show ev = (decide ((⟨m, ky, n, t⟩ : CallD) = zCallD) && (if k = 5 then rb else decide (l.length = 0))) by rw [HI.out, if_neg h3])
 by_cases h55 : k = 5
 ·subst h55
  clear h3 h1 h5
  replace HI := Lib.hid (show ev = (decide ((⟨m, ky, n, t⟩ : CallD) = zCallD) && rb) by rw [HI.out, if_pos rfl])
  cases m with
  | cons c r =>
   obtain rfl : ev = false := by rw [HI.out]; simp [zCallD, *]
   clear HI
   go_enter Tryz.func49, Tryz.ntmps49
   have x0 := BX0.out.cell 0 (by simp)
   have x1 := BX0.out.cell 1 (by simp)
   have x2 := BX0.out.cell 2 (by simp)
   have x3 := BX0.out.cell 3 (by simp)
   have x4 := BX0.out.cell 4 (by simp)
   have x5 := BX0.out.cell 5 (by simp)
   have x6 := BX0.out.cell 6 (by simp)
   simp only [List.getElem_cons_zero, List.getElem_cons_succ] at x0 x1 x2 x3 x4 x5 x6
   go_wp2_with fail
   refine (HRF.out _ _ (row_of_slice (SliceAt.below H6.out good_str HB0.out (Nat.le_refl _)))).mono ?_
   rintro e w1 ⟨rfl, hb⟩
   have HB1 := Lib.hid (belS HB0.out hb)
   have BX1 := Lib.hid (BX0.out.below hb)
   clear hb x0 x1 x2 x3 x4 x5 x6
   have x0 := BX1.out.cell 0 (by simp)
   have x1 := BX1.out.cell 1 (by simp)
   have x2 := BX1.out.cell 2 (by simp)
   have x3 := BX1.out.cell 3 (by simp)
   have x4 := BX1.out.cell 4 (by simp)
   have x5 := BX1.out.cell 5 (by simp)
   have x6 := BX1.out.cell 6 (by simp)
   simp only [List.getElem_cons_zero, List.getElem_cons_succ] at x0 x1 x2 x3 x4 x5 x6
   go_wp2_with fail
   refine (HIC.out _).mono ?_
   rintro e w2 ⟨rfl, hb⟩
   have HB2 := Lib.hid (belS HB1.out hb)
   have BX2 := Lib.hid (BX1.out.below hb)
   clear hb x0 x1 x2 x3 x4 x5 x6
   have x0 := BX2.out.cell 0 (by simp)
   have x1 := BX2.out.cell 1 (by simp)
   have x2 := BX2.out.cell 2 (by simp)
   have x3 := BX2.out.cell 3 (by simp)
   have x4 := BX2.out.cell 4 (by simp)
   have x5 := BX2.out.cell 5 (by simp)
   have x6 := BX2.out.cell 6 (by simp)
   simp only [List.getElem_cons_zero, List.getElem_cons_succ] at x0 x1 x2 x3 x4 x5 x6
   go_wp2_with (first | (go_at_call 94; (with_reducible refine (HNM.out _).mono ?_); rintro e w' ⟨rfl, rfl⟩))
   go_ret
   exact ⟨by first | rfl | exact ret_bool hbq, HB2.out⟩
  | nil =>
   cases ky with
   | cons c r =>
    obtain rfl : ev = false := by rw [HI.out]; simp [zCallD, *]
    clear HI
    go_enter Tryz.func49, Tryz.ntmps49
    have x0 := BX0.out.cell 0 (by simp)
    have x1 := BX0.out.cell 1 (by simp)
    have x2 := BX0.out.cell 2 (by simp)
    have x3 := BX0.out.cell 3 (by simp)
    have x4 := BX0.out.cell 4 (by simp)
    have x5 := BX0.out.cell 5 (by simp)
    have x6 := BX0.out.cell 6 (by simp)
    simp only [List.getElem_cons_zero, List.getElem_cons_succ] at x0 x1 x2 x3 x4 x5 x6
    go_wp2_with fail
    refine (HRF.out _ _ (row_of_slice (SliceAt.below H6.out good_str HB0.out (Nat.le_refl _)))).mono ?_
    rintro e w1 ⟨rfl, hb⟩
    have HB1 := Lib.hid (belS HB0.out hb)
    have BX1 := Lib.hid (BX0.out.below hb)
    clear hb x0 x1 x2 x3 x4 x5 x6
    have x0 := BX1.out.cell 0 (by simp)
    have x1 := BX1.out.cell 1 (by simp)
    have x2 := BX1.out.cell 2 (by simp)
    have x3 := BX1.out.cell 3 (by simp)
    have x4 := BX1.out.cell 4 (by simp)
    have x5 := BX1.out.cell 5 (by simp)
    have x6 := BX1.out.cell 6 (by simp)
    simp only [List.getElem_cons_zero, List.getElem_cons_succ] at x0 x1 x2 x3 x4 x5 x6
    go_wp2_with fail
    refine (HIC.out _).mono ?_
    rintro e w2 ⟨rfl, hb⟩
    have HB2 := Lib.hid (belS HB1.out hb)
    have BX2 := Lib.hid (BX1.out.below hb)
    clear hb x0 x1 x2 x3 x4 x5 x6
    have x0 := BX2.out.cell 0 (by simp)
    have x1 := BX2.out.cell 1 (by simp)
    have x2 := BX2.out.cell 2 (by simp)
    have x3 := BX2.out.cell 3 (by simp)
    have x4 := BX2.out.cell 4 (by simp)
    have x5 := BX2.out.cell 5 (by simp)
    have x6 := BX2.out.cell 6 (by simp)
    simp only [List.getElem_cons_zero, List.getElem_cons_succ] at x0 x1 x2 x3 x4 x5 x6
    go_wp2_with (first | (go_at_call 94; (with_reducible refine (HNM.out _).mono ?_); rintro e w' ⟨rfl, rfl⟩))
    go_ret
    exact ⟨by first | rfl | exact ret_bool hbq, HB2.out⟩
   | nil =>
    by_cases hn0 : n = 0
    ·subst hn0
     cases t with
     | cons c r =>
      obtain rfl : ev = false := by rw [HI.out]; simp [zCallD, *]
      clear HI
      go_enter Tryz.func49, Tryz.ntmps49
      have x0 := BX0.out.cell 0 (by simp)
      have x1 := BX0.out.cell 1 (by simp)
      have x2 := BX0.out.cell 2 (by simp)
      have x3 := BX0.out.cell 3 (by simp)
      have x4 := BX0.out.cell 4 (by simp)
      have x5 := BX0.out.cell 5 (by simp)
      have x6 := BX0.out.cell 6 (by simp)
      simp only [List.getElem_cons_zero, List.getElem_cons_succ] at x0 x1 x2 x3 x4 x5 x6
      go_wp2_with fail
      refine (HRF.out _ _ (row_of_slice (SliceAt.below H6.out good_str HB0.out (Nat.le_refl _)))).mono ?_
      rintro e w1 ⟨rfl, hb⟩
      have HB1 := Lib.hid (belS HB0.out hb)
      have BX1 := Lib.hid (BX0.out.below hb)
      clear hb x0 x1 x2 x3 x4 x5 x6
      have x0 := BX1.out.cell 0 (by simp)
      have x1 := BX1.out.cell 1 (by simp)
      have x2 := BX1.out.cell 2 (by simp)
      have x3 := BX1.out.cell 3 (by simp)
      have x4 := BX1.out.cell 4 (by simp)
      have x5 := BX1.out.cell 5 (by simp)
      have x6 := BX1.out.cell 6 (by simp)
      simp only [List.getElem_cons_zero, List.getElem_cons_succ] at x0 x1 x2 x3 x4 x5 x6
      go_wp2_with fail
      refine (HIC.out _).mono ?_
      rintro e w2 ⟨rfl, hb⟩
      have HB2 := Lib.hid (belS HB1.out hb)
      have BX2 := Lib.hid (BX1.out.below hb)
      clear hb x0 x1 x2 x3 x4 x5 x6
      have x0 := BX2.out.cell 0 (by simp)
      have x1 := BX2.out.cell 1 (by simp)
      have x2 := BX2.out.cell 2 (by simp)
      have x3 := BX2.out.cell 3 (by simp)
      have x4 := BX2.out.cell 4 (by simp)
      have x5 := BX2.out.cell 5 (by simp)
      have x6 := BX2.out.cell 6 (by simp)
      simp only [List.getElem_cons_zero, List.getElem_cons_succ] at x0 x1 x2 x3 x4 x5 x6
      go_wp2_with (first | (go_at_call 94; (with_reducible refine (HNM.out _).mono ?_); rintro e w' ⟨rfl, rfl⟩))
      go_ret
      exact ⟨by first | rfl | exact ret_bool hbq, HB2.out⟩
     | nil =>
      cases rb
      ·obtain rfl : ev = false := by rw [HI.out]; simp [zCallD]
       clear HI
       go_enter Tryz.func49, Tryz.ntmps49
       have x0 := BX0.out.cell 0 (by simp)
       have x1 := BX0.out.cell 1 (by simp)
       have x2 := BX0.out.cell 2 (by simp)
       have x3 := BX0.out.cell 3 (by simp)
       have x4 := BX0.out.cell 4 (by simp)
       have x5 := BX0.out.cell 5 (by simp)
       have x6 := BX0.out.cell 6 (by simp)
       simp only [List.getElem_cons_zero, List.getElem_cons_succ] at x0 x1 x2 x3 x4 x5 x6
       go_wp2_with fail
       refine (HRF.out _ _ (row_of_slice (SliceAt.below H6.out good_str HB0.out (Nat.le_refl _)))).mono ?_
       rintro e w1 ⟨rfl, hb⟩
       have HB1 := Lib.hid (belS HB0.out hb)
       have BX1 := Lib.hid (BX0.out.below hb)
       clear hb x0 x1 x2 x3 x4 x5 x6
       have x0 := BX1.out.cell 0 (by simp)
       have x1 := BX1.out.cell 1 (by simp)
       have x2 := BX1.out.cell 2 (by simp)
       have x3 := BX1.out.cell 3 (by simp)
       have x4 := BX1.out.cell 4 (by simp)
       have x5 := BX1.out.cell 5 (by simp)
       have x6 := BX1.out.cell 6 (by simp)
       simp only [List.getElem_cons_zero, List.getElem_cons_succ] at x0 x1 x2 x3 x4 x5 x6
       go_wp2_with fail
       refine (HIC.out _).mono ?_
       rintro e w2 ⟨rfl, hb⟩
       have HB2 := Lib.hid (belS HB1.out hb)
       have BX2 := Lib.hid (BX1.out.below hb)
       clear hb x0 x1 x2 x3 x4 x5 x6
       have x0 := BX2.out.cell 0 (by simp)
       have x1 := BX2.out.cell 1 (by simp)
       have x2 := BX2.out.cell 2 (by simp)
       have x3 := BX2.out.cell 3 (by simp)
       have x4 := BX2.out.cell 4 (by simp)
       have x5 := BX2.out.cell 5 (by simp)
       have x6 := BX2.out.cell 6 (by simp)
       simp only [List.getElem_cons_zero, List.getElem_cons_succ] at x0 x1 x2 x3 x4 x5 x6
       go_wp2_with (first | (go_at_call 94; (with_reducible refine (HNM.out _).mono ?_); rintro e w' ⟨rfl, rfl⟩))
       go_ret
       exact ⟨by first | rfl | exact ret_bool hbq, HB2.out⟩
      ·obtain rfl : ev = true := by rw [HI.out]; simp [zCallD]
       clear HI
       go_enter Tryz.func49, Tryz.ntmps49
       have x0 := BX0.out.cell 0 (by simp)
       have x1 := BX0.out.cell 1 (by simp)
       have x2 := BX0.out.cell 2 (by simp)
       have x3 := BX0.out.cell 3 (by simp)
       have x4 := BX0.out.cell 4 (by simp)
       have x5 := BX0.out.cell 5 (by simp)
       have x6 := BX0.out.cell 6 (by simp)
       simp only [List.getElem_cons_zero, List.getElem_cons_succ] at x0 x1 x2 x3 x4 x5 x6
       go_wp2_with fail
       refine (HRF.out _ _ (row_of_slice (SliceAt.below H6.out good_str HB0.out (Nat.le_refl _)))).mono ?_
       rintro e w1 ⟨rfl, hb⟩
       have HB1 := Lib.hid (belS HB0.out hb)
       have BX1 := Lib.hid (BX0.out.below hb)
       clear hb x0 x1 x2 x3 x4 x5 x6
       have x0 := BX1.out.cell 0 (by simp)
       have x1 := BX1.out.cell 1 (by simp)
       have x2 := BX1.out.cell 2 (by simp)
       have x3 := BX1.out.cell 3 (by simp)
       have x4 := BX1.out.cell 4 (by simp)
       have x5 := BX1.out.cell 5 (by simp)
       have x6 := BX1.out.cell 6 (by simp)
       simp only [List.getElem_cons_zero, List.getElem_cons_succ] at x0 x1 x2 x3 x4 x5 x6
       go_wp2_with fail
       refine (HIC.out _).mono ?_
       rintro e w2 ⟨rfl, hb⟩
       have HB2 := Lib.hid (belS HB1.out hb)
       have BX2 := Lib.hid (BX1.out.below hb)
       clear hb x0 x1 x2 x3 x4 x5 x6
       have x0 := BX2.out.cell 0 (by simp)
       have x1 := BX2.out.cell 1 (by simp)
       have x2 := BX2.out.cell 2 (by simp)
       have x3 := BX2.out.cell 3 (by simp)
       have x4 := BX2.out.cell 4 (by simp)
       have x5 := BX2.out.cell 5 (by simp)
       have x6 := BX2.out.cell 6 (by simp)
       simp only [List.getElem_cons_zero, List.getElem_cons_succ] at x0 x1 x2 x3 x4 x5 x6
       go_wp2_with (first | (go_at_call 94; (with_reducible refine (HNM.out _).mono ?_); rintro e w' ⟨rfl, rfl⟩))
       go_ret
       exact ⟨by first | rfl | exact ret_bool hbq, HB2.out⟩
    ·have hnb : (n == 0) = false := by simp [hn0]
     obtain rfl : ev = false := by rw [HI.out]; simp [zCallD, *]
     clear HI
     go_enter Tryz.func49, Tryz.ntmps49
     have x0 := BX0.out.cell 0 (by simp)
     have x1 := BX0.out.cell 1 (by simp)
     have x2 := BX0.out.cell 2 (by simp)
     have x3 := BX0.out.cell 3 (by simp)
     have x4 := BX0.out.cell 4 (by simp)
     have x5 := BX0.out.cell 5 (by simp)
     have x6 := BX0.out.cell 6 (by simp)
     simp only [List.getElem_cons_zero, List.getElem_cons_succ] at x0 x1 x2 x3 x4 x5 x6
     go_wp2_with fail
     refine (HRF.out _ _ (row_of_slice (SliceAt.below H6.out good_str HB0.out (Nat.le_refl _)))).mono ?_
     rintro e w1 ⟨rfl, hb⟩
     have HB1 := Lib.hid (belS HB0.out hb)
     have BX1 := Lib.hid (BX0.out.below hb)
     clear hb x0 x1 x2 x3 x4 x5 x6
     have x0 := BX1.out.cell 0 (by simp)
     have x1 := BX1.out.cell 1 (by simp)
     have x2 := BX1.out.cell 2 (by simp)
     have x3 := BX1.out.cell 3 (by simp)
     have x4 := BX1.out.cell 4 (by simp)
     have x5 := BX1.out.cell 5 (by simp)
     have x6 := BX1.out.cell 6 (by simp)
     simp only [List.getElem_cons_zero, List.getElem_cons_succ] at x0 x1 x2 x3 x4 x5 x6
     go_wp2_with fail
     refine (HIC.out _).mono ?_
     rintro e w2 ⟨rfl, hb⟩
     have HB2 := Lib.hid (belS HB1.out hb)
     have BX2 := Lib.hid (BX1.out.below hb)
     clear hb x0 x1 x2 x3 x4 x5 x6
     have x0 := BX2.out.cell 0 (by simp)
     have x1 := BX2.out.cell 1 (by simp)
     have x2 := BX2.out.cell 2 (by simp)
     have x3 := BX2.out.cell 3 (by simp)
     have x4 := BX2.out.cell 4 (by simp)
     have x5 := BX2.out.cell 5 (by simp)
     have x6 := BX2.out.cell 6 (by simp)
     simp only [List.getElem_cons_zero, List.getElem_cons_succ] at x0 x1 x2 x3 x4 x5 x6
     go_wp2_with (first | (go_at_call 94; (with_reducible refine (HNM.out _).mono ?_); rintro e w' ⟨rfl, rfl⟩))
     go_ret
     exact ⟨by first | rfl | exact ret_bool hbq, HB2.out⟩
 replace HI := Lib.hid (show ev = (decide ((⟨m, ky, n, t⟩ : CallD) = zCallD) && decide (l.length = 0)) by rw [HI.out, if_neg h55])
 have hb3 : (k == 3) = false := by simp [h3]
 have hc3 : (k != 3) = true := by simp [h3]
 have hb5 : (k == 5) = false := by simp [h55]
 have hc5 : (k != 5) = true := by simp [h55]
 clear h3 h55
 cases m with
 | cons c r =>
  by_cases h0 : l.length = 0
  ·obtain rfl : l = [] := List.eq_nil_of_length_eq_zero h0
   simp only [List.length_nil] at *
   clear h0
   obtain rfl : ev = false := by rw [HI.out]; simp [zCallD, *]
   clear HI
   go_enter Tryz.func49, Tryz.ntmps49
   have x0 := BX0.out.cell 0 (by simp)
   have x1 := BX0.out.cell 1 (by simp)
   have x2 := BX0.out.cell 2 (by simp)
   have x3 := BX0.out.cell 3 (by simp)
   have x4 := BX0.out.cell 4 (by simp)
   have x5 := BX0.out.cell 5 (by simp)
   have x6 := BX0.out.cell 6 (by simp)
   simp only [List.getElem_cons_zero, List.getElem_cons_succ] at x0 x1 x2 x3 x4 x5 x6
   go_wp2_with fail
   refine (HRF.out _ _ (row_of_slice (SliceAt.below H6.out good_str HB0.out (Nat.le_refl _)))).mono ?_
   rintro e w1 ⟨rfl, hb⟩
   have HB1 := Lib.hid (belS HB0.out hb)
   have BX1 := Lib.hid (BX0.out.below hb)
   clear hb x0 x1 x2 x3 x4 x5 x6
   have x0 := BX1.out.cell 0 (by simp)
   have x1 := BX1.out.cell 1 (by simp)
   have x2 := BX1.out.cell 2 (by simp)
   have x3 := BX1.out.cell 3 (by simp)
   have x4 := BX1.out.cell 4 (by simp)
   have x5 := BX1.out.cell 5 (by simp)
   have x6 := BX1.out.cell 6 (by simp)
   simp only [List.getElem_cons_zero, List.getElem_cons_succ] at x0 x1 x2 x3 x4 x5 x6
   go_wp2_with fail
   refine (HIC.out _).mono ?_
   rintro e w2 ⟨rfl, hb⟩
   have HB2 := Lib.hid (belS HB1.out hb)
   have BX2 := Lib.hid (BX1.out.below hb)
   clear hb x0 x1 x2 x3 x4 x5 x6
   have x0 := BX2.out.cell 0 (by simp)
   have x1 := BX2.out.cell 1 (by simp)
   have x2 := BX2.out.cell 2 (by simp)
   have x3 := BX2.out.cell 3 (by simp)
   have x4 := BX2.out.cell 4 (by simp)
   have x5 := BX2.out.cell 5 (by simp)
   have x6 := BX2.out.cell 6 (by simp)
   simp only [List.getElem_cons_zero, List.getElem_cons_succ] at x0 x1 x2 x3 x4 x5 x6
   go_wp2_with (first | (go_at_call 94; (with_reducible refine (HNM.out _).mono ?_); rintro e w' ⟨rfl, rfl⟩))
   go_ret
   exact ⟨by first | rfl | exact ret_bool hbq, HB2.out⟩
  ·have hne : ¬ (l.length : Int) = 0 := by omega
   have hnd : decide (l.length = 0) = false := decide_eq_false h0
   have hbq : ((l.length : Int) == 0) = false := beq_eq_false_iff_ne.2 hne
   obtain rfl : ev = false := by rw [HI.out]; simp [zCallD, *]
   clear HI
   clear hnd h0
   go_enter Tryz.func49, Tryz.ntmps49
   have x0 := BX0.out.cell 0 (by simp)
   have x1 := BX0.out.cell 1 (by simp)
   have x2 := BX0.out.cell 2 (by simp)
   have x3 := BX0.out.cell 3 (by simp)
   have x4 := BX0.out.cell 4 (by simp)
   have x5 := BX0.out.cell 5 (by simp)
   have x6 := BX0.out.cell 6 (by simp)
   simp only [List.getElem_cons_zero, List.getElem_cons_succ] at x0 x1 x2 x3 x4 x5 x6
   go_wp2_with fail
   refine (HRF.out _ _ (row_of_slice (SliceAt.below H6.out good_str HB0.out (Nat.le_refl _)))).mono ?_
   rintro e w1 ⟨rfl, hb⟩
   have HB1 := Lib.hid (belS HB0.out hb)
   have BX1 := Lib.hid (BX0.out.below hb)
   clear hb x0 x1 x2 x3 x4 x5 x6
   have x0 := BX1.out.cell 0 (by simp)
   have x1 := BX1.out.cell 1 (by simp)
   have x2 := BX1.out.cell 2 (by simp)
   have x3 := BX1.out.cell 3 (by simp)
   have x4 := BX1.out.cell 4 (by simp)
   have x5 := BX1.out.cell 5 (by simp)
   have x6 := BX1.out.cell 6 (by simp)
   simp only [List.getElem_cons_zero, List.getElem_cons_succ] at x0 x1 x2 x3 x4 x5 x6
   go_wp2_with fail
   refine (HIC.out _).mono ?_
   rintro e w2 ⟨rfl, hb⟩
   have HB2 := Lib.hid (belS HB1.out hb)
   have BX2 := Lib.hid (BX1.out.below hb)
   clear hb x0 x1 x2 x3 x4 x5 x6
   have x0 := BX2.out.cell 0 (by simp)
   have x1 := BX2.out.cell 1 (by simp)
   have x2 := BX2.out.cell 2 (by simp)
   have x3 := BX2.out.cell 3 (by simp)
   have x4 := BX2.out.cell 4 (by simp)
   have x5 := BX2.out.cell 5 (by simp)
   have x6 := BX2.out.cell 6 (by simp)
   simp only [List.getElem_cons_zero, List.getElem_cons_succ] at x0 x1 x2 x3 x4 x5 x6
   go_wp2_with (first | (go_at_call 94; (with_reducible refine (HNM.out _).mono ?_); rintro e w' ⟨rfl, rfl⟩))
   go_ret
   exact ⟨by first | rfl | exact ret_bool hbq, HB2.out⟩
 | nil =>
  cases ky with
  | cons c r =>
   by_cases h0 : l.length = 0
   ·obtain rfl : l = [] := List.eq_nil_of_length_eq_zero h0
    simp only [List.length_nil] at *
    clear h0
    obtain rfl : ev = false := by rw [HI.out]; simp [zCallD, *]
    clear HI
    go_enter Tryz.func49, Tryz.ntmps49
    have x0 := BX0.out.cell 0 (by simp)
    have x1 := BX0.out.cell 1 (by simp)
    have x2 := BX0.out.cell 2 (by simp)
    have x3 := BX0.out.cell 3 (by simp)
    have x4 := BX0.out.cell 4 (by simp)
    have x5 := BX0.out.cell 5 (by simp)
    have x6 := BX0.out.cell 6 (by simp)
    simp only [List.getElem_cons_zero, List.getElem_cons_succ] at x0 x1 x2 x3 x4 x5 x6
    go_wp2_with fail
    refine (HRF.out _ _ (row_of_slice (SliceAt.below H6.out good_str HB0.out (Nat.le_refl _)))).mono ?_
    rintro e w1 ⟨rfl, hb⟩
    have HB1 := Lib.hid (belS HB0.out hb)
    have BX1 := Lib.hid (BX0.out.below hb)
    clear hb x0 x1 x2 x3 x4 x5 x6
    have x0 := BX1.out.cell 0 (by simp)
    have x1 := BX1.out.cell 1 (by simp)
    have x2 := BX1.out.cell 2 (by simp)
    have x3 := BX1.out.cell 3 (by simp)
    have x4 := BX1.out.cell 4 (by simp)
    have x5 := BX1.out.cell 5 (by simp)
    have x6 := BX1.out.cell 6 (by simp)
    simp only [List.getElem_cons_zero, List.getElem_cons_succ] at x0 x1 x2 x3 x4 x5 x6
    go_wp2_with fail
    refine (HIC.out _).mono ?_
    rintro e w2 ⟨rfl, hb⟩
    have HB2 := Lib.hid (belS HB1.out hb)
    have BX2 := Lib.hid (BX1.out.below hb)
    clear hb x0 x1 x2 x3 x4 x5 x6
    have x0 := BX2.out.cell 0 (by simp)
    have x1 := BX2.out.cell 1 (by simp)
    have x2 := BX2.out.cell 2 (by simp)
    have x3 := BX2.out.cell 3 (by simp)
    have x4 := BX2.out.cell 4 (by simp)
    have x5 := BX2.out.cell 5 (by simp)
    have x6 := BX2.out.cell 6 (by simp)
    simp only [List.getElem_cons_zero, List.getElem_cons_succ] at x0 x1 x2 x3 x4 x5 x6
    go_wp2_with (first | (go_at_call 94; (with_reducible refine (HNM.out _).mono ?_); rintro e w' ⟨rfl, rfl⟩))
    go_ret
    exact ⟨by first | rfl | exact ret_bool hbq, HB2.out⟩
   ·have hne : ¬ (l.length : Int) = 0 := by omega
    have hnd : decide (l.length = 0) = false := decide_eq_false h0
    have hbq : ((l.length : Int) == 0) = false := beq_eq_false_iff_ne.2 hne
    obtain rfl : ev = false := by rw [HI.out]; simp [zCallD, *]
    clear HI
    clear hnd h0
    go_enter Tryz.func49, Tryz.ntmps49
    have x0 := BX0.out.cell 0 (by simp)
    have x1 := BX0.out.cell 1 (by simp)
    have x2 := BX0.out.cell 2 (by simp)
    have x3 := BX0.out.cell 3 (by simp)
    have x4 := BX0.out.cell 4 (by simp)
    have x5 := BX0.out.cell 5 (by simp)
    have x6 := BX0.out.cell 6 (by simp)
    simp only [List.getElem_cons_zero, List.getElem_cons_succ] at x0 x1 x2 x3 x4 x5 x6
    go_wp2_with fail
    refine (HRF.out _ _ (row_of_slice (SliceAt.below H6.out good_str HB0.out (Nat.le_refl _)))).mono ?_
    rintro e w1 ⟨rfl, hb⟩
    have HB1 := Lib.hid (belS HB0.out hb)
    have BX1 := Lib.hid (BX0.out.below hb)
    clear hb x0 x1 x2 x3 x4 x5 x6
    have x0 := BX1.out.cell 0 (by simp)
    have x1 := BX1.out.cell 1 (by simp)
    have x2 := BX1.out.cell 2 (by simp)
    have x3 := BX1.out.cell 3 (by simp)
    have x4 := BX1.out.cell 4 (by simp)
    have x5 := BX1.out.cell 5 (by simp)
    have x6 := BX1.out.cell 6 (by simp)
    simp only [List.getElem_cons_zero, List.getElem_cons_succ] at x0 x1 x2 x3 x4 x5 x6
    go_wp2_with fail
    refine (HIC.out _).mono ?_
    rintro e w2 ⟨rfl, hb⟩
    have HB2 := Lib.hid (belS HB1.out hb)
    have BX2 := Lib.hid (BX1.out.below hb)
    clear hb x0 x1 x2 x3 x4 x5 x6
    have x0 := BX2.out.cell 0 (by simp)
    have x1 := BX2.out.cell 1 (by simp)
    have x2 := BX2.out.cell 2 (by simp)
    have x3 := BX2.out.cell 3 (by simp)
    have x4 := BX2.out.cell 4 (by simp)
    have x5 := BX2.out.cell 5 (by simp)
    have x6 := BX2.out.cell 6 (by simp)
    simp only [List.getElem_cons_zero, List.getElem_cons_succ] at x0 x1 x2 x3 x4 x5 x6
    go_wp2_with (first | (go_at_call 94; (with_reducible refine (HNM.out _).mono ?_); rintro e w' ⟨rfl, rfl⟩))
    go_ret
    exact ⟨by first | rfl | exact ret_bool hbq, HB2.out⟩
  | nil =>
   by_cases hn0 : n = 0
   ·subst hn0
    cases t with
    | cons c r =>
     by_cases h0 : l.length = 0
     ·obtain rfl : l = [] := List.eq_nil_of_length_eq_zero h0
      simp only [List.length_nil] at *
      clear h0
      obtain rfl : ev = false := by rw [HI.out]; simp [zCallD, *]
      clear HI
      go_enter Tryz.func49, Tryz.ntmps49
      have x0 := BX0.out.cell 0 (by simp)
      have x1 := BX0.out.cell 1 (by simp)
      have x2 := BX0.out.cell 2 (by simp)
      have x3 := BX0.out.cell 3 (by simp)
      have x4 := BX0.out.cell 4 (by simp)
      have x5 := BX0.out.cell 5 (by simp)
      have x6 := BX0.out.cell 6 (by simp)
      simp only [List.getElem_cons_zero, List.getElem_cons_succ] at x0 x1 x2 x3 x4 x5 x6
      go_wp2_with fail
      refine (HRF.out _ _ (row_of_slice (SliceAt.below H6.out good_str HB0.out (Nat.le_refl _)))).mono ?_
      rintro e w1 ⟨rfl, hb⟩
      have HB1 := Lib.hid (belS HB0.out hb)
      have BX1 := Lib.hid (BX0.out.below hb)
      clear hb x0 x1 x2 x3 x4 x5 x6
      have x0 := BX1.out.cell 0 (by simp)
      have x1 := BX1.out.cell 1 (by simp)
      have x2 := BX1.out.cell 2 (by simp)
      have x3 := BX1.out.cell 3 (by simp)
      have x4 := BX1.out.cell 4 (by simp)
      have x5 := BX1.out.cell 5 (by simp)
      have x6 := BX1.out.cell 6 (by simp)
      simp only [List.getElem_cons_zero, List.getElem_cons_succ] at x0 x1 x2 x3 x4 x5 x6
      go_wp2_with fail
      refine (HIC.out _).mono ?_
      rintro e w2 ⟨rfl, hb⟩
      have HB2 := Lib.hid (belS HB1.out hb)
      have BX2 := Lib.hid (BX1.out.below hb)
      clear hb x0 x1 x2 x3 x4 x5 x6
      have x0 := BX2.out.cell 0 (by simp)
      have x1 := BX2.out.cell 1 (by simp)
      have x2 := BX2.out.cell 2 (by simp)
      have x3 := BX2.out.cell 3 (by simp)
      have x4 := BX2.out.cell 4 (by simp)
      have x5 := BX2.out.cell 5 (by simp)
      have x6 := BX2.out.cell 6 (by simp)
      simp only [List.getElem_cons_zero, List.getElem_cons_succ] at x0 x1 x2 x3 x4 x5 x6
      go_wp2_with (first | (go_at_call 94; (with_reducible refine (HNM.out _).mono ?_); rintro e w' ⟨rfl, rfl⟩))
      go_ret
      exact ⟨by first | rfl | exact ret_bool hbq, HB2.out⟩
     ·have hne : ¬ (l.length : Int) = 0 := by omega
      have hnd : decide (l.length = 0) = false := decide_eq_false h0
      have hbq : ((l.length : Int) == 0) = false := beq_eq_false_iff_ne.2 hne
      obtain rfl : ev = false := by rw [HI.out]; simp [zCallD, *]
      clear HI
      clear hnd h0
      go_enter Tryz.func49, Tryz.ntmps49
      have x0 := BX0.out.cell 0 (by simp)
      have x1 := BX0.out.cell 1 (by simp)
      have x2 := BX0.out.cell 2 (by simp)
      have x3 := BX0.out.cell 3 (by simp)
      have x4 := BX0.out.cell 4 (by simp)
      have x5 := BX0.out.cell 5 (by simp)
      have x6 := BX0.out.cell 6 (by simp)
      simp only [List.getElem_cons_zero, List.getElem_cons_succ] at x0 x1 x2 x3 x4 x5 x6
      go_wp2_with fail
      refine (HRF.out _ _ (row_of_slice (SliceAt.below H6.out good_str HB0.out (Nat.le_refl _)))).mono ?_
      rintro e w1 ⟨rfl, hb⟩
      have HB1 := Lib.hid (belS HB0.out hb)
      have BX1 := Lib.hid (BX0.out.below hb)
      clear hb x0 x1 x2 x3 x4 x5 x6
      have x0 := BX1.out.cell 0 (by simp)
      have x1 := BX1.out.cell 1 (by simp)
      have x2 := BX1.out.cell 2 (by simp)
      have x3 := BX1.out.cell 3 (by simp)
      have x4 := BX1.out.cell 4 (by simp)
      have x5 := BX1.out.cell 5 (by simp)
      have x6 := BX1.out.cell 6 (by simp)
      simp only [List.getElem_cons_zero, List.getElem_cons_succ] at x0 x1 x2 x3 x4 x5 x6
      go_wp2_with fail
      refine (HIC.out _).mono ?_
      rintro e w2 ⟨rfl, hb⟩
      have HB2 := Lib.hid (belS HB1.out hb)
      have BX2 := Lib.hid (BX1.out.below hb)
      clear hb x0 x1 x2 x3 x4 x5 x6
      have x0 := BX2.out.cell 0 (by simp)
      have x1 := BX2.out.cell 1 (by simp)
      have x2 := BX2.out.cell 2 (by simp)
      have x3 := BX2.out.cell 3 (by simp)
      have x4 := BX2.out.cell 4 (by simp)
      have x5 := BX2.out.cell 5 (by simp)
      have x6 := BX2.out.cell 6 (by simp)
      simp only [List.getElem_cons_zero, List.getElem_cons_succ] at x0 x1 x2 x3 x4 x5 x6
      go_wp2_with (first | (go_at_call 94; (with_reducible refine (HNM.out _).mono ?_); rintro e w' ⟨rfl, rfl⟩))
      go_ret
      exact ⟨by first | rfl | exact ret_bool hbq, HB2.out⟩
    | nil =>
     by_cases h0 : l.length = 0
     ·obtain rfl : l = [] := List.eq_nil_of_length_eq_zero h0
      simp only [List.length_nil] at *
      clear h0
      obtain rfl : ev = true := by rw [HI.out]; simp [zCallD]
      clear HI
      go_enter Tryz.func49, Tryz.ntmps49
      have x0 := BX0.out.cell 0 (by simp)
      have x1 := BX0.out.cell 1 (by simp)
      have x2 := BX0.out.cell 2 (by simp)
      have x3 := BX0.out.cell 3 (by simp)
      have x4 := BX0.out.cell 4 (by simp)
      have x5 := BX0.out.cell 5 (by simp)
      have x6 := BX0.out.cell 6 (by simp)
      simp only [List.getElem_cons_zero, List.getElem_cons_succ] at x0 x1 x2 x3 x4 x5 x6
      go_wp2_with fail
      refine (HRF.out _ _ (row_of_slice (SliceAt.below H6.out good_str HB0.out (Nat.le_refl _)))).mono ?_
      rintro e w1 ⟨rfl, hb⟩
      have HB1 := Lib.hid (belS HB0.out hb)
      have BX1 := Lib.hid (BX0.out.below hb)
      clear hb x0 x1 x2 x3 x4 x5 x6
      have x0 := BX1.out.cell 0 (by simp)
      have x1 := BX1.out.cell 1 (by simp)
      have x2 := BX1.out.cell 2 (by simp)
      have x3 := BX1.out.cell 3 (by simp)
      have x4 := BX1.out.cell 4 (by simp)
      have x5 := BX1.out.cell 5 (by simp)
      have x6 := BX1.out.cell 6 (by simp)
      simp only [List.getElem_cons_zero, List.getElem_cons_succ] at x0 x1 x2 x3 x4 x5 x6
      go_wp2_with fail
      refine (HIC.out _).mono ?_
      rintro e w2 ⟨rfl, hb⟩
      have HB2 := Lib.hid (belS HB1.out hb)
      have BX2 := Lib.hid (BX1.out.below hb)
      clear hb x0 x1 x2 x3 x4 x5 x6
      have x0 := BX2.out.cell 0 (by simp)
      have x1 := BX2.out.cell 1 (by simp)
      have x2 := BX2.out.cell 2 (by simp)
      have x3 := BX2.out.cell 3 (by simp)
      have x4 := BX2.out.cell 4 (by simp)
      have x5 := BX2.out.cell 5 (by simp)
      have x6 := BX2.out.cell 6 (by simp)
      simp only [List.getElem_cons_zero, List.getElem_cons_succ] at x0 x1 x2 x3 x4 x5 x6
      go_wp2_with (first | (go_at_call 94; (with_reducible refine (HNM.out _).mono ?_); rintro e w' ⟨rfl, rfl⟩))
      go_ret
      exact ⟨by first | rfl | exact ret_bool hbq, HB2.out⟩
     ·have hne : ¬ (l.length : Int) = 0 := by omega
      have hnd : decide (l.length = 0) = false := decide_eq_false h0
      have hbq : ((l.length : Int) == 0) = false := beq_eq_false_iff_ne.2 hne
      obtain rfl : ev = false := by rw [HI.out, hnd, Bool.and_false]
      clear HI
      clear hnd h0
      go_enter Tryz.func49, Tryz.ntmps49
      have x0 := BX0.out.cell 0 (by simp)
      have x1 := BX0.out.cell 1 (by simp)
      have x2 := BX0.out.cell 2 (by simp)
      have x3 := BX0.out.cell 3 (by simp)
      have x4 := BX0.out.cell 4 (by simp)
      have x5 := BX0.out.cell 5 (by simp)
      have x6 := BX0.out.cell 6 (by simp)
      simp only [List.getElem_cons_zero, List.getElem_cons_succ] at x0 x1 x2 x3 x4 x5 x6
      go_wp2_with fail
      refine (HRF.out _ _ (row_of_slice (SliceAt.below H6.out good_str HB0.out (Nat.le_refl _)))).mono ?_
      rintro e w1 ⟨rfl, hb⟩
      have HB1 := Lib.hid (belS HB0.out hb)
      have BX1 := Lib.hid (BX0.out.below hb)
      clear hb x0 x1 x2 x3 x4 x5 x6
      have x0 := BX1.out.cell 0 (by simp)
      have x1 := BX1.out.cell 1 (by simp)
      have x2 := BX1.out.cell 2 (by simp)
      have x3 := BX1.out.cell 3 (by simp)
      have x4 := BX1.out.cell 4 (by simp)
      have x5 := BX1.out.cell 5 (by simp)
      have x6 := BX1.out.cell 6 (by simp)
      simp only [List.getElem_cons_zero, List.getElem_cons_succ] at x0 x1 x2 x3 x4 x5 x6
      go_wp2_with fail
      refine (HIC.out _).mono ?_
      rintro e w2 ⟨rfl, hb⟩
      have HB2 := Lib.hid (belS HB1.out hb)
      have BX2 := Lib.hid (BX1.out.below hb)
      clear hb x0 x1 x2 x3 x4 x5 x6
      have x0 := BX2.out.cell 0 (by simp)
      have x1 := BX2.out.cell 1 (by simp)
      have x2 := BX2.out.cell 2 (by simp)
      have x3 := BX2.out.cell 3 (by simp)
      have x4 := BX2.out.cell 4 (by simp)
      have x5 := BX2.out.cell 5 (by simp)
      have x6 := BX2.out.cell 6 (by simp)
      simp only [List.getElem_cons_zero, List.getElem_cons_succ] at x0 x1 x2 x3 x4 x5 x6
      go_wp2_with (first | (go_at_call 94; (with_reducible refine (HNM.out _).mono ?_); rintro e w' ⟨rfl, rfl⟩))
      go_ret
      exact ⟨by first | rfl | exact ret_bool hbq, HB2.out⟩
   ·have hnb : (n == 0) = false := by simp [hn0]
    by_cases h0 : l.length = 0
    ·obtain rfl : l = [] := List.eq_nil_of_length_eq_zero h0
     simp only [List.length_nil] at *
     clear h0
     obtain rfl : ev = false := by rw [HI.out]; simp [zCallD, *]
     clear HI
     go_enter Tryz.func49, Tryz.ntmps49
     have x0 := BX0.out.cell 0 (by simp)
     have x1 := BX0.out.cell 1 (by simp)
     have x2 := BX0.out.cell 2 (by simp)
     have x3 := BX0.out.cell 3 (by simp)
     have x4 := BX0.out.cell 4 (by simp)
     have x5 := BX0.out.cell 5 (by simp)
     have x6 := BX0.out.cell 6 (by simp)
     simp only [List.getElem_cons_zero, List.getElem_cons_succ] at x0 x1 x2 x3 x4 x5 x6
     go_wp2_with fail
     refine (HRF.out _ _ (row_of_slice (SliceAt.below H6.out good_str HB0.out (Nat.le_refl _)))).mono ?_
     rintro e w1 ⟨rfl, hb⟩
     have HB1 := Lib.hid (belS HB0.out hb)
     have BX1 := Lib.hid (BX0.out.below hb)
     clear hb x0 x1 x2 x3 x4 x5 x6
     have x0 := BX1.out.cell 0 (by simp)
     have x1 := BX1.out.cell 1 (by simp)
     have x2 := BX1.out.cell 2 (by simp)
     have x3 := BX1.out.cell 3 (by simp)
     have x4 := BX1.out.cell 4 (by simp)
     have x5 := BX1.out.cell 5 (by simp)
     have x6 := BX1.out.cell 6 (by simp)
     simp only [List.getElem_cons_zero, List.getElem_cons_succ] at x0 x1 x2 x3 x4 x5 x6
     go_wp2_with fail
     refine (HIC.out _).mono ?_
     rintro e w2 ⟨rfl, hb⟩
     have HB2 := Lib.hid (belS HB1.out hb)
     have BX2 := Lib.hid (BX1.out.below hb)
     clear hb x0 x1 x2 x3 x4 x5 x6
     have x0 := BX2.out.cell 0 (by simp)
     have x1 := BX2.out.cell 1 (by simp)
     have x2 := BX2.out.cell 2 (by simp)
     have x3 := BX2.out.cell 3 (by simp)
     have x4 := BX2.out.cell 4 (by simp)
     have x5 := BX2.out.cell 5 (by simp)
     have x6 := BX2.out.cell 6 (by simp)
     simp only [List.getElem_cons_zero, List.getElem_cons_succ] at x0 x1 x2 x3 x4 x5 x6
     go_wp2_with (first | (go_at_call 94; (with_reducible refine (HNM.out _).mono ?_); rintro e w' ⟨rfl, rfl⟩))
     go_ret
     exact ⟨by first | rfl | exact ret_bool hbq, HB2.out⟩
    ·have hne : ¬ (l.length : Int) = 0 := by omega
     have hnd : decide (l.length = 0) = false := decide_eq_false h0
     have hbq : ((l.length : Int) == 0) = false := beq_eq_false_iff_ne.2 hne
     obtain rfl : ev = false := by rw [HI.out]; simp [zCallD, *]
     clear HI
     clear hnd h0
     go_enter Tryz.func49, Tryz.ntmps49
     have x0 := BX0.out.cell 0 (by simp)
     have x1 := BX0.out.cell 1 (by simp)
     have x2 := BX0.out.cell 2 (by simp)
     have x3 := BX0.out.cell 3 (by simp)
     have x4 := BX0.out.cell 4 (by simp)
     have x5 := BX0.out.cell 5 (by simp)
     have x6 := BX0.out.cell 6 (by simp)
     simp only [List.getElem_cons_zero, List.getElem_cons_succ] at x0 x1 x2 x3 x4 x5 x6
     go_wp2_with fail
     refine (HRF.out _ _ (row_of_slice (SliceAt.below H6.out good_str HB0.out (Nat.le_refl _)))).mono ?_
     rintro e w1 ⟨rfl, hb⟩
     have HB1 := Lib.hid (belS HB0.out hb)
     have BX1 := Lib.hid (BX0.out.below hb)
     clear hb x0 x1 x2 x3 x4 x5 x6
     have x0 := BX1.out.cell 0 (by simp)
     have x1 := BX1.out.cell 1 (by simp)
     have x2 := BX1.out.cell 2 (by simp)
     have x3 := BX1.out.cell 3 (by simp)
     have x4 := BX1.out.cell 4 (by simp)
     have x5 := BX1.out.cell 5 (by simp)
     have x6 := BX1.out.cell 6 (by simp)
     simp only [List.getElem_cons_zero, List.getElem_cons_succ] at x0 x1 x2 x3 x4 x5 x6
     go_wp2_with fail
     refine (HIC.out _).mono ?_
     rintro e w2 ⟨rfl, hb⟩
     have HB2 := Lib.hid (belS HB1.out hb)
     have BX2 := Lib.hid (BX1.out.below hb)
     clear hb x0 x1 x2 x3 x4 x5 x6
     have x0 := BX2.out.cell 0 (by simp)
     have x1 := BX2.out.cell 1 (by simp)
     have x2 := BX2.out.cell 2 (by simp)
     have x3 := BX2.out.cell 3 (by simp)
     have x4 := BX2.out.cell 4 (by simp)
     have x5 := BX2.out.cell 5 (by simp)
     have x6 := BX2.out.cell 6 (by simp)
     simp only [List.getElem_cons_zero, List.getElem_cons_succ] at x0 x1 x2 x3 x4 x5 x6
     go_wp2_with (first | (go_at_call 94; (with_reducible refine (HNM.out _).mono ?_); rintro e w' ⟨rfl, rfl⟩))
     go_ret
     exact ⟨by first | rfl | exact ret_bool hbq, HB2.out⟩
end Go.Proofs.YteeopjcbpngofaaGreat
namespace Go.Proofs.YteeopjcbpngofaaGreat
set_option linter.unusedVariables false
open Go.RowKit
set_option maxRecDepth 100000 in
set_option maxHeartbeats 1600000 in
theorem specFormatCall_Start (key : List UInt8) (v : Int) (text : List UInt8) (w : World) (hk : key.length ≤ maxLen) (ht : text.length ≤ 1048576) (hc : callB ⟨mStart, key, v, text⟩ = true) :
  Calls Tryz.prog 50 #[.agg #[.string ⟨#[83, 116, 97, 114, 116]⟩, .string ⟨key.toArray⟩, .int .i64 v, .string ⟨text.toArray⟩]] w fun e w' => e = .returned (.string ⟨(fmtCall ⟨mStart, key, v, text⟩).toArray⟩) ∧ Below w.heap.size w w' := by
 have HIC := Lib.hid (fun w0 => specIsCall_any ⟨mStart, key, v, text⟩ w0 hk)
 rw [hc] at HIC
 unfold vCall at HIC
 simp only at HIC
 obtain ⟨p1, p2, p3, p4, p5⟩ := callB_parts hc
 have HF := Lib.hid (fmtCall_yes hc)
 clear hc
 obtain rfl : key = [] := p2 rfl
 obtain rfl : v = 0 := p4 rfl
 obtain rfl : text = [] := p5 rfl
 have HW := Lib.hid (show joinL [mStart] [32] = joinL (wordsC ⟨mStart, [], 0, []⟩) [32] from rfl)
 clear p1 p2 p3 p4 p5
 have HB0 := Lib.hid (show ∀ o, Below w.heap.size w (w.alloc o) from fun o => (Below.refl w.heap.size w).alloc (Nat.le_refl _) o)
 go_enter Tryz.func50, Tryz.ntmps50
 go_wp2_with fail
 refine (HIC.out _).mono ?_
 rintro e w1 ⟨rfl, hb⟩
 have HB := Lib.hid ((HB0.out _).trans (hb.mono (HB0.out _).size))
 obtain ⟨hcc, _⟩ := bcell hb
 simp at hcc
 have c0 := hcc w.heap.size 0 (by omega)
 have c1 := hcc w.heap.size 1 (by omega)
 have c2 := hcc w.heap.size 2 (by omega)
 have c3 := hcc w.heap.size 3 (by omega)
 simp at c0 c1 c2 c3
 have hlt : w.heap.size < w1.heap.size := by have h := hb.size; simp at h; omega
 clear hb hcc
 go_wp2_with fail
 go_ret
 exact ⟨ret_strB (by rw [HF.out, ← HW.out]; rw [joinL_one]), HB.out⟩
set_option maxRecDepth 100000 in
set_option maxHeartbeats 1600000 in
theorem specFormatCall_Stop (key : List UInt8) (v : Int) (text : List UInt8) (w : World) (hk : key.length ≤ maxLen) (ht : text.length ≤ 1048576) (hc : callB ⟨mStop, key, v, text⟩ = true) :
  Calls Tryz.prog 50 #[.agg #[.string ⟨#[83, 116, 111, 112]⟩, .string ⟨key.toArray⟩, .int .i64 v, .string ⟨text.toArray⟩]] w fun e w' => e = .returned (.string ⟨(fmtCall ⟨mStop, key, v, text⟩).toArray⟩) ∧ Below w.heap.size w w' := by
 have HIC := Lib.hid (fun w0 => specIsCall_any ⟨mStop, key, v, text⟩ w0 hk)
 rw [hc] at HIC
 unfold vCall at HIC
 simp only at HIC
 obtain ⟨p1, p2, p3, p4, p5⟩ := callB_parts hc
 have HF := Lib.hid (fmtCall_yes hc)
 clear hc
 obtain rfl : key = [] := p2 rfl
 obtain rfl : v = 0 := p4 rfl
 obtain rfl : text = [] := p5 rfl
 have HW := Lib.hid (show joinL [mStop] [32] = joinL (wordsC ⟨mStop, [], 0, []⟩) [32] from rfl)
 clear p1 p2 p3 p4 p5
 have HB0 := Lib.hid (show ∀ o, Below w.heap.size w (w.alloc o) from fun o => (Below.refl w.heap.size w).alloc (Nat.le_refl _) o)
 go_enter Tryz.func50, Tryz.ntmps50
 go_wp2_with fail
 refine (HIC.out _).mono ?_
 rintro e w1 ⟨rfl, hb⟩
 have HB := Lib.hid ((HB0.out _).trans (hb.mono (HB0.out _).size))
 obtain ⟨hcc, _⟩ := bcell hb
 simp at hcc
 have c0 := hcc w.heap.size 0 (by omega)
 have c1 := hcc w.heap.size 1 (by omega)
 have c2 := hcc w.heap.size 2 (by omega)
 have c3 := hcc w.heap.size 3 (by omega)
 simp at c0 c1 c2 c3
 have hlt : w.heap.size < w1.heap.size := by have h := hb.size; simp at h; omega
 clear hb hcc
 go_wp2_with fail
 go_ret
 exact ⟨ret_strB (by rw [HF.out, ← HW.out]; rw [joinL_one]), HB.out⟩
set_option maxRecDepth 100000 in
set_option maxHeartbeats 1600000 in
theorem specFormatCall_Get (key : List UInt8) (v : Int) (text : List UInt8) (w : World) (hk : key.length ≤ maxLen) (ht : text.length ≤ 1048576) (hc : callB ⟨mGet, key, v, text⟩ = true) :
  Calls Tryz.prog 50 #[.agg #[.string ⟨#[71, 101, 116]⟩, .string ⟨key.toArray⟩, .int .i64 v, .string ⟨text.toArray⟩]] w fun e w' => e = .returned (.string ⟨(fmtCall ⟨mGet, key, v, text⟩).toArray⟩) ∧ Below w.heap.size w w' := by
 have HIC := Lib.hid (fun w0 => specIsCall_any ⟨mGet, key, v, text⟩ w0 hk)
 rw [hc] at HIC
 unfold vCall at HIC
 simp only at HIC
 obtain ⟨p1, p2, p3, p4, p5⟩ := callB_parts hc
 have HF := Lib.hid (fmtCall_yes hc)
 clear hc
 have hn := nameB_len8 (p1 rfl)
 simp only at hn
 obtain rfl : v = 0 := p4 rfl
 obtain rfl : text = [] := p5 rfl
 have HW := Lib.hid (show joinL [mGet, key] [32] = joinL (wordsC ⟨mGet, key, 0, []⟩) [32] from rfl)
 clear p1 p2 p3 p4 p5
 have HB0 := Lib.hid (show ∀ o, Below w.heap.size w (w.alloc o) from fun o => (Below.refl w.heap.size w).alloc (Nat.le_refl _) o)
 go_enter Tryz.func50, Tryz.ntmps50
 go_wp2_with fail
 refine (HIC.out _).mono ?_
 rintro e w1 ⟨rfl, hb⟩
 have HB := Lib.hid ((HB0.out _).trans (hb.mono (HB0.out _).size))
 obtain ⟨hcc, _⟩ := bcell hb
 simp at hcc
 have c0 := hcc w.heap.size 0 (by omega)
 have c1 := hcc w.heap.size 1 (by omega)
 have c2 := hcc w.heap.size 2 (by omega)
 have c3 := hcc w.heap.size 3 (by omega)
 simp at c0 c1 c2 c3
 have hlt : w.heap.size < w1.heap.size := by have h := hb.size; simp at h; omega
 clear hb hcc
 have hs3 := size_strB key
 go_wp2_with fail
 go_ret
 exact ⟨ret_strB (by rw [HF.out, ← HW.out]; rw [joinL_two, data_app]; simp), HB.out⟩
set_option maxRecDepth 100000 in
set_option maxHeartbeats 1600000 in
theorem specFormatCall_Put (key : List UInt8) (v : Int) (text : List UInt8) (w : World) (hk : key.length ≤ maxLen) (ht : text.length ≤ 1048576) (hc : callB ⟨mPut, key, v, text⟩ = true) :
  Calls Tryz.prog 50 #[.agg #[.string ⟨#[80, 117, 116]⟩, .string ⟨key.toArray⟩, .int .i64 v, .string ⟨text.toArray⟩]] w fun e w' => e = .returned (.string ⟨(fmtCall ⟨mPut, key, v, text⟩).toArray⟩) ∧ Below w.heap.size w w' := by
 have HIC := Lib.hid (fun w0 => specIsCall_any ⟨mPut, key, v, text⟩ w0 hk)
 rw [hc] at HIC
 unfold vCall at HIC
 simp only at HIC
 obtain ⟨p1, p2, p3, p4, p5⟩ := callB_parts hc
 have HF := Lib.hid (fmtCall_yes hc)
 clear hc
 have hn := nameB_len8 (p1 rfl)
 simp only at hn
 obtain ⟨z, hz, hz9⟩ := numB_nat (p3 rfl)
 simp only at hz
 subst hz
 have hl3 := numL_len hz9
 have HFN := Lib.hid (fun w0 => specFormat_any z w0 (by omega) (by omega))
 obtain rfl : text = [] := p5 rfl
 have HW := Lib.hid (show joinL [mPut, key, numL z] [32] = joinL (wordsC ⟨mPut, key, (z : Int), []⟩) [32] from rfl)
 clear p1 p2 p3 p4 p5
 have HB0 := Lib.hid (show ∀ o, Below w.heap.size w (w.alloc o) from fun o => (Below.refl w.heap.size w).alloc (Nat.le_refl _) o)
 go_enter Tryz.func50, Tryz.ntmps50
 go_wp2_with fail
 refine (HIC.out _).mono ?_
 rintro e w1 ⟨rfl, hb⟩
 have HB := Lib.hid ((HB0.out _).trans (hb.mono (HB0.out _).size))
 obtain ⟨hcc, _⟩ := bcell hb
 simp at hcc
 have c0 := hcc w.heap.size 0 (by omega)
 have c1 := hcc w.heap.size 1 (by omega)
 have c2 := hcc w.heap.size 2 (by omega)
 have c3 := hcc w.heap.size 3 (by omega)
 simp at c0 c1 c2 c3
 have hlt : w.heap.size < w1.heap.size := by have h := hb.size; simp at h; omega
 clear hb hcc
 have hs3 := size_strB (numL z)
 have hs1 := size_strB key
 have hq1 : ∀ w0, (Op.stringOp .add ⟨#[80, 117, 116, 32]⟩ ⟨key.toArray⟩).run Tryz.prog w0 = .ok (.string (⟨#[80, 117, 116, 32]⟩ ++ ⟨key.toArray⟩)) w0 := fun w0 => run_string_add_sum w0 _ _ (by rw [hs1]; show 4 + _ ≤ _; omega)
 have hq2 : ∀ w0, (Op.stringOp .add (⟨#[80, 117, 116, 32]⟩ ++ ⟨key.toArray⟩) ⟨#[32]⟩).run Tryz.prog w0 = .ok (.string (⟨#[80, 117, 116, 32]⟩ ++ ⟨key.toArray⟩ ++ ⟨#[32]⟩)) w0 := fun w0 => run_string_add_sum w0 _ _ (by rw [ByteArray.size_append, hs1]; show 4 + _ + 1 ≤ _; omega)
 have hq3 : ∀ w0, (Op.stringOp .add (⟨#[80, 117, 116, 32]⟩ ++ ⟨key.toArray⟩ ++ ⟨#[32]⟩) ⟨(numL z).toArray⟩).run Tryz.prog w0 = .ok (.string (⟨#[80, 117, 116, 32]⟩ ++ ⟨key.toArray⟩ ++ ⟨#[32]⟩ ++ ⟨(numL z).toArray⟩)) w0 := fun w0 => run_string_add_sum w0 _ _ (by rw [ByteArray.size_append, ByteArray.size_append, hs1, hs3]; show 4 + _ + 1 + _ ≤ _; omega)
 clear hs1 hs3
 go_wp2_with fail
 go_region_held3 (fun w' => w'.cell? ⟨w.heap.size, 1, none⟩ = some (.string ⟨key.toArray⟩) ∧ w'.cell? ⟨w.heap.size, 2, none⟩ = some (.int .i64 z))
  (first
   | go_keep
   | exact ⟨(hb1.cell (p := ⟨w.heap.size, 1, none⟩) (by simp; omega)).trans c1, (hb1.cell (p := ⟨w.heap.size, 2, none⟩) (by simp; omega)).trans c2⟩)
  (first
   |(go_at_call 95; refine (HFN.out _).mono ?_; rintro e w2 ⟨rfl, hb1⟩))
 have HB1 := Lib.hid (HB.out.trans ((show Below w1.heap.size w1 w2 from ⟨hb1.os, hb1.tape, hb1.output, hb1.size, hb1.block⟩).mono HB.out.size))
 clear hb1
 go_wp2_with fail
 go_ret
 exact ⟨ret_strB (by rw [HF.out, ← HW.out]; rw [joinL_cons _ _ _ (by simp), joinL_two, data_app, data_app, data_app]; simp), HB1.out⟩
set_option maxRecDepth 100000 in
set_option maxHeartbeats 1600000 in
theorem specFormatCall_Tell (key : List UInt8) (v : Int) (text : List UInt8) (w : World) (hk : key.length ≤ maxLen) (ht : text.length ≤ 1048576) (hc : callB ⟨mTell, key, v, text⟩ = true) :
  Calls Tryz.prog 50 #[.agg #[.string ⟨#[84, 101, 108, 108]⟩, .string ⟨key.toArray⟩, .int .i64 v, .string ⟨text.toArray⟩]] w fun e w' => e = .returned (.string ⟨(fmtCall ⟨mTell, key, v, text⟩).toArray⟩) ∧ Below w.heap.size w w' := by
 have HIC := Lib.hid (fun w0 => specIsCall_any ⟨mTell, key, v, text⟩ w0 hk)
 rw [hc] at HIC
 unfold vCall at HIC
 simp only at HIC
 obtain ⟨p1, p2, p3, p4, p5⟩ := callB_parts hc
 have HF := Lib.hid (fmtCall_yes hc)
 clear hc
 obtain rfl : key = [] := p2 rfl
 obtain rfl : v = 0 := p4 rfl
 obtain rfl : text = [] := p5 rfl
 have HW := Lib.hid (show joinL [mTell] [32] = joinL (wordsC ⟨mTell, [], 0, []⟩) [32] from rfl)
 clear p1 p2 p3 p4 p5
 have HB0 := Lib.hid (show ∀ o, Below w.heap.size w (w.alloc o) from fun o => (Below.refl w.heap.size w).alloc (Nat.le_refl _) o)
 go_enter Tryz.func50, Tryz.ntmps50
 go_wp2_with fail
 refine (HIC.out _).mono ?_
 rintro e w1 ⟨rfl, hb⟩
 have HB := Lib.hid ((HB0.out _).trans (hb.mono (HB0.out _).size))
 obtain ⟨hcc, _⟩ := bcell hb
 simp at hcc
 have c0 := hcc w.heap.size 0 (by omega)
 have c1 := hcc w.heap.size 1 (by omega)
 have c2 := hcc w.heap.size 2 (by omega)
 have c3 := hcc w.heap.size 3 (by omega)
 simp at c0 c1 c2 c3
 have hlt : w.heap.size < w1.heap.size := by have h := hb.size; simp at h; omega
 clear hb hcc
 go_wp2_with fail
 go_ret
 exact ⟨ret_strB (by rw [HF.out, ← HW.out]; rw [joinL_one]), HB.out⟩
set_option maxRecDepth 100000 in
set_option maxHeartbeats 1600000 in
theorem specFormatCall_Hear (key : List UInt8) (v : Int) (text : List UInt8) (w : World) (hk : key.length ≤ maxLen) (ht : text.length ≤ 1048576) (hc : callB ⟨mHear, key, v, text⟩ = true) :
  Calls Tryz.prog 50 #[.agg #[.string ⟨#[72, 101, 97, 114]⟩, .string ⟨key.toArray⟩, .int .i64 v, .string ⟨text.toArray⟩]] w fun e w' => e = .returned (.string ⟨(fmtCall ⟨mHear, key, v, text⟩).toArray⟩) ∧ Below w.heap.size w w' := by
 have HIC := Lib.hid (fun w0 => specIsCall_any ⟨mHear, key, v, text⟩ w0 hk)
 rw [hc] at HIC
 unfold vCall at HIC
 simp only at HIC
 obtain ⟨p1, p2, p3, p4, p5⟩ := callB_parts hc
 have HF := Lib.hid (fmtCall_yes hc)
 clear hc
 obtain rfl : key = [] := p2 rfl
 obtain ⟨z, hz, hz9⟩ := numB_nat (p3 rfl)
 simp only at hz
 subst hz
 have hl3 := numL_len hz9
 have HFN := Lib.hid (fun w0 => specFormat_any z w0 (by omega) (by omega))
 obtain rfl : text = [] := p5 rfl
 have HW := Lib.hid (show joinL [mHear, numL z] [32] = joinL (wordsC ⟨mHear, [], (z : Int), []⟩) [32] from rfl)
 clear p1 p2 p3 p4 p5
 have HB0 := Lib.hid (show ∀ o, Below w.heap.size w (w.alloc o) from fun o => (Below.refl w.heap.size w).alloc (Nat.le_refl _) o)
 go_enter Tryz.func50, Tryz.ntmps50
 go_wp2_with fail
 refine (HIC.out _).mono ?_
 rintro e w1 ⟨rfl, hb⟩
 have HB := Lib.hid ((HB0.out _).trans (hb.mono (HB0.out _).size))
 obtain ⟨hcc, _⟩ := bcell hb
 simp at hcc
 have c0 := hcc w.heap.size 0 (by omega)
 have c1 := hcc w.heap.size 1 (by omega)
 have c2 := hcc w.heap.size 2 (by omega)
 have c3 := hcc w.heap.size 3 (by omega)
 simp at c0 c1 c2 c3
 have hlt : w.heap.size < w1.heap.size := by have h := hb.size; simp at h; omega
 clear hb hcc
 have hs3 := size_strB (numL z)
 go_wp2_with fail
 refine (HFN.out _).mono ?_
 rintro e w2 ⟨rfl, hb1⟩
 have HB1 := Lib.hid (HB.out.trans (hb1.mono HB.out.size))
 clear hb1
 go_wp2_with fail
 go_ret
 exact ⟨ret_strB (by rw [HF.out, ← HW.out]; rw [joinL_two, data_app]; simp), HB1.out⟩
set_option maxRecDepth 100000 in
set_option maxHeartbeats 1600000 in
theorem specFormatCall_Load (key : List UInt8) (v : Int) (text : List UInt8) (w : World) (hk : key.length ≤ maxLen) (ht : text.length ≤ 1048576) (hc : callB ⟨mLoad, key, v, text⟩ = true) :
  Calls Tryz.prog 50 #[.agg #[.string ⟨#[76, 111, 97, 100]⟩, .string ⟨key.toArray⟩, .int .i64 v, .string ⟨text.toArray⟩]] w fun e w' => e = .returned (.string ⟨(fmtCall ⟨mLoad, key, v, text⟩).toArray⟩) ∧ Below w.heap.size w w' := by
 have HIC := Lib.hid (fun w0 => specIsCall_any ⟨mLoad, key, v, text⟩ w0 hk)
 rw [hc] at HIC
 unfold vCall at HIC
 simp only at HIC
 obtain ⟨p1, p2, p3, p4, p5⟩ := callB_parts hc
 have HF := Lib.hid (fmtCall_yes hc)
 clear hc
 obtain rfl : key = [] := p2 rfl
 obtain rfl : v = 0 := p4 rfl
 have HW := Lib.hid (show joinL [mLoad, text] [32] = joinL (wordsC ⟨mLoad, [], 0, text⟩) [32] from rfl)
 clear p1 p2 p3 p4 p5
 have HB0 := Lib.hid (show ∀ o, Below w.heap.size w (w.alloc o) from fun o => (Below.refl w.heap.size w).alloc (Nat.le_refl _) o)
 go_enter Tryz.func50, Tryz.ntmps50
 go_wp2_with fail
 refine (HIC.out _).mono ?_
 rintro e w1 ⟨rfl, hb⟩
 have HB := Lib.hid ((HB0.out _).trans (hb.mono (HB0.out _).size))
 obtain ⟨hcc, _⟩ := bcell hb
 simp at hcc
 have c0 := hcc w.heap.size 0 (by omega)
 have c1 := hcc w.heap.size 1 (by omega)
 have c2 := hcc w.heap.size 2 (by omega)
 have c3 := hcc w.heap.size 3 (by omega)
 simp at c0 c1 c2 c3
 have hlt : w.heap.size < w1.heap.size := by have h := hb.size; simp at h; omega
 clear hb hcc
 have hs3 := size_strB text
 go_wp2_with fail
 go_ret
 exact ⟨ret_strB (by rw [HF.out, ← HW.out]; rw [joinL_two, data_app]; simp), HB.out⟩
set_option maxRecDepth 100000 in
set_option maxHeartbeats 1600000 in
theorem specFormatCall_Save (key : List UInt8) (v : Int) (text : List UInt8) (w : World) (hk : key.length ≤ maxLen) (ht : text.length ≤ 1048576) (hc : callB ⟨mSave, key, v, text⟩ = true) :
  Calls Tryz.prog 50 #[.agg #[.string ⟨#[83, 97, 118, 101]⟩, .string ⟨key.toArray⟩, .int .i64 v, .string ⟨text.toArray⟩]] w fun e w' => e = .returned (.string ⟨(fmtCall ⟨mSave, key, v, text⟩).toArray⟩) ∧ Below w.heap.size w w' := by
 have HIC := Lib.hid (fun w0 => specIsCall_any ⟨mSave, key, v, text⟩ w0 hk)
 rw [hc] at HIC
 unfold vCall at HIC
 simp only at HIC
 obtain ⟨p1, p2, p3, p4, p5⟩ := callB_parts hc
 have HF := Lib.hid (fmtCall_yes hc)
 clear hc
 obtain rfl : key = [] := p2 rfl
 obtain rfl : v = 0 := p4 rfl
 obtain rfl : text = [] := p5 rfl
 have HW := Lib.hid (show joinL [mSave] [32] = joinL (wordsC ⟨mSave, [], 0, []⟩) [32] from rfl)
 clear p1 p2 p3 p4 p5
 have HB0 := Lib.hid (show ∀ o, Below w.heap.size w (w.alloc o) from fun o => (Below.refl w.heap.size w).alloc (Nat.le_refl _) o)
 go_enter Tryz.func50, Tryz.ntmps50
 go_wp2_with fail
 refine (HIC.out _).mono ?_
 rintro e w1 ⟨rfl, hb⟩
 have HB := Lib.hid ((HB0.out _).trans (hb.mono (HB0.out _).size))
 obtain ⟨hcc, _⟩ := bcell hb
 simp at hcc
 have c0 := hcc w.heap.size 0 (by omega)
 have c1 := hcc w.heap.size 1 (by omega)
 have c2 := hcc w.heap.size 2 (by omega)
 have c3 := hcc w.heap.size 3 (by omega)
 simp at c0 c1 c2 c3
 have hlt : w.heap.size < w1.heap.size := by have h := hb.size; simp at h; omega
 clear hb hcc
 go_wp2_with fail
 go_ret
 exact ⟨ret_strB (by rw [HF.out, ← HW.out]; rw [joinL_one]), HB.out⟩
set_option maxRecDepth 100000 in
set_option maxHeartbeats 1600000 in
theorem specFormatCall_Heal (key : List UInt8) (v : Int) (text : List UInt8) (w : World) (hk : key.length ≤ maxLen) (ht : text.length ≤ 1048576) (hc : callB ⟨mHeal, key, v, text⟩ = true) :
  Calls Tryz.prog 50 #[.agg #[.string ⟨#[72, 101, 97, 108]⟩, .string ⟨key.toArray⟩, .int .i64 v, .string ⟨text.toArray⟩]] w fun e w' => e = .returned (.string ⟨(fmtCall ⟨mHeal, key, v, text⟩).toArray⟩) ∧ Below w.heap.size w w' := by
 have HIC := Lib.hid (fun w0 => specIsCall_any ⟨mHeal, key, v, text⟩ w0 hk)
 rw [hc] at HIC
 unfold vCall at HIC
 simp only at HIC
 obtain ⟨p1, p2, p3, p4, p5⟩ := callB_parts hc
 have HF := Lib.hid (fmtCall_yes hc)
 clear hc
 obtain rfl : key = [] := p2 rfl
 obtain rfl : v = 0 := p4 rfl
 obtain rfl : text = [] := p5 rfl
 have HW := Lib.hid (show joinL [mHeal] [32] = joinL (wordsC ⟨mHeal, [], 0, []⟩) [32] from rfl)
 clear p1 p2 p3 p4 p5
 have HB0 := Lib.hid (show ∀ o, Below w.heap.size w (w.alloc o) from fun o => (Below.refl w.heap.size w).alloc (Nat.le_refl _) o)
 go_enter Tryz.func50, Tryz.ntmps50
 go_wp2_with fail
 refine (HIC.out _).mono ?_
 rintro e w1 ⟨rfl, hb⟩
 have HB := Lib.hid ((HB0.out _).trans (hb.mono (HB0.out _).size))
 obtain ⟨hcc, _⟩ := bcell hb
 simp at hcc
 have c0 := hcc w.heap.size 0 (by omega)
 have c1 := hcc w.heap.size 1 (by omega)
 have c2 := hcc w.heap.size 2 (by omega)
 have c3 := hcc w.heap.size 3 (by omega)
 simp at c0 c1 c2 c3
 have hlt : w.heap.size < w1.heap.size := by have h := hb.size; simp at h; omega
 clear hb hcc
 go_wp2_with fail
 go_ret
 exact ⟨ret_strB (by rw [HF.out, ← HW.out]; rw [joinL_one]), HB.out⟩
set_option maxHeartbeats 1600000 in
theorem specFormatCall_any (d : CallD) (w : World) (hk : d.fKey.length ≤ maxLen) (ht : d.fText.length ≤ 1048576) :
  Calls Tryz.prog 50 #[vCall d] w fun e w' => e = .returned (.string ⟨(fmtCall d).toArray⟩) ∧ Below w.heap.size w w' := by
 cases hc : callB d with
 | false =>
  have HF := Lib.hid (fmtCall_no hc)
  have HIC := Lib.hid (fun w0 => specIsCall_any d w0 hk)
  rw [hc] at HIC
  clear hc
  obtain ⟨m, key, v, text⟩ := d
  unfold vCall at *
  simp only at *
  have HB0 := Lib.hid (show ∀ o, Below w.heap.size w (w.alloc o) from fun o => (Below.refl w.heap.size w).alloc (Nat.le_refl _) o)
  go_enter Tryz.func50, Tryz.ntmps50
  go_wp2_with fail
  refine (HIC.out _).mono ?_
  rintro e w1 ⟨rfl, hb⟩
  have HB := Lib.hid ((HB0.out _).trans (hb.mono (HB0.out _).size))
  clear hb
  go_wp2_with fail
  go_ret
  exact ⟨ret_str (by rw [HF.out]), HB.out⟩
 | true =>
  obtain ⟨m, key, v, text⟩ := d
  rcases meth_cases m with rfl | rfl | rfl | rfl | rfl | rfl | rfl | rfl | rfl | ⟨hw, _⟩
  ·exact specFormatCall_Start key v text w hk ht hc
  ·exact specFormatCall_Stop key v text w hk ht hc
  ·exact specFormatCall_Get key v text w hk ht hc
  ·exact specFormatCall_Put key v text w hk ht hc
  ·exact specFormatCall_Tell key v text w hk ht hc
  ·exact specFormatCall_Hear key v text w hk ht hc
  ·exact specFormatCall_Load key v text w hk ht hc
  ·exact specFormatCall_Save key v text w hk ht hc
  ·exact specFormatCall_Heal key v text w hk ht hc
  ·exfalso; unfold callB at hc; simp only at hc; rw [hw] at hc; simp at hc
end Go.Proofs.YteeopjcbpngofaaGreat
namespace Go.Proofs.YteeopjcbpngofaaGreat
set_option linter.unusedVariables false
set_option linter.unusedSimpArgs false
open Go.RowKit
theorem specIsEv (k : Int) (a m ky : List UInt8) (n : Int) (t : List UInt8) (l : List (List UInt8)) (v6 : Value) (w : World) (h6 : SliceAt rStr 1 0 w v6 l) (hn : a.length ≤ maxLen) (hk : ky.length ≤ maxLen) (hr : ∀ s ∈ l, s.length ≤ 1048576) {b : Bool} (he : evB ⟨k, a, ⟨m, ky, n, t⟩, l⟩ = b) (W : World) (hb : Below w.heap.size w W) :
  Calls Tryz.prog 49 #[.agg #[.int .i64 k, .string ⟨a.toArray⟩, .string ⟨m.toArray⟩, .string ⟨ky.toArray⟩, .int .i64 n, .string ⟨t.toArray⟩, v6]] W fun e w' => e = .returned (.bool b) ∧ Below W.heap.size W w' := by
 subst he
 exact specIsEvent_any _ ⟨k, a, ⟨m, ky, n, t⟩, l⟩ W ⟨_, rfl, ⟨_, rfl, h6.below good_str hb (Nat.le_refl _)⟩⟩ hn hk hr
set_option maxRecDepth 100000 in
set_option maxHeartbeats 3200000 in
theorem specFev0 (k : Int) (a : List UInt8) (m ky : List UInt8) (n : Int) (t : List UInt8) (l : List (List UInt8)) (v6 : Value) (w : World) (h6 : SliceAt rStr 1 0 w v6 l) (hz : zEvent ⟨k, a, ⟨m, ky, n, t⟩, l⟩ ≤ 1048576) (hn : a.length ≤ maxLen) (hk : ky.length ≤ maxLen) (hr : ∀ s ∈ l, s.length ≤ 1048576) (he : evB ⟨k, a, ⟨m, ky, n, t⟩, l⟩ = false) :
  Calls Tryz.prog 12 #[.agg #[.int .i64 k, .string ⟨a.toArray⟩, .string ⟨m.toArray⟩, .string ⟨ky.toArray⟩, .int .i64 n, .string ⟨t.toArray⟩, v6]] w fun e w' => e = .returned (.string ⟨(fmtEv ⟨k, a, ⟨m, ky, n, t⟩, l⟩).toArray⟩) ∧ Below w.heap.size w w' := by
 obtain ⟨ra, rc, rfl, hl⟩ := sliceAt_len h6
 have HIE := Lib.hid (specIsEv _ a m ky n t l _ w h6 hn hk hr he)
 have BS := Lib.hid (bx_start1 w [.int .i64 k, .string ⟨a.toArray⟩, .string ⟨m.toArray⟩, .string ⟨ky.toArray⟩, .int .i64 n, .string ⟨t.toArray⟩, .slice ra l.length rc] 31)
 have BX := Lib.hid BS.out.1
 have HB := Lib.hid BS.out.2
 rw [fmtEv_no he]
 clear h6 hz hn hk hr he BS hl
 go_enter Tryz.func12, Tryz.ntmps12
 have x0 := BX.out.cell 0 (by simp)
 have x1 := BX.out.cell 1 (by simp)
 have x2 := BX.out.cell 2 (by simp)
 have x3 := BX.out.cell 3 (by simp)
 have x4 := BX.out.cell 4 (by simp)
 have x5 := BX.out.cell 5 (by simp)
 have x6 := BX.out.cell 6 (by simp)
 simp only [List.getElem_cons_zero, List.getElem_cons_succ] at x0 x1 x2 x3 x4 x5 x6
 go_wp2_with fail
 refine (HIE.out _ HB.out).mono ?_
 rintro e w1 ⟨rfl, hb⟩
 have HB1 := Lib.hid (belS HB.out hb)
 clear hb
 go_wp2_with fail
 go_ret
 exact ⟨rfl, HB1.out⟩
set_option maxRecDepth 100000 in
set_option maxHeartbeats 3200000 in
theorem specFev1  (a : List UInt8) (m ky : List UInt8) (n : Int) (t : List UInt8) (l : List (List UInt8)) (v6 : Value) (w : World) (h6 : SliceAt rStr 1 0 w v6 l) (hz : zEvent ⟨1, a, ⟨m, ky, n, t⟩, l⟩ ≤ 1048576) (hn : a.length ≤ maxLen) (hk : ky.length ≤ maxLen) (hr : ∀ s ∈ l, s.length ≤ 1048576) (he : evB ⟨1, a, ⟨m, ky, n, t⟩, l⟩ = true) :
  Calls Tryz.prog 12 #[.agg #[.int .i64 1, .string ⟨a.toArray⟩, .string ⟨m.toArray⟩, .string ⟨ky.toArray⟩, .int .i64 n, .string ⟨t.toArray⟩, v6]] w fun e w' => e = .returned (.string ⟨(fmtEv ⟨1, a, ⟨m, ky, n, t⟩, l⟩).toArray⟩) ∧ Below w.heap.size w w' := by
 obtain ⟨ra, rc, rfl, hl⟩ := sliceAt_len h6
 have HIE := Lib.hid (specIsEv _ a m ky n t l _ w h6 hn hk hr he)
 have BS := Lib.hid (bx_start1 w [.int .i64 1, .string ⟨a.toArray⟩, .string ⟨m.toArray⟩, .string ⟨ky.toArray⟩, .int .i64 n, .string ⟨t.toArray⟩, .slice ra l.length rc] 31)
 have BX := Lib.hid BS.out.1
 have HB := Lib.hid BS.out.2
 have HR := Lib.hid (show fmtEv ⟨1, a, ⟨m, ky, n, t⟩, l⟩ = [115, 116, 97, 114, 116, 32] ++ a from ((fmtEv_yes he).trans (show joinL ([kWord 1, a] ++ evTail ⟨1, a, ⟨m, ky, n, t⟩, l⟩) [32] = joinL ([[115, 116, 97, 114, 116], a] ++ []) [32] by simp [kWord, evTail])).trans (by rw [List.append_nil, joinL_two]; simp))
 have HAL := Lib.hid (show a.length ≤ 1048576 by unfold zEvent at hz; simp only at hz; omega)
 generalize fmtEv ⟨1, a, ⟨m, ky, n, t⟩, l⟩ = res at *
 have q0 : ∀ w0, (Op.stringOp .add ⟨#[115, 116, 97, 114, 116]⟩ ⟨#[32]⟩).run Tryz.prog w0 = .ok (.string ⟨#[115, 116, 97, 114, 116, 32]⟩) w0 := addV ([115, 116, 97, 114, 116]) ([32]) _ _ _ rfl rfl rfl (by decide)
 have q1 : ∀ w0, (Op.stringOp .add ⟨#[115, 116, 97, 114, 116, 32]⟩ ⟨a.toArray⟩).run Tryz.prog w0 = .ok (.string ⟨res.toArray⟩) w0 := addV ([115, 116, 97, 114, 116, 32]) (a) _ _ _ HR.out rfl rfl (by have := HAL.out; simp only [List.length_cons, List.length_nil]; omega)
 clear h6 hz hn hk hr he BS HR hl
 go_enter Tryz.func12, Tryz.ntmps12
 have x0 := BX.out.cell 0 (by simp)
 have x1 := BX.out.cell 1 (by simp)
 have x2 := BX.out.cell 2 (by simp)
 have x3 := BX.out.cell 3 (by simp)
 have x4 := BX.out.cell 4 (by simp)
 have x5 := BX.out.cell 5 (by simp)
 have x6 := BX.out.cell 6 (by simp)
 simp only [List.getElem_cons_zero, List.getElem_cons_succ] at x0 x1 x2 x3 x4 x5 x6
 go_wp2_with fail
 refine (HIE.out _ HB.out).mono ?_
 rintro e w1 ⟨rfl, hb⟩
 have HB1 := Lib.hid (belS HB.out hb)
 have BX1 := Lib.hid (BX.out.below hb)
 have HS := Lib.hid (show w.heap.size < w1.heap.size by have := hb.size; simp at this; omega)
 clear hb x0 x1 x2 x3 x4 x5 x6 BX
 have x0 := BX1.out.cell 0 (by simp)
 have x1 := BX1.out.cell 1 (by simp)
 have x2 := BX1.out.cell 2 (by simp)
 have x3 := BX1.out.cell 3 (by simp)
 have x4 := BX1.out.cell 4 (by simp)
 have x5 := BX1.out.cell 5 (by simp)
 have x6 := BX1.out.cell 6 (by simp)
 simp only [List.getElem_cons_zero, List.getElem_cons_succ] at x0 x1 x2 x3 x4 x5 x6
 go_wp2_with fail
 have HB2 := Lib.hid (bel_drV (HB1.out.alloc HB1.out.size (.cells #[.string ⟨#[]⟩, .string ⟨#[115, 116, 97, 114, 116]⟩, .string ⟨#[115, 116, 111, 112]⟩, .string ⟨#[99, 97, 108, 108]⟩, .string ⟨#[104, 101, 97, 108]⟩, .string ⟨#[115, 119, 97, 112]⟩] 9)))
 have BX2 := Lib.hid (BX1.out.alloc (.cells #[.string ⟨#[]⟩, .string ⟨#[115, 116, 97, 114, 116]⟩, .string ⟨#[115, 116, 111, 112]⟩, .string ⟨#[99, 97, 108, 108]⟩, .string ⟨#[104, 101, 97, 108]⟩, .string ⟨#[115, 119, 97, 112]⟩] 9))
 clear x2 x3 x4 x5 x6
 have y0 := BX2.out.cell 0 (by simp)
 have y1 := BX2.out.cell 1 (by simp)
 have y2 := BX2.out.cell 2 (by simp)
 have y3 := BX2.out.cell 3 (by simp)
 have y4 := BX2.out.cell 4 (by simp)
 have y5 := BX2.out.cell 5 (by simp)
 have y6 := BX2.out.cell 6 (by simp)
 simp only [List.getElem_cons_zero, List.getElem_cons_succ] at y0 y1 y2 y3 y4 y5 y6
 clear y2 y3 y4 y5 y6
 go_region
 clear x0 x1 y0 y1
 have x0 := BX2.out.cell 0 (by simp)
 have x1 := BX2.out.cell 1 (by simp)
 have x2 := BX2.out.cell 2 (by simp)
 have x3 := BX2.out.cell 3 (by simp)
 have x4 := BX2.out.cell 4 (by simp)
 have x5 := BX2.out.cell 5 (by simp)
 have x6 := BX2.out.cell 6 (by simp)
 simp only [List.getElem_cons_zero, List.getElem_cons_succ] at x0 x1 x2 x3 x4 x5 x6
 go_wp2_with fail
 go_ret
 exact ⟨rfl, HB2.out⟩
set_option maxRecDepth 100000 in
set_option maxHeartbeats 3200000 in
theorem specFev2  (a : List UInt8) (m ky : List UInt8) (n : Int) (t : List UInt8) (l : List (List UInt8)) (v6 : Value) (w : World) (h6 : SliceAt rStr 1 0 w v6 l) (hz : zEvent ⟨2, a, ⟨m, ky, n, t⟩, l⟩ ≤ 1048576) (hn : a.length ≤ maxLen) (hk : ky.length ≤ maxLen) (hr : ∀ s ∈ l, s.length ≤ 1048576) (he : evB ⟨2, a, ⟨m, ky, n, t⟩, l⟩ = true) :
  Calls Tryz.prog 12 #[.agg #[.int .i64 2, .string ⟨a.toArray⟩, .string ⟨m.toArray⟩, .string ⟨ky.toArray⟩, .int .i64 n, .string ⟨t.toArray⟩, v6]] w fun e w' => e = .returned (.string ⟨(fmtEv ⟨2, a, ⟨m, ky, n, t⟩, l⟩).toArray⟩) ∧ Below w.heap.size w w' := by
 obtain ⟨ra, rc, rfl, hl⟩ := sliceAt_len h6
 have HIE := Lib.hid (specIsEv _ a m ky n t l _ w h6 hn hk hr he)
 have BS := Lib.hid (bx_start1 w [.int .i64 2, .string ⟨a.toArray⟩, .string ⟨m.toArray⟩, .string ⟨ky.toArray⟩, .int .i64 n, .string ⟨t.toArray⟩, .slice ra l.length rc] 31)
 have BX := Lib.hid BS.out.1
 have HB := Lib.hid BS.out.2
 have HR := Lib.hid (show fmtEv ⟨2, a, ⟨m, ky, n, t⟩, l⟩ = [115, 116, 111, 112, 32] ++ a from ((fmtEv_yes he).trans (show joinL ([kWord 2, a] ++ evTail ⟨2, a, ⟨m, ky, n, t⟩, l⟩) [32] = joinL ([[115, 116, 111, 112], a] ++ []) [32] by simp [kWord, evTail])).trans (by rw [List.append_nil, joinL_two]; simp))
 have HAL := Lib.hid (show a.length ≤ 1048576 by unfold zEvent at hz; simp only at hz; omega)
 generalize fmtEv ⟨2, a, ⟨m, ky, n, t⟩, l⟩ = res at *
 have q0 : ∀ w0, (Op.stringOp .add ⟨#[115, 116, 111, 112]⟩ ⟨#[32]⟩).run Tryz.prog w0 = .ok (.string ⟨#[115, 116, 111, 112, 32]⟩) w0 := addV ([115, 116, 111, 112]) ([32]) _ _ _ rfl rfl rfl (by decide)
 have q1 : ∀ w0, (Op.stringOp .add ⟨#[115, 116, 111, 112, 32]⟩ ⟨a.toArray⟩).run Tryz.prog w0 = .ok (.string ⟨res.toArray⟩) w0 := addV ([115, 116, 111, 112, 32]) (a) _ _ _ HR.out rfl rfl (by have := HAL.out; simp only [List.length_cons, List.length_nil]; omega)
 clear h6 hz hn hk hr he BS HR hl
 go_enter Tryz.func12, Tryz.ntmps12
 have x0 := BX.out.cell 0 (by simp)
 have x1 := BX.out.cell 1 (by simp)
 have x2 := BX.out.cell 2 (by simp)
 have x3 := BX.out.cell 3 (by simp)
 have x4 := BX.out.cell 4 (by simp)
 have x5 := BX.out.cell 5 (by simp)
 have x6 := BX.out.cell 6 (by simp)
 simp only [List.getElem_cons_zero, List.getElem_cons_succ] at x0 x1 x2 x3 x4 x5 x6
 go_wp2_with fail
 refine (HIE.out _ HB.out).mono ?_
 rintro e w1 ⟨rfl, hb⟩
 have HB1 := Lib.hid (belS HB.out hb)
 have BX1 := Lib.hid (BX.out.below hb)
 have HS := Lib.hid (show w.heap.size < w1.heap.size by have := hb.size; simp at this; omega)
 clear hb x0 x1 x2 x3 x4 x5 x6 BX
 have x0 := BX1.out.cell 0 (by simp)
 have x1 := BX1.out.cell 1 (by simp)
 have x2 := BX1.out.cell 2 (by simp)
 have x3 := BX1.out.cell 3 (by simp)
 have x4 := BX1.out.cell 4 (by simp)
 have x5 := BX1.out.cell 5 (by simp)
 have x6 := BX1.out.cell 6 (by simp)
 simp only [List.getElem_cons_zero, List.getElem_cons_succ] at x0 x1 x2 x3 x4 x5 x6
 go_wp2_with fail
 have HB2 := Lib.hid (bel_drV (HB1.out.alloc HB1.out.size (.cells #[.string ⟨#[]⟩, .string ⟨#[115, 116, 97, 114, 116]⟩, .string ⟨#[115, 116, 111, 112]⟩, .string ⟨#[99, 97, 108, 108]⟩, .string ⟨#[104, 101, 97, 108]⟩, .string ⟨#[115, 119, 97, 112]⟩] 9)))
 have BX2 := Lib.hid (BX1.out.alloc (.cells #[.string ⟨#[]⟩, .string ⟨#[115, 116, 97, 114, 116]⟩, .string ⟨#[115, 116, 111, 112]⟩, .string ⟨#[99, 97, 108, 108]⟩, .string ⟨#[104, 101, 97, 108]⟩, .string ⟨#[115, 119, 97, 112]⟩] 9))
 clear x2 x3 x4 x5 x6
 have y0 := BX2.out.cell 0 (by simp)
 have y1 := BX2.out.cell 1 (by simp)
 have y2 := BX2.out.cell 2 (by simp)
 have y3 := BX2.out.cell 3 (by simp)
 have y4 := BX2.out.cell 4 (by simp)
 have y5 := BX2.out.cell 5 (by simp)
 have y6 := BX2.out.cell 6 (by simp)
 simp only [List.getElem_cons_zero, List.getElem_cons_succ] at y0 y1 y2 y3 y4 y5 y6
 clear y2 y3 y4 y5 y6
 go_region
 clear x0 x1 y0 y1
 have x0 := BX2.out.cell 0 (by simp)
 have x1 := BX2.out.cell 1 (by simp)
 have x2 := BX2.out.cell 2 (by simp)
 have x3 := BX2.out.cell 3 (by simp)
 have x4 := BX2.out.cell 4 (by simp)
 have x5 := BX2.out.cell 5 (by simp)
 have x6 := BX2.out.cell 6 (by simp)
 simp only [List.getElem_cons_zero, List.getElem_cons_succ] at x0 x1 x2 x3 x4 x5 x6
 go_wp2_with fail
 go_ret
 exact ⟨rfl, HB2.out⟩
set_option maxRecDepth 100000 in
set_option maxHeartbeats 3200000 in
theorem specFev3  (a : List UInt8) (m ky : List UInt8) (n : Int) (t : List UInt8) (l : List (List UInt8)) (v6 : Value) (w : World) (h6 : SliceAt rStr 1 0 w v6 l) (hz : zEvent ⟨3, a, ⟨m, ky, n, t⟩, l⟩ ≤ 1048576) (hn : a.length ≤ maxLen) (hk : ky.length ≤ maxLen) (hr : ∀ s ∈ l, s.length ≤ 1048576) (he : evB ⟨3, a, ⟨m, ky, n, t⟩, l⟩ = true) :
  Calls Tryz.prog 12 #[.agg #[.int .i64 3, .string ⟨a.toArray⟩, .string ⟨m.toArray⟩, .string ⟨ky.toArray⟩, .int .i64 n, .string ⟨t.toArray⟩, v6]] w fun e w' => e = .returned (.string ⟨(fmtEv ⟨3, a, ⟨m, ky, n, t⟩, l⟩).toArray⟩) ∧ Below w.heap.size w w' := by
 obtain ⟨ra, rc, rfl, hl⟩ := sliceAt_len h6
 have HIE := Lib.hid (specIsEv _ a m ky n t l _ w h6 hn hk hr he)
 have BS := Lib.hid (bx_start1 w [.int .i64 3, .string ⟨a.toArray⟩, .string ⟨m.toArray⟩, .string ⟨ky.toArray⟩, .int .i64 n, .string ⟨t.toArray⟩, .slice ra l.length rc] 31)
 have BX := Lib.hid BS.out.1
 have HB := Lib.hid BS.out.2
 have HR := Lib.hid (show fmtEv ⟨3, a, ⟨m, ky, n, t⟩, l⟩ = [99, 97, 108, 108, 32] ++ a ++ [32] ++ fmtCall ⟨m, ky, n, t⟩ from ((fmtEv_yes he).trans (show joinL ([kWord 3, a] ++ evTail ⟨3, a, ⟨m, ky, n, t⟩, l⟩) [32] = joinL ([[99, 97, 108, 108], a] ++ [fmtCall ⟨m, ky, n, t⟩]) [32] by simp [kWord, evTail])).trans (by rw [List.cons_append, List.cons_append, List.nil_append, joinL_cons _ _ _ (by simp), joinL_two]; simp))
 have HAL := Lib.hid (show a.length ≤ 1048576 by unfold zEvent at hz; simp only at hz; omega)
 have HFC := Lib.hid (fun W => specFormatCall_any ⟨m, ky, n, t⟩ W hk (by unfold zEvent zCall at hz; simp only at hz ⊢; omega))
 simp only [vCall] at HFC
 have HFL := Lib.hid (show (fmtCall ⟨m, ky, n, t⟩).length ≤ 8388608 by have := fmtCall_lenZ ⟨m, ky, n, t⟩; unfold zEvent at hz; simp only at hz; omega)
 generalize fmtEv ⟨3, a, ⟨m, ky, n, t⟩, l⟩ = res at *
 generalize fmtCall ⟨m, ky, n, t⟩ = fc at *
 have q0 : ∀ w0, (Op.stringOp .add ⟨#[99, 97, 108, 108]⟩ ⟨#[32]⟩).run Tryz.prog w0 = .ok (.string ⟨#[99, 97, 108, 108, 32]⟩) w0 := addV ([99, 97, 108, 108]) ([32]) _ _ _ rfl rfl rfl (by decide)
 obtain ⟨p0, E0⟩ : ∃ p : List UInt8, p = [99, 97, 108, 108, 32] ++ a := ⟨_, rfl⟩
 have L0 : p0.length ≤ 1048600 := by rw [E0]; have := HAL.out; simp; omega
 have q1 : ∀ w0, (Op.stringOp .add ⟨#[99, 97, 108, 108, 32]⟩ ⟨a.toArray⟩).run Tryz.prog w0 = .ok (.string ⟨p0.toArray⟩) w0 := addV ([99, 97, 108, 108, 32]) (a) _ _ _ E0 rfl rfl (by have := HAL.out; simp only [List.length_cons, List.length_nil]; omega)
 obtain ⟨p1, E1⟩ : ∃ p : List UInt8, p = p0 ++ [32] := ⟨_, rfl⟩
 have L1 : p1.length ≤ 1048601 := by rw [E1]; simp; omega
 have q2 : ∀ w0, (Op.stringOp .add ⟨p0.toArray⟩ ⟨#[32]⟩).run Tryz.prog w0 = .ok (.string ⟨p1.toArray⟩) w0 := addV (p0) ([32]) _ _ _ E1 rfl rfl (by simp; omega)
 have q3 : ∀ w0, (Op.stringOp .add ⟨p1.toArray⟩ ⟨fc.toArray⟩).run Tryz.prog w0 = .ok (.string ⟨res.toArray⟩) w0 := addV (p1) (fc) _ _ _ (by rw [HR.out, E1, E0]) rfl rfl (by have := HFL.out; omega)
 clear E0 E1 L0 L1
 clear h6 hz hn hk hr he BS HR hl
 go_enter Tryz.func12, Tryz.ntmps12
 have x0 := BX.out.cell 0 (by simp)
 have x1 := BX.out.cell 1 (by simp)
 have x2 := BX.out.cell 2 (by simp)
 have x3 := BX.out.cell 3 (by simp)
 have x4 := BX.out.cell 4 (by simp)
 have x5 := BX.out.cell 5 (by simp)
 have x6 := BX.out.cell 6 (by simp)
 simp only [List.getElem_cons_zero, List.getElem_cons_succ] at x0 x1 x2 x3 x4 x5 x6
 go_wp2_with fail
 refine (HIE.out _ HB.out).mono ?_
 rintro e w1 ⟨rfl, hb⟩
 have HB1 := Lib.hid (belS HB.out hb)
 have BX1 := Lib.hid (BX.out.below hb)
 have HS := Lib.hid (show w.heap.size < w1.heap.size by have := hb.size; simp at this; omega)
 clear hb x0 x1 x2 x3 x4 x5 x6 BX
 have x0 := BX1.out.cell 0 (by simp)
 have x1 := BX1.out.cell 1 (by simp)
 have x2 := BX1.out.cell 2 (by simp)
 have x3 := BX1.out.cell 3 (by simp)
 have x4 := BX1.out.cell 4 (by simp)
 have x5 := BX1.out.cell 5 (by simp)
 have x6 := BX1.out.cell 6 (by simp)
 simp only [List.getElem_cons_zero, List.getElem_cons_succ] at x0 x1 x2 x3 x4 x5 x6
 go_wp2_with fail
 have HB2 := Lib.hid (bel_drV (HB1.out.alloc HB1.out.size (.cells #[.string ⟨#[]⟩, .string ⟨#[115, 116, 97, 114, 116]⟩, .string ⟨#[115, 116, 111, 112]⟩, .string ⟨#[99, 97, 108, 108]⟩, .string ⟨#[104, 101, 97, 108]⟩, .string ⟨#[115, 119, 97, 112]⟩] 9)))
 have BX2 := Lib.hid (BX1.out.alloc (.cells #[.string ⟨#[]⟩, .string ⟨#[115, 116, 97, 114, 116]⟩, .string ⟨#[115, 116, 111, 112]⟩, .string ⟨#[99, 97, 108, 108]⟩, .string ⟨#[104, 101, 97, 108]⟩, .string ⟨#[115, 119, 97, 112]⟩] 9))
 clear x2 x3 x4 x5 x6
 have y0 := BX2.out.cell 0 (by simp)
 have y1 := BX2.out.cell 1 (by simp)
 have y2 := BX2.out.cell 2 (by simp)
 have y3 := BX2.out.cell 3 (by simp)
 have y4 := BX2.out.cell 4 (by simp)
 have y5 := BX2.out.cell 5 (by simp)
 have y6 := BX2.out.cell 6 (by simp)
 simp only [List.getElem_cons_zero, List.getElem_cons_succ] at y0 y1 y2 y3 y4 y5 y6
 clear y2 y3 y4 y5 y6
 go_region
 clear x0 x1 y0 y1
 have x0 := BX2.out.cell 0 (by simp)
 have x1 := BX2.out.cell 1 (by simp)
 have x2 := BX2.out.cell 2 (by simp)
 have x3 := BX2.out.cell 3 (by simp)
 have x4 := BX2.out.cell 4 (by simp)
 have x5 := BX2.out.cell 5 (by simp)
 have x6 := BX2.out.cell 6 (by simp)
 simp only [List.getElem_cons_zero, List.getElem_cons_succ] at x0 x1 x2 x3 x4 x5 x6
 go_wp2_with fail
 refine (HFC.out _).mono ?_
 rintro e w4 ⟨rfl, hb⟩
 have HB4 := Lib.hid (belS HB2.out hb)
 clear hb x0 x1 x2 x3 x4 x5 x6
 go_wp2_with fail
 go_ret
 exact ⟨rfl, HB4.out⟩
set_option maxRecDepth 100000 in
set_option maxHeartbeats 3200000 in
theorem specFev4  (a : List UInt8) (m ky : List UInt8) (n : Int) (t : List UInt8) (l : List (List UInt8)) (v6 : Value) (w : World) (h6 : SliceAt rStr 1 0 w v6 l) (hz : zEvent ⟨4, a, ⟨m, ky, n, t⟩, l⟩ ≤ 1048576) (hn : a.length ≤ maxLen) (hk : ky.length ≤ maxLen) (hr : ∀ s ∈ l, s.length ≤ 1048576) (he : evB ⟨4, a, ⟨m, ky, n, t⟩, l⟩ = true) :
  Calls Tryz.prog 12 #[.agg #[.int .i64 4, .string ⟨a.toArray⟩, .string ⟨m.toArray⟩, .string ⟨ky.toArray⟩, .int .i64 n, .string ⟨t.toArray⟩, v6]] w fun e w' => e = .returned (.string ⟨(fmtEv ⟨4, a, ⟨m, ky, n, t⟩, l⟩).toArray⟩) ∧ Below w.heap.size w w' := by
 obtain ⟨ra, rc, rfl, hl⟩ := sliceAt_len h6
 have HIE := Lib.hid (specIsEv _ a m ky n t l _ w h6 hn hk hr he)
 have BS := Lib.hid (bx_start1 w [.int .i64 4, .string ⟨a.toArray⟩, .string ⟨m.toArray⟩, .string ⟨ky.toArray⟩, .int .i64 n, .string ⟨t.toArray⟩, .slice ra l.length rc] 31)
 have BX := Lib.hid BS.out.1
 have HB := Lib.hid BS.out.2
 have HR := Lib.hid (show fmtEv ⟨4, a, ⟨m, ky, n, t⟩, l⟩ = [104, 101, 97, 108, 32] ++ a from ((fmtEv_yes he).trans (show joinL ([kWord 4, a] ++ evTail ⟨4, a, ⟨m, ky, n, t⟩, l⟩) [32] = joinL ([[104, 101, 97, 108], a] ++ []) [32] by simp [kWord, evTail])).trans (by rw [List.append_nil, joinL_two]; simp))
 have HAL := Lib.hid (show a.length ≤ 1048576 by unfold zEvent at hz; simp only at hz; omega)
 generalize fmtEv ⟨4, a, ⟨m, ky, n, t⟩, l⟩ = res at *
 have q0 : ∀ w0, (Op.stringOp .add ⟨#[104, 101, 97, 108]⟩ ⟨#[32]⟩).run Tryz.prog w0 = .ok (.string ⟨#[104, 101, 97, 108, 32]⟩) w0 := addV ([104, 101, 97, 108]) ([32]) _ _ _ rfl rfl rfl (by decide)
 have q1 : ∀ w0, (Op.stringOp .add ⟨#[104, 101, 97, 108, 32]⟩ ⟨a.toArray⟩).run Tryz.prog w0 = .ok (.string ⟨res.toArray⟩) w0 := addV ([104, 101, 97, 108, 32]) (a) _ _ _ HR.out rfl rfl (by have := HAL.out; simp only [List.length_cons, List.length_nil]; omega)
 clear h6 hz hn hk hr he BS HR hl
 go_enter Tryz.func12, Tryz.ntmps12
 have x0 := BX.out.cell 0 (by simp)
 have x1 := BX.out.cell 1 (by simp)
 have x2 := BX.out.cell 2 (by simp)
 have x3 := BX.out.cell 3 (by simp)
 have x4 := BX.out.cell 4 (by simp)
 have x5 := BX.out.cell 5 (by simp)
 have x6 := BX.out.cell 6 (by simp)
 simp only [List.getElem_cons_zero, List.getElem_cons_succ] at x0 x1 x2 x3 x4 x5 x6
 go_wp2_with fail
 refine (HIE.out _ HB.out).mono ?_
 rintro e w1 ⟨rfl, hb⟩
 have HB1 := Lib.hid (belS HB.out hb)
 have BX1 := Lib.hid (BX.out.below hb)
 have HS := Lib.hid (show w.heap.size < w1.heap.size by have := hb.size; simp at this; omega)
 clear hb x0 x1 x2 x3 x4 x5 x6 BX
 have x0 := BX1.out.cell 0 (by simp)
 have x1 := BX1.out.cell 1 (by simp)
 have x2 := BX1.out.cell 2 (by simp)
 have x3 := BX1.out.cell 3 (by simp)
 have x4 := BX1.out.cell 4 (by simp)
 have x5 := BX1.out.cell 5 (by simp)
 have x6 := BX1.out.cell 6 (by simp)
 simp only [List.getElem_cons_zero, List.getElem_cons_succ] at x0 x1 x2 x3 x4 x5 x6
 go_wp2_with fail
 have HB2 := Lib.hid (bel_drV (HB1.out.alloc HB1.out.size (.cells #[.string ⟨#[]⟩, .string ⟨#[115, 116, 97, 114, 116]⟩, .string ⟨#[115, 116, 111, 112]⟩, .string ⟨#[99, 97, 108, 108]⟩, .string ⟨#[104, 101, 97, 108]⟩, .string ⟨#[115, 119, 97, 112]⟩] 9)))
 have BX2 := Lib.hid (BX1.out.alloc (.cells #[.string ⟨#[]⟩, .string ⟨#[115, 116, 97, 114, 116]⟩, .string ⟨#[115, 116, 111, 112]⟩, .string ⟨#[99, 97, 108, 108]⟩, .string ⟨#[104, 101, 97, 108]⟩, .string ⟨#[115, 119, 97, 112]⟩] 9))
 clear x2 x3 x4 x5 x6
 have y0 := BX2.out.cell 0 (by simp)
 have y1 := BX2.out.cell 1 (by simp)
 have y2 := BX2.out.cell 2 (by simp)
 have y3 := BX2.out.cell 3 (by simp)
 have y4 := BX2.out.cell 4 (by simp)
 have y5 := BX2.out.cell 5 (by simp)
 have y6 := BX2.out.cell 6 (by simp)
 simp only [List.getElem_cons_zero, List.getElem_cons_succ] at y0 y1 y2 y3 y4 y5 y6
 clear y2 y3 y4 y5 y6
 go_region
 clear x0 x1 y0 y1
 have x0 := BX2.out.cell 0 (by simp)
 have x1 := BX2.out.cell 1 (by simp)
 have x2 := BX2.out.cell 2 (by simp)
 have x3 := BX2.out.cell 3 (by simp)
 have x4 := BX2.out.cell 4 (by simp)
 have x5 := BX2.out.cell 5 (by simp)
 have x6 := BX2.out.cell 6 (by simp)
 simp only [List.getElem_cons_zero, List.getElem_cons_succ] at x0 x1 x2 x3 x4 x5 x6
 go_wp2_with fail
 go_ret
 exact ⟨rfl, HB2.out⟩
set_option maxRecDepth 100000 in
set_option maxHeartbeats 3200000 in
theorem specFev5  (a : List UInt8) (m ky : List UInt8) (n : Int) (t : List UInt8) (l : List (List UInt8)) (v6 : Value) (w : World) (h6 : SliceAt rStr 1 0 w v6 l) (hz : zEvent ⟨5, a, ⟨m, ky, n, t⟩, l⟩ ≤ 1048576) (hn : a.length ≤ maxLen) (hk : ky.length ≤ maxLen) (hr : ∀ s ∈ l, s.length ≤ 1048576) (he : evB ⟨5, a, ⟨m, ky, n, t⟩, l⟩ = true) :
  Calls Tryz.prog 12 #[.agg #[.int .i64 5, .string ⟨a.toArray⟩, .string ⟨m.toArray⟩, .string ⟨ky.toArray⟩, .int .i64 n, .string ⟨t.toArray⟩, v6]] w fun e w' => e = .returned (.string ⟨(fmtEv ⟨5, a, ⟨m, ky, n, t⟩, l⟩).toArray⟩) ∧ Below w.heap.size w w' := by
 obtain ⟨ra, rc, rfl, hl⟩ := sliceAt_len h6
 have HIE := Lib.hid (specIsEv _ a m ky n t l _ w h6 hn hk hr he)
 have BS := Lib.hid (bx_start1 w [.int .i64 5, .string ⟨a.toArray⟩, .string ⟨m.toArray⟩, .string ⟨ky.toArray⟩, .int .i64 n, .string ⟨t.toArray⟩, .slice ra l.length rc] 31)
 have BX := Lib.hid BS.out.1
 have HB := Lib.hid BS.out.2
 have HR := Lib.hid (show fmtEv ⟨5, a, ⟨m, ky, n, t⟩, l⟩ = [115, 119, 97, 112, 32] ++ a ++ [32] ++ joinL l [32] from ((fmtEv_yes he).trans (show joinL ([kWord 5, a] ++ evTail ⟨5, a, ⟨m, ky, n, t⟩, l⟩) [32] = joinL ([[115, 119, 97, 112], a] ++ l) [32] by simp [kWord, evTail])).trans (by rw [List.cons_append, List.cons_append, List.nil_append, joinL_cons _ _ _ (by simp), joinL_cons _ _ _ (evB_five he rfl)]; simp))
 have HAL := Lib.hid (show a.length ≤ 1048576 by unfold zEvent at hz; simp only at hz; omega)
 have HFL := Lib.hid (show (joinL l [32]).length ≤ 8388608 from recJoin_len hz)
 have HJ := Lib.hid (fun v W (h : RowAt W v (l.map strV)) => (show Calls Tryz.prog 51 #[v, .string ⟨#[32]⟩] W fun e w' => e = .returned (.string ⟨(joinL l [32]).toArray⟩) ∧ Below W.heap.size W w' from specJoin_any v l ⟨#[32]⟩ W h (Nat.le_trans HFL.out (by decide)) (by decide)))
 have HL6 := Lib.hid (fun W (hb : Below w.heap.size w W) => row_of_flat (flatAt_of_slice cStr_len (by decide) (h6.below good_str hb (Nat.le_refl _))))
 generalize fmtEv ⟨5, a, ⟨m, ky, n, t⟩, l⟩ = res at *
 generalize joinL l [32] = fc at *
 have q0 : ∀ w0, (Op.stringOp .add ⟨#[115, 119, 97, 112]⟩ ⟨#[32]⟩).run Tryz.prog w0 = .ok (.string ⟨#[115, 119, 97, 112, 32]⟩) w0 := addV ([115, 119, 97, 112]) ([32]) _ _ _ rfl rfl rfl (by decide)
 obtain ⟨p0, E0⟩ : ∃ p : List UInt8, p = [115, 119, 97, 112, 32] ++ a := ⟨_, rfl⟩
 have L0 : p0.length ≤ 1048600 := by rw [E0]; have := HAL.out; simp; omega
 have q1 : ∀ w0, (Op.stringOp .add ⟨#[115, 119, 97, 112, 32]⟩ ⟨a.toArray⟩).run Tryz.prog w0 = .ok (.string ⟨p0.toArray⟩) w0 := addV ([115, 119, 97, 112, 32]) (a) _ _ _ E0 rfl rfl (by have := HAL.out; simp only [List.length_cons, List.length_nil]; omega)
 obtain ⟨p1, E1⟩ : ∃ p : List UInt8, p = p0 ++ [32] := ⟨_, rfl⟩
 have L1 : p1.length ≤ 1048601 := by rw [E1]; simp; omega
 have q2 : ∀ w0, (Op.stringOp .add ⟨p0.toArray⟩ ⟨#[32]⟩).run Tryz.prog w0 = .ok (.string ⟨p1.toArray⟩) w0 := addV (p0) ([32]) _ _ _ E1 rfl rfl (by simp; omega)
 have q3 : ∀ w0, (Op.stringOp .add ⟨p1.toArray⟩ ⟨fc.toArray⟩).run Tryz.prog w0 = .ok (.string ⟨res.toArray⟩) w0 := addV (p1) (fc) _ _ _ (by rw [HR.out, E1, E0]) rfl rfl (by have := HFL.out; omega)
 clear E0 E1 L0 L1
 clear h6 hz hn hk hr he BS HR hl
 go_enter Tryz.func12, Tryz.ntmps12
 have x0 := BX.out.cell 0 (by simp)
 have x1 := BX.out.cell 1 (by simp)
 have x2 := BX.out.cell 2 (by simp)
 have x3 := BX.out.cell 3 (by simp)
 have x4 := BX.out.cell 4 (by simp)
 have x5 := BX.out.cell 5 (by simp)
 have x6 := BX.out.cell 6 (by simp)
 simp only [List.getElem_cons_zero, List.getElem_cons_succ] at x0 x1 x2 x3 x4 x5 x6
 go_wp2_with fail
 refine (HIE.out _ HB.out).mono ?_
 rintro e w1 ⟨rfl, hb⟩
 have HB1 := Lib.hid (belS HB.out hb)
 have BX1 := Lib.hid (BX.out.below hb)
 have HS := Lib.hid (show w.heap.size < w1.heap.size by have := hb.size; simp at this; omega)
 clear hb x0 x1 x2 x3 x4 x5 x6 BX
 have x0 := BX1.out.cell 0 (by simp)
 have x1 := BX1.out.cell 1 (by simp)
 have x2 := BX1.out.cell 2 (by simp)
 have x3 := BX1.out.cell 3 (by simp)
 have x4 := BX1.out.cell 4 (by simp)
 have x5 := BX1.out.cell 5 (by simp)
 have x6 := BX1.out.cell 6 (by simp)
 simp only [List.getElem_cons_zero, List.getElem_cons_succ] at x0 x1 x2 x3 x4 x5 x6
 go_wp2_with fail
 have HB2 := Lib.hid (bel_drV (HB1.out.alloc HB1.out.size (.cells #[.string ⟨#[]⟩, .string ⟨#[115, 116, 97, 114, 116]⟩, .string ⟨#[115, 116, 111, 112]⟩, .string ⟨#[99, 97, 108, 108]⟩, .string ⟨#[104, 101, 97, 108]⟩, .string ⟨#[115, 119, 97, 112]⟩] 9)))
 have BX2 := Lib.hid (BX1.out.alloc (.cells #[.string ⟨#[]⟩, .string ⟨#[115, 116, 97, 114, 116]⟩, .string ⟨#[115, 116, 111, 112]⟩, .string ⟨#[99, 97, 108, 108]⟩, .string ⟨#[104, 101, 97, 108]⟩, .string ⟨#[115, 119, 97, 112]⟩] 9))
 clear x2 x3 x4 x5 x6
 have y0 := BX2.out.cell 0 (by simp)
 have y1 := BX2.out.cell 1 (by simp)
 have y2 := BX2.out.cell 2 (by simp)
 have y3 := BX2.out.cell 3 (by simp)
 have y4 := BX2.out.cell 4 (by simp)
 have y5 := BX2.out.cell 5 (by simp)
 have y6 := BX2.out.cell 6 (by simp)
 simp only [List.getElem_cons_zero, List.getElem_cons_succ] at y0 y1 y2 y3 y4 y5 y6
 clear y2 y3 y4 y5 y6
 go_region
 clear x0 x1 y0 y1
 have x0 := BX2.out.cell 0 (by simp)
 have x1 := BX2.out.cell 1 (by simp)
 have x2 := BX2.out.cell 2 (by simp)
 have x3 := BX2.out.cell 3 (by simp)
 have x4 := BX2.out.cell 4 (by simp)
 have x5 := BX2.out.cell 5 (by simp)
 have x6 := BX2.out.cell 6 (by simp)
 simp only [List.getElem_cons_zero, List.getElem_cons_succ] at x0 x1 x2 x3 x4 x5 x6
 have HL3 := Lib.hid (HL6.out _ HB2.out)
 go_wp2_with fail
 refine (HJ.out _ _ HL3.out).mono ?_
 rintro e w4 ⟨rfl, hb⟩
 have HB4 := Lib.hid (belS HB2.out hb)
 clear hb x0 x1 x2 x3 x4 x5 x6
 go_wp2_with fail
 go_ret
 exact ⟨rfl, HB4.out⟩
theorem specFormatEvent_any (v : Value) (x : EventD) (w : World) (hx : ValAt rEvent 0 w v x) (hz : zEvent x ≤ 1048576) (hn : x.fName.length ≤ maxLen) (hk : x.fCall.fKey.length ≤ maxLen) (hr : ∀ s ∈ x.fRecipe, s.length ≤ 1048576) :
  Calls Tryz.prog 12 #[v] w fun e w' => e = .returned (.string ⟨(fmtEv x).toArray⟩) ∧ Below w.heap.size w w' := by
 obtain ⟨_, rfl, hx⟩ := hx
 cases he : evB x with
 | false =>
  obtain ⟨k, a, ⟨m, ky, n, t⟩, l⟩ := x
  obtain ⟨v6, rfl, h6⟩ := hx
  exact specFev0 k a m ky n t l v6 w h6 hz hn hk hr he
 | true =>
  have hj := evB_kind he
  obtain ⟨k, a, ⟨m, ky, n, t⟩, l⟩ := x
  obtain ⟨v6, rfl, h6⟩ := hx
  simp only at hj
  rcases hj with rfl | rfl | rfl | rfl | rfl
  ·exact specFev1 a m ky n t l v6 w h6 hz hn hk hr he
  ·exact specFev2 a m ky n t l v6 w h6 hz hn hk hr he
  ·exact specFev3 a m ky n t l v6 w h6 hz hn hk hr he
  ·exact specFev4 a m ky n t l v6 w h6 hz hn hk hr he
  ·exact specFev5 a m ky n t l v6 w h6 hz hn hk hr he
end Go.Proofs.YteeopjcbpngofaaGreat
namespace Go.Proofs.YteeopjcbpngofaaGreat
set_option linter.unusedVariables false
open Go.ChangeShapes Go.WideShapes Go.ChangeAt Go.RowKit Go.WideMaps Go.WideElems
open Go.Deep
section
variable {H : Type} {enc : TypeId × Value → H} {P : Program} {W : World}
theorem leaf_str {n : Nat} {t : TypeId} {c : Value} {x : DataW H × List MemPlace} (ht : P.underlying t = some .string) (h : DataW.trod enc P W 0 (fun _ => true) true n t [c] = some x) : ∃ l : List UInt8, c = .string ⟨l.toArray⟩ ∧ l.length ≤ maxLen := by
 obtain ⟨s, h1, _, h3⟩ := DataW.trod_string ht h
 injection h1 with h1
 exact ⟨s.data.toList, by rw [h1], by rw [Array.length_toList]; exact h3⟩
theorem leaf_int {n : Nat} {t : TypeId} {c : Value} {x : DataW H × List MemPlace} (ht : P.underlying t = some (.int .i64)) (h : DataW.trod enc P W 0 (fun _ => true) true n t [c] = some x) : ∃ z : Int, c = .int .i64 z ∧ -9223372036854775808 ≤ z ∧ z ≤ 9223372036854775807 := by
 obtain ⟨z, h1, _, h3⟩ := DataW.trod_int ht h
 injection h1 with h1
 exact ⟨z, h1, bounds_i64 h3⟩
theorem field_at {fs : Array Field} {n : Nat} {cs : List Value} {xs : List (DataW H × List MemPlace)} (hl : xs.length = fs.size)
  (hf : ∀ (i : Nat) (f : Field), fs[i]? = some f → DataW.trod enc P W 0 (fun _ => true) true n f.type ((cs.drop f.offset).take (P.cellsOf f.type)) = xs[i]?) (i : Nat) (f : Field) (h : fs[i]? = some f) :
  ∃ x, DataW.trod enc P W 0 (fun _ => true) true n f.type ((cs.drop f.offset).take (P.cellsOf f.type)) = some x := by
 have hi : i < fs.size := (Array.getElem?_eq_some_iff.1 h).1
 exact ⟨xs[i]'(by omega), by rw [hf i f h, List.getElem?_eq_getElem]⟩
theorem field_one {fs : Array Field} {n : Nat} {cs : List Value} {xs : List (DataW H × List MemPlace)} (hl : xs.length = fs.size)
  (hf : ∀ (i : Nat) (f : Field), fs[i]? = some f → DataW.trod enc P W 0 (fun _ => true) true n f.type ((cs.drop f.offset).take (P.cellsOf f.type)) = xs[i]?) (i : Nat) (f : Field) (T o : Nat) (c : Value) (r : List Value) (h : fs[i]? = some f) (hT : f.type = T) (ho : f.offset = o) (hc : P.cellsOf T = 1) (hd : cs.drop o = c :: r) :
  ∃ x, DataW.trod enc P W 0 (fun _ => true) true n T [c] = some x := by
 obtain ⟨x, hx⟩ := field_at hl hf i f h
 subst hT; subst ho
 rw [hc, hd] at hx
 exact ⟨x, hx⟩
theorem open_flat {α : Type} [Inhabited α] {f : α → List Value} {k : Nat} {G : α → Prop} (hk : ∀ x, (f x).length = k) (hk0 : 0 < k) {t e : TypeId} {n : Nat} {v : Value} {x : DataW H × List MemPlace} (ht : P.underlying t = some (.slice e)) (hc : P.cellsOf e = k)
  (hel : ∀ n cs x, DataW.trod enc P W 0 (fun _ => true) true n e cs = some x → ∃ d, cs = f d ∧ G d) (h : DataW.trod enc P W 0 (fun _ => true) true n t [v] = some x) :
  ∃ l : List α, FlatAt f k W v l ∧ ∀ d ∈ l, G d := by
 rcases open_slice ht h with ⟨h0, _⟩ | ⟨a, len, cap, m, n', D, Pl, hcs, _, hl, hm, hmm, _, hx⟩
 ·injection h0 with h0
  subst h0
  exact ⟨[], ⟨none, 0, rfl, by simp, Nat.zero_le _, Or.inl rfl⟩, by simp⟩
 ·injection hcs with hcs
  subst hcs
  simp only [if_true] at hmm
  subst hmm
  obtain ⟨F, hF⟩ := choose_lt (α := α) (p := fun i d => (∀ j, j < k → W.cell? ((a.add (i * k)).add j) = (f d)[j]?) ∧ G d) (n := m) (fun i hi => by
   obtain ⟨cs', h1, h2⟩ := hx i hi
   obtain ⟨d, rfl, hg⟩ := hel _ _ _ h2
   rw [hc] at h1
   obtain ⟨_, _, h3⟩ := World.cells?_some h1
   exact ⟨d, h3, hg⟩)
  refine ⟨(List.range len).map F, ?_, ?_⟩
  ·obtain ⟨ab, ao, spot⟩ := a
   refine ⟨some ⟨ab, ao, spot⟩, m - len, by simp; omega, by rw [flat_len f k hk, List.length_map], by simp; omega, ?_⟩
   rcases Nat.eq_zero_or_pos len with h0 | hpos
   ·left; simp [h0]
   ·right
    have g0 := (hF 0 (by omega)).1 0 hk0
    have hlen0 : 0 < (f (F 0)).length := by rw [hk]; exact hk0
    rw [List.getElem?_eq_getElem hlen0] at g0
    have hspot : spot = none := by
     have := World.cell?_spot g0
     simpa [Addr.add] using this
    subst hspot
    have hlt : ab < W.heap.size := by
     simp only [Addr.add_lit, Nat.zero_mul, Nat.add_zero] at g0
     exact World.block_lt_of_cell? W _ g0
    refine ⟨ab, ao, rfl, hlt, fun i hi => ?_⟩
    rw [List.length_map, List.length_range] at hi
    have hq : i / k < len := Nat.div_lt_of_lt_mul (by rw [Nat.mul_comm]; exact hi)
    have hr : i % k < k := Nat.mod_lt _ hk0
    have h1 := (hF (i / k) (by omega)).1 (i % k) hr
    rw [Addr.add_lit, Addr.add_lit] at h1
    have e1 : i / k * k + i % k = i := by rw [Nat.mul_comm]; exact Nat.div_add_mod i k
    rw [show ao + i / k * k + i % k = ao + i by omega] at h1
    rw [h1, ← e1, flat_get f k hk _ (i / k) (by simpa using hq) (i % k) hr]
    simp [e1]
  ·intro d hd
   obtain ⟨i, hi, rfl⟩ := List.mem_map.1 hd
   exact (hF i (by have := List.mem_range.1 hi; omega)).2
theorem four_of {α : Type} {l : List α} (h : l.length = 4) : ∃ a b c d, l = [a, b, c, d] := by match l, h with | [a, b, c, d], _ => exact ⟨a, b, c, d, rfl⟩
end
section
variable {H : Type} {enc : TypeId × Value → H} {W : World}
end
end Go.Proofs.YteeopjcbpngofaaGreat
namespace Go.Proofs.YteeopjcbpngofaaGreat
set_option linter.unusedVariables false
open Go.ChangeShapes Go.WideShapes Go.ChangeAt Go.RowKit Go.WideMaps Go.WideElems
open Go.Deep
section
variable {H : Type} {enc : TypeId × Value → H} {W : World}
end
end Go.Proofs.YteeopjcbpngofaaGreat
namespace Go.Proofs.YteeopjcbpngofaaGreat
set_option linter.unusedVariables false
open Go.ChangeShapes Go.WideShapes Go.ChangeAt Go.RowKit Go.WideMaps Go.WideElems
open Go.Deep
section
variable {H : Type} {enc : TypeId × Value → H} {W : World}
set_option maxRecDepth 100000 in
theorem open_Call {n : Nat} {cs : List Value} {x : DataW H × List MemPlace} (h : DataW.trod enc Tryz.prog W 0 (fun _ => true) true n 23 cs = some x) : ∃ d : CallD, cs = cCall d ∧ okCall d := by
 obtain ⟨xs, m, rfl, _, hl, hn, hf⟩ := DataW.trod_struct Tryz.underlying23 h
 rw [show Tryz.prog.cellsOf 23 = 4 by kernel_rfl] at hl
 obtain ⟨c0, c1, c2, c3, rfl⟩ := four_of hl
 obtain ⟨y0, k0⟩ := field_one hn hf 0 _ 9 0 _ _ rfl rfl rfl (by kernel_rfl) rfl
 obtain ⟨y1, k1⟩ := field_one hn hf 1 _ 9 1 _ _ rfl rfl rfl (by kernel_rfl) rfl
 obtain ⟨y2, k2⟩ := field_one hn hf 2 _ 3 2 _ _ rfl rfl rfl (by kernel_rfl) rfl
 obtain ⟨y3, k3⟩ := field_one hn hf 3 _ 9 3 _ _ rfl rfl rfl (by kernel_rfl) rfl
 obtain ⟨l0, rfl, b0⟩ := leaf_str Tryz.underlying9 k0
 obtain ⟨l1, rfl, b1⟩ := leaf_str Tryz.underlying9 k1
 obtain ⟨l2, rfl, b2⟩ := leaf_int Tryz.underlying3 k2
 obtain ⟨l3, rfl, b3⟩ := leaf_str Tryz.underlying9 k3
 exact ⟨⟨l0, l1, l2, l3⟩, rfl, b0, b1, b2, b3⟩
end
end Go.Proofs.YteeopjcbpngofaaGreat
namespace Go.Proofs.YteeopjcbpngofaaGreat
set_option linter.unusedVariables false
open Go.ChangeShapes Go.WideShapes Go.ChangeAt Go.RowKit Go.WideMaps Go.WideElems
open Go.Deep
section
variable {H : Type} {enc : TypeId × Value → H} {P : Program} {W : World}
end
end Go.Proofs.YteeopjcbpngofaaGreat
namespace Go.Proofs.YteeopjcbpngofaaGreat
set_option linter.unusedVariables false
open Go.ChangeShapes Go.WideShapes Go.ChangeAt Go.RowKit Go.WideMaps Go.WideElems
open Go.Deep
theorem belEvent {w w' : World} {cs : List Value} {x : EventD} {F B : Nat} (h : rEvent F w cs x) (hb : Below B w w') (hB : w.heap.size ≤ B) : rEvent F w' cs x := goodEvent.keep h (kept_below hb hB)
theorem seven_of {α : Type} {l : List α} (h : l.length = 7) : ∃ a b c d e f g, l = [a, b, c, d, e, f, g] := by match l, h with | [a, b, c, d, e, f, g], _ => exact ⟨a, b, c, d, e, f, g, rfl⟩
section
variable {H : Type} {enc : TypeId × Value → H} {W : World}
theorem openS_StrE {n : Nat} {v : Value} {x : DataW H × List MemPlace} (h : DataW.trod enc Tryz.prog W 0 (fun _ => true) true n 24 [v] = some x) : ∃ l : List (List UInt8), FlatAt cStr 1 W v l ∧ ∀ s ∈ l, s.length ≤ maxLen :=
 open_flat cStr_len (by decide) Tryz.underlying24 (by kernel_rfl) (fun n cs x h => by
  have h2 := h
  obtain ⟨s, h1, _, h3⟩ := DataW.trod_string Tryz.underlying9 h2
  exact ⟨s.data.toList, by rw [h1]; simp [cStr, strV], by rw [Array.length_toList]; exact h3⟩) h
set_option maxRecDepth 100000 in
theorem openR_Event {n : Nat} {cs : List Value} {x : DataW H × List MemPlace} (h : DataW.trod enc Tryz.prog W 0 (fun _ => true) true n 26 cs = some x) : ∃ d : EventD, rEvent 0 W cs d ∧ okEvent d := by
 obtain ⟨xs, m, rfl, _, hl, hn, hf⟩ := DataW.trod_struct Tryz.underlying26 h
 rw [show Tryz.prog.cellsOf 26 = 7 by kernel_rfl] at hl
 obtain ⟨c0, c1, c2, c3, c4, c5, c6, rfl⟩ := seven_of hl
 obtain ⟨y0, k0⟩ := field_one hn hf 0 _ 3 0 _ _ rfl rfl rfl (by kernel_rfl) rfl
 obtain ⟨y1, k1⟩ := field_one hn hf 1 _ 9 1 _ _ rfl rfl rfl (by kernel_rfl) rfl
 obtain ⟨y2, k2⟩ := field_at hn hf 2 _ rfl
 have k2 : DataW.trod enc Tryz.prog W 0 (fun _ => true) true m 23 [c2, c3, c4, c5] = some y2 := by
  have e : Tryz.prog.cellsOf 23 = 4 := by kernel_rfl
  simpa [e] using k2
 obtain ⟨y3, k3⟩ := field_one hn hf 3 _ 24 6 _ _ rfl rfl rfl (by kernel_rfl) rfl
 obtain ⟨l0, rfl, b0⟩ := leaf_int Tryz.underlying3 k0
 obtain ⟨l1, rfl, b1⟩ := leaf_str Tryz.underlying9 k1
 obtain ⟨⟨v0, v1, v2, v3⟩, e2, b2⟩ := open_Call k2
 obtain ⟨l6, b6, g6⟩ := openS_StrE k3
 simp only [cCall] at e2
 injection e2 with e2 e3
 injection e3 with e3 e4
 injection e4 with e4 e5
 injection e5 with e5 _
 subst e2 e3 e4 e5
 exact ⟨⟨l0, l1, ⟨v0, v1, v2, v3⟩, l6⟩, ⟨c6, rfl, sliceAt_of_flat cStr_len b6⟩, b0, b1, b2, g6⟩
set_option maxRecDepth 100000 in
theorem arg_Event {base : Nat} {v : Value} {d : DataW H} {p : List MemPlace} (hval : Value.okWide Tryz.prog W .any base 26 v) (h : DataW.Trod enc Tryz.prog W 0 (fun _ => true) true 26 v d p) : ∃ d : EventD, ValAt rEvent 0 W v d ∧ okEvent d := by
 obtain ⟨cs, rfl, _⟩ := okWide_struct Tryz.underlying26 hval
 obtain ⟨fuel, hf⟩ := h
 obtain ⟨d, h1, h2⟩ := openR_Event hf
 exact ⟨d, ⟨cs.toList, by simp, h1⟩, h2⟩
end
end Go.Proofs.YteeopjcbpngofaaGreat
namespace Go.Proofs.YteeopjcbpngofaaGreat
set_option linter.unusedVariables false
set_option linter.unusedSimpArgs false
open Go.ChangeShapes Go.WideShapes Go.ChangeAt Go.RowKit Go.WideMaps Go.WideElems
open Go.ChangeMaps (open_string shut_string)
set_option maxRecDepth 100000 in
set_option maxHeartbeats 3200000 in
theorem exactFormatEvent_any (v0 : Value) (x0 : EventD) (w : World) (a0 : ValAt rEvent 0 w v0 x0) (g0 : okEvent x0) :
  Calls Tryz.prog 3 #[v0] w fun e w' => e = .returned (.bool true) ∧ Below w.heap.size w w' := by
 obtain ⟨_, rfl, a0⟩ := a0
 obtain ⟨n0_0, n0_1, ⟨n0_2_0, n0_2_1, n0_2_2, n0_2_3⟩, n0_3⟩ := x0
 try simp only at *
 obtain ⟨ua0_6, rfl, hrua0_6⟩ := a0
 simp only at hrua0_6
 obtain ⟨ca0_6, cc0_6, rfl, _⟩ := sliceAt_len hrua0_6
 have A0 := Lib.hid (show rEvent 0 _ _ (⟨n0_0, n0_1, ⟨n0_2_0, n0_2_1, n0_2_2, n0_2_3⟩, n0_3⟩ : EventD) from ⟨_, rfl, hrua0_6.mono good_str (Nat.zero_le _)⟩)
 have G0 := Lib.hid g0
 clear g0 hrua0_6
 go_enter Tryz.func3, Tryz.ntmps3
 go_wp2_with fail
 refine (szEvent_d _ (⟨n0_0, n0_1, ⟨n0_2_0, n0_2_1, n0_2_2, n0_2_3⟩, n0_3⟩ : EventD) 1048576 _ ⟨_, rfl, (belEvent A0.out (by repeat (first | exact Below.refl _ _ | refine Below.alloc ?_ (by simp; try omega) _ | refine Below.setCell ?_ (by simp; try omega) _ | refine belN ?_ _ | refine belD ?_)) (Nat.le_refl _))⟩ G0.out (by omega) (by omega)).mono ?_
 rintro e w1 ⟨r0, rfl, hr0a, hr0b, hb0⟩
 have hb := below_step (w := w) (by repeat (first | exact Below.refl _ _ | refine Below.alloc ?_ (by simp; try omega) _ | refine Below.setCell ?_ (by simp; try omega) _ | refine belN ?_ _ | refine belD ?_)) hb0
 have Cw_w1 := Lib.hid hb
 have A0_w1 := Lib.hid (belEvent A0.out hb (Nat.le_refl _))
 have ep0_0_w1 : w1.cell? ⟨w.heap.size, 0, none⟩ = some (.int .i64 n0_0) := by rw [hb0.cell (p := ⟨w.heap.size, 0, none⟩) (by simp; try omega)]; simp
 have ep0_1_w1 : w1.cell? ⟨w.heap.size, 1, none⟩ = some (.string ⟨n0_1.toArray⟩) := by rw [hb0.cell (p := ⟨w.heap.size, 1, none⟩) (by simp; try omega)]; simp
 have ep0_2_w1 : w1.cell? ⟨w.heap.size, 2, none⟩ = some (.string ⟨n0_2_0.toArray⟩) := by rw [hb0.cell (p := ⟨w.heap.size, 2, none⟩) (by simp; try omega)]; simp
 have ep0_3_w1 : w1.cell? ⟨w.heap.size, 3, none⟩ = some (.string ⟨n0_2_1.toArray⟩) := by rw [hb0.cell (p := ⟨w.heap.size, 3, none⟩) (by simp; try omega)]; simp
 have ep0_4_w1 : w1.cell? ⟨w.heap.size, 4, none⟩ = some (.int .i64 n0_2_2) := by rw [hb0.cell (p := ⟨w.heap.size, 4, none⟩) (by simp; try omega)]; simp
 have ep0_5_w1 : w1.cell? ⟨w.heap.size, 5, none⟩ = some (.string ⟨n0_2_3.toArray⟩) := by rw [hb0.cell (p := ⟨w.heap.size, 5, none⟩) (by simp; try omega)]; simp
 have ep0_6_w1 : w1.cell? ⟨w.heap.size, 6, none⟩ = some (.slice ca0_6 n0_3.length cc0_6) := by rw [hb0.cell (p := ⟨w.heap.size, 6, none⟩) (by simp; try omega)]; simp
 have Lp0_w1 : w.heap.size < w1.heap.size := by have h := hb0.size; simp at h; omega
 clear hb hb0
 by_cases hr0 : r0 < 0
 ·clear hr0b
  go_wp2_with fail
  go_ret
  exact ⟨rfl, below_to Cw_w1.out (by repeat (first | exact Below.refl _ _ | refine Below.alloc ?_ (by simp; try omega) _ | refine Below.setCell ?_ (by simp; try omega) _ | refine belN ?_ _ | refine belD ?_))⟩
 ·have hs0 := hr0b (by omega)
  clear hr0b
  have HSZ := Lib.hid (show (zEvent (⟨n0_0, n0_1, ⟨n0_2_0, n0_2_1, n0_2_2, n0_2_3⟩, n0_3⟩ : EventD)) ≤ 1048576 by push_cast; omega)
  clear hs0
  have HN := Lib.hid (show (⟨n0_0, n0_1, ⟨n0_2_0, n0_2_1, n0_2_2, n0_2_3⟩, n0_3⟩ : EventD).fName.length ≤ maxLen from G0.out.2.1)
  have HK := Lib.hid (show (⟨n0_0, n0_1, ⟨n0_2_0, n0_2_1, n0_2_2, n0_2_3⟩, n0_3⟩ : EventD).fCall.fKey.length ≤ maxLen from G0.out.2.2.1.2.1)
  have HZ := Lib.hid (show ∀ s ∈ (⟨n0_0, n0_1, ⟨n0_2_0, n0_2_1, n0_2_2, n0_2_3⟩, n0_3⟩ : EventD).fRecipe, s.length ≤ 1048576 from fun s hs => by have h := HSZ.out; simp only [zEvent] at h; have h2 := sumF_mem List.length _ s hs; simp only at h2; omega)
  have HZZ := Lib.hid (show zEvent (⟨n0_0, n0_1, ⟨n0_2_0, n0_2_1, n0_2_2, n0_2_3⟩, n0_3⟩ : EventD) ≤ 1048576 from by have h := HSZ.out; omega)
  have HSP := Lib.hid (fun cs w1 (h : rEvent 0 w1 cs (⟨n0_0, n0_1, ⟨n0_2_0, n0_2_1, n0_2_2, n0_2_3⟩, n0_3⟩ : EventD)) => specFormatEvent_any (.agg cs.toArray) (⟨n0_0, n0_1, ⟨n0_2_0, n0_2_1, n0_2_2, n0_2_3⟩, n0_3⟩ : EventD) w1 ⟨cs, rfl, h⟩ HZZ.out HN.out HK.out HZ.out)
  have HIM := Lib.hid (fun cs w1 (h : rEvent 0 w1 cs (⟨n0_0, n0_1, ⟨n0_2_0, n0_2_1, n0_2_2, n0_2_3⟩, n0_3⟩ : EventD)) => implFormatEvent_any (.agg cs.toArray) (⟨n0_0, n0_1, ⟨n0_2_0, n0_2_1, n0_2_2, n0_2_3⟩, n0_3⟩ : EventD) w1 ⟨cs, rfl, h⟩ HZZ.out HN.out HK.out HZ.out)
  generalize fmtEv (⟨n0_0, n0_1, ⟨n0_2_0, n0_2_1, n0_2_2, n0_2_3⟩, n0_3⟩ : EventD) = f at *
  have K_p0 := Lp0_w1
  go_wp2_with fail
  refine (toEvent_d _ (⟨n0_0, n0_1, ⟨n0_2_0, n0_2_1, n0_2_2, n0_2_3⟩, n0_3⟩ : EventD) _ ⟨_, rfl, (belEvent A0_w1.out (by repeat (first | exact Below.refl _ _ | refine Below.alloc ?_ (by simp; try omega) _ | refine Below.setCell ?_ (by simp; try omega) _ | refine belN ?_ _ | refine belD ?_)) (Nat.le_refl _))⟩ (by have := HSZ.out; omega)).mono ?_
  rintro e w2 ⟨_, rfl, ho, hb0⟩
  have hb := below_step (w := w1) (by repeat (first | exact Below.refl _ _ | refine Below.alloc ?_ (by simp; try omega) _ | refine Below.setCell ?_ (by simp; try omega) _ | refine belN ?_ _ | refine belD ?_)) hb0
  have Cw_w2 := Lib.hid (Cw_w1.out.trans (hb.mono Cw_w1.out.size))
  have A0_w2 := Lib.hid (belEvent A0_w1.out hb (Nat.le_refl _))
  have ep0_0_w2 := (hb.cell (p := ⟨w.heap.size, 0, none⟩) Lp0_w1).trans ep0_0_w1
  have ep0_1_w2 := (hb.cell (p := ⟨w.heap.size, 1, none⟩) Lp0_w1).trans ep0_1_w1
  have ep0_2_w2 := (hb.cell (p := ⟨w.heap.size, 2, none⟩) Lp0_w1).trans ep0_2_w1
  have ep0_3_w2 := (hb.cell (p := ⟨w.heap.size, 3, none⟩) Lp0_w1).trans ep0_3_w1
  have ep0_4_w2 := (hb.cell (p := ⟨w.heap.size, 4, none⟩) Lp0_w1).trans ep0_4_w1
  have ep0_5_w2 := (hb.cell (p := ⟨w.heap.size, 5, none⟩) Lp0_w1).trans ep0_5_w1
  have ep0_6_w2 := (hb.cell (p := ⟨w.heap.size, 6, none⟩) Lp0_w1).trans ep0_6_w1
  have Lp0_w2 : w.heap.size < w2.heap.size := by have h := hb.size; omega
  clear ep0_0_w1 ep0_1_w1 ep0_2_w1 ep0_3_w1 ep0_4_w1 ep0_5_w1 ep0_6_w1 Lp0_w1
  obtain ⟨uS1_6, rfl, hruS1_6⟩ := ho
  simp only at hruS1_6
  obtain ⟨pS1_6, qS1_6, rfl, _⟩ := sliceAt_len hruS1_6
  have S1 := Lib.hid (show rEvent 0 _ _ (⟨n0_0, n0_1, ⟨n0_2_0, n0_2_1, n0_2_2, n0_2_3⟩, n0_3⟩ : EventD) from ⟨_, rfl, hruS1_6.mono good_str (Nat.zero_le _)⟩)
  clear hruS1_6
  clear hb hb0
  have K_p0 := Lp0_w2
  go_wp2_with fail
  refine (HSP.out _ _ (belEvent S1.out (by repeat (first | exact Below.refl _ _ | refine Below.alloc ?_ (by simp; try omega) _ | refine Below.setCell ?_ (by simp; try omega) _ | refine belN ?_ _ | refine belD ?_)) (Nat.le_refl _))).mono ?_
  rintro e w3 ⟨rfl, hb0⟩
  have hb := below_step (w := w2) (by repeat (first | exact Below.refl _ _ | refine Below.alloc ?_ (by simp; try omega) _ | refine Below.setCell ?_ (by simp; try omega) _ | refine belN ?_ _ | refine belD ?_)) hb0
  have Cw_w3 := Lib.hid (Cw_w2.out.trans (hb.mono Cw_w2.out.size))
  have A0_w3 := Lib.hid (belEvent A0_w2.out hb (Nat.le_refl _))
  have S1_w3 := Lib.hid (belEvent S1.out hb (Nat.le_refl _))
  have ep0_0_w3 := (hb.cell (p := ⟨w.heap.size, 0, none⟩) Lp0_w2).trans ep0_0_w2
  have ep0_1_w3 := (hb.cell (p := ⟨w.heap.size, 1, none⟩) Lp0_w2).trans ep0_1_w2
  have ep0_2_w3 := (hb.cell (p := ⟨w.heap.size, 2, none⟩) Lp0_w2).trans ep0_2_w2
  have ep0_3_w3 := (hb.cell (p := ⟨w.heap.size, 3, none⟩) Lp0_w2).trans ep0_3_w2
  have ep0_4_w3 := (hb.cell (p := ⟨w.heap.size, 4, none⟩) Lp0_w2).trans ep0_4_w2
  have ep0_5_w3 := (hb.cell (p := ⟨w.heap.size, 5, none⟩) Lp0_w2).trans ep0_5_w2
  have ep0_6_w3 := (hb.cell (p := ⟨w.heap.size, 6, none⟩) Lp0_w2).trans ep0_6_w2
  have Lp0_w3 : w.heap.size < w3.heap.size := by have h := hb.size; omega
  clear ep0_0_w2 ep0_1_w2 ep0_2_w2 ep0_3_w2 ep0_4_w2 ep0_5_w2 ep0_6_w2 Lp0_w2
  clear hb hb0
  have K_p0 := Lp0_w3
  go_wp2_with fail
  refine (toEvent_d _ (⟨n0_0, n0_1, ⟨n0_2_0, n0_2_1, n0_2_2, n0_2_3⟩, n0_3⟩ : EventD) _ ⟨_, rfl, (belEvent A0_w3.out (by repeat (first | exact Below.refl _ _ | refine Below.alloc ?_ (by simp; try omega) _ | refine Below.setCell ?_ (by simp; try omega) _ | refine belN ?_ _ | refine belD ?_)) (Nat.le_refl _))⟩ (by have := HSZ.out; omega)).mono ?_
  rintro e w4 ⟨_, rfl, ho, hb0⟩
  have hb := below_step (w := w3) (by repeat (first | exact Below.refl _ _ | refine Below.alloc ?_ (by simp; try omega) _ | refine Below.setCell ?_ (by simp; try omega) _ | refine belN ?_ _ | refine belD ?_)) hb0
  have Cw_w4 := Lib.hid (Cw_w3.out.trans (hb.mono Cw_w3.out.size))
  have A0_w4 := Lib.hid (belEvent A0_w3.out hb (Nat.le_refl _))
  have ep0_0_w4 := (hb.cell (p := ⟨w.heap.size, 0, none⟩) Lp0_w3).trans ep0_0_w3
  have ep0_1_w4 := (hb.cell (p := ⟨w.heap.size, 1, none⟩) Lp0_w3).trans ep0_1_w3
  have ep0_2_w4 := (hb.cell (p := ⟨w.heap.size, 2, none⟩) Lp0_w3).trans ep0_2_w3
  have ep0_3_w4 := (hb.cell (p := ⟨w.heap.size, 3, none⟩) Lp0_w3).trans ep0_3_w3
  have ep0_4_w4 := (hb.cell (p := ⟨w.heap.size, 4, none⟩) Lp0_w3).trans ep0_4_w3
  have ep0_5_w4 := (hb.cell (p := ⟨w.heap.size, 5, none⟩) Lp0_w3).trans ep0_5_w3
  have ep0_6_w4 := (hb.cell (p := ⟨w.heap.size, 6, none⟩) Lp0_w3).trans ep0_6_w3
  have Lp0_w4 : w.heap.size < w4.heap.size := by have h := hb.size; omega
  clear ep0_0_w3 ep0_1_w3 ep0_2_w3 ep0_3_w3 ep0_4_w3 ep0_5_w3 ep0_6_w3 Lp0_w3
  obtain ⟨uX2_6, rfl, hruX2_6⟩ := ho
  simp only at hruX2_6
  obtain ⟨pX2_6, qX2_6, rfl, _⟩ := sliceAt_len hruX2_6
  have X2 := Lib.hid (show rEvent 0 _ _ (⟨n0_0, n0_1, ⟨n0_2_0, n0_2_1, n0_2_2, n0_2_3⟩, n0_3⟩ : EventD) from ⟨_, rfl, hruX2_6.mono good_str (Nat.zero_le _)⟩)
  clear hruX2_6
  clear hb hb0
  have K_p0 := Lp0_w4
  go_wp2_with fail
  refine (HIM.out _ _ (belEvent X2.out (by repeat (first | exact Below.refl _ _ | refine Below.alloc ?_ (by simp; try omega) _ | refine Below.setCell ?_ (by simp; try omega) _ | refine belN ?_ _ | refine belD ?_)) (Nat.le_refl _))).mono ?_
  rintro e w5 ⟨rfl, hb0⟩
  have hb := below_step (w := w4) (by repeat (first | exact Below.refl _ _ | refine Below.alloc ?_ (by simp; try omega) _ | refine Below.setCell ?_ (by simp; try omega) _ | refine belN ?_ _ | refine belD ?_)) hb0
  have Cw_w5 := Lib.hid (Cw_w4.out.trans (hb.mono Cw_w4.out.size))
  have A0_w5 := Lib.hid (belEvent A0_w4.out hb (Nat.le_refl _))
  have X2_w5 := Lib.hid (belEvent X2.out hb (Nat.le_refl _))
  have ep0_0_w5 := (hb.cell (p := ⟨w.heap.size, 0, none⟩) Lp0_w4).trans ep0_0_w4
  have ep0_1_w5 := (hb.cell (p := ⟨w.heap.size, 1, none⟩) Lp0_w4).trans ep0_1_w4
  have ep0_2_w5 := (hb.cell (p := ⟨w.heap.size, 2, none⟩) Lp0_w4).trans ep0_2_w4
  have ep0_3_w5 := (hb.cell (p := ⟨w.heap.size, 3, none⟩) Lp0_w4).trans ep0_3_w4
  have ep0_4_w5 := (hb.cell (p := ⟨w.heap.size, 4, none⟩) Lp0_w4).trans ep0_4_w4
  have ep0_5_w5 := (hb.cell (p := ⟨w.heap.size, 5, none⟩) Lp0_w4).trans ep0_5_w4
  have ep0_6_w5 := (hb.cell (p := ⟨w.heap.size, 6, none⟩) Lp0_w4).trans ep0_6_w4
  have Lp0_w5 : w.heap.size < w5.heap.size := by have h := hb.size; omega
  clear ep0_0_w4 ep0_1_w4 ep0_2_w4 ep0_3_w4 ep0_4_w4 ep0_5_w4 ep0_6_w4 Lp0_w4
  have ex0_0_w5 : w5.cell? ⟨w4.heap.size, 0, none⟩ = some (.int .i64 n0_0) := by rw [hb0.cell (p := ⟨w4.heap.size, 0, none⟩) (by simp; try omega)]; simp
  have ex0_1_w5 : w5.cell? ⟨w4.heap.size, 1, none⟩ = some (.string ⟨n0_1.toArray⟩) := by rw [hb0.cell (p := ⟨w4.heap.size, 1, none⟩) (by simp; try omega)]; simp
  have ex0_2_w5 : w5.cell? ⟨w4.heap.size, 2, none⟩ = some (.string ⟨n0_2_0.toArray⟩) := by rw [hb0.cell (p := ⟨w4.heap.size, 2, none⟩) (by simp; try omega)]; simp
  have ex0_3_w5 : w5.cell? ⟨w4.heap.size, 3, none⟩ = some (.string ⟨n0_2_1.toArray⟩) := by rw [hb0.cell (p := ⟨w4.heap.size, 3, none⟩) (by simp; try omega)]; simp
  have ex0_4_w5 : w5.cell? ⟨w4.heap.size, 4, none⟩ = some (.int .i64 n0_2_2) := by rw [hb0.cell (p := ⟨w4.heap.size, 4, none⟩) (by simp; try omega)]; simp
  have ex0_5_w5 : w5.cell? ⟨w4.heap.size, 5, none⟩ = some (.string ⟨n0_2_3.toArray⟩) := by rw [hb0.cell (p := ⟨w4.heap.size, 5, none⟩) (by simp; try omega)]; simp
  have ex0_6_w5 : w5.cell? ⟨w4.heap.size, 6, none⟩ = some (.slice pX2_6 n0_3.length qX2_6) := by rw [hb0.cell (p := ⟨w4.heap.size, 6, none⟩) (by simp; try omega)]; simp
  have Lx0_w5 : w4.heap.size < w5.heap.size := by have h := hb0.size; simp at h; omega
  clear hb hb0
  go_wp2_with fail
  go_region_held3 (fun w' => w'.cell? ⟨w4.heap.size, 0, none⟩ = some (.int .i64 n0_0) ∧ w'.cell? ⟨w4.heap.size, 1, none⟩ = some (.string ⟨n0_1.toArray⟩) ∧ w'.cell? ⟨w4.heap.size, 2, none⟩ = some (.string ⟨n0_2_0.toArray⟩) ∧ w'.cell? ⟨w4.heap.size, 3, none⟩ = some (.string ⟨n0_2_1.toArray⟩) ∧ w'.cell? ⟨w4.heap.size, 4, none⟩ = some (.int .i64 n0_2_2) ∧ w'.cell? ⟨w4.heap.size, 5, none⟩ = some (.string ⟨n0_2_3.toArray⟩) ∧ w'.cell? ⟨w4.heap.size, 6, none⟩ = some (.slice pX2_6 n0_3.length qX2_6) ∧ w'.cell? ⟨w.heap.size, 0, none⟩ = some (.int .i64 n0_0) ∧ w'.cell? ⟨w.heap.size, 1, none⟩ = some (.string ⟨n0_1.toArray⟩) ∧ w'.cell? ⟨w.heap.size, 2, none⟩ = some (.string ⟨n0_2_0.toArray⟩) ∧ w'.cell? ⟨w.heap.size, 3, none⟩ = some (.string ⟨n0_2_1.toArray⟩) ∧ w'.cell? ⟨w.heap.size, 4, none⟩ = some (.int .i64 n0_2_2) ∧ w'.cell? ⟨w.heap.size, 5, none⟩ = some (.string ⟨n0_2_3.toArray⟩) ∧ w'.cell? ⟨w.heap.size, 6, none⟩ = some (.slice ca0_6 n0_3.length cc0_6))
   (first
    | exact ⟨(hbA.cell (p := ⟨w4.heap.size, 0, none⟩) (by simp; omega)).trans ex0_0_w5, (hbA.cell (p := ⟨w4.heap.size, 1, none⟩) (by simp; omega)).trans ex0_1_w5, (hbA.cell (p := ⟨w4.heap.size, 2, none⟩) (by simp; omega)).trans ex0_2_w5, (hbA.cell (p := ⟨w4.heap.size, 3, none⟩) (by simp; omega)).trans ex0_3_w5, (hbA.cell (p := ⟨w4.heap.size, 4, none⟩) (by simp; omega)).trans ex0_4_w5, (hbA.cell (p := ⟨w4.heap.size, 5, none⟩) (by simp; omega)).trans ex0_5_w5, (hbA.cell (p := ⟨w4.heap.size, 6, none⟩) (by simp; omega)).trans ex0_6_w5, (hbA.cell (p := ⟨w.heap.size, 0, none⟩) (by simp; omega)).trans ep0_0_w5, (hbA.cell (p := ⟨w.heap.size, 1, none⟩) (by simp; omega)).trans ep0_1_w5, (hbA.cell (p := ⟨w.heap.size, 2, none⟩) (by simp; omega)).trans ep0_2_w5, (hbA.cell (p := ⟨w.heap.size, 3, none⟩) (by simp; omega)).trans ep0_3_w5, (hbA.cell (p := ⟨w.heap.size, 4, none⟩) (by simp; omega)).trans ep0_4_w5, (hbA.cell (p := ⟨w.heap.size, 5, none⟩) (by simp; omega)).trans ep0_5_w5, (hbA.cell (p := ⟨w.heap.size, 6, none⟩) (by simp; omega)).trans ep0_6_w5⟩
    | exact ⟨(hbB.cell (p := ⟨w4.heap.size, 0, none⟩) (by have h := hbA.size; simp at h; simp; omega)).trans ((hbA.cell (p := ⟨w4.heap.size, 0, none⟩) (by simp; omega)).trans ex0_0_w5), (hbB.cell (p := ⟨w4.heap.size, 1, none⟩) (by have h := hbA.size; simp at h; simp; omega)).trans ((hbA.cell (p := ⟨w4.heap.size, 1, none⟩) (by simp; omega)).trans ex0_1_w5), (hbB.cell (p := ⟨w4.heap.size, 2, none⟩) (by have h := hbA.size; simp at h; simp; omega)).trans ((hbA.cell (p := ⟨w4.heap.size, 2, none⟩) (by simp; omega)).trans ex0_2_w5), (hbB.cell (p := ⟨w4.heap.size, 3, none⟩) (by have h := hbA.size; simp at h; simp; omega)).trans ((hbA.cell (p := ⟨w4.heap.size, 3, none⟩) (by simp; omega)).trans ex0_3_w5), (hbB.cell (p := ⟨w4.heap.size, 4, none⟩) (by have h := hbA.size; simp at h; simp; omega)).trans ((hbA.cell (p := ⟨w4.heap.size, 4, none⟩) (by simp; omega)).trans ex0_4_w5), (hbB.cell (p := ⟨w4.heap.size, 5, none⟩) (by have h := hbA.size; simp at h; simp; omega)).trans ((hbA.cell (p := ⟨w4.heap.size, 5, none⟩) (by simp; omega)).trans ex0_5_w5), (hbB.cell (p := ⟨w4.heap.size, 6, none⟩) (by have h := hbA.size; simp at h; simp; omega)).trans ((hbA.cell (p := ⟨w4.heap.size, 6, none⟩) (by simp; omega)).trans ex0_6_w5), (hbB.cell (p := ⟨w.heap.size, 0, none⟩) (by have h := hbA.size; simp at h; simp; omega)).trans ((hbA.cell (p := ⟨w.heap.size, 0, none⟩) (by simp; omega)).trans ep0_0_w5), (hbB.cell (p := ⟨w.heap.size, 1, none⟩) (by have h := hbA.size; simp at h; simp; omega)).trans ((hbA.cell (p := ⟨w.heap.size, 1, none⟩) (by simp; omega)).trans ep0_1_w5), (hbB.cell (p := ⟨w.heap.size, 2, none⟩) (by have h := hbA.size; simp at h; simp; omega)).trans ((hbA.cell (p := ⟨w.heap.size, 2, none⟩) (by simp; omega)).trans ep0_2_w5), (hbB.cell (p := ⟨w.heap.size, 3, none⟩) (by have h := hbA.size; simp at h; simp; omega)).trans ((hbA.cell (p := ⟨w.heap.size, 3, none⟩) (by simp; omega)).trans ep0_3_w5), (hbB.cell (p := ⟨w.heap.size, 4, none⟩) (by have h := hbA.size; simp at h; simp; omega)).trans ((hbA.cell (p := ⟨w.heap.size, 4, none⟩) (by simp; omega)).trans ep0_4_w5), (hbB.cell (p := ⟨w.heap.size, 5, none⟩) (by have h := hbA.size; simp at h; simp; omega)).trans ((hbA.cell (p := ⟨w.heap.size, 5, none⟩) (by simp; omega)).trans ep0_5_w5), (hbB.cell (p := ⟨w.heap.size, 6, none⟩) (by have h := hbA.size; simp at h; simp; omega)).trans ((hbA.cell (p := ⟨w.heap.size, 6, none⟩) (by simp; omega)).trans ep0_6_w5)⟩
    | go_keep)
   (first
    |(go_at_call 13; refine (toEvent_d _ (⟨n0_0, n0_1, ⟨n0_2_0, n0_2_1, n0_2_2, n0_2_3⟩, n0_3⟩ : EventD) _ ⟨_, rfl, (belEvent A0_w5.out (by repeat (first | exact Below.refl _ _ | refine Below.alloc ?_ (by simp; try omega) _ | refine Below.setCell ?_ (by simp; try omega) _ | refine belN ?_ _ | refine belD ?_)) (Nat.le_refl _))⟩ (by have := HSZ.out; omega)).mono ?_; rintro e w6 ⟨_, rfl, hoZ, hbA⟩)
    |(go_at_call 15; refine (eqEvent_d _ _ (⟨n0_0, n0_1, ⟨n0_2_0, n0_2_1, n0_2_2, n0_2_3⟩, n0_3⟩ : EventD) (⟨n0_0, n0_1, ⟨n0_2_0, n0_2_1, n0_2_2, n0_2_3⟩, n0_3⟩ : EventD) _ ⟨_, rfl, (belEvent X2_w5.out (below_step (w := w5) (by repeat (first | exact Below.refl _ _ | refine Below.alloc ?_ (by simp; try omega) _ | refine Below.setCell ?_ (by simp; try omega) _ | refine belN ?_ _ | refine belD ?_)) hbA) (Nat.le_refl _))⟩ ⟨_, rfl, (goodEvent.mono hoZ (Nat.zero_le _))⟩).mono ?_; rintro e w7 ⟨rfl, hbB⟩))
  have hb1 := below_step (w := w5) (by repeat (first | exact Below.refl _ _ | refine Below.alloc ?_ (by simp; try omega) _ | refine Below.setCell ?_ (by simp; try omega) _ | refine belN ?_ _ | refine belD ?_)) hbA
  have hb := hb1.trans (hbB.mono hb1.size)
  rename_i hheld
  clear hheld hoZ
  have Cw_w7 := Lib.hid (Cw_w5.out.trans (hb.mono Cw_w5.out.size))
  have A0_w7 := Lib.hid (belEvent A0_w5.out hb (Nat.le_refl _))
  have X2_w7 := Lib.hid (belEvent X2_w5.out hb (Nat.le_refl _))
  have ep0_0_w7 := (hb.cell (p := ⟨w.heap.size, 0, none⟩) Lp0_w5).trans ep0_0_w5
  have ep0_1_w7 := (hb.cell (p := ⟨w.heap.size, 1, none⟩) Lp0_w5).trans ep0_1_w5
  have ep0_2_w7 := (hb.cell (p := ⟨w.heap.size, 2, none⟩) Lp0_w5).trans ep0_2_w5
  have ep0_3_w7 := (hb.cell (p := ⟨w.heap.size, 3, none⟩) Lp0_w5).trans ep0_3_w5
  have ep0_4_w7 := (hb.cell (p := ⟨w.heap.size, 4, none⟩) Lp0_w5).trans ep0_4_w5
  have ep0_5_w7 := (hb.cell (p := ⟨w.heap.size, 5, none⟩) Lp0_w5).trans ep0_5_w5
  have ep0_6_w7 := (hb.cell (p := ⟨w.heap.size, 6, none⟩) Lp0_w5).trans ep0_6_w5
  have Lp0_w7 : w.heap.size < w7.heap.size := by have h := hb.size; omega
  clear ep0_0_w5 ep0_1_w5 ep0_2_w5 ep0_3_w5 ep0_4_w5 ep0_5_w5 ep0_6_w5 Lp0_w5
  have ex0_0_w7 := (hb.cell (p := ⟨w4.heap.size, 0, none⟩) Lx0_w5).trans ex0_0_w5
  have ex0_1_w7 := (hb.cell (p := ⟨w4.heap.size, 1, none⟩) Lx0_w5).trans ex0_1_w5
  have ex0_2_w7 := (hb.cell (p := ⟨w4.heap.size, 2, none⟩) Lx0_w5).trans ex0_2_w5
  have ex0_3_w7 := (hb.cell (p := ⟨w4.heap.size, 3, none⟩) Lx0_w5).trans ex0_3_w5
  have ex0_4_w7 := (hb.cell (p := ⟨w4.heap.size, 4, none⟩) Lx0_w5).trans ex0_4_w5
  have ex0_5_w7 := (hb.cell (p := ⟨w4.heap.size, 5, none⟩) Lx0_w5).trans ex0_5_w5
  have ex0_6_w7 := (hb.cell (p := ⟨w4.heap.size, 6, none⟩) Lx0_w5).trans ex0_6_w5
  have Lx0_w7 : w4.heap.size < w7.heap.size := by have h := hb.size; omega
  clear ex0_0_w5 ex0_1_w5 ex0_2_w5 ex0_3_w5 ex0_4_w5 ex0_5_w5 ex0_6_w5 Lx0_w5
  clear hb hb1 hbA hbB
  go_wp2_with fail
  go_ret
  exact ⟨rfl, below_to Cw_w7.out (by repeat (first | exact Below.refl _ _ | refine Below.alloc ?_ (by simp; try omega) _ | refine Below.setCell ?_ (by simp; try omega) _ | refine belN ?_ _ | refine belD ?_))⟩
set_option maxRecDepth 100000 in
theorem fnExactFormatEvent_lifted (os : Os) (started : os.Started) (H : Type) (enc : TypeId × Value → H) :
  ReturnsInHanded {} Tryz.checked os 3 .any (Rows.fnExactFormatEventSpec.pre6 enc Tryz.prog Tryz.f3 Rows.fnExactFormatEventRow.domain false) (Rows.fnExactFormatEventSpec.post enc Tryz.prog Tryz.f3 false true false false) := by
 refine returnsInHanded_of_change (C := Tryz.checked) ownK started (by kernel_rfl) Tryz.func3
  (ChangeSpec.witness6 (enc := enc) (C := Tryz.checked) false ⟨#[], #[.agg #[.int .i64 0, .string ⟨#[]⟩, .string ⟨#[]⟩, .string ⟨#[]⟩, .int .i64 0, .string ⟨#[]⟩, .slice none 0 0]], []⟩ 8 (by kernel_rfl) (by kernel_rfl) (by kernel_rfl) (by kernel_rfl)) ?_
 intro W base args ds gs before hval0 hW _ _
 have hval : ∀ (j : Nat) t v, Tryz.f3.params[j]? = some t → args[j]? = some v → Value.okWide Tryz.prog W .any base t v := hval0
 have hW' := hW
 obtain ⟨p, q, hA0, _, rfl, _, _⟩ := hW
 have hA : DataW.TrodAll enc Tryz.prog W 0 (fun _ => true) true Tryz.f3.params.toList args.toList ds p := hA0
 rw [Tryz.params3] at hA hval
 obtain ⟨v0, vs0, d0, ds0, p0, q0, hargs, rfl, rfl, h0, r0⟩ := trodAll_cons hA
 obtain ⟨rfl, rfl, rfl⟩ := trodAll_nil r0
 obtain rfl : args = #[v0] := by cases args; simp_all
 obtain ⟨x0, w0, z0⟩ := arg_Event (hval 0 26 v0 rfl rfl) h0
 clear hA0 hval0
 refine (exactFormatEvent_any v0 x0 W w0 z0).mono fun e W1 ⟨he, hb⟩ => ?_
 subst he
 exact ⟨_, rfl, law_post laidK rfl (by kernel_rfl) Tryz.underlying4 (by kernel_rfl) (fun ds h => by match ds, h with | [_], _ => rfl) hW' hb⟩
theorem fnExactFormatEvent_closed : joinedFacts Tryz.prog 3 Tryz.f3 Rows.fnExactFormatEventSpec Rows.fnExactFormatEventRow = true := by unfold joinedFacts; rw [mayEnter_k, liftsFinal_k, make_k]; kernel_rfl
theorem fnExactFormatEvent_holds : Rows.FnExactFormatEventSaid :=
 OpenClaim.holds_of_wide 3 Tryz.f3 rfl rfl rfl rfl rfl rfl rfl ⟨rfl, rfl, rfl, rfl, rfl⟩ rfl rfl rfl rfl rfl (by kernel_rfl) Tryz.func3 fnExactFormatEvent_closed
  (of_decide_eq_true (by kernel_rfl)) (by unfold Func.isWrapper; first | (rw [if_pos (by decide +kernel)]; kernel_rfl) | (rw [if_neg (by decide +kernel)]; exact ⟨rfl, rfl⟩))
  (fun os started H enc _ => fnExactFormatEvent_lifted os started H enc)
end Go.Proofs.YteeopjcbpngofaaGreat
