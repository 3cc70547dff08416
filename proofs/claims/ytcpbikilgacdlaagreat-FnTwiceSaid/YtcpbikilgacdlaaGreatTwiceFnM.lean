/- FnTwice: through twice, twice as much is told, at every code that is drawn from. No condition. -/
import Derived.Test.YtcpbikilgacdlaaGreatCthM3
import Derived.Test.YtcpbikilgacdlaaGreatCthM4
import Derived.Test.YtcpbikilgacdlaaGreatCthM5
import Derived.Test.YtcpbikilgacdlaaGreatCthM2
import Derived.Test.YtcpbikilgacdlaaGreatCthM1
import Derived.Test.YtcpbikilgacdlaaGreatCthM0
import Derived.HandedShaped
import Derived.Deep.CutRange
import Derived.Deep.QuietTactic
import Derived.BigQuiet
namespace Go.Proofs.YtcpbikilgacdlaaGreat
set_option linter.unusedVariables false
set_option linter.unusedSimpArgs false
open Go.ChangeShapes Go.WideShapes Go.ChangeAt Go.RowKit Go.WideMaps Go.WideElems
open Go.ChangeMaps (open_string shut_string)
theorem belL {a w w' : World} {B : Nat} (h : Below a.heap.size a w) (hb : Below B w w') (hB : w.heap.size ≤ B) : Below a.heap.size a w' := h.trans (hb.mono (Nat.le_trans h.size hB))
set_option maxRecDepth 100000 in
set_option maxHeartbeats 6400000 in
theorem fnTwice_any (v : Value) (l : List UInt8) (w : World) (hR : RowAt w v (Lib.byteCells l)) (mx : Int) (hM : w.cell? ⟨0, 0, none⟩ = some (.int .i64 mx)) :
  Calls Tryz.prog 13 #[v] w fun e w' => e = .returned (.bool true) ∧ Below w.heap.size w w' := by
 have HR := Lib.hid hR
 have HBG := Lib.hid (big_any v l w hR)
 have hMl := World.block_lt_of_cell? w _ hM
 simp only at hMl
 have HMX := Lib.hid (fun W (hw : Below w.heap.size w W) => (hw.cell (p := ⟨0, 0, none⟩) hMl).trans hM)
 clear hR hM hMl
 go_enter Tryz.func13, Tryz.ntmps13
 go_wp2_with fail
 refine HBG.out.mono ?_
 rintro e w' ⟨rfl, rfl⟩
 by_cases hbig : 4096 < l.length
 ·go_wp2_with fail
  go_ret
  exact ⟨rfl, Below.refl _ _⟩
 have hd : decide (4096 < l.length) = false := by simpa using hbig
 clear hbig
 rw [hd]
 clear hd HBG
 go_wp2_with fail
 refine (drawPart_any v l w HR.out).mono ?_
 rintro e w1 ⟨⟨⟨kd, on, br, y, cnt⟩, z⟩, cv, lv, xv, xl, rfl, ho3, ho5, hox, hok, hxl, hokx, hb⟩
 simp only at ho3 ho5
 obtain ⟨ca, cc, rfl⟩ := slice_of ho3
 obtain ⟨la, lc, rfl⟩ := slice_of ho5
 have HB := Lib.hid hb
 have HSM := Lib.hid (okPt_small hok (by decide))
 have HKY := Lib.hid (okPt_keys hok)
 have HPP := Lib.hid (show rPart 0 _ [.string ⟨kd.toArray⟩, .bool on, .bool br, .slice ca y.length cc, .int .i64 cnt, .slice la z.length lc] (⟨⟨kd, on, br, y, cnt⟩, z⟩ : PartD) from goodPart.mono (oPart_r ⟨_, _, rfl, ho3, ho5⟩ (okPt_small hok (by decide))) (Nat.zero_le _))
 clear ho3 ho5 hok hox hxl hokx hb HR
 go_upto_region 4 with fail
 have hbn := Bx.new (w1) [.string ⟨kd.toArray⟩, .bool on, .bool br, .slice ca y.length cc, .int .i64 cnt, .slice la z.length lc] 37
 have hbb := bx_box (w1) (.cells #[.string ⟨kd.toArray⟩, .bool on, .bool br, .slice ca y.length cc, .int .i64 cnt, .slice la z.length lc] 37)
 have Vb_p := Lib.hid hbn
 clear hbn
 replace HPP := Lib.hid (rpB HPP.out hbb (Nat.le_refl _))
 replace HB := Lib.hid (belS HB.out hbb)
 clear hbb
 generalize (w1).alloc (.cells #[.string ⟨kd.toArray⟩, .bool on, .bool br, .slice ca y.length cc, .int .i64 cnt, .slice la z.length lc] 37) = w3 at *
 have HW := Lib.hid (fun W (h : rPart 0 W [.string ⟨kd.toArray⟩, .bool on, .bool br, .slice ca y.length cc, .int .i64 cnt, .slice la z.length lc] (⟨⟨kd, on, br, y, cnt⟩, z⟩ : PartD)) => implWrap_any (.agg #[.string ⟨kd.toArray⟩, .bool on, .bool br, .slice ca y.length cc, .int .i64 cnt, .slice la z.length lc]) (⟨⟨kd, on, br, y, cnt⟩, z⟩ : PartD) ⟨(nTwice).toArray⟩ W (⟨_, rfl, h⟩ : ValAt rPart 0 W (.agg #[.string ⟨kd.toArray⟩, .bool on, .bool br, .slice ca y.length cc, .int .i64 cnt, .slice la z.length lc]) (⟨⟨kd, on, br, y, cnt⟩, z⟩ : PartD)) HSM.out HKY.out (by decide))
 simp only [List.toList_toArray] at HW
 have HWS := Lib.hid (fun W (h : rPart 0 W [.string ⟨kd.toArray⟩, .bool on, .bool br, .slice ca y.length cc, .int .i64 cnt, .slice la z.length lc] (⟨⟨kd, on, br, y, cnt⟩, z⟩ : PartD)) => specWrap_any (.agg #[.string ⟨kd.toArray⟩, .bool on, .bool br, .slice ca y.length cc, .int .i64 cnt, .slice la z.length lc]) (⟨⟨kd, on, br, y, cnt⟩, z⟩ : PartD) ⟨(nTwice).toArray⟩ W (⟨_, rfl, h⟩ : ValAt rPart 0 W (.agg #[.string ⟨kd.toArray⟩, .bool on, .bool br, .slice ca y.length cc, .int .i64 cnt, .slice la z.length lc]) (⟨⟨kd, on, br, y, cnt⟩, z⟩ : PartD)) HSM.out HKY.out (by decide))
 simp only [List.toList_toArray] at HWS
 have HSW := Lib.hid (wrapP_small HSM.out nTwice)
 have HKW := Lib.hid (show ∀ c ∈ (wrapP (⟨⟨kd, on, br, y, cnt⟩, z⟩ : PartD) nTwice).fCore.fCells, c.fKey.length ≤ maxLen from by rw [wrapP_core]; exact HKY.out)
 have HWI := Lib.hid (show (wrapR (⟨⟨kd, on, br, y, cnt⟩, z⟩ : PartD) nTwice).fCode = wrapI (⟨⟨kd, on, br, y, cnt⟩, z⟩ : PartD) nTwice from rfl)
 have HTW := Lib.hid (@twice_law (⟨⟨kd, on, br, y, cnt⟩, z⟩ : PartD))
 have HTV := Lib.hid (@twR_val (chgP (⟨⟨kd, on, br, y, cnt⟩, z⟩ : PartD) (cX mTell)).2)
 have HCC := Lib.hid (fun W (h : rPart 0 W [.string ⟨kd.toArray⟩, .bool on, .bool br, .slice ca y.length cc, .int .i64 cnt, .slice la z.length lc] (⟨⟨kd, on, br, y, cnt⟩, z⟩ : PartD)) (hM : W.cell? ⟨0, 0, none⟩ = some (.int .i64 mx)) => implCallPart_c (.agg #[.string ⟨kd.toArray⟩, .bool on, .bool br, .slice ca y.length cc, .int .i64 cnt, .slice la z.length lc]) (⟨⟨kd, on, br, y, cnt⟩, z⟩ : PartD) (cX mTell) mx W (⟨_, rfl, h⟩ : ValAt rPart 0 W (.agg #[.string ⟨kd.toArray⟩, .bool on, .bool br, .slice ca y.length cc, .int .i64 cnt, .slice la z.length lc]) (⟨⟨kd, on, br, y, cnt⟩, z⟩ : PartD)) HSM.out (by simp [cX]) (by simp [cX]) hM)
 generalize wrapI (⟨⟨kd, on, br, y, cnt⟩, z⟩ : PartD) nTwice = wi at *
 generalize wrapP (⟨⟨kd, on, br, y, cnt⟩, z⟩ : PartD) nTwice = p2 at *
 generalize wrapR (⟨⟨kd, on, br, y, cnt⟩, z⟩ : PartD) nTwice = r2 at *
 obtain ⟨⟨kd2, on2, br2, y2, cnt2⟩, z2⟩ := p2
 obtain ⟨t0, t1, t2, t3, t4⟩ := r2
 have HCQ := Lib.hid (fun cs W (h : rPart 0 W cs (⟨⟨kd2, on2, br2, y2, cnt2⟩, z2⟩ : PartD)) (hM : W.cell? ⟨0, 0, none⟩ = some (.int .i64 mx)) => implCallPart_c (.agg cs.toArray) (⟨⟨kd2, on2, br2, y2, cnt2⟩, z2⟩ : PartD) (cX mTell) mx W ⟨cs, rfl, h⟩ HSW.out (by simp [cX]) (by simp [cX]) hM)
 generalize chgP (⟨⟨kd, on, br, y, cnt⟩, z⟩ : PartD) (cX mTell) = o1 at *
 generalize chgP (⟨⟨kd2, on2, br2, y2, cnt2⟩, z2⟩ : PartD) (cX mTell) = o2 at *
 obtain ⟨⟨⟨k1, n1, b1, y1, m1⟩, z1⟩, c0, c1, c2, c3, c4⟩ := o1
 obtain ⟨⟨⟨k3, n3, b3, y3, m3⟩, z3⟩, d0, d1, d2, d3, d4⟩ := o2
 unfold GivesOPR vReply at HW HWS HCC HCQ
 unfold vCall cX at HCC HCQ
 simp only at HW HWS HCC HCQ HWI HTW HTV
 have hwi := HWI.out
 subst hwi
 clear HWI
 have B_p := Vb_p.out
 have p_0 := Vb_p.out.cell 0 (by simp)
 have p_1 := Vb_p.out.cell 1 (by simp)
 have p_2 := Vb_p.out.cell 2 (by simp)
 have p_3 := Vb_p.out.cell 3 (by simp)
 have p_4 := Vb_p.out.cell 4 (by simp)
 have p_5 := Vb_p.out.cell 5 (by simp)
 simp only [List.getElem_cons_zero, List.getElem_cons_succ] at p_0 p_1 p_2 p_3 p_4 p_5
 have p_l := Vb_p.out.lt
 clear B_p
 go_wp2_with fail
 clear p_0 p_1 p_2 p_3 p_4 p_5 p_l
 refine (HW.out _ HPP.out).mono ?_
 rintro e w4 ⟨_, rfl, ⟨u3, u5, rfl, ho3, ho5⟩, hb⟩
 replace Vb_p := Lib.hid (Vb_p.out.below hb)
 replace HPP := Lib.hid (rpB HPP.out hb (Nat.le_refl _))
 replace HB := Lib.hid (belS HB.out hb)
 clear hb
 simp only at ho3 ho5
 obtain ⟨cb, cd, rfl⟩ := slice_of ho3
 obtain ⟨lb, ld, rfl⟩ := slice_of ho5
 have HQQ := Lib.hid (show rPart 0 _ [.string ⟨kd2.toArray⟩, .bool on2, .bool br2, .slice cb y2.length cd, .int .i64 cnt2, .slice lb z2.length ld] (⟨⟨kd2, on2, br2, y2, cnt2⟩, z2⟩ : PartD) from goodPart.mono (oPart_r ⟨_, _, rfl, ho3, ho5⟩ HSW.out) (Nat.zero_le _))
 clear ho3 ho5
 go_upto_region 5 with fail
 have hbn := Bx.new (w4) [.string ⟨kd2.toArray⟩, .bool on2, .bool br2, .slice cb y2.length cd, .int .i64 cnt2, .slice lb z2.length ld] 37
 have hbb := bx_box (w4) (.cells #[.string ⟨kd2.toArray⟩, .bool on2, .bool br2, .slice cb y2.length cd, .int .i64 cnt2, .slice lb z2.length ld] 37)
 have Vb_q := Lib.hid hbn
 clear hbn
 replace Vb_p := Lib.hid (Vb_p.out.below hbb)
 replace HPP := Lib.hid (rpB HPP.out hbb (Nat.le_refl _))
 replace HQQ := Lib.hid (rpB HQQ.out hbb (Nat.le_refl _))
 replace HB := Lib.hid (belS HB.out hbb)
 clear hbb
 have hbn := Bx.new ((w4).alloc (.cells #[.string ⟨kd2.toArray⟩, .bool on2, .bool br2, .slice cb y2.length cd, .int .i64 cnt2, .slice lb z2.length ld] 37)) [.int .i64 t0, .int .i64 t1, .string ⟨t2.toArray⟩, .int .i64 t3, .int .i64 t4] 39
 have hbb := bx_box ((w4).alloc (.cells #[.string ⟨kd2.toArray⟩, .bool on2, .bool br2, .slice cb y2.length cd, .int .i64 cnt2, .slice lb z2.length ld] 37)) (.cells #[.int .i64 t0, .int .i64 t1, .string ⟨t2.toArray⟩, .int .i64 t3, .int .i64 t4] 39)
 rw [show ((w4).alloc (.cells #[.string ⟨kd2.toArray⟩, .bool on2, .bool br2, .slice cb y2.length cd, .int .i64 cnt2, .slice lb z2.length ld] 37)).heap.size = w4.heap.size + 1 by simp] at hbn
 have Vb_r := Lib.hid hbn
 clear hbn
 replace Vb_p := Lib.hid (Vb_p.out.below hbb)
 replace Vb_q := Lib.hid (Vb_q.out.below hbb)
 replace HPP := Lib.hid (rpB HPP.out hbb (Nat.le_refl _))
 replace HQQ := Lib.hid (rpB HQQ.out hbb (Nat.le_refl _))
 replace HB := Lib.hid (belS HB.out hbb)
 clear hbb
 generalize ((w4).alloc (.cells #[.string ⟨kd2.toArray⟩, .bool on2, .bool br2, .slice cb y2.length cd, .int .i64 cnt2, .slice lb z2.length ld] 37)).alloc (.cells #[.int .i64 t0, .int .i64 t1, .string ⟨t2.toArray⟩, .int .i64 t3, .int .i64 t4] 39) = w7 at *
 have B_p := Vb_p.out
 have p_0 := Vb_p.out.cell 0 (by simp)
 have p_1 := Vb_p.out.cell 1 (by simp)
 have p_2 := Vb_p.out.cell 2 (by simp)
 have p_3 := Vb_p.out.cell 3 (by simp)
 have p_4 := Vb_p.out.cell 4 (by simp)
 have p_5 := Vb_p.out.cell 5 (by simp)
 simp only [List.getElem_cons_zero, List.getElem_cons_succ] at p_0 p_1 p_2 p_3 p_4 p_5
 have p_l := Vb_p.out.lt
 clear B_p
 go_wp2_with fail
 clear p_0 p_1 p_2 p_3 p_4 p_5 p_l
 refine (HWS.out _ HPP.out).mono ?_
 rintro e w8 ⟨_, rfl, ⟨u3, u5, rfl, ho3, ho5⟩, hb⟩
 replace Vb_p := Lib.hid (Vb_p.out.below hb)
 replace Vb_q := Lib.hid (Vb_q.out.below hb)
 replace Vb_r := Lib.hid (Vb_r.out.below hb)
 replace HPP := Lib.hid (rpB HPP.out hb (Nat.le_refl _))
 replace HQQ := Lib.hid (rpB HQQ.out hb (Nat.le_refl _))
 replace HB := Lib.hid (belS HB.out hb)
 clear hb
 simp only at ho3 ho5
 obtain ⟨ce, cf, rfl⟩ := slice_of ho3
 obtain ⟨le, lf, rfl⟩ := slice_of ho5
 clear ho3 ho5
 go_upto_region 6 with fail
 have hbn := Bx.new (w8) [.string ⟨kd2.toArray⟩, .bool on2, .bool br2, .slice ce y2.length cf, .int .i64 cnt2, .slice le z2.length lf] 37
 have hbb := bx_box (w8) (.cells #[.string ⟨kd2.toArray⟩, .bool on2, .bool br2, .slice ce y2.length cf, .int .i64 cnt2, .slice le z2.length lf] 37)
 have Vb_q9 := Lib.hid hbn
 clear hbn
 replace Vb_p := Lib.hid (Vb_p.out.below hbb)
 replace Vb_q := Lib.hid (Vb_q.out.below hbb)
 replace Vb_r := Lib.hid (Vb_r.out.below hbb)
 replace HPP := Lib.hid (rpB HPP.out hbb (Nat.le_refl _))
 replace HQQ := Lib.hid (rpB HQQ.out hbb (Nat.le_refl _))
 replace HB := Lib.hid (belS HB.out hbb)
 clear hbb
 have hbn := Bx.new ((w8).alloc (.cells #[.string ⟨kd2.toArray⟩, .bool on2, .bool br2, .slice ce y2.length cf, .int .i64 cnt2, .slice le z2.length lf] 37)) [.int .i64 t0, .int .i64 t1, .string ⟨t2.toArray⟩, .int .i64 t3, .int .i64 t4] 39
 have hbb := bx_box ((w8).alloc (.cells #[.string ⟨kd2.toArray⟩, .bool on2, .bool br2, .slice ce y2.length cf, .int .i64 cnt2, .slice le z2.length lf] 37)) (.cells #[.int .i64 t0, .int .i64 t1, .string ⟨t2.toArray⟩, .int .i64 t3, .int .i64 t4] 39)
 rw [show ((w8).alloc (.cells #[.string ⟨kd2.toArray⟩, .bool on2, .bool br2, .slice ce y2.length cf, .int .i64 cnt2, .slice le z2.length lf] 37)).heap.size = w8.heap.size + 1 by simp] at hbn
 have Vb_r9 := Lib.hid hbn
 clear hbn
 replace Vb_p := Lib.hid (Vb_p.out.below hbb)
 replace Vb_q := Lib.hid (Vb_q.out.below hbb)
 replace Vb_r := Lib.hid (Vb_r.out.below hbb)
 replace Vb_q9 := Lib.hid (Vb_q9.out.below hbb)
 replace HPP := Lib.hid (rpB HPP.out hbb (Nat.le_refl _))
 replace HQQ := Lib.hid (rpB HQQ.out hbb (Nat.le_refl _))
 replace HB := Lib.hid (belS HB.out hbb)
 clear hbb
 generalize ((w8).alloc (.cells #[.string ⟨kd2.toArray⟩, .bool on2, .bool br2, .slice ce y2.length cf, .int .i64 cnt2, .slice le z2.length lf] 37)).alloc (.cells #[.int .i64 t0, .int .i64 t1, .string ⟨t2.toArray⟩, .int .i64 t3, .int .i64 t4] 39) = w11 at *
 have B_r := Vb_r.out
 have r_0 := Vb_r.out.cell 0 (by simp)
 have r_1 := Vb_r.out.cell 1 (by simp)
 have r_2 := Vb_r.out.cell 2 (by simp)
 have r_3 := Vb_r.out.cell 3 (by simp)
 have r_4 := Vb_r.out.cell 4 (by simp)
 simp only [List.getElem_cons_zero, List.getElem_cons_succ] at r_0 r_1 r_2 r_3 r_4
 have r_l := Vb_r.out.lt
 clear B_r
 have B_r9 := Vb_r9.out
 have r9_0 := Vb_r9.out.cell 0 (by simp)
 have r9_1 := Vb_r9.out.cell 1 (by simp)
 have r9_2 := Vb_r9.out.cell 2 (by simp)
 have r9_3 := Vb_r9.out.cell 3 (by simp)
 have r9_4 := Vb_r9.out.cell 4 (by simp)
 simp only [List.getElem_cons_zero, List.getElem_cons_succ] at r9_0 r9_1 r9_2 r9_3 r9_4
 have r9_l := Vb_r9.out.lt
 clear B_r9
 by_cases ht : t0 = 0
 ·skip
  obtain ⟨e1, e2, e3, e4⟩ := HTW.out ht
  obtain ⟨f1, f2, f3⟩ := HTV.out e1 e4
  rw [← e2] at f1 f2 f3
  simp only at f1 f2 f3
  have HF2 := Lib.hid f2
  have HF3 := Lib.hid f3
  clear f2 f3 e2 HTW HTV
  subst e1
  subst f1
  subst ht
  have HV := Lib.hid (show wrap64 (2 * c1) = 2 * c1 by unfold wrap64; omega)
  have HC1 := Lib.hid e3
  clear e3 e4
  go_upto_region 10 with fail
  clear r_0 r_1 r_2 r_3 r_4 r_l r9_0 r9_1 r9_2 r9_3 r9_4 r9_l
  have B_p := Vb_p.out
  have p_0 := Vb_p.out.cell 0 (by simp)
  have p_1 := Vb_p.out.cell 1 (by simp)
  have p_2 := Vb_p.out.cell 2 (by simp)
  have p_3 := Vb_p.out.cell 3 (by simp)
  have p_4 := Vb_p.out.cell 4 (by simp)
  have p_5 := Vb_p.out.cell 5 (by simp)
  simp only [List.getElem_cons_zero, List.getElem_cons_succ] at p_0 p_1 p_2 p_3 p_4 p_5
  have p_l := Vb_p.out.lt
  clear B_p
  go_wp2_with fail
  clear p_0 p_1 p_2 p_3 p_4 p_5 p_l
  refine (HCC.out _ HPP.out (HMX.out _ HB.out)).mono ?_
  rintro e w12 ⟨_, rfl, ⟨u3, u5, rfl, ho3, ho5⟩, hb⟩
  replace Vb_p := Lib.hid (Vb_p.out.below hb)
  replace Vb_q := Lib.hid (Vb_q.out.below hb)
  replace Vb_r := Lib.hid (Vb_r.out.below hb)
  replace Vb_q9 := Lib.hid (Vb_q9.out.below hb)
  replace Vb_r9 := Lib.hid (Vb_r9.out.below hb)
  replace HPP := Lib.hid (rpB HPP.out hb (Nat.le_refl _))
  replace HQQ := Lib.hid (rpB HQQ.out hb (Nat.le_refl _))
  replace HB := Lib.hid (belS HB.out hb)
  clear hb
  simp only at ho3 ho5
  obtain ⟨cg, ch, rfl⟩ := slice_of ho3
  obtain ⟨lg, lh, rfl⟩ := slice_of ho5
  clear ho3 ho5
  go_upto_region 11 with fail
  have hbn := Bx.new (w12) [.string ⟨k1.toArray⟩, .bool n1, .bool b1, .slice cg y1.length ch, .int .i64 m1, .slice lg z1.length lh] 37
  have hbb := bx_box (w12) (.cells #[.string ⟨k1.toArray⟩, .bool n1, .bool b1, .slice cg y1.length ch, .int .i64 m1, .slice lg z1.length lh] 37)
  have Vb_u := Lib.hid hbn
  clear hbn
  replace Vb_p := Lib.hid (Vb_p.out.below hbb)
  replace Vb_q := Lib.hid (Vb_q.out.below hbb)
  replace Vb_r := Lib.hid (Vb_r.out.below hbb)
  replace Vb_q9 := Lib.hid (Vb_q9.out.below hbb)
  replace Vb_r9 := Lib.hid (Vb_r9.out.below hbb)
  replace HPP := Lib.hid (rpB HPP.out hbb (Nat.le_refl _))
  replace HQQ := Lib.hid (rpB HQQ.out hbb (Nat.le_refl _))
  replace HB := Lib.hid (belS HB.out hbb)
  clear hbb
  have hbn := Bx.new ((w12).alloc (.cells #[.string ⟨k1.toArray⟩, .bool n1, .bool b1, .slice cg y1.length ch, .int .i64 m1, .slice lg z1.length lh] 37)) [.int .i64 0, .int .i64 c1, .string ⟨c2.toArray⟩, .int .i64 c3, .int .i64 c4] 39
  have hbb := bx_box ((w12).alloc (.cells #[.string ⟨k1.toArray⟩, .bool n1, .bool b1, .slice cg y1.length ch, .int .i64 m1, .slice lg z1.length lh] 37)) (.cells #[.int .i64 0, .int .i64 c1, .string ⟨c2.toArray⟩, .int .i64 c3, .int .i64 c4] 39)
  rw [show ((w12).alloc (.cells #[.string ⟨k1.toArray⟩, .bool n1, .bool b1, .slice cg y1.length ch, .int .i64 m1, .slice lg z1.length lh] 37)).heap.size = w12.heap.size + 1 by simp] at hbn
  have Vb_s := Lib.hid hbn
  clear hbn
  replace Vb_p := Lib.hid (Vb_p.out.below hbb)
  replace Vb_q := Lib.hid (Vb_q.out.below hbb)
  replace Vb_r := Lib.hid (Vb_r.out.below hbb)
  replace Vb_q9 := Lib.hid (Vb_q9.out.below hbb)
  replace Vb_r9 := Lib.hid (Vb_r9.out.below hbb)
  replace Vb_u := Lib.hid (Vb_u.out.below hbb)
  replace HPP := Lib.hid (rpB HPP.out hbb (Nat.le_refl _))
  replace HQQ := Lib.hid (rpB HQQ.out hbb (Nat.le_refl _))
  replace HB := Lib.hid (belS HB.out hbb)
  clear hbb
  generalize ((w12).alloc (.cells #[.string ⟨k1.toArray⟩, .bool n1, .bool b1, .slice cg y1.length ch, .int .i64 m1, .slice lg z1.length lh] 37)).alloc (.cells #[.int .i64 0, .int .i64 c1, .string ⟨c2.toArray⟩, .int .i64 c3, .int .i64 c4] 39) = w15 at *
  have B_q := Vb_q.out
  have q_0 := Vb_q.out.cell 0 (by simp)
  have q_1 := Vb_q.out.cell 1 (by simp)
  have q_2 := Vb_q.out.cell 2 (by simp)
  have q_3 := Vb_q.out.cell 3 (by simp)
  have q_4 := Vb_q.out.cell 4 (by simp)
  have q_5 := Vb_q.out.cell 5 (by simp)
  simp only [List.getElem_cons_zero, List.getElem_cons_succ] at q_0 q_1 q_2 q_3 q_4 q_5
  have q_l := Vb_q.out.lt
  clear B_q
  go_wp2_with fail
  clear q_0 q_1 q_2 q_3 q_4 q_5 q_l
  refine (HCQ.out _ _ HQQ.out (HMX.out _ HB.out)).mono ?_
  rintro e w16 ⟨_, rfl, ⟨u3, u5, rfl, ho3, ho5⟩, hb⟩
  replace Vb_p := Lib.hid (Vb_p.out.below hb)
  replace Vb_q := Lib.hid (Vb_q.out.below hb)
  replace Vb_r := Lib.hid (Vb_r.out.below hb)
  replace Vb_q9 := Lib.hid (Vb_q9.out.below hb)
  replace Vb_r9 := Lib.hid (Vb_r9.out.below hb)
  replace Vb_u := Lib.hid (Vb_u.out.below hb)
  replace Vb_s := Lib.hid (Vb_s.out.below hb)
  replace HPP := Lib.hid (rpB HPP.out hb (Nat.le_refl _))
  replace HQQ := Lib.hid (rpB HQQ.out hb (Nat.le_refl _))
  replace HB := Lib.hid (belS HB.out hb)
  clear hb
  simp only at ho3 ho5
  obtain ⟨ci, cj, rfl⟩ := slice_of ho3
  obtain ⟨li, lj, rfl⟩ := slice_of ho5
  clear ho3 ho5
  go_upto_region 12 with fail
  have hbn := Bx.new (w16) [.string ⟨k3.toArray⟩, .bool n3, .bool b3, .slice ci y3.length cj, .int .i64 m3, .slice li z3.length lj] 37
  have hbb := bx_box (w16) (.cells #[.string ⟨k3.toArray⟩, .bool n3, .bool b3, .slice ci y3.length cj, .int .i64 m3, .slice li z3.length lj] 37)
  have Vb_v := Lib.hid hbn
  clear hbn
  replace Vb_p := Lib.hid (Vb_p.out.below hbb)
  replace Vb_q := Lib.hid (Vb_q.out.below hbb)
  replace Vb_r := Lib.hid (Vb_r.out.below hbb)
  replace Vb_q9 := Lib.hid (Vb_q9.out.below hbb)
  replace Vb_r9 := Lib.hid (Vb_r9.out.below hbb)
  replace Vb_u := Lib.hid (Vb_u.out.below hbb)
  replace Vb_s := Lib.hid (Vb_s.out.below hbb)
  replace HPP := Lib.hid (rpB HPP.out hbb (Nat.le_refl _))
  replace HQQ := Lib.hid (rpB HQQ.out hbb (Nat.le_refl _))
  replace HB := Lib.hid (belS HB.out hbb)
  clear hbb
  have hbn := Bx.new ((w16).alloc (.cells #[.string ⟨k3.toArray⟩, .bool n3, .bool b3, .slice ci y3.length cj, .int .i64 m3, .slice li z3.length lj] 37)) [.int .i64 0, .int .i64 d1, .string ⟨d2.toArray⟩, .int .i64 d3, .int .i64 d4] 39
  have hbb := bx_box ((w16).alloc (.cells #[.string ⟨k3.toArray⟩, .bool n3, .bool b3, .slice ci y3.length cj, .int .i64 m3, .slice li z3.length lj] 37)) (.cells #[.int .i64 0, .int .i64 d1, .string ⟨d2.toArray⟩, .int .i64 d3, .int .i64 d4] 39)
  rw [show ((w16).alloc (.cells #[.string ⟨k3.toArray⟩, .bool n3, .bool b3, .slice ci y3.length cj, .int .i64 m3, .slice li z3.length lj] 37)).heap.size = w16.heap.size + 1 by simp] at hbn
  have Vb_t := Lib.hid hbn
  clear hbn
  replace Vb_p := Lib.hid (Vb_p.out.below hbb)
  replace Vb_q := Lib.hid (Vb_q.out.below hbb)
  replace Vb_r := Lib.hid (Vb_r.out.below hbb)
  replace Vb_q9 := Lib.hid (Vb_q9.out.below hbb)
  replace Vb_r9 := Lib.hid (Vb_r9.out.below hbb)
  replace Vb_u := Lib.hid (Vb_u.out.below hbb)
  replace Vb_s := Lib.hid (Vb_s.out.below hbb)
  replace Vb_v := Lib.hid (Vb_v.out.below hbb)
  replace HPP := Lib.hid (rpB HPP.out hbb (Nat.le_refl _))
  replace HQQ := Lib.hid (rpB HQQ.out hbb (Nat.le_refl _))
  replace HB := Lib.hid (belS HB.out hbb)
  clear hbb
  generalize ((w16).alloc (.cells #[.string ⟨k3.toArray⟩, .bool n3, .bool b3, .slice ci y3.length cj, .int .i64 m3, .slice li z3.length lj] 37)).alloc (.cells #[.int .i64 0, .int .i64 d1, .string ⟨d2.toArray⟩, .int .i64 d3, .int .i64 d4] 39) = w19 at *
  have B_s := Vb_s.out
  have s_0 := Vb_s.out.cell 0 (by simp)
  have s_1 := Vb_s.out.cell 1 (by simp)
  have s_2 := Vb_s.out.cell 2 (by simp)
  have s_3 := Vb_s.out.cell 3 (by simp)
  have s_4 := Vb_s.out.cell 4 (by simp)
  simp only [List.getElem_cons_zero, List.getElem_cons_succ] at s_0 s_1 s_2 s_3 s_4
  have s_l := Vb_s.out.lt
  clear B_s
  have B_t := Vb_t.out
  have t_0 := Vb_t.out.cell 0 (by simp)
  have t_1 := Vb_t.out.cell 1 (by simp)
  have t_2 := Vb_t.out.cell 2 (by simp)
  have t_3 := Vb_t.out.cell 3 (by simp)
  have t_4 := Vb_t.out.cell 4 (by simp)
  simp only [List.getElem_cons_zero, List.getElem_cons_succ] at t_0 t_1 t_2 t_3 t_4
  have t_l := Vb_t.out.lt
  clear B_t
  have hv := HV.out
  by_cases hbg : 999 < 2 * c1
  ·skip
   have e5 := HF2.out hbg
   subst e5
   go_wp2_with fail
   clear s_0 s_1 s_2 s_3 s_4 s_l t_0 t_1 t_2 t_3 t_4 t_l
   go_ret
   exact ⟨rfl, HB.out⟩
  ·skip
   have e5 := HF3.out (by omega)
   subst e5
   have hbg2 : decide ((999 : Int) < 2 * c1) = false := decide_eq_false hbg
   replace hbg := Lib.hid hbg
   go_wp2_with fail
   clear s_0 s_1 s_2 s_3 s_4 s_l t_0 t_1 t_2 t_3 t_4 t_l
   go_ret
   exact ⟨rfl, HB.out⟩
 ·skip
  have hn : (t0 != 0) = true := by simpa using ht
  replace ht := Lib.hid ht
  go_wp2_with fail
  clear r_0 r_1 r_2 r_3 r_4 r_l r9_0 r9_1 r9_2 r9_3 r9_4 r9_l
  go_ret
  exact ⟨rfl, HB.out⟩
set_option maxRecDepth 100000 in
theorem fnTwice_lifted (os : Os) (started : os.Started) (H : Type) (enc : TypeId × Value → H) :
  ReturnsInHanded {} Tryz.checked os 13 .any (Rows.fnTwiceSpec.pre6 enc Tryz.prog Tryz.f13 Rows.fnTwiceRow.domain false) (Rows.fnTwiceSpec.post enc Tryz.prog Tryz.f13 false true false false) := by
 refine returnsInHanded_of_change_shaped (C := Tryz.checked) ownK started (by kernel_rfl) Tryz.func13
  (ChangeSpec.witness6 (enc := enc) (C := Tryz.checked) false ⟨#[], #[.slice none 0 0], []⟩ 8 (by kernel_rfl) (by kernel_rfl) (by kernel_rfl) (by kernel_rfl)) ?_
 intro W base args ds gs before hval0 hW _ _ hsh _
 have hval : ∀ (j : Nat) t v, Tryz.f13.params[j]? = some t → args[j]? = some v → Value.okWide Tryz.prog W .any base t v := hval0
 have hW' := hW
 obtain ⟨p, q, hA0, _, rfl, _, _⟩ := hW
 have hA : DataW.TrodAll enc Tryz.prog W 0 (fun _ => true) true Tryz.f13.params.toList args.toList ds p := hA0
 rw [Tryz.params13] at hA hval
 obtain ⟨v0, vs0, d0, ds0, p0, q0, hargs, rfl, rfl, h0, r0⟩ := trodAll_cons hA
 obtain ⟨rfl, rfl, rfl⟩ := trodAll_nil r0
 obtain rfl : args = #[v0] := by cases args; simp_all
 obtain ⟨l0, w0⟩ := open_byteRow Tryz.underlying68 Tryz.underlying5 (by kernel_rfl) (hval 0 68 v0 rfl rfl) h0
 clear hA0 hval0
 obtain ⟨m, hm⟩ := Tryz.laysM143.s1_3 W hsh
 refine (fnTwice_any v0 l0 W w0 m hm).mono fun e W1 ⟨he, hb⟩ => ?_
 subst he
 exact ⟨_, rfl, law_post laidK rfl (by kernel_rfl) Tryz.underlying4 (by kernel_rfl) (fun ds h => by match ds, h with | [_], _ => rfl) hW' hb⟩
theorem fnTwice_closed : joinedFacts Tryz.prog 13 Tryz.f13 Rows.fnTwiceSpec Rows.fnTwiceRow = true := by unfold joinedFacts; rw [mayEnter_k, liftsFinal_k, make_k]; kernel_rfl
theorem fnTwice_holds : Rows.FnTwiceSaid :=
 OpenClaim.holds_of_wide 13 Tryz.f13 rfl rfl rfl rfl rfl rfl rfl ⟨rfl, rfl, rfl, rfl, rfl⟩ rfl rfl rfl rfl rfl (by kernel_rfl) Tryz.func13 fnTwice_closed
  (of_decide_eq_true (by kernel_rfl)) (by unfold Func.isWrapper; first | (rw [if_pos (by decide +kernel)]; kernel_rfl) | (rw [if_neg (by decide +kernel)]; exact ⟨rfl, rfl⟩))
  (fun os started H enc _ => fnTwice_lifted os started H enc)
end Go.Proofs.YtcpbikilgacdlaaGreat
