/- FnCounts: through counts, Tell tells how often something was put or got, at every code that is drawn from. No condition. -/
import Derived.Test.YtcpbikilgacdlaaGreatCthM3
import Derived.Test.YtcpbikilgacdlaaGreatCthM5
import Derived.Test.YtcpbikilgacdlaaGreatCthM1
import Derived.Test.YtcpbikilgacdlaaGreatCthM0
import Derived.HandedShaped
import Derived.Deep.CutRange
import Derived.Deep.QuietTactic
import Derived.BigQuiet
namespace Go.Proofs.YtcpbikilgacdlaaGreat
set_option linter.unusedVariables false
set_option linter.unusedSimpArgs false
open Go.ChangeShapes Go.WideShapes Go.ChangeAt Go.RowKit Go.WideMaps Go.WideElems
open Go.ChangeMaps (open_string shut_string)
theorem belL {a w w' : World} {B : Nat} (h : Below a.heap.size a w) (hb : Below B w w') (hB : w.heap.size ≤ B) : Below a.heap.size a w' := h.trans (hb.mono (Nat.le_trans h.size hB))
set_option maxRecDepth 100000 in
set_option maxHeartbeats 6400000 in
theorem fnCounts_any (v : Value) (l : List UInt8) (w : World) (hR : RowAt w v (Lib.byteCells l)) (mx : Int) (hM : w.cell? ⟨0, 0, none⟩ = some (.int .i64 mx)) :
  Calls Tryz.prog 11 #[v] w fun e w' => e = .returned (.bool true) ∧ Below w.heap.size w w' := by
 have HR := Lib.hid hR
 have HBG := Lib.hid (big_any v l w hR)
 have hMl := World.block_lt_of_cell? w _ hM
 simp only at hMl
 have HMX := Lib.hid (fun W (hw : Below w.heap.size w W) => (hw.cell (p := ⟨0, 0, none⟩) hMl).trans hM)
 clear hR hM hMl
 go_enter Tryz.func11, Tryz.ntmps11
 go_wp2_with fail
 refine HBG.out.mono ?_
 rintro e w' ⟨rfl, rfl⟩
 by_cases hbig : 4096 < l.length
 ·go_wp2_with fail
  go_ret
  exact ⟨rfl, Below.refl _ _⟩
 have hd : decide (4096 < l.length) = false := by simpa using hbig
 clear hbig
 rw [hd]
 clear hd HBG
 go_wp2_with fail
 refine (drawPart_any v l w HR.out).mono ?_
 rintro e w1 ⟨⟨⟨kd, on, br, y, cnt⟩, z⟩, cv, lv, xv, xl, rfl, ho3, ho5, hox, hok, hxl, hokx, hb⟩
 simp only at ho3 ho5
 obtain ⟨ca, cc, rfl⟩ := slice_of ho3
 obtain ⟨la, lc, rfl⟩ := slice_of ho5
 have HB := Lib.hid hb
 have HSM := Lib.hid (okPt_small hok (by decide))
 have HKY := Lib.hid (okPt_keys hok)
 have HPP := Lib.hid (show rPart 0 _ [.string ⟨kd.toArray⟩, .bool on, .bool br, .slice ca y.length cc, .int .i64 cnt, .slice la z.length lc] (⟨⟨kd, on, br, y, cnt⟩, z⟩ : PartD) from goodPart.mono (oPart_r ⟨_, _, rfl, ho3, ho5⟩ (okPt_small hok (by decide))) (Nat.zero_le _))
 have HXL := Lib.hid hxl
 have HXO := Lib.hid hokx
 have HXX := Lib.hid (ownsF_at hox (show xl.length ≤ 4194304 by omega))
 obtain ⟨xa, xc, rfl, _⟩ := flatAt_len HXX.out
 clear ho3 ho5 hok hox hxl hokx hb HR
 go_upto_region 4 with fail
 have hbn := Bx.new (w1) [.string ⟨kd.toArray⟩, .bool on, .bool br, .slice ca y.length cc, .int .i64 cnt, .slice la z.length lc] 37
 have hbb := bx_box (w1) (.cells #[.string ⟨kd.toArray⟩, .bool on, .bool br, .slice ca y.length cc, .int .i64 cnt, .slice la z.length lc] 37)
 have Vb_p := Lib.hid hbn
 clear hbn
 replace HXX := Lib.hid (FlatAt.below HXX.out hbb (Nat.le_refl _))
 replace HPP := Lib.hid (rpB HPP.out hbb (Nat.le_refl _))
 replace HB := Lib.hid (belS HB.out hbb)
 clear hbb
 generalize (w1).alloc (.cells #[.string ⟨kd.toArray⟩, .bool on, .bool br, .slice ca y.length cc, .int .i64 cnt, .slice la z.length lc] 37) = w3 at *
 have HW := Lib.hid (fun W (h : rPart 0 W [.string ⟨kd.toArray⟩, .bool on, .bool br, .slice ca y.length cc, .int .i64 cnt, .slice la z.length lc] (⟨⟨kd, on, br, y, cnt⟩, z⟩ : PartD)) => implWrap_any (.agg #[.string ⟨kd.toArray⟩, .bool on, .bool br, .slice ca y.length cc, .int .i64 cnt, .slice la z.length lc]) (⟨⟨kd, on, br, y, cnt⟩, z⟩ : PartD) ⟨(nCounts).toArray⟩ W (⟨_, rfl, h⟩ : ValAt rPart 0 W (.agg #[.string ⟨kd.toArray⟩, .bool on, .bool br, .slice ca y.length cc, .int .i64 cnt, .slice la z.length lc]) (⟨⟨kd, on, br, y, cnt⟩, z⟩ : PartD)) HSM.out HKY.out (by decide))
 simp only [List.toList_toArray] at HW
 have HSW := Lib.hid (wrapP_small HSM.out nCounts)
 have HKW := Lib.hid (show ∀ c ∈ (wrapP (⟨⟨kd, on, br, y, cnt⟩, z⟩ : PartD) nCounts).fCore.fCells, c.fKey.length ≤ maxLen from by rw [wrapP_core]; exact HKY.out)
 have HWI := Lib.hid (show (wrapR (⟨⟨kd, on, br, y, cnt⟩, z⟩ : PartD) nCounts).fCode = wrapI (⟨⟨kd, on, br, y, cnt⟩, z⟩ : PartD) nCounts from rfl)
 have HTP := Lib.hid (fun h => @topL_wrap (⟨⟨kd, on, br, y, cnt⟩, z⟩ : PartD) nCounts _ h lay_counts rfl)
 generalize wrapI (⟨⟨kd, on, br, y, cnt⟩, z⟩ : PartD) nCounts = wi at *
 generalize wrapP (⟨⟨kd, on, br, y, cnt⟩, z⟩ : PartD) nCounts = p2 at *
 generalize wrapR (⟨⟨kd, on, br, y, cnt⟩, z⟩ : PartD) nCounts = r2 at *
 obtain ⟨⟨kd2, on2, br2, y2, cnt2⟩, z2⟩ := p2
 obtain ⟨t0, t1, t2, t3, t4⟩ := r2
 unfold GivesOPR vReply at HW
 simp only at HW HWI HTP
 have hwi := HWI.out
 subst hwi
 clear HWI
 have B_p := Vb_p.out
 have p_0 := Vb_p.out.cell 0 (by simp)
 have p_1 := Vb_p.out.cell 1 (by simp)
 have p_2 := Vb_p.out.cell 2 (by simp)
 have p_3 := Vb_p.out.cell 3 (by simp)
 have p_4 := Vb_p.out.cell 4 (by simp)
 have p_5 := Vb_p.out.cell 5 (by simp)
 simp only [List.getElem_cons_zero, List.getElem_cons_succ] at p_0 p_1 p_2 p_3 p_4 p_5
 have p_l := Vb_p.out.lt
 clear B_p
 go_wp2_with fail
 clear p_0 p_1 p_2 p_3 p_4 p_5 p_l
 refine (HW.out _ HPP.out).mono ?_
 rintro e w4 ⟨_, rfl, ⟨u3, u5, rfl, ho3, ho5⟩, hb⟩
 replace Vb_p := Lib.hid (Vb_p.out.below hb)
 replace HXX := Lib.hid (FlatAt.below HXX.out hb (Nat.le_refl _))
 replace HPP := Lib.hid (rpB HPP.out hb (Nat.le_refl _))
 replace HB := Lib.hid (belS HB.out hb)
 clear hb
 simp only at ho3 ho5
 obtain ⟨cb, cd, rfl⟩ := slice_of ho3
 obtain ⟨lb, ld, rfl⟩ := slice_of ho5
 have HQQ := Lib.hid (show rPart 0 _ [.string ⟨kd2.toArray⟩, .bool on2, .bool br2, .slice cb y2.length cd, .int .i64 cnt2, .slice lb z2.length ld] (⟨⟨kd2, on2, br2, y2, cnt2⟩, z2⟩ : PartD) from goodPart.mono (oPart_r ⟨_, _, rfl, ho3, ho5⟩ HSW.out) (Nat.zero_le _))
 clear ho3 ho5
 have HX0 := Lib.hid HXX.out
 have HBW0 := Lib.hid HB.out.size
 have HB2 := Lib.hid (Below.refl w4.heap.size w4)
 go_upto_region 5 with fail
 have hbn := Bx.new (w4) [.string ⟨kd2.toArray⟩, .bool on2, .bool br2, .slice cb y2.length cd, .int .i64 cnt2, .slice lb z2.length ld] 37
 have hbb := bx_box (w4) (.cells #[.string ⟨kd2.toArray⟩, .bool on2, .bool br2, .slice cb y2.length cd, .int .i64 cnt2, .slice lb z2.length ld] 37)
 have Vb_q := Lib.hid hbn
 clear hbn
 replace Vb_p := Lib.hid (Vb_p.out.below hbb)
 replace HXX := Lib.hid (FlatAt.below HXX.out hbb (Nat.le_refl _))
 replace HPP := Lib.hid (rpB HPP.out hbb (Nat.le_refl _))
 replace HQQ := Lib.hid (rpB HQQ.out hbb (Nat.le_refl _))
 replace HB2 := Lib.hid (belL HB2.out hbb (Nat.le_refl _))
 replace HB := Lib.hid (belS HB.out hbb)
 clear hbb
 have hbn := Bx.new ((w4).alloc (.cells #[.string ⟨kd2.toArray⟩, .bool on2, .bool br2, .slice cb y2.length cd, .int .i64 cnt2, .slice lb z2.length ld] 37)) [.int .i64 t0, .int .i64 t1, .string ⟨t2.toArray⟩, .int .i64 t3, .int .i64 t4] 39
 have hbb := bx_box ((w4).alloc (.cells #[.string ⟨kd2.toArray⟩, .bool on2, .bool br2, .slice cb y2.length cd, .int .i64 cnt2, .slice lb z2.length ld] 37)) (.cells #[.int .i64 t0, .int .i64 t1, .string ⟨t2.toArray⟩, .int .i64 t3, .int .i64 t4] 39)
 rw [show ((w4).alloc (.cells #[.string ⟨kd2.toArray⟩, .bool on2, .bool br2, .slice cb y2.length cd, .int .i64 cnt2, .slice lb z2.length ld] 37)).heap.size = w4.heap.size + 1 by simp] at hbn
 have Vb_r := Lib.hid hbn
 clear hbn
 replace Vb_p := Lib.hid (Vb_p.out.below hbb)
 replace Vb_q := Lib.hid (Vb_q.out.below hbb)
 replace HXX := Lib.hid (FlatAt.below HXX.out hbb (Nat.le_refl _))
 replace HPP := Lib.hid (rpB HPP.out hbb (Nat.le_refl _))
 replace HQQ := Lib.hid (rpB HQQ.out hbb (Nat.le_refl _))
 replace HB2 := Lib.hid (belL HB2.out hbb (Nat.le_refl _))
 replace HB := Lib.hid (belS HB.out hbb)
 clear hbb
 generalize ((w4).alloc (.cells #[.string ⟨kd2.toArray⟩, .bool on2, .bool br2, .slice cb y2.length cd, .int .i64 cnt2, .slice lb z2.length ld] 37)).alloc (.cells #[.int .i64 t0, .int .i64 t1, .string ⟨t2.toArray⟩, .int .i64 t3, .int .i64 t4] 39) = w7 at *
 have B_r := Vb_r.out
 have r_0 := Vb_r.out.cell 0 (by simp)
 have r_1 := Vb_r.out.cell 1 (by simp)
 have r_2 := Vb_r.out.cell 2 (by simp)
 have r_3 := Vb_r.out.cell 3 (by simp)
 have r_4 := Vb_r.out.cell 4 (by simp)
 simp only [List.getElem_cons_zero, List.getElem_cons_succ] at r_0 r_1 r_2 r_3 r_4
 have r_l := Vb_r.out.lt
 clear B_r
 by_cases ht : t0 = 0
 ·skip
  have HT0 := Lib.hid (HTP.out ht)
  subst ht
  clear HTP
  go_upto_region 9 with fail
  clear r_0 r_1 r_2 r_3 r_4 r_l
  go_loopw [7, 8, 9, 10, 11, 12] (fun nv iv _ _ _ _ wr => ∃ (i : Nat) (n : Int) (kd2 : List UInt8) (on2 br2 : Bool) (cb lb : Option Addr) (cd ld : Nat) (y2 : List CellD) (cnt2 : Int) (z2 : List LayerD) (p3 : PartD), nv = .int .i64 n ∧ iv = .int .i64 i ∧ i ≤ xl.length ∧ 0 ≤ n ∧ n ≤ i ∧ TopL (⟨⟨kd2, on2, br2, y2, cnt2⟩, z2⟩ : PartD) p3 ⟨nCounts, n⟩ 3 ∧ rPart 0 wr [.string ⟨kd2.toArray⟩, .bool on2, .bool br2, .slice cb y2.length cd, .int .i64 cnt2, .slice lb z2.length ld] (⟨⟨kd2, on2, br2, y2, cnt2⟩, z2⟩ : PartD) ∧ Bx wr (w4.heap.size) [.string ⟨kd2.toArray⟩, .bool on2, .bool br2, .slice cb y2.length cd, .int .i64 cnt2, .slice lb z2.length ld] ∧ Below w.heap.size w wr ∧ Below w4.heap.size w4 wr) (fun _ iv _ _ _ _ _ => xl.length - (intOf iv).toNat)
  case atStart => exact ⟨0, 0, kd2, on2, br2, cb, lb, cd, ld, y2, cnt2, z2, _, rfl, rfl, Nat.zero_le _, Int.le_refl _, by simp, HT0.out, HQQ.out, Vb_q.out, HB.out, HB2.out⟩
  case round =>
   clear HQQ Vb_q HB HB2 HT0 HSW HKW HW
   obtain ⟨i, n, kd2, on2, br2, cb, lb, cd, ld, y2, cnt2, z2, p3, rfl, rfl, hi, hn0, hni, htop, hrq, hbq, hbl, hbl2⟩ := hrel
   have HTO := Lib.hid htop
   have HQQ := Lib.hid hrq
   have Vb_q := Lib.hid hbq
   have HB := Lib.hid hbl
   have HB2 := Lib.hid hbl2
   clear htop hrq hbq hbl hbl2
   by_cases hlt : i < xl.length
   ·skip
    have hic : (i : Int) < (xl.length : Int) := by omega
    obtain ⟨xb, xo, rfl, hxw, hd⟩ := flatAt_cell cCall_len HX0.out i hlt (by decide)
    have e0 := hd 0 (by decide)
    have e1 := hd 1 (by decide)
    have e2 := hd 2 (by decide)
    have e3 := hd 3 (by decide)
    clear hd
    have hok := HXO.out xl[i] (List.getElem_mem hlt)
    generalize xl[i] = x at *
    obtain ⟨m, k, n2, t⟩ := x
    simp only [cCall, List.getElem?_cons_zero, List.getElem?_cons_succ, Nat.add_zero] at e0 e1 e2 e3
    have HE0 := Lib.hid e0
    have hQl := Vb_q.out.lt
    have hww := HB.out.size
    have hwb := HBW0.out
    have HOX := Lib.hid hok.1
    have hxl6 := HXL.out
    have HST := Lib.hid (cnt_step HTO.out hok.2 (by omega))
    have HCQ := Lib.hid (fun cs W (h : rPart 0 W cs (⟨⟨kd2, on2, br2, y2, cnt2⟩, z2⟩ : PartD)) (hM : W.cell? ⟨0, 0, none⟩ = some (.int .i64 mx)) => implCallPart_c (.agg cs.toArray) (⟨⟨kd2, on2, br2, y2, cnt2⟩, z2⟩ : PartD) (⟨m, k, n2, t⟩ : CallD) mx W ⟨cs, rfl, h⟩ (smallP_of (Nat.le_trans (partB_small HTO.out.part) (by decide))) (Nat.le_trans HOX.out.2.1 (by decide)) (Nat.le_trans HOX.out.2.2.2 (by decide)) hM)
    clear hok
    generalize chgP (⟨⟨kd2, on2, br2, y2, cnt2⟩, z2⟩ : PartD) (⟨m, k, n2, t⟩ : CallD) = o1 at *
    obtain ⟨⟨⟨k1, n1, b1, y1, m1⟩, z1⟩, c0, c1, c2, c3, c4⟩ := o1
    unfold GivesOPR vReply at HCQ
    unfold vCall at HCQ
    simp only at HCQ HST
    go_upto_region 11 with fail
    have HSof := Lib.hid (fun W (h : Below wr.heap.size wr W) => (show W.cell? ⟨w4.heap.size, 0, none⟩ = some (.string ⟨kd2.toArray⟩) ∧ W.cell? ⟨w4.heap.size, 1, none⟩ = some (.bool on2) ∧ W.cell? ⟨w4.heap.size, 2, none⟩ = some (.bool br2) ∧ W.cell? ⟨w4.heap.size, 3, none⟩ = some (.slice cb y2.length cd) ∧ W.cell? ⟨w4.heap.size, 4, none⟩ = some (.int .i64 cnt2) ∧ W.cell? ⟨w4.heap.size, 5, none⟩ = some (.slice lb z2.length ld) ∧ W.cell? ⟨xb, xo + i * 4, none⟩ = some (.string ⟨m.toArray⟩) ∧ W.cell? ⟨xb, xo + i * 4 + 1, none⟩ = some (.string ⟨k.toArray⟩) ∧ W.cell? ⟨xb, xo + i * 4 + 2, none⟩ = some (.int .i64 n2) ∧ W.cell? ⟨xb, xo + i * 4 + 3, none⟩ = some (.string ⟨t.toArray⟩) from ⟨(h.cell (p := ⟨w4.heap.size, 0, none⟩) Vb_q.out.lt).trans (Vb_q.out.cell 0 (by simp)), (h.cell (p := ⟨w4.heap.size, 1, none⟩) Vb_q.out.lt).trans (Vb_q.out.cell 1 (by simp)), (h.cell (p := ⟨w4.heap.size, 2, none⟩) Vb_q.out.lt).trans (Vb_q.out.cell 2 (by simp)), (h.cell (p := ⟨w4.heap.size, 3, none⟩) Vb_q.out.lt).trans (Vb_q.out.cell 3 (by simp)), (h.cell (p := ⟨w4.heap.size, 4, none⟩) Vb_q.out.lt).trans (Vb_q.out.cell 4 (by simp)), (h.cell (p := ⟨w4.heap.size, 5, none⟩) Vb_q.out.lt).trans (Vb_q.out.cell 5 (by simp)), (h.cell (p := ⟨xb, xo + i * 4, none⟩) (Nat.lt_of_lt_of_le hxw HB2.out.size)).trans ((HB2.out.cell (p := ⟨xb, xo + i * 4, none⟩) hxw).trans e0), (h.cell (p := ⟨xb, xo + i * 4 + 1, none⟩) (Nat.lt_of_lt_of_le hxw HB2.out.size)).trans ((HB2.out.cell (p := ⟨xb, xo + i * 4 + 1, none⟩) hxw).trans e1), (h.cell (p := ⟨xb, xo + i * 4 + 2, none⟩) (Nat.lt_of_lt_of_le hxw HB2.out.size)).trans ((HB2.out.cell (p := ⟨xb, xo + i * 4 + 2, none⟩) hxw).trans e2), (h.cell (p := ⟨xb, xo + i * 4 + 3, none⟩) (Nat.lt_of_lt_of_le hxw HB2.out.size)).trans ((HB2.out.cell (p := ⟨xb, xo + i * 4 + 3, none⟩) hxw).trans e3)⟩))
    have HFS := Lib.hid (show ∀ W W' : World, (W.cell? ⟨w4.heap.size, 0, none⟩ = some (.string ⟨kd2.toArray⟩) ∧ W.cell? ⟨w4.heap.size, 1, none⟩ = some (.bool on2) ∧ W.cell? ⟨w4.heap.size, 2, none⟩ = some (.bool br2) ∧ W.cell? ⟨w4.heap.size, 3, none⟩ = some (.slice cb y2.length cd) ∧ W.cell? ⟨w4.heap.size, 4, none⟩ = some (.int .i64 cnt2) ∧ W.cell? ⟨w4.heap.size, 5, none⟩ = some (.slice lb z2.length ld) ∧ W.cell? ⟨xb, xo + i * 4, none⟩ = some (.string ⟨m.toArray⟩) ∧ W.cell? ⟨xb, xo + i * 4 + 1, none⟩ = some (.string ⟨k.toArray⟩) ∧ W.cell? ⟨xb, xo + i * 4 + 2, none⟩ = some (.int .i64 n2) ∧ W.cell? ⟨xb, xo + i * 4 + 3, none⟩ = some (.string ⟨t.toArray⟩)) → Below W.heap.size W W' → (W'.cell? ⟨w4.heap.size, 0, none⟩ = some (.string ⟨kd2.toArray⟩) ∧ W'.cell? ⟨w4.heap.size, 1, none⟩ = some (.bool on2) ∧ W'.cell? ⟨w4.heap.size, 2, none⟩ = some (.bool br2) ∧ W'.cell? ⟨w4.heap.size, 3, none⟩ = some (.slice cb y2.length cd) ∧ W'.cell? ⟨w4.heap.size, 4, none⟩ = some (.int .i64 cnt2) ∧ W'.cell? ⟨w4.heap.size, 5, none⟩ = some (.slice lb z2.length ld) ∧ W'.cell? ⟨xb, xo + i * 4, none⟩ = some (.string ⟨m.toArray⟩) ∧ W'.cell? ⟨xb, xo + i * 4 + 1, none⟩ = some (.string ⟨k.toArray⟩) ∧ W'.cell? ⟨xb, xo + i * 4 + 2, none⟩ = some (.int .i64 n2) ∧ W'.cell? ⟨xb, xo + i * 4 + 3, none⟩ = some (.string ⟨t.toArray⟩)) from fun W W' hh hb => by obtain ⟨q0, q1, q2, q3, q4, q5, q6, q7, q8, q9⟩ := hh; exact ⟨(hb.cell (p := ⟨w4.heap.size, 0, none⟩) (World.block_lt_of_cell? _ _ q0)).trans q0, (hb.cell (p := ⟨w4.heap.size, 1, none⟩) (World.block_lt_of_cell? _ _ q1)).trans q1, (hb.cell (p := ⟨w4.heap.size, 2, none⟩) (World.block_lt_of_cell? _ _ q2)).trans q2, (hb.cell (p := ⟨w4.heap.size, 3, none⟩) (World.block_lt_of_cell? _ _ q3)).trans q3, (hb.cell (p := ⟨w4.heap.size, 4, none⟩) (World.block_lt_of_cell? _ _ q4)).trans q4, (hb.cell (p := ⟨w4.heap.size, 5, none⟩) (World.block_lt_of_cell? _ _ q5)).trans q5, (hb.cell (p := ⟨xb, xo + i * 4, none⟩) (World.block_lt_of_cell? _ _ q6)).trans q6, (hb.cell (p := ⟨xb, xo + i * 4 + 1, none⟩) (World.block_lt_of_cell? _ _ q7)).trans q7, (hb.cell (p := ⟨xb, xo + i * 4 + 2, none⟩) (World.block_lt_of_cell? _ _ q8)).trans q8, (hb.cell (p := ⟨xb, xo + i * 4 + 3, none⟩) (World.block_lt_of_cell? _ _ q9)).trans q9⟩)
    refine wp_region_held_drew (S := fun w' => w'.cell? ⟨w4.heap.size, 0, none⟩ = some (.string ⟨kd2.toArray⟩) ∧ w'.cell? ⟨w4.heap.size, 1, none⟩ = some (.bool on2) ∧ w'.cell? ⟨w4.heap.size, 2, none⟩ = some (.bool br2) ∧ w'.cell? ⟨w4.heap.size, 3, none⟩ = some (.slice cb y2.length cd) ∧ w'.cell? ⟨w4.heap.size, 4, none⟩ = some (.int .i64 cnt2) ∧ w'.cell? ⟨w4.heap.size, 5, none⟩ = some (.slice lb z2.length ld) ∧ w'.cell? ⟨xb, xo + i * 4, none⟩ = some (.string ⟨m.toArray⟩) ∧ w'.cell? ⟨xb, xo + i * 4 + 1, none⟩ = some (.string ⟨k.toArray⟩) ∧ w'.cell? ⟨xb, xo + i * 4 + 2, none⟩ = some (.int .i64 n2) ∧ w'.cell? ⟨xb, xo + i * 4 + 3, none⟩ = some (.string ⟨t.toArray⟩)) (by kernel_rfl) ?_ (fun hHeld => ?_)
    ·exact HSof.out wr.drew (Below.refl wr.heap.size wr).drew
    have HBW := Lib.hid ((Below.refl wr.heap.size wr).drew)
    generalize wr.drew = vf0 at *
    refine wpAnyH_take (i := 0) (v := ?_) rfl (by kernel_rfl) (by kernel_rfl) (by kernel_rfl) (fun _ _ _ h => h) (Or.inl ⟨by rfl, ?_⟩) (by assumption) ?_
    rotate_left
    ·intro w hSw; (try dsimp only at hSw); go_simp; with_reducible rfl
    try simp only [Act.put, List.getElem_toArray, List.getElem_cons_zero, List.getElem_cons_succ, List.setIfInBounds_toArray, List.set_cons_zero, List.set_cons_succ]
    refine wpAnyH_take (i := 1) (v := ?_) rfl (by kernel_rfl) (by kernel_rfl) (by kernel_rfl) (fun _ _ _ h => h) (Or.inl ⟨by rfl, ?_⟩) (by assumption) ?_
    rotate_left
    ·intro w hSw; (try dsimp only at hSw); go_simp; with_reducible rfl
    try simp only [Act.put, List.getElem_toArray, List.getElem_cons_zero, List.getElem_cons_succ, List.setIfInBounds_toArray, List.set_cons_zero, List.set_cons_succ]
    refine wpAnyH_take (i := 2) (v := ?_) rfl (by kernel_rfl) (by kernel_rfl) (by kernel_rfl) (fun _ _ _ h => h) (Or.inl ⟨by rfl, ?_⟩) (by assumption) ?_
    rotate_left
    ·intro w hSw; (try dsimp only at hSw); go_simp; with_reducible rfl
    try simp only [Act.put, List.getElem_toArray, List.getElem_cons_zero, List.getElem_cons_succ, List.setIfInBounds_toArray, List.set_cons_zero, List.set_cons_succ]
    refine wpAnyH_take (i := 3) (v := ?_) rfl (by kernel_rfl) (by kernel_rfl) (by kernel_rfl) (fun _ _ _ h => h) (Or.inl ⟨by rfl, ?_⟩) (by assumption) ?_
    rotate_left
    ·intro w hSw; (try dsimp only at hSw); go_simp; with_reducible rfl
    try simp only [Act.put, List.getElem_toArray, List.getElem_cons_zero, List.getElem_cons_succ, List.setIfInBounds_toArray, List.set_cons_zero, List.set_cons_succ]
    refine wpAnyH_take (i := 4) (v := ?_) rfl (by kernel_rfl) (by kernel_rfl) (by kernel_rfl) (fun _ _ _ h => h) (Or.inl ⟨by rfl, ?_⟩) (by assumption) ?_
    rotate_left
    ·intro w hSw; (try dsimp only at hSw); go_simp; with_reducible rfl
    try simp only [Act.put, List.getElem_toArray, List.getElem_cons_zero, List.getElem_cons_succ, List.setIfInBounds_toArray, List.set_cons_zero, List.set_cons_succ]
    refine wpAnyH_floatN (k1 := 9) (k2 := 10) (d1 := 9) (d2 := 10) (z1 := [.string ⟨#[]⟩, .bool false, .bool false, .slice none 0 0, .int .i64 0, .slice none 0 0]) (z2 := [.int .i64 0, .int .i64 0, .string ⟨#[]⟩, .int .i64 0, .int .i64 0]) (T1 := 37) (T2 := 39) (js := [(5, false), (6, true), (7, true), (8, true)]) (fz := 2) rfl ⟨⟨_, rfl, rfl, rfl, fun a w => ?_⟩⟩ ⟨⟨_, rfl, rfl, rfl, fun a w => ?_⟩⟩ (by kernel_rfl) (by decide) (by decide) (by kernel_rfl) (fun _ _ _ _ _ => Iff.rfl) HFS.out (by assumption) ?_
    ·rfl
    ·rfl
    have ZB := Lib.hid HBW.out.size
    refine wpFl_step rfl (fun vf1 hbG hHeld K hK => ?_)
    replace HBW := Lib.hid (HBW.out.trans (hbG.mono HBW.out.size))
    clear hbG
    have ZC := Lib.hid HBW.out.size
    go_simp
    go_at_call 20
    refine (HCQ.out _ _ (rpB HQQ.out HBW.out (Nat.le_refl _)) (HMX.out _ (belS HB.out HBW.out))).mono ?_
    rintro e vf2 ⟨_, rfl, ⟨u3, u5, rfl, ho3, ho5⟩, hb⟩
    simp only at ho3 ho5
    obtain ⟨pcy, qcy, rfl⟩ := slice_of ho3
    obtain ⟨ply, qly, rfl⟩ := slice_of ho5
    have HOP := Lib.hid (ownP_of (show oPart _ _ [.string ⟨k1.toArray⟩, .bool n1, .bool b1, .slice pcy y1.length qcy, .int .i64 m1, .slice ply z1.length qly] (⟨⟨k1, n1, b1, y1, m1⟩, z1⟩ : PartD) from ⟨_, _, rfl, ho3, ho5⟩))
    clear ho3 ho5
    replace HBW := Lib.hid (HBW.out.trans (hb.mono HBW.out.size))
    refine hK.out _ _ hb (HSof.out _ HBW.out) ?_
    clear hK K hb hHeld
    try simp only [Act.put, List.getElem_toArray, List.getElem_cons_zero, List.getElem_cons_succ, List.setIfInBounds_toArray, List.set_cons_zero, List.set_cons_succ]
    refine wpFl_take (v := ?_) rfl (Or.inl ⟨by rfl, ?_⟩) ?_
    rotate_left
    ·intro w hSw; (try dsimp only at hSw); go_simp; with_reducible rfl
    try simp only [Act.put, List.getElem_toArray, List.getElem_cons_zero, List.getElem_cons_succ, List.setIfInBounds_toArray, List.set_cons_zero, List.set_cons_succ]
    refine wpFl_take (v := ?_) rfl (Or.inl ⟨by rfl, ?_⟩) ?_
    rotate_left
    ·intro w hSw; (try dsimp only at hSw); go_simp; with_reducible rfl
    try simp only [Act.put, List.getElem_toArray, List.getElem_cons_zero, List.getElem_cons_succ, List.setIfInBounds_toArray, List.set_cons_zero, List.set_cons_succ]
    refine wpFl_take (v := ?_) rfl (Or.inl ⟨by rfl, ?_⟩) ?_
    rotate_left
    ·intro w hSw; (try dsimp only at hSw); go_simp; with_reducible rfl
    try simp only [Act.put, List.getElem_toArray, List.getElem_cons_zero, List.getElem_cons_succ, List.setIfInBounds_toArray, List.set_cons_zero, List.set_cons_succ]
    refine wpFl_end (fun vf3 bxy1 bxy2 hbG hHeld hbx1 hbx2 hbne hbl1 hbl2 hgap => ?_)
    replace HBW := Lib.hid (HBW.out.trans (hbG.mono HBW.out.size))
    replace HOP := Lib.hid (ownP_below HOP.out hbG (Nat.le_refl _))
    obtain ⟨hgp1, hgp2⟩ := hgap _ (List.mem_cons_self ..)
    simp only at hgp1 hgp2
    clear hbG hgap
    try simp only [Act.put, List.getElem_toArray, List.getElem_cons_zero, List.getElem_cons_succ, List.setIfInBounds_toArray, List.set_cons_zero, List.set_cons_succ]
    have r1_0 := hbx1.cell 0 (by simp)
    have y1_0 := hbx1.froz 0 (by simp)
    have r1_1 := hbx1.cell 1 (by simp)
    have y1_1 := hbx1.froz 1 (by simp)
    have r1_2 := hbx1.cell 2 (by simp)
    have y1_2 := hbx1.froz 2 (by simp)
    have r1_3 := hbx1.cell 3 (by simp)
    have y1_3 := hbx1.froz 3 (by simp)
    have r1_4 := hbx1.cell 4 (by simp)
    have y1_4 := hbx1.froz 4 (by simp)
    have r1_5 := hbx1.cell 5 (by simp)
    have y1_5 := hbx1.froz 5 (by simp)
    have r2_0 := hbx2.cell 0 (by simp)
    have y2_0 := hbx2.froz 0 (by simp)
    have r2_1 := hbx2.cell 1 (by simp)
    have y2_1 := hbx2.froz 1 (by simp)
    have r2_2 := hbx2.cell 2 (by simp)
    have y2_2 := hbx2.froz 2 (by simp)
    have r2_3 := hbx2.cell 3 (by simp)
    have y2_3 := hbx2.froz 3 (by simp)
    have r2_4 := hbx2.cell 4 (by simp)
    have y2_4 := hbx2.froz 4 (by simp)
    simp only [List.getElem_cons_zero, List.getElem_cons_succ] at r1_0 r1_1 r1_2 r1_3 r1_4 r1_5 r2_0 r2_1 r2_2 r2_3 r2_4
    have hbm1 : wr.heap.size ≤ bxy1 := Nat.le_trans ZB.out hbl1
    have hbm2 : wr.heap.size ≤ bxy2 := Nat.le_trans ZB.out hbl2
    have ne12 : ¬ bxy1 = bxy2 := hbne
    have ne21 : ¬ bxy2 = bxy1 := fun e => hbne e.symm
    have hlx1 := hbx1.lt
    have hlx2 := hbx2.lt
    have BX1 := Lib.hid hbx1
    have BX2 := Lib.hid hbx2
    clear hbx1 hbx2
    refine wpAnyH_ready (rs := [11]) (by kernel_rfl) (by simp) ?_
    refine AllReadyH.cons rfl (fun K hK => ?_) AllReadyH.nil
    go_simp
    refine hK.out _ _ ?_ (fun hHeld => ?_)
    ·exact HSof.out _ (belQ6 HBW.out hbm1 _ _ _ _ _ _)
    clear hK K
    try simp only [Act.put, List.getElem_toArray, List.getElem_cons_zero, List.getElem_cons_succ, List.setIfInBounds_toArray, List.set_cons_zero, List.set_cons_succ]
    refine wpAnyH_ready (rs := [12]) (by kernel_rfl) (by simp) ?_
    refine AllReadyH.cons rfl (fun K hK => ?_) AllReadyH.nil
    go_simp
    refine hK.out _ _ ?_ (fun hHeld => ?_)
    ·exact HSof.out _ (belQ5 (belQ6 HBW.out hbm1 _ _ _ _ _ _) hbm2 _ _ _ _ _)
    clear hK K
    try simp only [Act.put, List.getElem_toArray, List.getElem_cons_zero, List.getElem_cons_succ, List.setIfInBounds_toArray, List.set_cons_zero, List.set_cons_succ]
    refine wpAnyH_done (by kernel_rfl) ?_ _
    have BXP := Lib.hid (bxP5o (bxP6 BX1.out (.string ⟨k1.toArray⟩) (.bool n1) (.bool b1) (.slice pcy y1.length qcy) (.int .i64 m1) (.slice ply z1.length qly)) ne12 (.int .i64 c0) (.int .i64 c1) (.string ⟨c2.toArray⟩) (.int .i64 c3) (.int .i64 c4))
    have BXR := Lib.hid (bxP5 (bxP6o BX2.out ne21 (.string ⟨k1.toArray⟩) (.bool n1) (.bool b1) (.slice pcy y1.length qcy) (.int .i64 m1) (.slice ply z1.length qly)) (.int .i64 c0) (.int .i64 c1) (.string ⟨c2.toArray⟩) (.int .i64 c3) (.int .i64 c4))
    replace HOP := Lib.hid (ownP_p5 (ownP_p6 HOP.out hgp1 (.string ⟨k1.toArray⟩) (.bool n1) (.bool b1) (.slice pcy y1.length qcy) (.int .i64 m1) (.slice ply z1.length qly)) hgp2 (.int .i64 c0) (.int .i64 c1) (.string ⟨c2.toArray⟩) (.int .i64 c3) (.int .i64 c4))
    have hb := belQ5 (belQ6 HBW.out hbm1 (.string ⟨k1.toArray⟩) (.bool n1) (.bool b1) (.slice pcy y1.length qcy) (.int .i64 m1) (.slice ply z1.length qly)) hbm2 (.int .i64 c0) (.int .i64 c1) (.string ⟨c2.toArray⟩) (.int .i64 c3) (.int .i64 c4)
    clear r1_0 r1_1 r1_2 r1_3 r1_4 r1_5 r2_0 r2_1 r2_2 r2_3 r2_4 y1_0 y1_1 y1_2 y1_3 y1_4 y1_5 y2_0 y2_1 y2_2 y2_3 y2_4 hHeld HSof HFS BX1 BX2 ZB
    generalize (((((((((((vf3.setCell ⟨bxy1, 0, none⟩ (.string ⟨k1.toArray⟩)).setCell ⟨bxy1, 1, none⟩ (.bool n1)).setCell ⟨bxy1, 2, none⟩ (.bool b1)).setCell ⟨bxy1, 3, none⟩ (.slice pcy y1.length qcy)).setCell ⟨bxy1, 4, none⟩ (.int .i64 m1)).setCell ⟨bxy1, 5, none⟩ (.slice ply z1.length qly)).setCell ⟨bxy2, 0, none⟩ (.int .i64 c0)).setCell ⟨bxy2, 1, none⟩ (.int .i64 c1)).setCell ⟨bxy2, 2, none⟩ (.string ⟨c2.toArray⟩)).setCell ⟨bxy2, 3, none⟩ (.int .i64 c3)).setCell ⟨bxy2, 4, none⟩ (.int .i64 c4)) = w8 at *
    replace Vb_q := Lib.hid (Vb_q.out.below hb)
    replace HQQ := Lib.hid (rpB HQQ.out hb (Nat.le_refl _))
    replace HB2 := Lib.hid (belL HB2.out hb (Nat.le_refl _))
    replace HB := Lib.hid (belS HB.out hb)
    clear hb
    have Vb_yp := BXP
    have Vb_yr := BXR
    have HOP_y := HOP
    have hlo_y : wr.heap.size ≤ vf1.heap.size := ZC.out
    clear BXP BXR HOP HBW hlx1 hlx2 hbm1 hbm2 hbl1 hbl2 hbne hgp1 hgp2 ZC
    clear HQQ HCQ e0 e1 e2 e3
    have B_yp := Vb_yp.out
    have yp_0 := Vb_yp.out.cell 0 (by simp)
    have yp_1 := Vb_yp.out.cell 1 (by simp)
    have yp_2 := Vb_yp.out.cell 2 (by simp)
    have yp_3 := Vb_yp.out.cell 3 (by simp)
    have yp_4 := Vb_yp.out.cell 4 (by simp)
    have yp_5 := Vb_yp.out.cell 5 (by simp)
    simp only [List.getElem_cons_zero, List.getElem_cons_succ] at yp_0 yp_1 yp_2 yp_3 yp_4 yp_5
    have yp_l := Vb_yp.out.lt
    clear B_yp
    have B_q := Vb_q.out
    have q_0 := Vb_q.out.cell 0 (by simp)
    have q_1 := Vb_q.out.cell 1 (by simp)
    have q_2 := Vb_q.out.cell 2 (by simp)
    have q_3 := Vb_q.out.cell 3 (by simp)
    have q_4 := Vb_q.out.cell 4 (by simp)
    have q_5 := Vb_q.out.cell 5 (by simp)
    simp only [List.getElem_cons_zero, List.getElem_cons_succ] at q_0 q_1 q_2 q_3 q_4 q_5
    have q_l := Vb_q.out.lt
    clear B_q
    have fq0 := Vb_q.out.froz 0 (by simp)
    have fq1 := Vb_q.out.froz 1 (by simp)
    have fq2 := Vb_q.out.froz 2 (by simp)
    have fq3 := Vb_q.out.froz 3 (by simp)
    have fq4 := Vb_q.out.froz 4 (by simp)
    have fq5 := Vb_q.out.froz 5 (by simp)
    go_upto_region 13 with fail
    clear yp_0 yp_1 yp_2 yp_3 yp_4 yp_5 yp_l q_0 q_1 q_2 q_3 q_4 q_5 q_l
    clear fq0 fq1 fq2 fq3 fq4 fq5
    obtain ⟨p4, hst⟩ := HST.out
    have HTO2 := Lib.hid hst
    clear hst HST
    have hpl := core_len (partB_core HTO2.out.part)
    have hpz := partB_len HTO2.out.part
    simp only at hpl hpz
    have HOP2 := Lib.hid (ownP_p6 HOP_y.out (b := w4.heap.size) (Or.inl (by omega)) (.string ⟨k1.toArray⟩) (.bool n1) (.bool b1) (.slice pcy y1.length qcy) (.int .i64 m1) (.slice ply z1.length qly))
    have HQQ := Lib.hid (ownP_at HOP2.out (by simp only; omega) (by simp only; omega))
    replace Vb_q := Lib.hid (bxP6 Vb_q.out (.string ⟨k1.toArray⟩) (.bool n1) (.bool b1) (.slice pcy y1.length qcy) (.int .i64 m1) (.slice ply z1.length qly))
    replace HB := Lib.hid (belQ6 HB.out (b := w4.heap.size) (by omega) (.string ⟨k1.toArray⟩) (.bool n1) (.bool b1) (.slice pcy y1.length qcy) (.int .i64 m1) (.slice ply z1.length qly))
    replace HB2 := Lib.hid (belQ6 HB2.out (b := w4.heap.size) (Nat.le_refl _) (.string ⟨k1.toArray⟩) (.bool n1) (.bool b1) (.slice pcy y1.length qcy) (.int .i64 m1) (.slice ply z1.length qly))
    clear HOP_y HOP2 Vb_yp Vb_yr
    generalize ((((((w8.setCell ⟨w4.heap.size, 0, none⟩ (.string ⟨k1.toArray⟩)).setCell ⟨w4.heap.size, 1, none⟩ (.bool n1)).setCell ⟨w4.heap.size, 2, none⟩ (.bool b1)).setCell ⟨w4.heap.size, 3, none⟩ (.slice pcy y1.length qcy)).setCell ⟨w4.heap.size, 4, none⟩ (.int .i64 m1)).setCell ⟨w4.heap.size, 5, none⟩ (.slice ply z1.length qly)) = w9 at *
    have e0 := (HB2.out.cell (p := ⟨xb, xo + i * 4, none⟩) hxw).trans HE0.out
    have HCT := Lib.hid (fun cs W (h : rPart 0 W cs (⟨⟨k1, n1, b1, y1, m1⟩, z1⟩ : PartD)) (hM : W.cell? ⟨0, 0, none⟩ = some (.int .i64 mx)) => implCallPart_c (.agg cs.toArray) (⟨⟨k1, n1, b1, y1, m1⟩, z1⟩ : PartD) (cX mTell) mx W ⟨cs, rfl, h⟩ (smallP_of (Nat.le_trans (partB_small HTO2.out.part) (by decide))) (by simp [cX]) (by simp [cX]) hM)
    have HTL := Lib.hid (cnt_tell HTO2.out)
    generalize chgP (⟨⟨k1, n1, b1, y1, m1⟩, z1⟩ : PartD) (cX mTell) = o2 at *
    obtain ⟨⟨⟨k5, n5, b5, y5, m5⟩, z5⟩, r5⟩ := o2
    have htl := HTL.out
    simp only at htl
    subst htl
    clear HTL
    unfold GivesOPR vReply at HCT
    unfold vCall cX at HCT
    simp only at HCT
    by_cases hm1 : m = [80, 117, 116]
    ·skip
     subst hm1
     have HKP := Lib.hid (show keptB [80, 117, 116] = true from by decide)
     simp only [HKP.out, if_true] at HCT HTO2
     go_upto_region 15 with fail
     clear e0
     have B_q := Vb_q.out
     have q_0 := Vb_q.out.cell 0 (by simp)
     have q_1 := Vb_q.out.cell 1 (by simp)
     have q_2 := Vb_q.out.cell 2 (by simp)
     have q_3 := Vb_q.out.cell 3 (by simp)
     have q_4 := Vb_q.out.cell 4 (by simp)
     have q_5 := Vb_q.out.cell 5 (by simp)
     simp only [List.getElem_cons_zero, List.getElem_cons_succ] at q_0 q_1 q_2 q_3 q_4 q_5
     have q_l := Vb_q.out.lt
     clear B_q
     go_wp2_with fail
     clear q_0 q_1 q_2 q_3 q_4 q_5 q_l
     refine (HCT.out _ _ HQQ.out (HMX.out _ HB.out)).mono ?_
     rintro e w10 ⟨_, rfl, ⟨u3, u5, rfl, ho3, ho5⟩, hb⟩
     replace Vb_q := Lib.hid (Vb_q.out.below hb)
     replace HQQ := Lib.hid (rpB HQQ.out hb (Nat.le_refl _))
     replace HB2 := Lib.hid (belL HB2.out hb (Nat.le_refl _))
     replace HB := Lib.hid (belS HB.out hb)
     clear hb
     simp only at ho3 ho5
     obtain ⟨ck, cl, rfl⟩ := slice_of ho3
     obtain ⟨lk, ll, rfl⟩ := slice_of ho5
     clear ho3 ho5
     go_upto_region 16 with fail
     have hbn := Bx.new (w10) [.string ⟨k5.toArray⟩, .bool n5, .bool b5, .slice ck y5.length cl, .int .i64 m5, .slice lk z5.length ll] 37
     have hbb := bx_box (w10) (.cells #[.string ⟨k5.toArray⟩, .bool n5, .bool b5, .slice ck y5.length cl, .int .i64 m5, .slice lk z5.length ll] 37)
     have Vb_v := Lib.hid hbn
     clear hbn
     replace Vb_q := Lib.hid (Vb_q.out.below hbb)
     replace HQQ := Lib.hid (rpB HQQ.out hbb (Nat.le_refl _))
     replace HB2 := Lib.hid (belL HB2.out hbb (Nat.le_refl _))
     replace HB := Lib.hid (belS HB.out hbb)
     clear hbb
     have hbn := Bx.new ((w10).alloc (.cells #[.string ⟨k5.toArray⟩, .bool n5, .bool b5, .slice ck y5.length cl, .int .i64 m5, .slice lk z5.length ll] 37)) [.int .i64 0, .int .i64 (n + 1), .string ⟨#[]⟩, .int .i64 0, .int .i64 0] 39
     have hbb := bx_box ((w10).alloc (.cells #[.string ⟨k5.toArray⟩, .bool n5, .bool b5, .slice ck y5.length cl, .int .i64 m5, .slice lk z5.length ll] 37)) (.cells #[.int .i64 0, .int .i64 (n + 1), .string ⟨#[]⟩, .int .i64 0, .int .i64 0] 39)
     rw [show ((w10).alloc (.cells #[.string ⟨k5.toArray⟩, .bool n5, .bool b5, .slice ck y5.length cl, .int .i64 m5, .slice lk z5.length ll] 37)).heap.size = w10.heap.size + 1 by simp] at hbn
     have Vb_t := Lib.hid hbn
     clear hbn
     replace Vb_q := Lib.hid (Vb_q.out.below hbb)
     replace Vb_v := Lib.hid (Vb_v.out.below hbb)
     replace HQQ := Lib.hid (rpB HQQ.out hbb (Nat.le_refl _))
     replace HB2 := Lib.hid (belL HB2.out hbb (Nat.le_refl _))
     replace HB := Lib.hid (belS HB.out hbb)
     clear hbb
     generalize ((w10).alloc (.cells #[.string ⟨k5.toArray⟩, .bool n5, .bool b5, .slice ck y5.length cl, .int .i64 m5, .slice lk z5.length ll] 37)).alloc (.cells #[.int .i64 0, .int .i64 (n + 1), .string ⟨#[]⟩, .int .i64 0, .int .i64 0] 39) = w13 at *
     have B_t := Vb_t.out
     have t_0 := Vb_t.out.cell 0 (by simp)
     have t_1 := Vb_t.out.cell 1 (by simp)
     have t_2 := Vb_t.out.cell 2 (by simp)
     have t_3 := Vb_t.out.cell 3 (by simp)
     have t_4 := Vb_t.out.cell 4 (by simp)
     simp only [List.getElem_cons_zero, List.getElem_cons_succ] at t_0 t_1 t_2 t_3 t_4
     have t_l := Vb_t.out.lt
     clear B_t
     go_wp2_with fail
     clear t_0 t_1 t_2 t_3 t_4 t_l
     exact ⟨⟨i + 1, n + 1, k1, n1, b1, pcy, ply, qcy, qly, y1, m1, z1, p4, rfl, by go_num, by omega, by omega, by push_cast; omega, HTO2.out, HQQ.out, Vb_q.out, HB.out, HB2.out⟩, by simp [intOf]; omega⟩
    by_cases hm2 : m = [71, 101, 116]
    ·skip
     subst hm2
     have HKP := Lib.hid (show keptB [71, 101, 116] = true from by decide)
     simp only [HKP.out, if_true] at HCT HTO2
     go_upto_region 15 with fail
     clear e0
     have B_q := Vb_q.out
     have q_0 := Vb_q.out.cell 0 (by simp)
     have q_1 := Vb_q.out.cell 1 (by simp)
     have q_2 := Vb_q.out.cell 2 (by simp)
     have q_3 := Vb_q.out.cell 3 (by simp)
     have q_4 := Vb_q.out.cell 4 (by simp)
     have q_5 := Vb_q.out.cell 5 (by simp)
     simp only [List.getElem_cons_zero, List.getElem_cons_succ] at q_0 q_1 q_2 q_3 q_4 q_5
     have q_l := Vb_q.out.lt
     clear B_q
     go_wp2_with fail
     clear q_0 q_1 q_2 q_3 q_4 q_5 q_l
     refine (HCT.out _ _ HQQ.out (HMX.out _ HB.out)).mono ?_
     rintro e w10 ⟨_, rfl, ⟨u3, u5, rfl, ho3, ho5⟩, hb⟩
     replace Vb_q := Lib.hid (Vb_q.out.below hb)
     replace HQQ := Lib.hid (rpB HQQ.out hb (Nat.le_refl _))
     replace HB2 := Lib.hid (belL HB2.out hb (Nat.le_refl _))
     replace HB := Lib.hid (belS HB.out hb)
     clear hb
     simp only at ho3 ho5
     obtain ⟨ck, cl, rfl⟩ := slice_of ho3
     obtain ⟨lk, ll, rfl⟩ := slice_of ho5
     clear ho3 ho5
     go_upto_region 16 with fail
     have hbn := Bx.new (w10) [.string ⟨k5.toArray⟩, .bool n5, .bool b5, .slice ck y5.length cl, .int .i64 m5, .slice lk z5.length ll] 37
     have hbb := bx_box (w10) (.cells #[.string ⟨k5.toArray⟩, .bool n5, .bool b5, .slice ck y5.length cl, .int .i64 m5, .slice lk z5.length ll] 37)
     have Vb_v := Lib.hid hbn
     clear hbn
     replace Vb_q := Lib.hid (Vb_q.out.below hbb)
     replace HQQ := Lib.hid (rpB HQQ.out hbb (Nat.le_refl _))
     replace HB2 := Lib.hid (belL HB2.out hbb (Nat.le_refl _))
     replace HB := Lib.hid (belS HB.out hbb)
     clear hbb
     have hbn := Bx.new ((w10).alloc (.cells #[.string ⟨k5.toArray⟩, .bool n5, .bool b5, .slice ck y5.length cl, .int .i64 m5, .slice lk z5.length ll] 37)) [.int .i64 0, .int .i64 (n + 1), .string ⟨#[]⟩, .int .i64 0, .int .i64 0] 39
     have hbb := bx_box ((w10).alloc (.cells #[.string ⟨k5.toArray⟩, .bool n5, .bool b5, .slice ck y5.length cl, .int .i64 m5, .slice lk z5.length ll] 37)) (.cells #[.int .i64 0, .int .i64 (n + 1), .string ⟨#[]⟩, .int .i64 0, .int .i64 0] 39)
     rw [show ((w10).alloc (.cells #[.string ⟨k5.toArray⟩, .bool n5, .bool b5, .slice ck y5.length cl, .int .i64 m5, .slice lk z5.length ll] 37)).heap.size = w10.heap.size + 1 by simp] at hbn
     have Vb_t := Lib.hid hbn
     clear hbn
     replace Vb_q := Lib.hid (Vb_q.out.below hbb)
     replace Vb_v := Lib.hid (Vb_v.out.below hbb)
     replace HQQ := Lib.hid (rpB HQQ.out hbb (Nat.le_refl _))
     replace HB2 := Lib.hid (belL HB2.out hbb (Nat.le_refl _))
     replace HB := Lib.hid (belS HB.out hbb)
     clear hbb
     generalize ((w10).alloc (.cells #[.string ⟨k5.toArray⟩, .bool n5, .bool b5, .slice ck y5.length cl, .int .i64 m5, .slice lk z5.length ll] 37)).alloc (.cells #[.int .i64 0, .int .i64 (n + 1), .string ⟨#[]⟩, .int .i64 0, .int .i64 0] 39) = w13 at *
     have B_t := Vb_t.out
     have t_0 := Vb_t.out.cell 0 (by simp)
     have t_1 := Vb_t.out.cell 1 (by simp)
     have t_2 := Vb_t.out.cell 2 (by simp)
     have t_3 := Vb_t.out.cell 3 (by simp)
     have t_4 := Vb_t.out.cell 4 (by simp)
     simp only [List.getElem_cons_zero, List.getElem_cons_succ] at t_0 t_1 t_2 t_3 t_4
     have t_l := Vb_t.out.lt
     clear B_t
     go_wp2_with fail
     clear t_0 t_1 t_2 t_3 t_4 t_l
     exact ⟨⟨i + 1, n + 1, k1, n1, b1, pcy, ply, qcy, qly, y1, m1, z1, p4, rfl, by go_num, by omega, by omega, by push_cast; omega, HTO2.out, HQQ.out, Vb_q.out, HB.out, HB2.out⟩, by simp [intOf]; omega⟩
    ·skip
     have HKP := Lib.hid (show keptB m = false from by unfold keptB; simp [hm1, hm2])
     have hq1 : (m == [80, 117, 116]) = false := by simpa using hm1
     have hq2 : (m == [71, 101, 116]) = false := by simpa using hm2
     clear hm1 hm2
     simp only [HKP.out, Bool.false_eq_true, if_false] at HCT HTO2
     go_upto_region 15 with fail
     clear e0
     have B_q := Vb_q.out
     have q_0 := Vb_q.out.cell 0 (by simp)
     have q_1 := Vb_q.out.cell 1 (by simp)
     have q_2 := Vb_q.out.cell 2 (by simp)
     have q_3 := Vb_q.out.cell 3 (by simp)
     have q_4 := Vb_q.out.cell 4 (by simp)
     have q_5 := Vb_q.out.cell 5 (by simp)
     simp only [List.getElem_cons_zero, List.getElem_cons_succ] at q_0 q_1 q_2 q_3 q_4 q_5
     have q_l := Vb_q.out.lt
     clear B_q
     go_wp2_with fail
     clear q_0 q_1 q_2 q_3 q_4 q_5 q_l
     refine (HCT.out _ _ HQQ.out (HMX.out _ HB.out)).mono ?_
     rintro e w10 ⟨_, rfl, ⟨u3, u5, rfl, ho3, ho5⟩, hb⟩
     replace Vb_q := Lib.hid (Vb_q.out.below hb)
     replace HQQ := Lib.hid (rpB HQQ.out hb (Nat.le_refl _))
     replace HB2 := Lib.hid (belL HB2.out hb (Nat.le_refl _))
     replace HB := Lib.hid (belS HB.out hb)
     clear hb
     simp only at ho3 ho5
     obtain ⟨ck, cl, rfl⟩ := slice_of ho3
     obtain ⟨lk, ll, rfl⟩ := slice_of ho5
     clear ho3 ho5
     go_upto_region 16 with fail
     have hbn := Bx.new (w10) [.string ⟨k5.toArray⟩, .bool n5, .bool b5, .slice ck y5.length cl, .int .i64 m5, .slice lk z5.length ll] 37
     have hbb := bx_box (w10) (.cells #[.string ⟨k5.toArray⟩, .bool n5, .bool b5, .slice ck y5.length cl, .int .i64 m5, .slice lk z5.length ll] 37)
     have Vb_v := Lib.hid hbn
     clear hbn
     replace Vb_q := Lib.hid (Vb_q.out.below hbb)
     replace HQQ := Lib.hid (rpB HQQ.out hbb (Nat.le_refl _))
     replace HB2 := Lib.hid (belL HB2.out hbb (Nat.le_refl _))
     replace HB := Lib.hid (belS HB.out hbb)
     clear hbb
     have hbn := Bx.new ((w10).alloc (.cells #[.string ⟨k5.toArray⟩, .bool n5, .bool b5, .slice ck y5.length cl, .int .i64 m5, .slice lk z5.length ll] 37)) [.int .i64 0, .int .i64 (n), .string ⟨#[]⟩, .int .i64 0, .int .i64 0] 39
     have hbb := bx_box ((w10).alloc (.cells #[.string ⟨k5.toArray⟩, .bool n5, .bool b5, .slice ck y5.length cl, .int .i64 m5, .slice lk z5.length ll] 37)) (.cells #[.int .i64 0, .int .i64 (n), .string ⟨#[]⟩, .int .i64 0, .int .i64 0] 39)
     rw [show ((w10).alloc (.cells #[.string ⟨k5.toArray⟩, .bool n5, .bool b5, .slice ck y5.length cl, .int .i64 m5, .slice lk z5.length ll] 37)).heap.size = w10.heap.size + 1 by simp] at hbn
     have Vb_t := Lib.hid hbn
     clear hbn
     replace Vb_q := Lib.hid (Vb_q.out.below hbb)
     replace Vb_v := Lib.hid (Vb_v.out.below hbb)
     replace HQQ := Lib.hid (rpB HQQ.out hbb (Nat.le_refl _))
     replace HB2 := Lib.hid (belL HB2.out hbb (Nat.le_refl _))
     replace HB := Lib.hid (belS HB.out hbb)
     clear hbb
     generalize ((w10).alloc (.cells #[.string ⟨k5.toArray⟩, .bool n5, .bool b5, .slice ck y5.length cl, .int .i64 m5, .slice lk z5.length ll] 37)).alloc (.cells #[.int .i64 0, .int .i64 (n), .string ⟨#[]⟩, .int .i64 0, .int .i64 0] 39) = w13 at *
     have B_t := Vb_t.out
     have t_0 := Vb_t.out.cell 0 (by simp)
     have t_1 := Vb_t.out.cell 1 (by simp)
     have t_2 := Vb_t.out.cell 2 (by simp)
     have t_3 := Vb_t.out.cell 3 (by simp)
     have t_4 := Vb_t.out.cell 4 (by simp)
     simp only [List.getElem_cons_zero, List.getElem_cons_succ] at t_0 t_1 t_2 t_3 t_4
     have t_l := Vb_t.out.lt
     clear B_t
     go_wp2_with fail
     clear t_0 t_1 t_2 t_3 t_4 t_l
     exact ⟨⟨i + 1, n, k1, n1, b1, pcy, ply, qcy, qly, y1, m1, z1, p4, rfl, by go_num, by omega, by omega, by push_cast; omega, HTO2.out, HQQ.out, Vb_q.out, HB.out, HB2.out⟩, by simp [intOf]; omega⟩
   ·skip
    have hic : ¬ (i : Int) < (xl.length : Int) := by omega
    go_wp2_with fail
    go_ret
    exact ⟨rfl, HB.out⟩
 ·skip
  have hn : (t0 != 0) = true := by simpa using ht
  replace ht := Lib.hid ht
  go_wp2_with fail
  clear r_0 r_1 r_2 r_3 r_4 r_l
  go_ret
  exact ⟨rfl, HB.out⟩
set_option maxRecDepth 100000 in
theorem fnCounts_lifted (os : Os) (started : os.Started) (H : Type) (enc : TypeId × Value → H) :
  ReturnsInHanded {} Tryz.checked os 11 .any (Rows.fnCountsSpec.pre6 enc Tryz.prog Tryz.f11 Rows.fnCountsRow.domain false) (Rows.fnCountsSpec.post enc Tryz.prog Tryz.f11 false true false false) := by
 refine returnsInHanded_of_change_shaped (C := Tryz.checked) ownK started (by kernel_rfl) Tryz.func11
  (ChangeSpec.witness6 (enc := enc) (C := Tryz.checked) false ⟨#[], #[.slice none 0 0], []⟩ 8 (by kernel_rfl) (by kernel_rfl) (by kernel_rfl) (by kernel_rfl)) ?_
 intro W base args ds gs before hval0 hW _ _ hsh _
 have hval : ∀ (j : Nat) t v, Tryz.f11.params[j]? = some t → args[j]? = some v → Value.okWide Tryz.prog W .any base t v := hval0
 have hW' := hW
 obtain ⟨p, q, hA0, _, rfl, _, _⟩ := hW
 have hA : DataW.TrodAll enc Tryz.prog W 0 (fun _ => true) true Tryz.f11.params.toList args.toList ds p := hA0
 rw [Tryz.params11] at hA hval
 obtain ⟨v0, vs0, d0, ds0, p0, q0, hargs, rfl, rfl, h0, r0⟩ := trodAll_cons hA
 obtain ⟨rfl, rfl, rfl⟩ := trodAll_nil r0
 obtain rfl : args = #[v0] := by cases args; simp_all
 obtain ⟨l0, w0⟩ := open_byteRow Tryz.underlying68 Tryz.underlying5 (by kernel_rfl) (hval 0 68 v0 rfl rfl) h0
 clear hA0 hval0
 obtain ⟨m, hm⟩ := Tryz.laysM143.s1_3 W hsh
 refine (fnCounts_any v0 l0 W w0 m hm).mono fun e W1 ⟨he, hb⟩ => ?_
 subst he
 exact ⟨_, rfl, law_post laidK rfl (by kernel_rfl) Tryz.underlying4 (by kernel_rfl) (fun ds h => by match ds, h with | [_], _ => rfl) hW' hb⟩
theorem fnCounts_closed : joinedFacts Tryz.prog 11 Tryz.f11 Rows.fnCountsSpec Rows.fnCountsRow = true := by unfold joinedFacts; rw [mayEnter_k, liftsFinal_k, make_k]; kernel_rfl
theorem fnCounts_holds : Rows.FnCountsSaid :=
 OpenClaim.holds_of_wide 11 Tryz.f11 rfl rfl rfl rfl rfl rfl rfl ⟨rfl, rfl, rfl, rfl, rfl⟩ rfl rfl rfl rfl rfl (by kernel_rfl) Tryz.func11 fnCounts_closed
  (of_decide_eq_true (by kernel_rfl)) (by unfold Func.isWrapper; first | (rw [if_pos (by decide +kernel)]; kernel_rfl) | (rw [if_neg (by decide +kernel)]; exact ⟨rfl, rfl⟩))
  (fun os started H enc _ => fnCounts_lifted os started H enc)
end Go.Proofs.YtcpbikilgacdlaaGreat
