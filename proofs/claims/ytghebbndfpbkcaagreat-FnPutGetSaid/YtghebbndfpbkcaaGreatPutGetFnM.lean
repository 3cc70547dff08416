/- FnPutGet: what is put is got, and no other cell changes, at every code that is drawn from. No condition. -/
import Derived.Test.YtghebbndfpbkcaaGreatSaveLoadFnM0
import Derived.Test.YtghebbndfpbkcaaGreatCallCoreLawM3
import Derived.Test.YtghebbndfpbkcaaGreatCallCoreLawM4
import Derived.Test.YtghebbndfpbkcaaGreatCallCoreLawM0
import Derived.HandedShaped
import Derived.Deep.CutRange
import Derived.Deep.QuietTactic
import Derived.BigQuiet
namespace Go.Proofs.YtghebbndfpbkcaaGreat
set_option linter.unusedVariables false
set_option linter.unusedSimpArgs false
open Go.ChangeShapes Go.WideShapes Go.ChangeAt Go.RowKit Go.WideMaps Go.WideElems
open Go.ChangeMaps (open_string shut_string)
theorem vCall_getX (k : List UInt8) : vCall (getX k) = .agg #[.string ⟨#[71, 101, 116]⟩, .string ⟨k.toArray⟩, .int .i64 0, .string ⟨#[]⟩] := rfl
theorem belW {a w w' : World} (h : Below a.heap.size a w) (hb : Below w.heap.size w w') (_ : w.heap.size ≤ w.heap.size) : Below a.heap.size a w' := h.trans (hb.mono h.size)
theorem cellD {w w' : World} {b o : Nat} {v : Value} (h : w.cell? ⟨b, o, none⟩ = some v) (hb : Below w.heap.size w w') (_ : w.heap.size ≤ w.heap.size) : w'.cell? ⟨b, o, none⟩ = some v := (hb.cell (p := ⟨b, o, none⟩) (World.block_lt_of_cell? _ _ h)).trans h
theorem ltD {w w' : World} {b : Nat} (h : b < w.heap.size) (hb : Below w.heap.size w w') (_ : w.heap.size ≤ w.heap.size) : b < w'.heap.size := Nat.lt_of_lt_of_le h hb.size
set_option maxRecDepth 100000 in
set_option maxHeartbeats 6400000 in
theorem fnPutGet_any (v : Value) (l : List UInt8) (w : World) (hR : RowAt w v (Lib.byteCells l)) (mx : Int) (hM : w.cell? ⟨0, 0, none⟩ = some (.int .i64 mx)) :
    Calls Tryz.prog 3 #[v] w fun e w' => e = .returned (.bool true) ∧ Below w.heap.size w w' := by
  have HR := Lib.hid hR
  have HBG := Lib.hid (big_any v l w hR)
  have hMl := World.block_lt_of_cell? w _ hM
  simp only at hMl
  have HMX := Lib.hid (fun W (hw : Below w.heap.size w W) => (hw.cell (p := ⟨0, 0, none⟩) hMl).trans hM)
  clear hR hM hMl
  go_enter Tryz.func3, Tryz.ntmps3
  go_wp2_with fail
  refine HBG.out.mono ?_
  rintro e w' ⟨rfl, rfl⟩
  by_cases hbig : 4096 < l.length
  · go_wp2_with fail
    go_ret
    exact ⟨rfl, Below.refl _ _⟩
  have hd : decide (4096 < l.length) = false := by simpa using hbig
  clear hbig
  rw [hd]
  clear hd HBG
  go_wp2_with fail
  refine (drawCallCore_any v l w HR.out).mono ?_
  rintro e w1 ⟨⟨kd, on, br, y, cnt⟩, cv, ⟨m, k, n, t⟩, rfl, ho, hok, hox, hb⟩
  obtain ⟨ua, uc, rfl⟩ := slice_of ho
  have HOK := Lib.hid hok
  have HOX := Lib.hid hox
  have HB := Lib.hid hb
  have HP := Lib.hid (ownsF_at ho (show y.length ≤ 4194304 by have := hok.2.1; simp only at this; omega))
  clear ho hok hox hb HR
  unfold vCore vCall
  simp only
  have HK1 := Lib.hid (show ∀ c ∈ y, c.fKey.length ≤ maxLen from fun c hc => Nat.le_trans (HOK.out.2.2.1 c hc).1 (by decide))
  have HK2 := Lib.hid (show ∀ c ∈ y, c.fKey.length ≤ 1048576 from fun c hc => Nat.le_trans (HOK.out.2.2.1 c hc).1 (by decide))
  have HYL := Lib.hid (show y.length ≤ 7 from HOK.out.2.1)
  go_upto_region 5 with fail
  have hbn := Bx.new (w1) [.string ⟨kd.toArray⟩, .bool on, .bool br, .slice ua y.length uc, .int .i64 cnt] 26
  have hbb := bx_box (w1) (.cells #[.string ⟨kd.toArray⟩, .bool on, .bool br, .slice ua y.length uc, .int .i64 cnt] 26)
  have Vb_p := Lib.hid hbn
  clear hbn
  replace HP := Lib.hid (FlatAt.below HP.out hbb (Nat.le_refl _))
  replace HB := Lib.hid (belS HB.out hbb)
  clear hbb
  have hbn := Bx.new ((w1).alloc (.cells #[.string ⟨kd.toArray⟩, .bool on, .bool br, .slice ua y.length uc, .int .i64 cnt] 26)) [.string ⟨[80, 117, 116].toArray⟩, .string ⟨k.toArray⟩, .int .i64 n, .string ⟨t.toArray⟩] 28
  have hbb := bx_box ((w1).alloc (.cells #[.string ⟨kd.toArray⟩, .bool on, .bool br, .slice ua y.length uc, .int .i64 cnt] 26)) (.cells #[.string ⟨[80, 117, 116].toArray⟩, .string ⟨k.toArray⟩, .int .i64 n, .string ⟨t.toArray⟩] 28)
  rw [show ((w1).alloc (.cells #[.string ⟨kd.toArray⟩, .bool on, .bool br, .slice ua y.length uc, .int .i64 cnt] 26)).heap.size = w1.heap.size + 1 by simp] at hbn
  have Vb_x := Lib.hid hbn
  clear hbn
  replace Vb_p := Lib.hid (Vb_p.out.below hbb)
  replace HP := Lib.hid (FlatAt.below HP.out hbb (Nat.le_refl _))
  replace HB := Lib.hid (belS HB.out hbb)
  clear hbb
  generalize ((w1).alloc (.cells #[.string ⟨kd.toArray⟩, .bool on, .bool br, .slice ua y.length uc, .int .i64 cnt] 26)).alloc (.cells #[.string ⟨[80, 117, 116].toArray⟩, .string ⟨k.toArray⟩, .int .i64 n, .string ⟨t.toArray⟩] 28) = w4 at *
  have HCC := Lib.hid (fun W (h : FlatAt cCell 2 W (.slice ua y.length uc) y) (hM : W.cell? ⟨0, 0, none⟩ = some (.int .i64 mx)) => implCallCore_c (vCore (⟨kd, on, br, y, cnt⟩ : CoreD) (.slice ua y.length uc)) (⟨kd, on, br, y, cnt⟩ : CoreD) (putX (⟨m, k, n, t⟩ : CallD)) mx W ⟨_, rfl, h⟩ (by have := HYL.out; simp only; omega) HK2.out (Nat.le_trans HOK.out.1 (by decide)) HOK.out.2.2.2.1 (Nat.le_trans HOX.out.2.1 (by decide)) (Nat.le_trans HOX.out.2.2.2 (by decide)) hM)
  have HG1 := Lib.hid (fun kk (hk : kk.length ≤ 9) W (h : FlatAt cCell 2 W (.slice ua y.length uc) y) (hM : W.cell? ⟨0, 0, none⟩ = some (.int .i64 mx)) => implCallCore_c (vCore (⟨kd, on, br, y, cnt⟩ : CoreD) (.slice ua y.length uc)) (⟨kd, on, br, y, cnt⟩ : CoreD) (getX kk) mx W ⟨_, rfl, h⟩ (by have := HYL.out; simp only; omega) HK2.out (Nat.le_trans HOK.out.1 (by decide)) HOK.out.2.2.2.1 (Nat.le_trans hk (by decide)) (by unfold getX; simp) hM)
  have HPV := Lib.hid (fun h => @putX_vals (⟨kd, on, br, y, cnt⟩ : CoreD) (⟨m, k, n, t⟩ : CallD) h)
  have HPG := Lib.hid (fun h => @put_get (⟨kd, on, br, y, cnt⟩ : CoreD) (⟨m, k, n, t⟩ : CallD) h)
  have HPO := Lib.hid (fun h kk hk => @put_other (⟨kd, on, br, y, cnt⟩ : CoreD) (⟨m, k, n, t⟩ : CallD) h kk hk)
  have HPD := Lib.hid (fun h => doD_core (putX (⟨m, k, n, t⟩ : CallD)) (@put_did (⟨kd, on, br, y, cnt⟩ : CoreD) (putX (⟨m, k, n, t⟩ : CallD)) rfl h).1)
  have HKY := Lib.hid (show ∀ c ∈ y, c.fKey.length ≤ 9 from fun c hc => (HOK.out.2.2.1 c hc).1)
  generalize doD (⟨kd, on, br, y, cnt⟩ : CoreD) (putX (⟨m, k, n, t⟩ : CallD)) = out at *
  unfold vCore at HCC HG1
  simp only [vCall, putX, mPut] at HCC
  simp only [vCall_getX] at HG1
  obtain ⟨⟨ka, oa, ba, ya, na⟩, c0, c1, c2, c3, c4⟩ := out
  simp only [vCore, vReply] at HCC
  clear HK1
  have B_p := Vb_p.out
  have p_0 := Vb_p.out.cell 0 (by simp)
  have p_1 := Vb_p.out.cell 1 (by simp)
  have p_2 := Vb_p.out.cell 2 (by simp)
  have p_3 := Vb_p.out.cell 3 (by simp)
  have p_4 := Vb_p.out.cell 4 (by simp)
  simp only [List.getElem_cons_zero, List.getElem_cons_succ] at p_0 p_1 p_2 p_3 p_4
  have p_l := Vb_p.out.lt
  clear B_p
  have B_x := Vb_x.out
  have x_0 := Vb_x.out.cell 0 (by simp)
  have x_1 := Vb_x.out.cell 1 (by simp)
  have x_2 := Vb_x.out.cell 2 (by simp)
  have x_3 := Vb_x.out.cell 3 (by simp)
  simp only [List.getElem_cons_zero, List.getElem_cons_succ] at x_0 x_1 x_2 x_3
  have x_l := Vb_x.out.lt
  clear B_x
  go_wp2_with fail
  clear p_0 p_1 p_2 p_3 p_4 p_l x_0 x_1 x_2 x_3 x_l
  refine (HCC.out _ HP.out (HMX.out _ HB.out)).mono ?_
  rintro e w5 ⟨u, rfl, ho, hb⟩
  replace Vb_p := Lib.hid (Vb_p.out.below hb)
  replace Vb_x := Lib.hid (Vb_x.out.below hb)
  replace HP := Lib.hid (FlatAt.below HP.out hb (Nat.le_refl _))
  replace HB := Lib.hid (belS HB.out hb)
  clear hb
  have HOQ := Lib.hid ho
  obtain ⟨qa, qc, rfl⟩ := slice_of ho
  clear ho HCC
  go_upto_region 6 with fail
  have hbn := Bx.new (w5) [.string ⟨ka.toArray⟩, .bool oa, .bool ba, .slice qa ya.length qc, .int .i64 na] 26
  have hbb := bx_box (w5) (.cells #[.string ⟨ka.toArray⟩, .bool oa, .bool ba, .slice qa ya.length qc, .int .i64 na] 26)
  have Vb_q := Lib.hid hbn
  clear hbn
  replace Vb_p := Lib.hid (Vb_p.out.below hbb)
  replace Vb_x := Lib.hid (Vb_x.out.below hbb)
  replace HP := Lib.hid (FlatAt.below HP.out hbb (Nat.le_refl _))
  replace HOQ := Lib.hid (ownsF_below HOQ.out hbb (Nat.le_refl _))
  replace HB := Lib.hid (belS HB.out hbb)
  clear hbb
  have hbn := Bx.new ((w5).alloc (.cells #[.string ⟨ka.toArray⟩, .bool oa, .bool ba, .slice qa ya.length qc, .int .i64 na] 26)) [.int .i64 c0, .int .i64 c1, .string ⟨c2.toArray⟩, .int .i64 c3, .int .i64 c4] 32
  have hbb := bx_box ((w5).alloc (.cells #[.string ⟨ka.toArray⟩, .bool oa, .bool ba, .slice qa ya.length qc, .int .i64 na] 26)) (.cells #[.int .i64 c0, .int .i64 c1, .string ⟨c2.toArray⟩, .int .i64 c3, .int .i64 c4] 32)
  rw [show ((w5).alloc (.cells #[.string ⟨ka.toArray⟩, .bool oa, .bool ba, .slice qa ya.length qc, .int .i64 na] 26)).heap.size = w5.heap.size + 1 by simp] at hbn
  have Vb_r := Lib.hid hbn
  clear hbn
  replace Vb_p := Lib.hid (Vb_p.out.below hbb)
  replace Vb_x := Lib.hid (Vb_x.out.below hbb)
  replace Vb_q := Lib.hid (Vb_q.out.below hbb)
  replace HP := Lib.hid (FlatAt.below HP.out hbb (Nat.le_refl _))
  replace HOQ := Lib.hid (ownsF_below HOQ.out hbb (Nat.le_refl _))
  replace HB := Lib.hid (belS HB.out hbb)
  clear hbb
  generalize ((w5).alloc (.cells #[.string ⟨ka.toArray⟩, .bool oa, .bool ba, .slice qa ya.length qc, .int .i64 na] 26)).alloc (.cells #[.int .i64 c0, .int .i64 c1, .string ⟨c2.toArray⟩, .int .i64 c3, .int .i64 c4] 32) = w8 at *
  by_cases e0 : c0 = 0
  · skip
    subst e0
    have HV := Lib.hid (HPD.out rfl)
    have hv1 : c1 = (ya.length : Int) := HPV.out rfl
    subst hv1
    have HGG := Lib.hid (HPG.out rfl)
    have HOO := Lib.hid (fun kk hk => HPO.out rfl kk hk)
    clear HPV HPG HPO HPD
    replace HOQ := Lib.hid (ownsF_at HOQ.out (show ya.length ≤ 4194304 by have h : ya.length ≤ 4 := core_len HV.out; omega))
    have HG2 := Lib.hid (fun kk (hk : kk.length ≤ 9) W (h : FlatAt cCell 2 W (.slice qa ya.length qc) ya) (hM : W.cell? ⟨0, 0, none⟩ = some (.int .i64 mx)) => implCallCore_c (vCore (⟨ka, oa, ba, ya, na⟩ : CoreD) (.slice qa ya.length qc)) (⟨ka, oa, ba, ya, na⟩ : CoreD) (getX kk) mx W ⟨_, rfl, h⟩ (Nat.le_trans (core_len HV.out) (by decide)) (fun c hc => Nat.le_trans (core_keys HV.out c hc) (by decide)) (Nat.le_trans (core_kind_len HV.out) (by decide)) (by have := (core_cnt HV.out).1; simp only at this ⊢; omega) (Nat.le_trans hk (by decide)) (by unfold getX; simp) hM)
    have HG3 := Lib.hid (HG2.out k HOX.out.2.1)
    generalize hg3 : doD (⟨ka, oa, ba, ya, na⟩ : CoreD) (getX k) = o3 at *
    clear hg3
    obtain ⟨⟨kg, og, bg, yg, ng⟩, o3r⟩ := o3
    have hgg : o3r = rV n := HGG.out
    subst hgg
    clear HGG
    unfold vCore at HG2
    simp only [vCore, vReply, rV, vCall_getX] at HG3
    simp only [vCall_getX] at HG2
    have B_r := Vb_r.out
    have r_0 := Vb_r.out.cell 0 (by simp)
    have r_1 := Vb_r.out.cell 1 (by simp)
    have r_2 := Vb_r.out.cell 2 (by simp)
    have r_3 := Vb_r.out.cell 3 (by simp)
    have r_4 := Vb_r.out.cell 4 (by simp)
    simp only [List.getElem_cons_zero, List.getElem_cons_succ] at r_0 r_1 r_2 r_3 r_4
    have r_l := Vb_r.out.lt
    clear B_r
    have B_q := Vb_q.out
    have q_0 := Vb_q.out.cell 0 (by simp)
    have q_1 := Vb_q.out.cell 1 (by simp)
    have q_2 := Vb_q.out.cell 2 (by simp)
    have q_3 := Vb_q.out.cell 3 (by simp)
    have q_4 := Vb_q.out.cell 4 (by simp)
    simp only [List.getElem_cons_zero, List.getElem_cons_succ] at q_0 q_1 q_2 q_3 q_4
    have q_l := Vb_q.out.lt
    clear B_q
    have B_x := Vb_x.out
    have x_0 := Vb_x.out.cell 0 (by simp)
    have x_1 := Vb_x.out.cell 1 (by simp)
    have x_2 := Vb_x.out.cell 2 (by simp)
    have x_3 := Vb_x.out.cell 3 (by simp)
    simp only [List.getElem_cons_zero, List.getElem_cons_succ] at x_0 x_1 x_2 x_3
    have x_l := Vb_x.out.lt
    clear B_x
    go_wp2_with fail
    clear r_0 r_1 r_2 r_3 r_4 r_l q_0 q_1 q_2 q_3 q_4 q_l x_0 x_1 x_2 x_3 x_l
    refine (HG3.out _ HOQ.out (HMX.out _ HB.out)).mono ?_
    rintro e w80 ⟨u, rfl, ho, hb⟩
    replace Vb_p := Lib.hid (Vb_p.out.below hb)
    replace Vb_x := Lib.hid (Vb_x.out.below hb)
    replace Vb_q := Lib.hid (Vb_q.out.below hb)
    replace Vb_r := Lib.hid (Vb_r.out.below hb)
    replace HP := Lib.hid (FlatAt.below HP.out hb (Nat.le_refl _))
    replace HOQ := Lib.hid (FlatAt.below HOQ.out hb (Nat.le_refl _))
    replace HB := Lib.hid (belS HB.out hb)
    clear hb
    obtain ⟨ga, gc, rfl⟩ := slice_of ho
    clear ho HG3
    go_upto_region 9 with fail
    have hbn := Bx.new (w80) [.string ⟨kg.toArray⟩, .bool og, .bool bg, .slice ga yg.length gc, .int .i64 ng] 26
    have hbb := bx_box (w80) (.cells #[.string ⟨kg.toArray⟩, .bool og, .bool bg, .slice ga yg.length gc, .int .i64 ng] 26)
    have Vb_g0 := Lib.hid hbn
    clear hbn
    replace Vb_p := Lib.hid (Vb_p.out.below hbb)
    replace Vb_x := Lib.hid (Vb_x.out.below hbb)
    replace Vb_q := Lib.hid (Vb_q.out.below hbb)
    replace Vb_r := Lib.hid (Vb_r.out.below hbb)
    replace HP := Lib.hid (FlatAt.below HP.out hbb (Nat.le_refl _))
    replace HOQ := Lib.hid (FlatAt.below HOQ.out hbb (Nat.le_refl _))
    replace HB := Lib.hid (belS HB.out hbb)
    clear hbb
    have hbn := Bx.new ((w80).alloc (.cells #[.string ⟨kg.toArray⟩, .bool og, .bool bg, .slice ga yg.length gc, .int .i64 ng] 26)) [.int .i64 0, .int .i64 n, .string ⟨[].toArray⟩, .int .i64 0, .int .i64 0] 32
    have hbb := bx_box ((w80).alloc (.cells #[.string ⟨kg.toArray⟩, .bool og, .bool bg, .slice ga yg.length gc, .int .i64 ng] 26)) (.cells #[.int .i64 0, .int .i64 n, .string ⟨[].toArray⟩, .int .i64 0, .int .i64 0] 32)
    rw [show ((w80).alloc (.cells #[.string ⟨kg.toArray⟩, .bool og, .bool bg, .slice ga yg.length gc, .int .i64 ng] 26)).heap.size = w80.heap.size + 1 by simp] at hbn
    have Vb_g := Lib.hid hbn
    clear hbn
    replace Vb_p := Lib.hid (Vb_p.out.below hbb)
    replace Vb_x := Lib.hid (Vb_x.out.below hbb)
    replace Vb_q := Lib.hid (Vb_q.out.below hbb)
    replace Vb_r := Lib.hid (Vb_r.out.below hbb)
    replace Vb_g0 := Lib.hid (Vb_g0.out.below hbb)
    replace HP := Lib.hid (FlatAt.below HP.out hbb (Nat.le_refl _))
    replace HOQ := Lib.hid (FlatAt.below HOQ.out hbb (Nat.le_refl _))
    replace HB := Lib.hid (belS HB.out hbb)
    clear hbb
    generalize ((w80).alloc (.cells #[.string ⟨kg.toArray⟩, .bool og, .bool bg, .slice ga yg.length gc, .int .i64 ng] 26)).alloc (.cells #[.int .i64 0, .int .i64 n, .string ⟨[].toArray⟩, .int .i64 0, .int .i64 0] 32) = w11 at *
    have B_g := Vb_g.out
    have g_0 := Vb_g.out.cell 0 (by simp)
    have g_1 := Vb_g.out.cell 1 (by simp)
    have g_2 := Vb_g.out.cell 2 (by simp)
    have g_3 := Vb_g.out.cell 3 (by simp)
    have g_4 := Vb_g.out.cell 4 (by simp)
    simp only [List.getElem_cons_zero, List.getElem_cons_succ] at g_0 g_1 g_2 g_3 g_4
    have g_l := Vb_g.out.lt
    clear B_g
    have B_r := Vb_r.out
    have r_0 := Vb_r.out.cell 0 (by simp)
    have r_1 := Vb_r.out.cell 1 (by simp)
    have r_2 := Vb_r.out.cell 2 (by simp)
    have r_3 := Vb_r.out.cell 3 (by simp)
    have r_4 := Vb_r.out.cell 4 (by simp)
    simp only [List.getElem_cons_zero, List.getElem_cons_succ] at r_0 r_1 r_2 r_3 r_4
    have r_l := Vb_r.out.lt
    clear B_r
    have B_q := Vb_q.out
    have q_0 := Vb_q.out.cell 0 (by simp)
    have q_1 := Vb_q.out.cell 1 (by simp)
    have q_2 := Vb_q.out.cell 2 (by simp)
    have q_3 := Vb_q.out.cell 3 (by simp)
    have q_4 := Vb_q.out.cell 4 (by simp)
    simp only [List.getElem_cons_zero, List.getElem_cons_succ] at q_0 q_1 q_2 q_3 q_4
    have q_l := Vb_q.out.lt
    clear B_q
    have B_x := Vb_x.out
    have x_0 := Vb_x.out.cell 0 (by simp)
    have x_1 := Vb_x.out.cell 1 (by simp)
    have x_2 := Vb_x.out.cell 2 (by simp)
    have x_3 := Vb_x.out.cell 3 (by simp)
    simp only [List.getElem_cons_zero, List.getElem_cons_succ] at x_0 x_1 x_2 x_3
    have x_l := Vb_x.out.lt
    clear B_x
    have B_p := Vb_p.out
    have p_0 := Vb_p.out.cell 0 (by simp)
    have p_1 := Vb_p.out.cell 1 (by simp)
    have p_2 := Vb_p.out.cell 2 (by simp)
    have p_3 := Vb_p.out.cell 3 (by simp)
    have p_4 := Vb_p.out.cell 4 (by simp)
    simp only [List.getElem_cons_zero, List.getElem_cons_succ] at p_0 p_1 p_2 p_3 p_4
    have p_l := Vb_p.out.lt
    clear B_p
    go_wp2_with fail
    clear g_0 g_1 g_2 g_3 g_4 g_l r_0 r_1 r_2 r_3 r_4 r_l q_0 q_1 q_2 q_3 q_4 q_l x_0 x_1 x_2 x_3 x_l p_0 p_1 p_2 p_3 p_4 p_l
    have HBL := Lib.hid (Below.refl w11.heap.size w11)
    go_loopw [9, 10, 11, 12, 13] (fun i _ _ _ _ wr => ∃ j : Nat, j ≤ y.length ∧ i = .int .i64 j ∧ Below w11.heap.size w11 wr) (fun i _ _ _ _ _ => y.length - (intOf i).toNat)
    case atStart => exact ⟨0, Nat.zero_le _, rfl, HBL.out⟩
    case round =>
      as_aux_lemma =>
        obtain ⟨j, hj2, rfl, hb⟩ := hrel
        clear HBL
        have HBR := Lib.hid hb
        replace Vb_p := Lib.hid (Vb_p.out.below hb)
        replace Vb_x := Lib.hid (Vb_x.out.below hb)
        replace Vb_q := Lib.hid (Vb_q.out.below hb)
        replace Vb_r := Lib.hid (Vb_r.out.below hb)
        replace Vb_g := Lib.hid (Vb_g.out.below hb)
        replace HP := Lib.hid (FlatAt.below HP.out hb (Nat.le_refl _))
        replace HOQ := Lib.hid (FlatAt.below HOQ.out hb (Nat.le_refl _))
        replace HB := Lib.hid (belS HB.out hb)
        clear hb
        by_cases hlt : j < y.length
        · skip
          obtain ⟨xb, xo, hxe, hxw, hd⟩ := flatAt_cell cCell_len HP.out j hlt (by decide)
          subst hxe
          have hd0 := hd 0 (by decide)
          clear hd
          have hjy := HKY.out y[j] (List.getElem_mem hlt)
          generalize y[j] = cj at *
          obtain ⟨kk, vv⟩ := cj
          simp only [cCell, List.getElem?_cons_zero, Nat.add_zero] at hd0 hjy
          have HD0 := Lib.hid hd0
          have HXW := Lib.hid hxw
          clear hd0 hxw
          have hj0 : (0 : Int) ≤ (j : Int) := by omega
          have hjl : (j : Int) < (y.length : Int) := by omega
          have hi1 := HG1.out kk hjy
          have hi2 := HG2.out kk hjy
          have HO2 := Lib.hid (HOO.out kk)
          have HC1 := Lib.hid hi1
          have HC2 := Lib.hid hi2
          clear hi1 hi2 HG1 HG2
          generalize doD (⟨kd, on, br, y, cnt⟩ : CoreD) (getX kk) = oa1 at *
          generalize doD (⟨ka, oa, ba, ya, na⟩ : CoreD) (getX kk) = oa2 at *
          obtain ⟨⟨kx, ox, bx, yx, nx⟩, a0, a1, a2, a3, a4⟩ := oa1
          obtain ⟨⟨kz, oz, bz, yz, nz⟩, b0, b1, b2, b3, b4⟩ := oa2
          simp only [vCore, vReply] at HC1 HC2 HO2
          have B_p := Vb_p.out
          have p_0 := Vb_p.out.cell 0 (by simp)
          have p_1 := Vb_p.out.cell 1 (by simp)
          have p_2 := Vb_p.out.cell 2 (by simp)
          have p_3 := Vb_p.out.cell 3 (by simp)
          have p_4 := Vb_p.out.cell 4 (by simp)
          simp only [List.getElem_cons_zero, List.getElem_cons_succ] at p_0 p_1 p_2 p_3 p_4
          have p_l := Vb_p.out.lt
          clear B_p
          go_upto_region 14 with fail
          clear p_0 p_1 p_2 p_3 p_4 p_l
          go_upto_region 14 with fail
          have HSof := Lib.hid (fun W (h : Below wr.heap.size wr W) => (show W.cell? ⟨w1.heap.size, 0, none⟩ = some (.string ⟨kd.toArray⟩) ∧ W.cell? ⟨w1.heap.size, 1, none⟩ = some (.bool on) ∧ W.cell? ⟨w1.heap.size, 2, none⟩ = some (.bool br) ∧ W.cell? ⟨w1.heap.size, 3, none⟩ = some (.slice (some ⟨xb, xo, none⟩) y.length uc) ∧ W.cell? ⟨w1.heap.size, 4, none⟩ = some (.int .i64 cnt) ∧ W.cell? ⟨xb, xo + j * 2, none⟩ = some (.string ⟨kk.toArray⟩) from ⟨(h.cell (p := ⟨w1.heap.size, 0, none⟩) Vb_p.out.lt).trans (Vb_p.out.cell 0 (by simp)), (h.cell (p := ⟨w1.heap.size, 1, none⟩) Vb_p.out.lt).trans (Vb_p.out.cell 1 (by simp)), (h.cell (p := ⟨w1.heap.size, 2, none⟩) Vb_p.out.lt).trans (Vb_p.out.cell 2 (by simp)), (h.cell (p := ⟨w1.heap.size, 3, none⟩) Vb_p.out.lt).trans (Vb_p.out.cell 3 (by simp)), (h.cell (p := ⟨w1.heap.size, 4, none⟩) Vb_p.out.lt).trans (Vb_p.out.cell 4 (by simp)), (h.cell (p := ⟨xb, xo + j * 2, none⟩) HXW.out).trans HD0.out⟩))
          have HFS := Lib.hid (show ∀ W W' : World, (W.cell? ⟨w1.heap.size, 0, none⟩ = some (.string ⟨kd.toArray⟩) ∧ W.cell? ⟨w1.heap.size, 1, none⟩ = some (.bool on) ∧ W.cell? ⟨w1.heap.size, 2, none⟩ = some (.bool br) ∧ W.cell? ⟨w1.heap.size, 3, none⟩ = some (.slice (some ⟨xb, xo, none⟩) y.length uc) ∧ W.cell? ⟨w1.heap.size, 4, none⟩ = some (.int .i64 cnt) ∧ W.cell? ⟨xb, xo + j * 2, none⟩ = some (.string ⟨kk.toArray⟩)) → Below W.heap.size W W' → (W'.cell? ⟨w1.heap.size, 0, none⟩ = some (.string ⟨kd.toArray⟩) ∧ W'.cell? ⟨w1.heap.size, 1, none⟩ = some (.bool on) ∧ W'.cell? ⟨w1.heap.size, 2, none⟩ = some (.bool br) ∧ W'.cell? ⟨w1.heap.size, 3, none⟩ = some (.slice (some ⟨xb, xo, none⟩) y.length uc) ∧ W'.cell? ⟨w1.heap.size, 4, none⟩ = some (.int .i64 cnt) ∧ W'.cell? ⟨xb, xo + j * 2, none⟩ = some (.string ⟨kk.toArray⟩)) from fun W W' hh hb => by obtain ⟨q0, q1, q2, q3, q4, q5⟩ := hh; exact ⟨(hb.cell (p := ⟨w1.heap.size, 0, none⟩) (World.block_lt_of_cell? _ _ q0)).trans q0, (hb.cell (p := ⟨w1.heap.size, 1, none⟩) (World.block_lt_of_cell? _ _ q1)).trans q1, (hb.cell (p := ⟨w1.heap.size, 2, none⟩) (World.block_lt_of_cell? _ _ q2)).trans q2, (hb.cell (p := ⟨w1.heap.size, 3, none⟩) (World.block_lt_of_cell? _ _ q3)).trans q3, (hb.cell (p := ⟨w1.heap.size, 4, none⟩) (World.block_lt_of_cell? _ _ q4)).trans q4, (hb.cell (p := ⟨xb, xo + j * 2, none⟩) (World.block_lt_of_cell? _ _ q5)).trans q5⟩)
          refine wp_region_held_drew (S := fun w' => w'.cell? ⟨w1.heap.size, 0, none⟩ = some (.string ⟨kd.toArray⟩) ∧ w'.cell? ⟨w1.heap.size, 1, none⟩ = some (.bool on) ∧ w'.cell? ⟨w1.heap.size, 2, none⟩ = some (.bool br) ∧ w'.cell? ⟨w1.heap.size, 3, none⟩ = some (.slice (some ⟨xb, xo, none⟩) y.length uc) ∧ w'.cell? ⟨w1.heap.size, 4, none⟩ = some (.int .i64 cnt) ∧ w'.cell? ⟨xb, xo + j * 2, none⟩ = some (.string ⟨kk.toArray⟩)) (by kernel_rfl) ?_ (fun hHeld => ?_)
          · exact HSof.out wr.drew (Below.refl wr.heap.size wr).drew
          have HBW := Lib.hid ((Below.refl wr.heap.size wr).drew)
          generalize wr.drew = vf0 at *
          refine wpAnyH_take (i := 0) (v := ?_) rfl (by kernel_rfl) (by kernel_rfl) (by kernel_rfl) (fun _ _ _ h => h) (Or.inl ⟨by rfl, ?_⟩) (by assumption) ?_
          rotate_left
          · intro w hSw; (try dsimp only at hSw); go_simp; with_reducible rfl
          try simp only [Act.put, List.getElem_toArray, List.getElem_cons_zero, List.getElem_cons_succ, List.setIfInBounds_toArray, List.set_cons_zero, List.set_cons_succ]
          refine wpAnyH_take (i := 1) (v := ?_) rfl (by kernel_rfl) (by kernel_rfl) (by kernel_rfl) (fun _ _ _ h => h) (Or.inl ⟨by rfl, ?_⟩) (by assumption) ?_
          rotate_left
          · intro w hSw; (try dsimp only at hSw); go_simp; with_reducible rfl
          try simp only [Act.put, List.getElem_toArray, List.getElem_cons_zero, List.getElem_cons_succ, List.setIfInBounds_toArray, List.set_cons_zero, List.set_cons_succ]
          refine wpAnyH_take (i := 3) (v := ?_) rfl (by kernel_rfl) (by kernel_rfl) (by kernel_rfl) (fun _ _ _ h => h) (Or.inl ⟨by rfl, ?_⟩) (by assumption) ?_
          rotate_left
          · intro w hSw; (try dsimp only at hSw); go_simp; with_reducible rfl
          try simp only [Act.put, List.getElem_toArray, List.getElem_cons_zero, List.getElem_cons_succ, List.setIfInBounds_toArray, List.set_cons_zero, List.set_cons_succ]
          refine wpAnyH_take (i := 2) (v := ?_) rfl (by kernel_rfl) (by kernel_rfl) (by kernel_rfl) (fun _ _ _ h => h) (Or.inl ⟨by rfl, ?_⟩) (by assumption) ?_
          rotate_left
          · intro w hSw; (try dsimp only at hSw); go_simp; with_reducible rfl
          try simp only [Act.put, List.getElem_toArray, List.getElem_cons_zero, List.getElem_cons_succ, List.setIfInBounds_toArray, List.set_cons_zero, List.set_cons_succ]
          refine wpAnyH_take (i := 4) (v := ?_) rfl (by kernel_rfl) (by kernel_rfl) (by kernel_rfl) (fun _ _ _ h => h) (Or.inl ⟨by rfl, ?_⟩) (by assumption) ?_
          rotate_left
          · intro w hSw; (try dsimp only at hSw); go_simp; with_reducible rfl
          try simp only [Act.put, List.getElem_toArray, List.getElem_cons_zero, List.getElem_cons_succ, List.setIfInBounds_toArray, List.set_cons_zero, List.set_cons_succ]
          refine wpAnyH_take (i := 5) (v := ?_) rfl (by kernel_rfl) (by kernel_rfl) (by kernel_rfl) (fun _ _ _ h => h) (Or.inl ⟨by rfl, ?_⟩) (by assumption) ?_
          rotate_left
          · intro w hSw; (try dsimp only at hSw); go_simp; with_reducible rfl
          try simp only [Act.put, List.getElem_toArray, List.getElem_cons_zero, List.getElem_cons_succ, List.setIfInBounds_toArray, List.set_cons_zero, List.set_cons_succ]
          refine wpAnyH_take (i := 6) (v := ?_) rfl (by kernel_rfl) (by kernel_rfl) (by kernel_rfl) (fun _ _ _ h => h) (Or.inl ⟨by rfl, ?_⟩) (by assumption) ?_
          rotate_left
          · intro w hSw; (try dsimp only at hSw); go_simp; with_reducible rfl
          try simp only [Act.put, List.getElem_toArray, List.getElem_cons_zero, List.getElem_cons_succ, List.setIfInBounds_toArray, List.set_cons_zero, List.set_cons_succ]
          refine wpAnyH_take (i := 7) (v := ?_) rfl (by kernel_rfl) (by kernel_rfl) (by kernel_rfl) (fun _ _ _ h => h) (Or.inl ⟨by rfl, ?_⟩) (by assumption) ?_
          rotate_left
          · intro w hSw; (try dsimp only at hSw); go_simp; with_reducible rfl
          try simp only [Act.put, List.getElem_toArray, List.getElem_cons_zero, List.getElem_cons_succ, List.setIfInBounds_toArray, List.set_cons_zero, List.set_cons_succ]
          refine wpAnyH_floatN (k1 := 12) (k2 := 13) (d1 := 10) (d2 := 11) (z1 := [.string ⟨#[]⟩, .bool false, .bool false, .slice none 0 0, .int .i64 0]) (z2 := [.int .i64 0, .int .i64 0, .string ⟨#[]⟩, .int .i64 0, .int .i64 0]) (T1 := 26) (T2 := 32) (js := [(8, false), (9, true), (10, true), (11, true)]) (fz := 2) rfl ⟨⟨_, rfl, rfl, rfl, fun a w => ?_⟩⟩ ⟨⟨_, rfl, rfl, rfl, fun a w => ?_⟩⟩ (by kernel_rfl) (by decide) (by decide) (by kernel_rfl) (fun _ _ _ _ _ => Iff.rfl) HFS.out (by assumption) ?_
          · rfl
          · rfl
          have ZB := Lib.hid HBW.out.size
          refine wpFl_step rfl (fun vf1 hbG hHeld K hK => ?_)
          replace HBW := Lib.hid (HBW.out.trans (hbG.mono HBW.out.size))
          clear hbG
          go_simp
          go_at_call 9
          refine (HC1.out _ (FlatAt.below HP.out HBW.out (Nat.le_refl _)) (HMX.out _ (belS HB.out HBW.out))).mono ?_
          rintro e vf2 ⟨u, rfl, ho, hb⟩
          obtain ⟨vfa, vfc, rfl⟩ := slice_of ho
          clear ho
          replace HBW := Lib.hid (HBW.out.trans (hb.mono HBW.out.size))
          refine hK.out _ _ hb (HSof.out _ HBW.out) ?_
          clear hK K hb hHeld
          try simp only [Act.put, List.getElem_toArray, List.getElem_cons_zero, List.getElem_cons_succ, List.setIfInBounds_toArray, List.set_cons_zero, List.set_cons_succ]
          refine wpFl_take (v := ?_) rfl (Or.inl ⟨by rfl, ?_⟩) ?_
          rotate_left
          · intro w hSw; (try dsimp only at hSw); go_simp; with_reducible rfl
          try simp only [Act.put, List.getElem_toArray, List.getElem_cons_zero, List.getElem_cons_succ, List.setIfInBounds_toArray, List.set_cons_zero, List.set_cons_succ]
          refine wpFl_take (v := ?_) rfl (Or.inl ⟨by rfl, ?_⟩) ?_
          rotate_left
          · intro w hSw; (try dsimp only at hSw); go_simp; with_reducible rfl
          try simp only [Act.put, List.getElem_toArray, List.getElem_cons_zero, List.getElem_cons_succ, List.setIfInBounds_toArray, List.set_cons_zero, List.set_cons_succ]
          refine wpFl_take (v := ?_) rfl (Or.inl ⟨by rfl, ?_⟩) ?_
          rotate_left
          · intro w hSw; (try dsimp only at hSw); go_simp; with_reducible rfl
          try simp only [Act.put, List.getElem_toArray, List.getElem_cons_zero, List.getElem_cons_succ, List.setIfInBounds_toArray, List.set_cons_zero, List.set_cons_succ]
          refine wpFl_end (fun vf3 bxa1 bxa2 hbG hHeld hbx1 hbx2 hbne hbl1 hbl2 hgap => ?_)
          replace HBW := Lib.hid (HBW.out.trans (hbG.mono HBW.out.size))
          clear hbG hgap
          try simp only [Act.put, List.getElem_toArray, List.getElem_cons_zero, List.getElem_cons_succ, List.setIfInBounds_toArray, List.set_cons_zero, List.set_cons_succ]
          have r1_0 := hbx1.cell 0 (by simp)
          have y1_0 := hbx1.froz 0 (by simp)
          have r1_1 := hbx1.cell 1 (by simp)
          have y1_1 := hbx1.froz 1 (by simp)
          have r1_2 := hbx1.cell 2 (by simp)
          have y1_2 := hbx1.froz 2 (by simp)
          have r1_3 := hbx1.cell 3 (by simp)
          have y1_3 := hbx1.froz 3 (by simp)
          have r1_4 := hbx1.cell 4 (by simp)
          have y1_4 := hbx1.froz 4 (by simp)
          have r2_0 := hbx2.cell 0 (by simp)
          have y2_0 := hbx2.froz 0 (by simp)
          have r2_1 := hbx2.cell 1 (by simp)
          have y2_1 := hbx2.froz 1 (by simp)
          have r2_2 := hbx2.cell 2 (by simp)
          have y2_2 := hbx2.froz 2 (by simp)
          have r2_3 := hbx2.cell 3 (by simp)
          have y2_3 := hbx2.froz 3 (by simp)
          have r2_4 := hbx2.cell 4 (by simp)
          have y2_4 := hbx2.froz 4 (by simp)
          simp only [List.getElem_cons_zero, List.getElem_cons_succ] at r1_0 r1_1 r1_2 r1_3 r1_4 r2_0 r2_1 r2_2 r2_3 r2_4
          have hbm1 : wr.heap.size ≤ bxa1 := Nat.le_trans ZB.out hbl1
          have hbm2 : wr.heap.size ≤ bxa2 := Nat.le_trans ZB.out hbl2
          have ne12 : ¬ bxa1 = bxa2 := hbne
          have ne21 : ¬ bxa2 = bxa1 := fun e => hbne e.symm
          have hlx1 := hbx1.lt
          have hlx2 := hbx2.lt
          have BX1 := Lib.hid hbx1
          have BX2 := Lib.hid hbx2
          clear hbx1 hbx2
          refine wpAnyH_ready (rs := [14]) (by kernel_rfl) (by simp) ?_
          refine AllReadyH.cons rfl (fun K hK => ?_) AllReadyH.nil
          go_simp
          refine hK.out _ _ ?_ (fun hHeld => ?_)
          · exact HSof.out _ (belQ5 HBW.out hbm1 _ _ _ _ _)
          clear hK K
          try simp only [Act.put, List.getElem_toArray, List.getElem_cons_zero, List.getElem_cons_succ, List.setIfInBounds_toArray, List.set_cons_zero, List.set_cons_succ]
          refine wpAnyH_ready (rs := [15]) (by kernel_rfl) (by simp) ?_
          refine AllReadyH.cons rfl (fun K hK => ?_) AllReadyH.nil
          go_simp
          refine hK.out _ _ ?_ (fun hHeld => ?_)
          · exact HSof.out _ (belQ5 (belQ5 HBW.out hbm1 _ _ _ _ _) hbm2 _ _ _ _ _)
          clear hK K
          try simp only [Act.put, List.getElem_toArray, List.getElem_cons_zero, List.getElem_cons_succ, List.setIfInBounds_toArray, List.set_cons_zero, List.set_cons_succ]
          refine wpAnyH_done (by kernel_rfl) ?_ _
          have BXF := Lib.hid (bxP5 (bxP5o BX2.out ne21 (.string ⟨kx.toArray⟩) (.bool ox) (.bool bx) (.slice vfa yx.length vfc) (.int .i64 nx)) (.int .i64 a0) (.int .i64 a1) (.string ⟨a2.toArray⟩) (.int .i64 a3) (.int .i64 a4))
          have hb := belQ5 (belQ5 HBW.out hbm1 (.string ⟨kx.toArray⟩) (.bool ox) (.bool bx) (.slice vfa yx.length vfc) (.int .i64 nx)) hbm2 (.int .i64 a0) (.int .i64 a1) (.string ⟨a2.toArray⟩) (.int .i64 a3) (.int .i64 a4)
          clear r1_0 r1_1 r1_2 r1_3 r1_4 r2_0 r2_1 r2_2 r2_3 r2_4 y1_0 y1_1 y1_2 y1_3 y1_4 y2_0 y2_1 y2_2 y2_3 y2_4 hHeld HSof HFS BX1 BX2 ZB
          generalize ((((((((((vf3.setCell ⟨bxa1, 0, none⟩ (.string ⟨kx.toArray⟩)).setCell ⟨bxa1, 1, none⟩ (.bool ox)).setCell ⟨bxa1, 2, none⟩ (.bool bx)).setCell ⟨bxa1, 3, none⟩ (.slice vfa yx.length vfc)).setCell ⟨bxa1, 4, none⟩ (.int .i64 nx)).setCell ⟨bxa2, 0, none⟩ (.int .i64 a0)).setCell ⟨bxa2, 1, none⟩ (.int .i64 a1)).setCell ⟨bxa2, 2, none⟩ (.string ⟨a2.toArray⟩)).setCell ⟨bxa2, 3, none⟩ (.int .i64 a3)).setCell ⟨bxa2, 4, none⟩ (.int .i64 a4)) = w12 at *
          replace Vb_p := Lib.hid (Vb_p.out.below hb)
          replace Vb_x := Lib.hid (Vb_x.out.below hb)
          replace Vb_q := Lib.hid (Vb_q.out.below hb)
          replace Vb_r := Lib.hid (Vb_r.out.below hb)
          replace Vb_g := Lib.hid (Vb_g.out.below hb)
          replace HP := Lib.hid (FlatAt.below HP.out hb (Nat.le_refl _))
          replace HOQ := Lib.hid (FlatAt.below HOQ.out hb (Nat.le_refl _))
          replace HBR := Lib.hid (belW HBR.out hb (Nat.le_refl _))
          replace HD0 := Lib.hid (cellD HD0.out hb (Nat.le_refl _))
          replace HXW := Lib.hid (ltD HXW.out hb (Nat.le_refl _))
          replace HB := Lib.hid (belS HB.out hb)
          clear hb
          have Vb_a := BXF
          clear BXF HBW hlx1 hlx2 hbm1 hbm2 ne12 ne21 hbl1 hbl2 hbne
          skip
          as_aux_lemma =>
            go_upto_region 15 with fail
            have HSof := Lib.hid (fun W (h : Below w12.heap.size w12 W) => (show W.cell? ⟨w5.heap.size, 0, none⟩ = some (.string ⟨ka.toArray⟩) ∧ W.cell? ⟨w5.heap.size, 1, none⟩ = some (.bool oa) ∧ W.cell? ⟨w5.heap.size, 2, none⟩ = some (.bool ba) ∧ W.cell? ⟨w5.heap.size, 3, none⟩ = some (.slice qa ya.length qc) ∧ W.cell? ⟨w5.heap.size, 4, none⟩ = some (.int .i64 na) ∧ W.cell? ⟨w1.heap.size, 3, none⟩ = some (.slice (some ⟨xb, xo, none⟩) y.length uc) ∧ W.cell? ⟨xb, xo + j * 2, none⟩ = some (.string ⟨kk.toArray⟩) from ⟨(h.cell (p := ⟨w5.heap.size, 0, none⟩) Vb_q.out.lt).trans (Vb_q.out.cell 0 (by simp)), (h.cell (p := ⟨w5.heap.size, 1, none⟩) Vb_q.out.lt).trans (Vb_q.out.cell 1 (by simp)), (h.cell (p := ⟨w5.heap.size, 2, none⟩) Vb_q.out.lt).trans (Vb_q.out.cell 2 (by simp)), (h.cell (p := ⟨w5.heap.size, 3, none⟩) Vb_q.out.lt).trans (Vb_q.out.cell 3 (by simp)), (h.cell (p := ⟨w5.heap.size, 4, none⟩) Vb_q.out.lt).trans (Vb_q.out.cell 4 (by simp)), (h.cell (p := ⟨w1.heap.size, 3, none⟩) Vb_p.out.lt).trans (Vb_p.out.cell 3 (by simp)), (h.cell (p := ⟨xb, xo + j * 2, none⟩) HXW.out).trans HD0.out⟩))
            have HFS := Lib.hid (show ∀ W W' : World, (W.cell? ⟨w5.heap.size, 0, none⟩ = some (.string ⟨ka.toArray⟩) ∧ W.cell? ⟨w5.heap.size, 1, none⟩ = some (.bool oa) ∧ W.cell? ⟨w5.heap.size, 2, none⟩ = some (.bool ba) ∧ W.cell? ⟨w5.heap.size, 3, none⟩ = some (.slice qa ya.length qc) ∧ W.cell? ⟨w5.heap.size, 4, none⟩ = some (.int .i64 na) ∧ W.cell? ⟨w1.heap.size, 3, none⟩ = some (.slice (some ⟨xb, xo, none⟩) y.length uc) ∧ W.cell? ⟨xb, xo + j * 2, none⟩ = some (.string ⟨kk.toArray⟩)) → Below W.heap.size W W' → (W'.cell? ⟨w5.heap.size, 0, none⟩ = some (.string ⟨ka.toArray⟩) ∧ W'.cell? ⟨w5.heap.size, 1, none⟩ = some (.bool oa) ∧ W'.cell? ⟨w5.heap.size, 2, none⟩ = some (.bool ba) ∧ W'.cell? ⟨w5.heap.size, 3, none⟩ = some (.slice qa ya.length qc) ∧ W'.cell? ⟨w5.heap.size, 4, none⟩ = some (.int .i64 na) ∧ W'.cell? ⟨w1.heap.size, 3, none⟩ = some (.slice (some ⟨xb, xo, none⟩) y.length uc) ∧ W'.cell? ⟨xb, xo + j * 2, none⟩ = some (.string ⟨kk.toArray⟩)) from fun W W' hh hb => by obtain ⟨q0, q1, q2, q3, q4, q5, q6⟩ := hh; exact ⟨(hb.cell (p := ⟨w5.heap.size, 0, none⟩) (World.block_lt_of_cell? _ _ q0)).trans q0, (hb.cell (p := ⟨w5.heap.size, 1, none⟩) (World.block_lt_of_cell? _ _ q1)).trans q1, (hb.cell (p := ⟨w5.heap.size, 2, none⟩) (World.block_lt_of_cell? _ _ q2)).trans q2, (hb.cell (p := ⟨w5.heap.size, 3, none⟩) (World.block_lt_of_cell? _ _ q3)).trans q3, (hb.cell (p := ⟨w5.heap.size, 4, none⟩) (World.block_lt_of_cell? _ _ q4)).trans q4, (hb.cell (p := ⟨w1.heap.size, 3, none⟩) (World.block_lt_of_cell? _ _ q5)).trans q5, (hb.cell (p := ⟨xb, xo + j * 2, none⟩) (World.block_lt_of_cell? _ _ q6)).trans q6⟩)
            refine wp_region_held_drew (S := fun w' => w'.cell? ⟨w5.heap.size, 0, none⟩ = some (.string ⟨ka.toArray⟩) ∧ w'.cell? ⟨w5.heap.size, 1, none⟩ = some (.bool oa) ∧ w'.cell? ⟨w5.heap.size, 2, none⟩ = some (.bool ba) ∧ w'.cell? ⟨w5.heap.size, 3, none⟩ = some (.slice qa ya.length qc) ∧ w'.cell? ⟨w5.heap.size, 4, none⟩ = some (.int .i64 na) ∧ w'.cell? ⟨w1.heap.size, 3, none⟩ = some (.slice (some ⟨xb, xo, none⟩) y.length uc) ∧ w'.cell? ⟨xb, xo + j * 2, none⟩ = some (.string ⟨kk.toArray⟩)) (by kernel_rfl) ?_ (fun hHeld => ?_)
            · exact HSof.out w12.drew (Below.refl w12.heap.size w12).drew
            have HBW := Lib.hid ((Below.refl w12.heap.size w12).drew)
            generalize w12.drew = vf0 at *
            refine wpAnyH_take (i := 0) (v := ?_) rfl (by kernel_rfl) (by kernel_rfl) (by kernel_rfl) (fun _ _ _ h => h) (Or.inl ⟨by rfl, ?_⟩) (by assumption) ?_
            rotate_left
            · intro w hSw; (try dsimp only at hSw); go_simp; with_reducible rfl
            try simp only [Act.put, List.getElem_toArray, List.getElem_cons_zero, List.getElem_cons_succ, List.setIfInBounds_toArray, List.set_cons_zero, List.set_cons_succ]
            refine wpAnyH_take (i := 1) (v := ?_) rfl (by kernel_rfl) (by kernel_rfl) (by kernel_rfl) (fun _ _ _ h => h) (Or.inl ⟨by rfl, ?_⟩) (by assumption) ?_
            rotate_left
            · intro w hSw; (try dsimp only at hSw); go_simp; with_reducible rfl
            try simp only [Act.put, List.getElem_toArray, List.getElem_cons_zero, List.getElem_cons_succ, List.setIfInBounds_toArray, List.set_cons_zero, List.set_cons_succ]
            refine wpAnyH_take (i := 3) (v := ?_) rfl (by kernel_rfl) (by kernel_rfl) (by kernel_rfl) (fun _ _ _ h => h) (Or.inl ⟨by rfl, ?_⟩) (by assumption) ?_
            rotate_left
            · intro w hSw; (try dsimp only at hSw); go_simp; with_reducible rfl
            try simp only [Act.put, List.getElem_toArray, List.getElem_cons_zero, List.getElem_cons_succ, List.setIfInBounds_toArray, List.set_cons_zero, List.set_cons_succ]
            refine wpAnyH_take (i := 2) (v := ?_) rfl (by kernel_rfl) (by kernel_rfl) (by kernel_rfl) (fun _ _ _ h => h) (Or.inl ⟨by rfl, ?_⟩) (by assumption) ?_
            rotate_left
            · intro w hSw; (try dsimp only at hSw); go_simp; with_reducible rfl
            try simp only [Act.put, List.getElem_toArray, List.getElem_cons_zero, List.getElem_cons_succ, List.setIfInBounds_toArray, List.set_cons_zero, List.set_cons_succ]
            refine wpAnyH_take (i := 4) (v := ?_) rfl (by kernel_rfl) (by kernel_rfl) (by kernel_rfl) (fun _ _ _ h => h) (Or.inl ⟨by rfl, ?_⟩) (by assumption) ?_
            rotate_left
            · intro w hSw; (try dsimp only at hSw); go_simp; with_reducible rfl
            try simp only [Act.put, List.getElem_toArray, List.getElem_cons_zero, List.getElem_cons_succ, List.setIfInBounds_toArray, List.set_cons_zero, List.set_cons_succ]
            refine wpAnyH_take (i := 5) (v := ?_) rfl (by kernel_rfl) (by kernel_rfl) (by kernel_rfl) (fun _ _ _ h => h) (Or.inl ⟨by rfl, ?_⟩) (by assumption) ?_
            rotate_left
            · intro w hSw; (try dsimp only at hSw); go_simp; with_reducible rfl
            try simp only [Act.put, List.getElem_toArray, List.getElem_cons_zero, List.getElem_cons_succ, List.setIfInBounds_toArray, List.set_cons_zero, List.set_cons_succ]
            refine wpAnyH_take (i := 6) (v := ?_) rfl (by kernel_rfl) (by kernel_rfl) (by kernel_rfl) (fun _ _ _ h => h) (Or.inl ⟨by rfl, ?_⟩) (by assumption) ?_
            rotate_left
            · intro w hSw; (try dsimp only at hSw); go_simp; with_reducible rfl
            try simp only [Act.put, List.getElem_toArray, List.getElem_cons_zero, List.getElem_cons_succ, List.setIfInBounds_toArray, List.set_cons_zero, List.set_cons_succ]
            refine wpAnyH_take (i := 7) (v := ?_) rfl (by kernel_rfl) (by kernel_rfl) (by kernel_rfl) (fun _ _ _ h => h) (Or.inl ⟨by rfl, ?_⟩) (by assumption) ?_
            rotate_left
            · intro w hSw; (try dsimp only at hSw); go_simp; with_reducible rfl
            try simp only [Act.put, List.getElem_toArray, List.getElem_cons_zero, List.getElem_cons_succ, List.setIfInBounds_toArray, List.set_cons_zero, List.set_cons_succ]
            refine wpAnyH_floatN (k1 := 12) (k2 := 13) (d1 := 12) (d2 := 13) (z1 := [.string ⟨#[]⟩, .bool false, .bool false, .slice none 0 0, .int .i64 0]) (z2 := [.int .i64 0, .int .i64 0, .string ⟨#[]⟩, .int .i64 0, .int .i64 0]) (T1 := 26) (T2 := 32) (js := [(8, false), (9, true), (10, true), (11, true)]) (fz := 2) rfl ⟨⟨_, rfl, rfl, rfl, fun a w => ?_⟩⟩ ⟨⟨_, rfl, rfl, rfl, fun a w => ?_⟩⟩ (by kernel_rfl) (by decide) (by decide) (by kernel_rfl) (fun _ _ _ _ _ => Iff.rfl) HFS.out (by assumption) ?_
            · rfl
            · rfl
            have ZB := Lib.hid HBW.out.size
            refine wpFl_step rfl (fun vf1 hbG hHeld K hK => ?_)
            replace HBW := Lib.hid (HBW.out.trans (hbG.mono HBW.out.size))
            clear hbG
            go_simp
            go_at_call 9
            refine (HC2.out _ (FlatAt.below HOQ.out HBW.out (Nat.le_refl _)) (HMX.out _ (belS HB.out HBW.out))).mono ?_
            rintro e vf2 ⟨u, rfl, ho, hb⟩
            obtain ⟨vfa, vfc, rfl⟩ := slice_of ho
            clear ho
            replace HBW := Lib.hid (HBW.out.trans (hb.mono HBW.out.size))
            refine hK.out _ _ hb (HSof.out _ HBW.out) ?_
            clear hK K hb hHeld
            try simp only [Act.put, List.getElem_toArray, List.getElem_cons_zero, List.getElem_cons_succ, List.setIfInBounds_toArray, List.set_cons_zero, List.set_cons_succ]
            refine wpFl_take (v := ?_) rfl (Or.inl ⟨by rfl, ?_⟩) ?_
            rotate_left
            · intro w hSw; (try dsimp only at hSw); go_simp; with_reducible rfl
            try simp only [Act.put, List.getElem_toArray, List.getElem_cons_zero, List.getElem_cons_succ, List.setIfInBounds_toArray, List.set_cons_zero, List.set_cons_succ]
            refine wpFl_take (v := ?_) rfl (Or.inl ⟨by rfl, ?_⟩) ?_
            rotate_left
            · intro w hSw; (try dsimp only at hSw); go_simp; with_reducible rfl
            try simp only [Act.put, List.getElem_toArray, List.getElem_cons_zero, List.getElem_cons_succ, List.setIfInBounds_toArray, List.set_cons_zero, List.set_cons_succ]
            refine wpFl_take (v := ?_) rfl (Or.inl ⟨by rfl, ?_⟩) ?_
            rotate_left
            · intro w hSw; (try dsimp only at hSw); go_simp; with_reducible rfl
            try simp only [Act.put, List.getElem_toArray, List.getElem_cons_zero, List.getElem_cons_succ, List.setIfInBounds_toArray, List.set_cons_zero, List.set_cons_succ]
            refine wpFl_end (fun vf3 bxb1 bxb2 hbG hHeld hbx1 hbx2 hbne hbl1 hbl2 hgap => ?_)
            replace HBW := Lib.hid (HBW.out.trans (hbG.mono HBW.out.size))
            clear hbG hgap
            try simp only [Act.put, List.getElem_toArray, List.getElem_cons_zero, List.getElem_cons_succ, List.setIfInBounds_toArray, List.set_cons_zero, List.set_cons_succ]
            have r1_0 := hbx1.cell 0 (by simp)
            have y1_0 := hbx1.froz 0 (by simp)
            have r1_1 := hbx1.cell 1 (by simp)
            have y1_1 := hbx1.froz 1 (by simp)
            have r1_2 := hbx1.cell 2 (by simp)
            have y1_2 := hbx1.froz 2 (by simp)
            have r1_3 := hbx1.cell 3 (by simp)
            have y1_3 := hbx1.froz 3 (by simp)
            have r1_4 := hbx1.cell 4 (by simp)
            have y1_4 := hbx1.froz 4 (by simp)
            have r2_0 := hbx2.cell 0 (by simp)
            have y2_0 := hbx2.froz 0 (by simp)
            have r2_1 := hbx2.cell 1 (by simp)
            have y2_1 := hbx2.froz 1 (by simp)
            have r2_2 := hbx2.cell 2 (by simp)
            have y2_2 := hbx2.froz 2 (by simp)
            have r2_3 := hbx2.cell 3 (by simp)
            have y2_3 := hbx2.froz 3 (by simp)
            have r2_4 := hbx2.cell 4 (by simp)
            have y2_4 := hbx2.froz 4 (by simp)
            simp only [List.getElem_cons_zero, List.getElem_cons_succ] at r1_0 r1_1 r1_2 r1_3 r1_4 r2_0 r2_1 r2_2 r2_3 r2_4
            have hbm1 : w12.heap.size ≤ bxb1 := Nat.le_trans ZB.out hbl1
            have hbm2 : w12.heap.size ≤ bxb2 := Nat.le_trans ZB.out hbl2
            have ne12 : ¬ bxb1 = bxb2 := hbne
            have ne21 : ¬ bxb2 = bxb1 := fun e => hbne e.symm
            have hlx1 := hbx1.lt
            have hlx2 := hbx2.lt
            have BX1 := Lib.hid hbx1
            have BX2 := Lib.hid hbx2
            clear hbx1 hbx2
            refine wpAnyH_ready (rs := [14]) (by kernel_rfl) (by simp) ?_
            refine AllReadyH.cons rfl (fun K hK => ?_) AllReadyH.nil
            go_simp
            refine hK.out _ _ ?_ (fun hHeld => ?_)
            · exact HSof.out _ (belQ5 HBW.out hbm1 _ _ _ _ _)
            clear hK K
            try simp only [Act.put, List.getElem_toArray, List.getElem_cons_zero, List.getElem_cons_succ, List.setIfInBounds_toArray, List.set_cons_zero, List.set_cons_succ]
            refine wpAnyH_ready (rs := [15]) (by kernel_rfl) (by simp) ?_
            refine AllReadyH.cons rfl (fun K hK => ?_) AllReadyH.nil
            go_simp
            refine hK.out _ _ ?_ (fun hHeld => ?_)
            · exact HSof.out _ (belQ5 (belQ5 HBW.out hbm1 _ _ _ _ _) hbm2 _ _ _ _ _)
            clear hK K
            try simp only [Act.put, List.getElem_toArray, List.getElem_cons_zero, List.getElem_cons_succ, List.setIfInBounds_toArray, List.set_cons_zero, List.set_cons_succ]
            refine wpAnyH_done (by kernel_rfl) ?_ _
            have BXF := Lib.hid (bxP5 (bxP5o BX2.out ne21 (.string ⟨kz.toArray⟩) (.bool oz) (.bool bz) (.slice vfa yz.length vfc) (.int .i64 nz)) (.int .i64 b0) (.int .i64 b1) (.string ⟨b2.toArray⟩) (.int .i64 b3) (.int .i64 b4))
            have hb := belQ5 (belQ5 HBW.out hbm1 (.string ⟨kz.toArray⟩) (.bool oz) (.bool bz) (.slice vfa yz.length vfc) (.int .i64 nz)) hbm2 (.int .i64 b0) (.int .i64 b1) (.string ⟨b2.toArray⟩) (.int .i64 b3) (.int .i64 b4)
            clear r1_0 r1_1 r1_2 r1_3 r1_4 r2_0 r2_1 r2_2 r2_3 r2_4 y1_0 y1_1 y1_2 y1_3 y1_4 y2_0 y2_1 y2_2 y2_3 y2_4 hHeld HSof HFS BX1 BX2 ZB
            generalize ((((((((((vf3.setCell ⟨bxb1, 0, none⟩ (.string ⟨kz.toArray⟩)).setCell ⟨bxb1, 1, none⟩ (.bool oz)).setCell ⟨bxb1, 2, none⟩ (.bool bz)).setCell ⟨bxb1, 3, none⟩ (.slice vfa yz.length vfc)).setCell ⟨bxb1, 4, none⟩ (.int .i64 nz)).setCell ⟨bxb2, 0, none⟩ (.int .i64 b0)).setCell ⟨bxb2, 1, none⟩ (.int .i64 b1)).setCell ⟨bxb2, 2, none⟩ (.string ⟨b2.toArray⟩)).setCell ⟨bxb2, 3, none⟩ (.int .i64 b3)).setCell ⟨bxb2, 4, none⟩ (.int .i64 b4)) = w13 at *
            replace Vb_p := Lib.hid (Vb_p.out.below hb)
            replace Vb_x := Lib.hid (Vb_x.out.below hb)
            replace Vb_q := Lib.hid (Vb_q.out.below hb)
            replace Vb_r := Lib.hid (Vb_r.out.below hb)
            replace Vb_g := Lib.hid (Vb_g.out.below hb)
            replace Vb_a := Lib.hid (Vb_a.out.below hb)
            replace HP := Lib.hid (FlatAt.below HP.out hb (Nat.le_refl _))
            replace HOQ := Lib.hid (FlatAt.below HOQ.out hb (Nat.le_refl _))
            replace HBR := Lib.hid (belW HBR.out hb (Nat.le_refl _))
            replace HD0 := Lib.hid (cellD HD0.out hb (Nat.le_refl _))
            replace HXW := Lib.hid (ltD HXW.out hb (Nat.le_refl _))
            replace HB := Lib.hid (belS HB.out hb)
            clear hb
            have Vb_b := BXF
            clear BXF HBW hlx1 hlx2 hbm1 hbm2 ne12 ne21 hbl1 hbl2 hbne
            skip
            as_aux_lemma =>
              have d0 := HD0.out
              by_cases ek : kk = k
              · skip
                subst ek
                have E1 : (kk != kk) = false := by simp
                have E2 : (kk == kk) = true := by simp
                clear HO2
                go_upto_region 16 with fail
                have HSof := Lib.hid (fun W (h : Below w13.heap.size w13 W) => (show W.cell? ⟨w1.heap.size, 3, none⟩ = some (.slice (some ⟨xb, xo, none⟩) y.length uc) ∧ W.cell? ⟨w1.heap.size + 1, 1, none⟩ = some (.string ⟨kk.toArray⟩) ∧ W.cell? ⟨bxa2, 0, none⟩ = some (.int .i64 a0) ∧ W.cell? ⟨bxa2, 1, none⟩ = some (.int .i64 a1) ∧ W.cell? ⟨bxa2, 2, none⟩ = some (.string ⟨a2.toArray⟩) ∧ W.cell? ⟨bxa2, 3, none⟩ = some (.int .i64 a3) ∧ W.cell? ⟨bxa2, 4, none⟩ = some (.int .i64 a4) ∧ W.cell? ⟨bxb2, 0, none⟩ = some (.int .i64 b0) ∧ W.cell? ⟨bxb2, 1, none⟩ = some (.int .i64 b1) ∧ W.cell? ⟨bxb2, 2, none⟩ = some (.string ⟨b2.toArray⟩) ∧ W.cell? ⟨bxb2, 3, none⟩ = some (.int .i64 b3) ∧ W.cell? ⟨bxb2, 4, none⟩ = some (.int .i64 b4) ∧ W.cell? ⟨xb, xo + j * 2, none⟩ = some (.string ⟨kk.toArray⟩) from ⟨(h.cell (p := ⟨w1.heap.size, 3, none⟩) Vb_p.out.lt).trans (Vb_p.out.cell 3 (by simp)), (h.cell (p := ⟨w1.heap.size + 1, 1, none⟩) Vb_x.out.lt).trans (Vb_x.out.cell 1 (by simp)), (h.cell (p := ⟨bxa2, 0, none⟩) Vb_a.out.lt).trans (Vb_a.out.cell 0 (by simp)), (h.cell (p := ⟨bxa2, 1, none⟩) Vb_a.out.lt).trans (Vb_a.out.cell 1 (by simp)), (h.cell (p := ⟨bxa2, 2, none⟩) Vb_a.out.lt).trans (Vb_a.out.cell 2 (by simp)), (h.cell (p := ⟨bxa2, 3, none⟩) Vb_a.out.lt).trans (Vb_a.out.cell 3 (by simp)), (h.cell (p := ⟨bxa2, 4, none⟩) Vb_a.out.lt).trans (Vb_a.out.cell 4 (by simp)), (h.cell (p := ⟨bxb2, 0, none⟩) Vb_b.out.lt).trans (Vb_b.out.cell 0 (by simp)), (h.cell (p := ⟨bxb2, 1, none⟩) Vb_b.out.lt).trans (Vb_b.out.cell 1 (by simp)), (h.cell (p := ⟨bxb2, 2, none⟩) Vb_b.out.lt).trans (Vb_b.out.cell 2 (by simp)), (h.cell (p := ⟨bxb2, 3, none⟩) Vb_b.out.lt).trans (Vb_b.out.cell 3 (by simp)), (h.cell (p := ⟨bxb2, 4, none⟩) Vb_b.out.lt).trans (Vb_b.out.cell 4 (by simp)), (h.cell (p := ⟨xb, xo + j * 2, none⟩) HXW.out).trans HD0.out⟩))
                refine wp_region_held_drew (S := (fun w' => w'.cell? ⟨w1.heap.size, 3, none⟩ = some (.slice (some ⟨xb, xo, none⟩) y.length uc) ∧ w'.cell? ⟨w1.heap.size + 1, 1, none⟩ = some (.string ⟨kk.toArray⟩) ∧ w'.cell? ⟨bxa2, 0, none⟩ = some (.int .i64 a0) ∧ w'.cell? ⟨bxa2, 1, none⟩ = some (.int .i64 a1) ∧ w'.cell? ⟨bxa2, 2, none⟩ = some (.string ⟨a2.toArray⟩) ∧ w'.cell? ⟨bxa2, 3, none⟩ = some (.int .i64 a3) ∧ w'.cell? ⟨bxa2, 4, none⟩ = some (.int .i64 a4) ∧ w'.cell? ⟨bxb2, 0, none⟩ = some (.int .i64 b0) ∧ w'.cell? ⟨bxb2, 1, none⟩ = some (.int .i64 b1) ∧ w'.cell? ⟨bxb2, 2, none⟩ = some (.string ⟨b2.toArray⟩) ∧ w'.cell? ⟨bxb2, 3, none⟩ = some (.int .i64 b3) ∧ w'.cell? ⟨bxb2, 4, none⟩ = some (.int .i64 b4) ∧ w'.cell? ⟨xb, xo + j * 2, none⟩ = some (.string ⟨kk.toArray⟩))) (by kernel_rfl) ?_ (fun hHeld => ?_)
                · exact HSof.out w13.drew (Below.refl w13.heap.size w13).drew
                refine wpAnyH_take (i := 0) (v := ?_) rfl (by kernel_rfl) (by kernel_rfl) (by kernel_rfl) (fun _ _ _ h => h) (Or.inl ⟨by rfl, ?_⟩) (by assumption) ?_
                rotate_left
                · intro w hSw; (try dsimp only at hSw); go_simp; with_reducible rfl
                try simp only [Act.put, List.getElem_toArray, List.getElem_cons_zero, List.getElem_cons_succ, List.setIfInBounds_toArray, List.set_cons_zero, List.set_cons_succ]
                refine wpAnyH_take (i := 2) (v := ?_) rfl (by kernel_rfl) (by kernel_rfl) (by kernel_rfl) (fun _ _ _ h => h) (Or.inl ⟨by rfl, ?_⟩) (by assumption) ?_
                rotate_left
                · intro w hSw; (try dsimp only at hSw); go_simp; with_reducible rfl
                try simp only [Act.put, List.getElem_toArray, List.getElem_cons_zero, List.getElem_cons_succ, List.setIfInBounds_toArray, List.set_cons_zero, List.set_cons_succ]
                refine wpAnyH_take (i := 6) (v := ?_) rfl (by kernel_rfl) (by kernel_rfl) (by kernel_rfl) (fun _ _ _ h => h) (Or.inl ⟨by rfl, ?_⟩) (by assumption) ?_
                rotate_left
                · intro w hSw; (try dsimp only at hSw); go_simp; with_reducible rfl
                try simp only [Act.put, List.getElem_toArray, List.getElem_cons_zero, List.getElem_cons_succ, List.setIfInBounds_toArray, List.set_cons_zero, List.set_cons_succ]
                refine wpAnyH_take (i := 1) (v := ?_) rfl (by kernel_rfl) (by kernel_rfl) (by kernel_rfl) (fun _ _ _ h => h) (Or.inl ⟨by rfl, ?_⟩) (by assumption) ?_
                rotate_left
                · intro w hSw; (try dsimp only at hSw); go_simp; with_reducible rfl
                try simp only [Act.put, List.getElem_toArray, List.getElem_cons_zero, List.getElem_cons_succ, List.setIfInBounds_toArray, List.set_cons_zero, List.set_cons_succ]
                refine wpAnyH_take (i := 7) (v := ?_) rfl (by kernel_rfl) (by kernel_rfl) (by kernel_rfl) (fun _ _ _ h => h) (Or.inl ⟨by rfl, ?_⟩) (by assumption) ?_
                rotate_left
                · intro w hSw; (try dsimp only at hSw); go_simp; with_reducible rfl
                try simp only [Act.put, List.getElem_toArray, List.getElem_cons_zero, List.getElem_cons_succ, List.setIfInBounds_toArray, List.set_cons_zero, List.set_cons_succ]
                refine wpAnyH_take (i := 3) (v := ?_) rfl (by kernel_rfl) (by kernel_rfl) (by kernel_rfl) (fun _ _ _ h => h) (Or.inl ⟨by rfl, ?_⟩) (by assumption) ?_
                rotate_left
                · intro w hSw; (try dsimp only at hSw); go_simp; with_reducible rfl
                try simp only [Act.put, List.getElem_toArray, List.getElem_cons_zero, List.getElem_cons_succ, List.setIfInBounds_toArray, List.set_cons_zero, List.set_cons_succ]
                refine wpAnyH_take (i := 4) (v := ?_) rfl (by kernel_rfl) (by kernel_rfl) (by kernel_rfl) (fun _ _ _ h => h) (Or.inl ⟨by rfl, ?_⟩) (by assumption) ?_
                rotate_left
                · intro w hSw; (try dsimp only at hSw); go_simp; with_reducible rfl
                try simp only [Act.put, List.getElem_toArray, List.getElem_cons_zero, List.getElem_cons_succ, List.setIfInBounds_toArray, List.set_cons_zero, List.set_cons_succ]
                refine wpAnyH_take (i := 5) (v := ?_) rfl (by kernel_rfl) (by kernel_rfl) (by kernel_rfl) (fun _ _ _ h => h) (Or.inl ⟨by rfl, ?_⟩) (by assumption) ?_
                rotate_left
                · intro w hSw; (try dsimp only at hSw); go_simp; with_reducible rfl
                try simp only [Act.put, List.getElem_toArray, List.getElem_cons_zero, List.getElem_cons_succ, List.setIfInBounds_toArray, List.set_cons_zero, List.set_cons_succ]
                refine wpAnyH_take (i := 8) (v := ?_) rfl (by kernel_rfl) (by kernel_rfl) (by kernel_rfl) (fun _ _ _ h => h) (Or.inl ⟨by rfl, ?_⟩) (by assumption) ?_
                rotate_left
                · intro w hSw; (try dsimp only at hSw); go_simp; with_reducible rfl
                try simp only [Act.put, List.getElem_toArray, List.getElem_cons_zero, List.getElem_cons_succ, List.setIfInBounds_toArray, List.set_cons_zero, List.set_cons_succ]
                refine wpAnyH_take (i := 9) (v := ?_) rfl (by kernel_rfl) (by kernel_rfl) (by kernel_rfl) (fun _ _ _ h => h) (Or.inl ⟨by rfl, ?_⟩) (by assumption) ?_
                rotate_left
                · intro w hSw; (try dsimp only at hSw); go_simp; with_reducible rfl
                try simp only [Act.put, List.getElem_toArray, List.getElem_cons_zero, List.getElem_cons_succ, List.setIfInBounds_toArray, List.set_cons_zero, List.set_cons_succ]
                refine wpAnyH_take (i := 10) (v := undef) rfl (by kernel_rfl) (by kernel_rfl) (by kernel_rfl) (fun _ _ _ h => h) (Or.inr ⟨by rfl, rfl⟩) (by assumption) ?_
                try simp only [Act.put, List.getElem_toArray, List.getElem_cons_zero, List.getElem_cons_succ, List.setIfInBounds_toArray, List.set_cons_zero, List.set_cons_succ]
                refine wpAnyH_take (i := 11) (v := undef) rfl (by kernel_rfl) (by kernel_rfl) (by kernel_rfl) (fun _ _ _ h => h) (Or.inr ⟨by rfl, rfl⟩) (by assumption) ?_
                try simp only [Act.put, List.getElem_toArray, List.getElem_cons_zero, List.getElem_cons_succ, List.setIfInBounds_toArray, List.set_cons_zero, List.set_cons_succ]
                refine wpAnyH_take (i := 12) (v := undef) rfl (by kernel_rfl) (by kernel_rfl) (by kernel_rfl) (fun _ _ _ h => h) (Or.inr ⟨by rfl, rfl⟩) (by assumption) ?_
                try simp only [Act.put, List.getElem_toArray, List.getElem_cons_zero, List.getElem_cons_succ, List.setIfInBounds_toArray, List.set_cons_zero, List.set_cons_succ]
                refine wpAnyH_take (i := 13) (v := ?_) rfl (by kernel_rfl) (by kernel_rfl) (by kernel_rfl) (fun _ _ _ h => h) (Or.inl ⟨by rfl, ?_⟩) (by assumption) ?_
                rotate_left
                · intro w hSw; (try dsimp only at hSw); go_simp; with_reducible rfl
                try simp only [Act.put, List.getElem_toArray, List.getElem_cons_zero, List.getElem_cons_succ, List.setIfInBounds_toArray, List.set_cons_zero, List.set_cons_succ]
                refine wpAnyH_done (by kernel_rfl) ?_ _
                have HBD := Lib.hid (show Below w11.heap.size w11 w13.drew from HBR.out.drew)
                clear hHeld
                go_wp2_with fail
                have hyl := HYL.out
                have hwr : wrap64 ((j : Int) + 1) = (j : Int) + 1 := by unfold wrap64; omega
                exact ⟨⟨j + 1, by omega, by go_num, HBD.out⟩, by simp [intOf]; omega⟩
              · skip
                have E1 : (kk != k) = true := by simpa using ek
                have E2 : (kk == k) = false := by simpa using ek
                have hab := HO2.out ek
                injection hab with q0 q1 q2 q3 q4
                subst q0 q1 q2 q3 q4
                clear HO2
                go_upto_region 16 with fail
                have HSof := Lib.hid (fun W (h : Below w13.heap.size w13 W) => (show W.cell? ⟨w1.heap.size, 3, none⟩ = some (.slice (some ⟨xb, xo, none⟩) y.length uc) ∧ W.cell? ⟨w1.heap.size + 1, 1, none⟩ = some (.string ⟨k.toArray⟩) ∧ W.cell? ⟨bxa2, 0, none⟩ = some (.int .i64 a0) ∧ W.cell? ⟨bxa2, 1, none⟩ = some (.int .i64 a1) ∧ W.cell? ⟨bxa2, 2, none⟩ = some (.string ⟨a2.toArray⟩) ∧ W.cell? ⟨bxa2, 3, none⟩ = some (.int .i64 a3) ∧ W.cell? ⟨bxa2, 4, none⟩ = some (.int .i64 a4) ∧ W.cell? ⟨bxb2, 0, none⟩ = some (.int .i64 a0) ∧ W.cell? ⟨bxb2, 1, none⟩ = some (.int .i64 a1) ∧ W.cell? ⟨bxb2, 2, none⟩ = some (.string ⟨a2.toArray⟩) ∧ W.cell? ⟨bxb2, 3, none⟩ = some (.int .i64 a3) ∧ W.cell? ⟨bxb2, 4, none⟩ = some (.int .i64 a4) ∧ W.cell? ⟨xb, xo + j * 2, none⟩ = some (.string ⟨kk.toArray⟩) from ⟨(h.cell (p := ⟨w1.heap.size, 3, none⟩) Vb_p.out.lt).trans (Vb_p.out.cell 3 (by simp)), (h.cell (p := ⟨w1.heap.size + 1, 1, none⟩) Vb_x.out.lt).trans (Vb_x.out.cell 1 (by simp)), (h.cell (p := ⟨bxa2, 0, none⟩) Vb_a.out.lt).trans (Vb_a.out.cell 0 (by simp)), (h.cell (p := ⟨bxa2, 1, none⟩) Vb_a.out.lt).trans (Vb_a.out.cell 1 (by simp)), (h.cell (p := ⟨bxa2, 2, none⟩) Vb_a.out.lt).trans (Vb_a.out.cell 2 (by simp)), (h.cell (p := ⟨bxa2, 3, none⟩) Vb_a.out.lt).trans (Vb_a.out.cell 3 (by simp)), (h.cell (p := ⟨bxa2, 4, none⟩) Vb_a.out.lt).trans (Vb_a.out.cell 4 (by simp)), (h.cell (p := ⟨bxb2, 0, none⟩) Vb_b.out.lt).trans (Vb_b.out.cell 0 (by simp)), (h.cell (p := ⟨bxb2, 1, none⟩) Vb_b.out.lt).trans (Vb_b.out.cell 1 (by simp)), (h.cell (p := ⟨bxb2, 2, none⟩) Vb_b.out.lt).trans (Vb_b.out.cell 2 (by simp)), (h.cell (p := ⟨bxb2, 3, none⟩) Vb_b.out.lt).trans (Vb_b.out.cell 3 (by simp)), (h.cell (p := ⟨bxb2, 4, none⟩) Vb_b.out.lt).trans (Vb_b.out.cell 4 (by simp)), (h.cell (p := ⟨xb, xo + j * 2, none⟩) HXW.out).trans HD0.out⟩))
                refine wp_region_held_drew (S := (fun w' => w'.cell? ⟨w1.heap.size, 3, none⟩ = some (.slice (some ⟨xb, xo, none⟩) y.length uc) ∧ w'.cell? ⟨w1.heap.size + 1, 1, none⟩ = some (.string ⟨k.toArray⟩) ∧ w'.cell? ⟨bxa2, 0, none⟩ = some (.int .i64 a0) ∧ w'.cell? ⟨bxa2, 1, none⟩ = some (.int .i64 a1) ∧ w'.cell? ⟨bxa2, 2, none⟩ = some (.string ⟨a2.toArray⟩) ∧ w'.cell? ⟨bxa2, 3, none⟩ = some (.int .i64 a3) ∧ w'.cell? ⟨bxa2, 4, none⟩ = some (.int .i64 a4) ∧ w'.cell? ⟨bxb2, 0, none⟩ = some (.int .i64 a0) ∧ w'.cell? ⟨bxb2, 1, none⟩ = some (.int .i64 a1) ∧ w'.cell? ⟨bxb2, 2, none⟩ = some (.string ⟨a2.toArray⟩) ∧ w'.cell? ⟨bxb2, 3, none⟩ = some (.int .i64 a3) ∧ w'.cell? ⟨bxb2, 4, none⟩ = some (.int .i64 a4) ∧ w'.cell? ⟨xb, xo + j * 2, none⟩ = some (.string ⟨kk.toArray⟩))) (by kernel_rfl) ?_ (fun hHeld => ?_)
                · exact HSof.out w13.drew (Below.refl w13.heap.size w13).drew
                refine wpAnyH_take (i := 0) (v := ?_) rfl (by kernel_rfl) (by kernel_rfl) (by kernel_rfl) (fun _ _ _ h => h) (Or.inl ⟨by rfl, ?_⟩) (by assumption) ?_
                rotate_left
                · intro w hSw; (try dsimp only at hSw); go_simp; with_reducible rfl
                try simp only [Act.put, List.getElem_toArray, List.getElem_cons_zero, List.getElem_cons_succ, List.setIfInBounds_toArray, List.set_cons_zero, List.set_cons_succ]
                refine wpAnyH_take (i := 2) (v := ?_) rfl (by kernel_rfl) (by kernel_rfl) (by kernel_rfl) (fun _ _ _ h => h) (Or.inl ⟨by rfl, ?_⟩) (by assumption) ?_
                rotate_left
                · intro w hSw; (try dsimp only at hSw); go_simp; with_reducible rfl
                try simp only [Act.put, List.getElem_toArray, List.getElem_cons_zero, List.getElem_cons_succ, List.setIfInBounds_toArray, List.set_cons_zero, List.set_cons_succ]
                refine wpAnyH_take (i := 6) (v := ?_) rfl (by kernel_rfl) (by kernel_rfl) (by kernel_rfl) (fun _ _ _ h => h) (Or.inl ⟨by rfl, ?_⟩) (by assumption) ?_
                rotate_left
                · intro w hSw; (try dsimp only at hSw); go_simp; with_reducible rfl
                try simp only [Act.put, List.getElem_toArray, List.getElem_cons_zero, List.getElem_cons_succ, List.setIfInBounds_toArray, List.set_cons_zero, List.set_cons_succ]
                refine wpAnyH_take (i := 1) (v := ?_) rfl (by kernel_rfl) (by kernel_rfl) (by kernel_rfl) (fun _ _ _ h => h) (Or.inl ⟨by rfl, ?_⟩) (by assumption) ?_
                rotate_left
                · intro w hSw; (try dsimp only at hSw); go_simp; with_reducible rfl
                try simp only [Act.put, List.getElem_toArray, List.getElem_cons_zero, List.getElem_cons_succ, List.setIfInBounds_toArray, List.set_cons_zero, List.set_cons_succ]
                refine wpAnyH_take (i := 7) (v := ?_) rfl (by kernel_rfl) (by kernel_rfl) (by kernel_rfl) (fun _ _ _ h => h) (Or.inl ⟨by rfl, ?_⟩) (by assumption) ?_
                rotate_left
                · intro w hSw; (try dsimp only at hSw); go_simp; with_reducible rfl
                try simp only [Act.put, List.getElem_toArray, List.getElem_cons_zero, List.getElem_cons_succ, List.setIfInBounds_toArray, List.set_cons_zero, List.set_cons_succ]
                refine wpAnyH_take (i := 3) (v := ?_) rfl (by kernel_rfl) (by kernel_rfl) (by kernel_rfl) (fun _ _ _ h => h) (Or.inl ⟨by rfl, ?_⟩) (by assumption) ?_
                rotate_left
                · intro w hSw; (try dsimp only at hSw); go_simp; with_reducible rfl
                try simp only [Act.put, List.getElem_toArray, List.getElem_cons_zero, List.getElem_cons_succ, List.setIfInBounds_toArray, List.set_cons_zero, List.set_cons_succ]
                refine wpAnyH_take (i := 4) (v := ?_) rfl (by kernel_rfl) (by kernel_rfl) (by kernel_rfl) (fun _ _ _ h => h) (Or.inl ⟨by rfl, ?_⟩) (by assumption) ?_
                rotate_left
                · intro w hSw; (try dsimp only at hSw); go_simp; with_reducible rfl
                try simp only [Act.put, List.getElem_toArray, List.getElem_cons_zero, List.getElem_cons_succ, List.setIfInBounds_toArray, List.set_cons_zero, List.set_cons_succ]
                refine wpAnyH_take (i := 5) (v := ?_) rfl (by kernel_rfl) (by kernel_rfl) (by kernel_rfl) (fun _ _ _ h => h) (Or.inl ⟨by rfl, ?_⟩) (by assumption) ?_
                rotate_left
                · intro w hSw; (try dsimp only at hSw); go_simp; with_reducible rfl
                try simp only [Act.put, List.getElem_toArray, List.getElem_cons_zero, List.getElem_cons_succ, List.setIfInBounds_toArray, List.set_cons_zero, List.set_cons_succ]
                refine wpAnyH_take (i := 8) (v := ?_) rfl (by kernel_rfl) (by kernel_rfl) (by kernel_rfl) (fun _ _ _ h => h) (Or.inl ⟨by rfl, ?_⟩) (by assumption) ?_
                rotate_left
                · intro w hSw; (try dsimp only at hSw); go_simp; with_reducible rfl
                try simp only [Act.put, List.getElem_toArray, List.getElem_cons_zero, List.getElem_cons_succ, List.setIfInBounds_toArray, List.set_cons_zero, List.set_cons_succ]
                refine wpAnyH_take (i := 9) (v := ?_) rfl (by kernel_rfl) (by kernel_rfl) (by kernel_rfl) (fun _ _ _ h => h) (Or.inl ⟨by rfl, ?_⟩) (by assumption) ?_
                rotate_left
                · intro w hSw; (try dsimp only at hSw); go_simp; with_reducible rfl
                try simp only [Act.put, List.getElem_toArray, List.getElem_cons_zero, List.getElem_cons_succ, List.setIfInBounds_toArray, List.set_cons_zero, List.set_cons_succ]
                refine wpAnyH_take (i := 10) (v := ?_) rfl (by kernel_rfl) (by kernel_rfl) (by kernel_rfl) (fun _ _ _ h => h) (Or.inl ⟨by rfl, ?_⟩) (by assumption) ?_
                rotate_left
                · intro w hSw; (try dsimp only at hSw); go_simp; with_reducible rfl
                try simp only [Act.put, List.getElem_toArray, List.getElem_cons_zero, List.getElem_cons_succ, List.setIfInBounds_toArray, List.set_cons_zero, List.set_cons_succ]
                refine wpAnyH_take (i := 11) (v := ?_) rfl (by kernel_rfl) (by kernel_rfl) (by kernel_rfl) (fun _ _ _ h => h) (Or.inl ⟨by rfl, ?_⟩) (by assumption) ?_
                rotate_left
                · intro w hSw; (try dsimp only at hSw); go_simp; with_reducible rfl
                try simp only [Act.put, List.getElem_toArray, List.getElem_cons_zero, List.getElem_cons_succ, List.setIfInBounds_toArray, List.set_cons_zero, List.set_cons_succ]
                refine wpAnyH_take (i := 12) (v := ?_) rfl (by kernel_rfl) (by kernel_rfl) (by kernel_rfl) (fun _ _ _ h => h) (Or.inl ⟨by rfl, ?_⟩) (by assumption) ?_
                rotate_left
                · intro w hSw; (try dsimp only at hSw); go_simp; with_reducible rfl
                try simp only [Act.put, List.getElem_toArray, List.getElem_cons_zero, List.getElem_cons_succ, List.setIfInBounds_toArray, List.set_cons_zero, List.set_cons_succ]
                refine wpAnyH_take (i := 13) (v := ?_) rfl (by kernel_rfl) (by kernel_rfl) (by kernel_rfl) (fun _ _ _ h => h) (Or.inl ⟨by rfl, ?_⟩) (by assumption) ?_
                rotate_left
                · intro w hSw; (try dsimp only at hSw); go_simp; with_reducible rfl
                try simp only [Act.put, List.getElem_toArray, List.getElem_cons_zero, List.getElem_cons_succ, List.setIfInBounds_toArray, List.set_cons_zero, List.set_cons_succ]
                refine wpAnyH_done (by kernel_rfl) ?_ _
                have HBD := Lib.hid (show Below w11.heap.size w11 w13.drew from HBR.out.drew)
                clear hHeld
                go_wp2_with fail
                have hyl := HYL.out
                have hwr : wrap64 ((j : Int) + 1) = (j : Int) + 1 := by unfold wrap64; omega
                exact ⟨⟨j + 1, by omega, by go_num, HBD.out⟩, by simp [intOf]; omega⟩
        · skip
          have hjl : ¬ (j : Int) < (y.length : Int) := by omega
          have B_p := Vb_p.out
          have p_0 := Vb_p.out.cell 0 (by simp)
          have p_1 := Vb_p.out.cell 1 (by simp)
          have p_2 := Vb_p.out.cell 2 (by simp)
          have p_3 := Vb_p.out.cell 3 (by simp)
          have p_4 := Vb_p.out.cell 4 (by simp)
          simp only [List.getElem_cons_zero, List.getElem_cons_succ] at p_0 p_1 p_2 p_3 p_4
          have p_l := Vb_p.out.lt
          clear B_p
          go_wp2_with fail
          clear p_0 p_1 p_2 p_3 p_4 p_l
          go_ret
          exact ⟨rfl, HB.out⟩
  · skip
    have E1 : (c0 != 0) = true := by simpa using e0
    have E0 : (c0 == 0) = false := by simpa using e0
    clear e0 HPV HPG HPO HPD HG1
    have B_r := Vb_r.out
    have r_0 := Vb_r.out.cell 0 (by simp)
    have r_1 := Vb_r.out.cell 1 (by simp)
    have r_2 := Vb_r.out.cell 2 (by simp)
    have r_3 := Vb_r.out.cell 3 (by simp)
    have r_4 := Vb_r.out.cell 4 (by simp)
    simp only [List.getElem_cons_zero, List.getElem_cons_succ] at r_0 r_1 r_2 r_3 r_4
    have r_l := Vb_r.out.lt
    clear B_r
    go_wp2_with fail
    clear r_0 r_1 r_2 r_3 r_4 r_l
    go_ret
    exact ⟨rfl, HB.out⟩
set_option maxRecDepth 100000 in
theorem fnPutGet_lifted (os : Os) (started : os.Started) (H : Type) (enc : TypeId × Value → H) :
    ReturnsInHanded {} Tryz.checked os 3 .any (Rows.fnPutGetSpec.pre6 enc Tryz.prog Tryz.f3 Rows.fnPutGetRow.domain false) (Rows.fnPutGetSpec.post enc Tryz.prog Tryz.f3 false true false false) := by
  refine returnsInHanded_of_change_shaped (C := Tryz.checked) ownK started (by kernel_rfl) Tryz.func3
    (ChangeSpec.witness6 (enc := enc) (C := Tryz.checked) false ⟨#[], #[.slice none 0 0], []⟩ 8 (by kernel_rfl) (by kernel_rfl) (by kernel_rfl) (by kernel_rfl)) ?_
  intro W base args ds gs before hval0 hW _ _ hsh _
  have hval : ∀ (j : Nat) t v, Tryz.f3.params[j]? = some t → args[j]? = some v → Value.okWide Tryz.prog W .any base t v := hval0
  have hW' := hW
  obtain ⟨p, q, hA0, _, rfl, _, _⟩ := hW
  have hA : DataW.TrodAll enc Tryz.prog W 0 (fun _ => true) true Tryz.f3.params.toList args.toList ds p := hA0
  rw [Tryz.params3] at hA hval
  obtain ⟨v0, vs0, d0, ds0, p0, q0, hargs, rfl, rfl, h0, r0⟩ := trodAll_cons hA
  obtain ⟨rfl, rfl, rfl⟩ := trodAll_nil r0
  obtain rfl : args = #[v0] := by cases args; simp_all
  obtain ⟨l0, w0⟩ := open_byteRow Tryz.underlying22 Tryz.underlying5 (by kernel_rfl) (hval 0 22 v0 rfl rfl) h0
  clear hA0 hval0
  obtain ⟨m, hm⟩ := Tryz.laysM143.s1_3 W hsh
  refine (fnPutGet_any v0 l0 W w0 m hm).mono fun e W1 ⟨he, hb⟩ => ?_
  subst he
  exact ⟨_, rfl, law_post laidK rfl (by kernel_rfl) Tryz.underlying4 (by kernel_rfl) (fun ds h => by match ds, h with | [_], _ => rfl) hW' hb⟩
theorem fnPutGet_closed : joinedFacts Tryz.prog 3 Tryz.f3 Rows.fnPutGetSpec Rows.fnPutGetRow = true := by unfold joinedFacts; rw [mayEnter_k, liftsFinal_k, make_k]; kernel_rfl
theorem fnPutGet_holds : Rows.FnPutGetSaid :=
  OpenClaim.holds_of_wide 3 Tryz.f3 rfl rfl rfl rfl rfl rfl rfl ⟨rfl, rfl, rfl, rfl, rfl⟩ rfl rfl rfl rfl rfl (by kernel_rfl) Tryz.func3 fnPutGet_closed
    (of_decide_eq_true (by kernel_rfl)) (by unfold Func.isWrapper; first | (rw [if_pos (by decide +kernel)]; kernel_rfl) | (rw [if_neg (by decide +kernel)]; exact ⟨rfl, rfl⟩))
    (fun os started H enc _ => fnPutGet_lifted os started H enc)
end Go.Proofs.YtghebbndfpbkcaaGreat
