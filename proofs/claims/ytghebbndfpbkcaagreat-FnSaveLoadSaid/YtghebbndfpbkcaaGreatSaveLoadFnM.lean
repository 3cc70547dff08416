/- FnSaveLoad: what is saved is loaded again, whatever was done between, at every code that is drawn from. No condition. -/
import Derived.Test.YtghebbndfpbkcaaGreatSaveLoadFnM0
import Derived.Test.YtghebbndfpbkcaaGreatCallCoreLawM3
import Derived.Test.YtghebbndfpbkcaaGreatCallCoreLawM4
import Derived.Test.YtghebbndfpbkcaaGreatCallCoreLawM0
import Derived.HandedShaped
import Derived.Deep.CutRange
import Derived.Deep.QuietTactic
import Derived.BigQuiet
namespace Go.Proofs.YtghebbndfpbkcaaGreat
set_option linter.unusedVariables false
set_option linter.unusedSimpArgs false
open Go.ChangeShapes Go.WideShapes Go.ChangeAt Go.RowKit Go.WideMaps Go.WideElems
open Go.ChangeMaps (open_string shut_string)
set_option maxRecDepth 100000 in
set_option maxHeartbeats 6400000 in
theorem fnSaveLoad_any (v : Value) (l : List UInt8) (w : World) (hR : RowAt w v (Lib.byteCells l)) (mx : Int) (hM : w.cell? ⟨0, 0, none⟩ = some (.int .i64 mx)) :
    Calls Tryz.prog 4 #[v] w fun e w' => e = .returned (.bool true) ∧ Below w.heap.size w w' := by
  have HR := Lib.hid hR
  have HBG := Lib.hid (big_any v l w hR)
  have hMl := World.block_lt_of_cell? w _ hM
  simp only at hMl
  have HMX := Lib.hid (fun W (hw : Below w.heap.size w W) => (hw.cell (p := ⟨0, 0, none⟩) hMl).trans hM)
  clear hR hM hMl
  go_enter Tryz.func4, Tryz.ntmps4
  go_wp2_with fail
  refine HBG.out.mono ?_
  rintro e w' ⟨rfl, rfl⟩
  by_cases hbig : 4096 < l.length
  · go_wp2_with fail
    go_ret
    exact ⟨rfl, Below.refl _ _⟩
  have hd : decide (4096 < l.length) = false := by simpa using hbig
  clear hbig
  rw [hd]
  clear hd HBG
  go_wp2_with fail
  refine (drawCallCores_any v l w HR.out).mono ?_
  rintro e w1 ⟨⟨kd, on, br, y, cnt⟩, cv, xv, x, rfl, ho, hok, hox, hxl, hokx, hb⟩
  obtain ⟨ua, uc, rfl⟩ := slice_of ho
  have HOK := Lib.hid hok
  have HXK := Lib.hid hokx
  have HXN := Lib.hid hxl
  have HB := Lib.hid hb
  have HP := Lib.hid (ownsF_at ho (show y.length ≤ 4194304 by have := hok.2.1; simp only at this; omega))
  have HX := Lib.hid (ownsF_at hox (show x.length ≤ 4194304 by omega))
  clear ho hok hox hxl hokx hb HR
  obtain ⟨xa, xc, rfl, _⟩ := flatAt_len HX.out
  unfold vCore
  simp only
  have HK1 := Lib.hid (show ∀ c ∈ y, c.fKey.length ≤ maxLen from fun c hc => Nat.le_trans (HOK.out.2.2.1 c hc).1 (by decide))
  have HK2 := Lib.hid (show ∀ c ∈ y, c.fKey.length ≤ 1048576 from fun c hc => Nat.le_trans (HOK.out.2.2.1 c hc).1 (by decide))
  have HYL := Lib.hid (show y.length ≤ 7 from HOK.out.2.1)
  go_upto_region 4 with fail
  have hbn := Bx.new (w1) [.string ⟨kd.toArray⟩, .bool on, .bool br, .slice ua y.length uc, .int .i64 cnt] 26
  have hbb := bx_box (w1) (.cells #[.string ⟨kd.toArray⟩, .bool on, .bool br, .slice ua y.length uc, .int .i64 cnt] 26)
  have Vb_p := Lib.hid hbn
  clear hbn
  replace HP := Lib.hid (FlatAt.below HP.out hbb (Nat.le_refl _))
  replace HX := Lib.hid (FlatAt.below HX.out hbb (Nat.le_refl _))
  replace HB := Lib.hid (belS HB.out hbb)
  clear hbb
  generalize (w1).alloc (.cells #[.string ⟨kd.toArray⟩, .bool on, .bool br, .slice ua y.length uc, .int .i64 cnt] 26) = w3 at *
  have HIC := Lib.hid (fun W (h : FlatAt cCell 2 W (.slice ua y.length uc) y) => implIsCore_any (vCore (⟨kd, on, br, y, cnt⟩ : CoreD) (.slice ua y.length uc)) (⟨kd, on, br, y, cnt⟩ : CoreD) W ⟨_, rfl, h⟩ HK1.out)
  have HSC := Lib.hid (fun W (h : FlatAt cCell 2 W (.slice ua y.length uc) y) => specIsCore_any (vCore (⟨kd, on, br, y, cnt⟩ : CoreD) (.slice ua y.length uc)) (⟨kd, on, br, y, cnt⟩ : CoreD) W ⟨_, rfl, h⟩ HK1.out)
  have HSM := Lib.hid (fun u W (h : FlatAt cCell 2 W (.slice ua y.length uc) y) (h2 : FlatAt cCell 2 W u y) => implSame_b (vCore (⟨kd, on, br, y, cnt⟩ : CoreD) (.slice ua y.length uc)) (vCore (⟨kd, on, br, y, cnt⟩ : CoreD) u) (⟨kd, on, br, y, cnt⟩ : CoreD) (⟨kd, on, br, y, cnt⟩ : CoreD) true (by simp) W ⟨_, rfl, h⟩ ⟨_, rfl, h2⟩)
  have HFC := Lib.hid (fun u W (h : FlatAt cCell 2 W u y) => implFormatCells_any u y W h HK1.out)
  have HCC := Lib.hid (fun W (h : FlatAt cCell 2 W (.slice ua y.length uc) y) (hM : W.cell? ⟨0, 0, none⟩ = some (.int .i64 mx)) => implCallCore_c (vCore (⟨kd, on, br, y, cnt⟩ : CoreD) (.slice ua y.length uc)) (⟨kd, on, br, y, cnt⟩ : CoreD) saveX mx W ⟨_, rfl, h⟩ (by have := HYL.out; simp only; omega) HK2.out (Nat.le_trans HOK.out.1 (by decide)) HOK.out.2.2.2.1 (by decide) (by decide) hM)
  have HSAME := Lib.hid (@save_same (⟨kd, on, br, y, cnt⟩ : CoreD))
  have HSD := Lib.hid (fun h1 h2 => @save_did (⟨kd, on, br, y, cnt⟩ : CoreD) h1 h2)
  have HLD := Lib.hid (fun z h1 h2 h3 h4 => @load_did (⟨kd, on, br, y, cnt⟩ : CoreD) z h1 h2 h3 h4)
  have HSQ := Lib.hid (show SmC (⟨kd, on, br, y, cnt⟩ : CoreD) from ⟨by have := HYL.out; simp only; omega, HK2.out, Nat.le_trans HOK.out.1 (by decide), HOK.out.2.2.2.1⟩)
  have HCS := Lib.hid (fun qv W (h : FlatAt cCell 2 W qv y) (hl : FlatAt cCall 4 W (.slice xa x.length xc) x) (hM : W.cell? ⟨0, 0, none⟩ = some (.int .i64 mx)) => implCallCores_c (vCore (⟨kd, on, br, y, cnt⟩ : CoreD) qv) (.slice xa x.length xc) (⟨kd, on, br, y, cnt⟩ : CoreD) x mx W ⟨_, rfl, h⟩ HSQ.out hl (fun z hz => ⟨Nat.le_trans (HXK.out z hz).2.1 (by decide), Nat.le_trans (HXK.out z hz).2.2.2 (by decide)⟩) (by have := HXN.out; omega) hM)
  have HSK := Lib.hid (fun h => doS_core x (⟨kd, on, br, y, cnt⟩ : CoreD) h)
  have HSN := Lib.hid (doS_kind x (⟨kd, on, br, y, cnt⟩ : CoreD))
  have HSS := Lib.hid (smC_doS x (⟨kd, on, br, y, cnt⟩ : CoreD) HSQ.out)
  generalize doS (⟨kd, on, br, y, cnt⟩ : CoreD) x = outS at *
  generalize doD (⟨kd, on, br, y, cnt⟩ : CoreD) saveX = out at *
  have HFL := Lib.hid (fmtC_len y)
  have HFO := Lib.hid (rfl : fmtC y = fmtC y)
  generalize hkb : coreB (⟨kd, on, br, y, cnt⟩ : CoreD) = kb at *
  clear HOK
  unfold vCore at HIC HSC HCC HSM HCS
  simp only at HIC HSC HSM HCS
  simp only [vCall, saveX] at HCC
  have B_p := Vb_p.out
  have p_0 := Vb_p.out.cell 0 (by simp)
  have p_1 := Vb_p.out.cell 1 (by simp)
  have p_2 := Vb_p.out.cell 2 (by simp)
  have p_3 := Vb_p.out.cell 3 (by simp)
  have p_4 := Vb_p.out.cell 4 (by simp)
  simp only [List.getElem_cons_zero, List.getElem_cons_succ] at p_0 p_1 p_2 p_3 p_4
  have p_l := Vb_p.out.lt
  clear B_p
  go_wp2_with fail
  clear p_0 p_1 p_2 p_3 p_4 p_l
  have HSof := Lib.hid (fun W (h : Below w3.heap.size w3 W) => (show W.cell? ⟨w1.heap.size, 0, none⟩ = some (.string ⟨kd.toArray⟩) ∧ W.cell? ⟨w1.heap.size, 1, none⟩ = some (.bool on) ∧ W.cell? ⟨w1.heap.size, 2, none⟩ = some (.bool br) ∧ W.cell? ⟨w1.heap.size, 3, none⟩ = some (.slice ua y.length uc) ∧ W.cell? ⟨w1.heap.size, 4, none⟩ = some (.int .i64 cnt) ∧ Below w3.heap.size w3 W from ⟨(h.cell (p := ⟨w1.heap.size, 0, none⟩) Vb_p.out.lt).trans (Vb_p.out.cell 0 (by simp)), (h.cell (p := ⟨w1.heap.size, 1, none⟩) Vb_p.out.lt).trans (Vb_p.out.cell 1 (by simp)), (h.cell (p := ⟨w1.heap.size, 2, none⟩) Vb_p.out.lt).trans (Vb_p.out.cell 2 (by simp)), (h.cell (p := ⟨w1.heap.size, 3, none⟩) Vb_p.out.lt).trans (Vb_p.out.cell 3 (by simp)), (h.cell (p := ⟨w1.heap.size, 4, none⟩) Vb_p.out.lt).trans (Vb_p.out.cell 4 (by simp)), h⟩))
  refine wp_region_held_drew (S := (fun w' => w'.cell? ⟨w1.heap.size, 0, none⟩ = some (.string ⟨kd.toArray⟩) ∧ w'.cell? ⟨w1.heap.size, 1, none⟩ = some (.bool on) ∧ w'.cell? ⟨w1.heap.size, 2, none⟩ = some (.bool br) ∧ w'.cell? ⟨w1.heap.size, 3, none⟩ = some (.slice ua y.length uc) ∧ w'.cell? ⟨w1.heap.size, 4, none⟩ = some (.int .i64 cnt) ∧ Below w3.heap.size w3 w')) (by kernel_rfl) ?_ (fun hHeld => ?_)
  · exact HSof.out _ (Below.refl _ _).drew
  refine wpAnyH_take (i := 0) (v := ?_) rfl (by kernel_rfl) (by kernel_rfl) (by kernel_rfl) (fun _ _ _ h => h) (Or.inl ⟨by rfl, ?_⟩) (by assumption) ?_
  rotate_left
  · intro w hSw; (try dsimp only at hSw); go_simp; with_reducible rfl
  try simp only [Act.put, List.getElem_toArray, List.getElem_cons_zero, List.getElem_cons_succ, List.setIfInBounds_toArray, List.set_cons_zero, List.set_cons_succ]
  refine wpAnyH_take (i := 2) (v := ?_) rfl (by kernel_rfl) (by kernel_rfl) (by kernel_rfl) (fun _ _ _ h => h) (Or.inl ⟨by rfl, ?_⟩) (by assumption) ?_
  rotate_left
  · intro w hSw; (try dsimp only at hSw); go_simp; with_reducible rfl
  try simp only [Act.put, List.getElem_toArray, List.getElem_cons_zero, List.getElem_cons_succ, List.setIfInBounds_toArray, List.set_cons_zero, List.set_cons_succ]
  refine wpAnyH_ready (rs := [1]) (by kernel_rfl) (by simp) ?_
  refine AllReadyH.cons rfl (fun K hK => ?_) AllReadyH.nil
  go_simp
  go_at_call 11; (refine (HIC.out _ (FlatAt.below HP.out (hHeld.2.2.2.2.2) (Nat.le_refl _))).mono ?_); rintro e w71 ⟨rfl, hb⟩; have HBN := Lib.hid (belS (hHeld.2.2.2.2.2) hb); clear hb
  refine hK.out _ _ ?_ (fun hHeld => ?_)
  · exact HSof.out _ HBN.out
  clear hK K
  try simp only [Act.put, List.getElem_toArray, List.getElem_cons_zero, List.getElem_cons_succ, List.setIfInBounds_toArray, List.set_cons_zero, List.set_cons_succ]
  refine wpAnyH_ready (rs := [3]) (by kernel_rfl) (by simp) ?_
  refine AllReadyH.cons rfl (fun K hK => ?_) AllReadyH.nil
  go_simp
  go_at_call 12; (refine (HSC.out _ (FlatAt.below HP.out (hHeld.2.2.2.2.2) (Nat.le_refl _))).mono ?_); rintro e w72 ⟨rfl, hb⟩; have HBN := Lib.hid (belS (hHeld.2.2.2.2.2) hb); clear hb
  refine hK.out _ _ ?_ (fun hHeld => ?_)
  · exact HSof.out _ HBN.out
  clear hK K
  try simp only [Act.put, List.getElem_toArray, List.getElem_cons_zero, List.getElem_cons_succ, List.setIfInBounds_toArray, List.set_cons_zero, List.set_cons_succ]
  refine wpAnyH_take (i := 4) (v := ?_) rfl (by kernel_rfl) (by kernel_rfl) (by kernel_rfl) (fun _ _ _ h => h) (Or.inl ⟨by rfl, ?_⟩) (by assumption) ?_
  rotate_left
  · intro w hSw; (try dsimp only at hSw); go_simp; with_reducible rfl
  try simp only [Act.put, List.getElem_toArray, List.getElem_cons_zero, List.getElem_cons_succ, List.setIfInBounds_toArray, List.set_cons_zero, List.set_cons_succ]
  refine wpAnyH_done (by kernel_rfl) ?_ _
  have hb := HBN.out
  clear HBN HSof hHeld
  replace Vb_p := Lib.hid (Vb_p.out.below hb)
  replace HP := Lib.hid (FlatAt.below HP.out hb (Nat.le_refl _))
  replace HX := Lib.hid (FlatAt.below HX.out hb (Nat.le_refl _))
  replace HB := Lib.hid (belS HB.out hb)
  clear hb
  cases kb
  case false =>
    have B_p := Vb_p.out
    have p_0 := Vb_p.out.cell 0 (by simp)
    have p_1 := Vb_p.out.cell 1 (by simp)
    have p_2 := Vb_p.out.cell 2 (by simp)
    have p_3 := Vb_p.out.cell 3 (by simp)
    have p_4 := Vb_p.out.cell 4 (by simp)
    simp only [List.getElem_cons_zero, List.getElem_cons_succ] at p_0 p_1 p_2 p_3 p_4
    have p_l := Vb_p.out.lt
    clear B_p
    go_wp2_with fail
    clear p_0 p_1 p_2 p_3 p_4 p_l
    refine (HIC.out _ HP.out).mono ?_
    rintro e w4 ⟨rfl, hb⟩
    replace Vb_p := Lib.hid (Vb_p.out.below hb)
    replace HP := Lib.hid (FlatAt.below HP.out hb (Nat.le_refl _))
    replace HX := Lib.hid (FlatAt.below HX.out hb (Nat.le_refl _))
    replace HB := Lib.hid (belS HB.out hb)
    clear hb
    go_wp2_with fail
    go_ret
    exact ⟨rfl, HB.out⟩
  case true =>
    have B_p := Vb_p.out
    have p_0 := Vb_p.out.cell 0 (by simp)
    have p_1 := Vb_p.out.cell 1 (by simp)
    have p_2 := Vb_p.out.cell 2 (by simp)
    have p_3 := Vb_p.out.cell 3 (by simp)
    have p_4 := Vb_p.out.cell 4 (by simp)
    simp only [List.getElem_cons_zero, List.getElem_cons_succ] at p_0 p_1 p_2 p_3 p_4
    have p_l := Vb_p.out.lt
    clear B_p
    go_wp2_with fail
    clear p_0 p_1 p_2 p_3 p_4 p_l
    refine (HIC.out _ HP.out).mono ?_
    rintro e w4 ⟨rfl, hb⟩
    replace Vb_p := Lib.hid (Vb_p.out.below hb)
    replace HP := Lib.hid (FlatAt.below HP.out hb (Nat.le_refl _))
    replace HX := Lib.hid (FlatAt.below HX.out hb (Nat.le_refl _))
    replace HB := Lib.hid (belS HB.out hb)
    clear hb
    obtain ⟨⟨ka, oa, ba, ya, na⟩, c0, c1, c2, c3, c4⟩ := out
    have hsm : (⟨ka, oa, ba, ya, na⟩ : CoreD) = (⟨kd, on, br, y, cnt⟩ : CoreD) := HSAME.out
    injection hsm with e1 e2 e3 e4 e5
    subst e1 e2 e3 e4 e5
    clear HSAME
    simp only [vCore, vReply] at HCC HSD
    have B_p := Vb_p.out
    have p_0 := Vb_p.out.cell 0 (by simp)
    have p_1 := Vb_p.out.cell 1 (by simp)
    have p_2 := Vb_p.out.cell 2 (by simp)
    have p_3 := Vb_p.out.cell 3 (by simp)
    have p_4 := Vb_p.out.cell 4 (by simp)
    simp only [List.getElem_cons_zero, List.getElem_cons_succ] at p_0 p_1 p_2 p_3 p_4
    have p_l := Vb_p.out.lt
    clear B_p
    go_wp2_with fail
    clear p_0 p_1 p_2 p_3 p_4 p_l
    refine (HCC.out _ HP.out (HMX.out _ HB.out)).mono ?_
    rintro e w5 ⟨u, rfl, ho, hb⟩
    replace Vb_p := Lib.hid (Vb_p.out.below hb)
    replace HP := Lib.hid (FlatAt.below HP.out hb (Nat.le_refl _))
    replace HX := Lib.hid (FlatAt.below HX.out hb (Nat.le_refl _))
    replace HB := Lib.hid (belS HB.out hb)
    clear hb
    have HQ := Lib.hid (ownsF_at ho (show ya.length ≤ 4194304 by have := HYL.out; omega))
    obtain ⟨qa, qc, rfl⟩ := slice_of ho
    clear ho
    go_upto_region 9 with fail
    have hbn := Bx.new (w5) [.string ⟨ka.toArray⟩, .bool oa, .bool ba, .slice qa ya.length qc, .int .i64 na] 26
    have hbb := bx_box (w5) (.cells #[.string ⟨ka.toArray⟩, .bool oa, .bool ba, .slice qa ya.length qc, .int .i64 na] 26)
    have Vb_q := Lib.hid hbn
    clear hbn
    replace Vb_p := Lib.hid (Vb_p.out.below hbb)
    replace HP := Lib.hid (FlatAt.below HP.out hbb (Nat.le_refl _))
    replace HX := Lib.hid (FlatAt.below HX.out hbb (Nat.le_refl _))
    replace HQ := Lib.hid (FlatAt.below HQ.out hbb (Nat.le_refl _))
    replace HB := Lib.hid (belS HB.out hbb)
    clear hbb
    have hbn := Bx.new ((w5).alloc (.cells #[.string ⟨ka.toArray⟩, .bool oa, .bool ba, .slice qa ya.length qc, .int .i64 na] 26)) [.int .i64 c0, .int .i64 c1, .string ⟨c2.toArray⟩, .int .i64 c3, .int .i64 c4] 32
    have hbb := bx_box ((w5).alloc (.cells #[.string ⟨ka.toArray⟩, .bool oa, .bool ba, .slice qa ya.length qc, .int .i64 na] 26)) (.cells #[.int .i64 c0, .int .i64 c1, .string ⟨c2.toArray⟩, .int .i64 c3, .int .i64 c4] 32)
    rw [show ((w5).alloc (.cells #[.string ⟨ka.toArray⟩, .bool oa, .bool ba, .slice qa ya.length qc, .int .i64 na] 26)).heap.size = w5.heap.size + 1 by simp] at hbn
    have Vb_r := Lib.hid hbn
    clear hbn
    replace Vb_p := Lib.hid (Vb_p.out.below hbb)
    replace Vb_q := Lib.hid (Vb_q.out.below hbb)
    replace HP := Lib.hid (FlatAt.below HP.out hbb (Nat.le_refl _))
    replace HX := Lib.hid (FlatAt.below HX.out hbb (Nat.le_refl _))
    replace HQ := Lib.hid (FlatAt.below HQ.out hbb (Nat.le_refl _))
    replace HB := Lib.hid (belS HB.out hbb)
    clear hbb
    generalize ((w5).alloc (.cells #[.string ⟨ka.toArray⟩, .bool oa, .bool ba, .slice qa ya.length qc, .int .i64 na] 26)).alloc (.cells #[.int .i64 c0, .int .i64 c1, .string ⟨c2.toArray⟩, .int .i64 c3, .int .i64 c4] 32) = w8 at *
    by_cases e0 : c0 = 0
    · skip
      subst e0
      have HS2 := Lib.hid (HSD.out (by first | rfl | trivial) (by first | rfl | trivial))
      have htx : c2 = fmtC ya := HS2.out.2
      subst htx
      have HV1 := Lib.hid (HSK.out (by first | rfl | trivial))
      obtain ⟨⟨kz, oz, bz, yz, nz⟩, rz⟩ := outS
      have hkz : kz = ka := HSN.out
      subst hkz
      have HLO := Lib.hid (HLD.out (⟨kz, oz, bz, yz, nz⟩ : CoreD) (by first | rfl | trivial) HV1.out rfl HS2.out.1)
      clear HLD HSD HSK HSN HS2
      have HCL := Lib.hid (fun zv W (h : FlatAt cCell 2 W zv yz) (hM : W.cell? ⟨0, 0, none⟩ = some (.int .i64 mx)) => implCallCore_c (vCore (⟨kz, oz, bz, yz, nz⟩ : CoreD) zv) (⟨kz, oz, bz, yz, nz⟩ : CoreD) (loadX (fmtC ya)) mx W ⟨_, rfl, h⟩ (HSS.out.1) (HSS.out.2.1) (HSS.out.2.2.1) (HSS.out.2.2.2) (by unfold loadX; simp) (Nat.le_trans HFL.out (by decide)) hM)
      rw [HLO.out] at HCL
      have hzl : yz.length ≤ 2097152 := HSS.out.1
      have HZL := Lib.hid hzl
      clear HLO HSS HV1 hkb hzl
      generalize fmtC ya = ft at *
      unfold GivesCS at HCS
      simp only [vCore, vCall, vReply, loadX] at HCS HCL
      have B_r := Vb_r.out
      have r_0 := Vb_r.out.cell 0 (by simp)
      have r_1 := Vb_r.out.cell 1 (by simp)
      have r_2 := Vb_r.out.cell 2 (by simp)
      have r_3 := Vb_r.out.cell 3 (by simp)
      have r_4 := Vb_r.out.cell 4 (by simp)
      simp only [List.getElem_cons_zero, List.getElem_cons_succ] at r_0 r_1 r_2 r_3 r_4
      have r_l := Vb_r.out.lt
      clear B_r
      have B_q := Vb_q.out
      have q_0 := Vb_q.out.cell 0 (by simp)
      have q_1 := Vb_q.out.cell 1 (by simp)
      have q_2 := Vb_q.out.cell 2 (by simp)
      have q_3 := Vb_q.out.cell 3 (by simp)
      have q_4 := Vb_q.out.cell 4 (by simp)
      simp only [List.getElem_cons_zero, List.getElem_cons_succ] at q_0 q_1 q_2 q_3 q_4
      have q_l := Vb_q.out.lt
      clear B_q
      go_wp2_with fail
      clear r_0 r_1 r_2 r_3 r_4 r_l q_0 q_1 q_2 q_3 q_4 q_l
      refine (HCS.out _ _ HQ.out HX.out (HMX.out _ HB.out)).mono ?_
      rintro e w91 ⟨zv, rv, rfl, ho, hor, hb⟩
      replace Vb_p := Lib.hid (Vb_p.out.below hb)
      replace Vb_q := Lib.hid (Vb_q.out.below hb)
      replace Vb_r := Lib.hid (Vb_r.out.below hb)
      replace HP := Lib.hid (FlatAt.below HP.out hb (Nat.le_refl _))
      replace HX := Lib.hid (FlatAt.below HX.out hb (Nat.le_refl _))
      replace HQ := Lib.hid (FlatAt.below HQ.out hb (Nat.le_refl _))
      replace HB := Lib.hid (belS HB.out hb)
      clear hb
      have HZ := Lib.hid (ownsF_at ho (show yz.length ≤ 4194304 by have := HZL.out; omega))
      obtain ⟨za, zc, rfl⟩ := slice_of ho
      clear ho hor
      go_upto_region 12 with fail
      have hbn := Bx.new (w91) [.string ⟨kz.toArray⟩, .bool oz, .bool bz, .slice za yz.length zc, .int .i64 nz] 26
      have hbb := bx_box (w91) (.cells #[.string ⟨kz.toArray⟩, .bool oz, .bool bz, .slice za yz.length zc, .int .i64 nz] 26)
      have Vb_z := Lib.hid hbn
      clear hbn
      replace Vb_p := Lib.hid (Vb_p.out.below hbb)
      replace Vb_q := Lib.hid (Vb_q.out.below hbb)
      replace Vb_r := Lib.hid (Vb_r.out.below hbb)
      replace HP := Lib.hid (FlatAt.below HP.out hbb (Nat.le_refl _))
      replace HX := Lib.hid (FlatAt.below HX.out hbb (Nat.le_refl _))
      replace HQ := Lib.hid (FlatAt.below HQ.out hbb (Nat.le_refl _))
      replace HZ := Lib.hid (FlatAt.below HZ.out hbb (Nat.le_refl _))
      replace HB := Lib.hid (belS HB.out hbb)
      clear hbb
      generalize (w91).alloc (.cells #[.string ⟨kz.toArray⟩, .bool oz, .bool bz, .slice za yz.length zc, .int .i64 nz] 26) = w10 at *
      cases bz
      case true =>
        simp only [if_true, rC] at HCL
        have B_z := Vb_z.out
        have z_0 := Vb_z.out.cell 0 (by simp)
        have z_1 := Vb_z.out.cell 1 (by simp)
        have z_2 := Vb_z.out.cell 2 (by simp)
        have z_3 := Vb_z.out.cell 3 (by simp)
        have z_4 := Vb_z.out.cell 4 (by simp)
        simp only [List.getElem_cons_zero, List.getElem_cons_succ] at z_0 z_1 z_2 z_3 z_4
        have z_l := Vb_z.out.lt
        clear B_z
        have B_r := Vb_r.out
        have r_0 := Vb_r.out.cell 0 (by simp)
        have r_1 := Vb_r.out.cell 1 (by simp)
        have r_2 := Vb_r.out.cell 2 (by simp)
        have r_3 := Vb_r.out.cell 3 (by simp)
        have r_4 := Vb_r.out.cell 4 (by simp)
        simp only [List.getElem_cons_zero, List.getElem_cons_succ] at r_0 r_1 r_2 r_3 r_4
        have r_l := Vb_r.out.lt
        clear B_r
        go_wp2_with fail
        clear z_0 z_1 z_2 z_3 z_4 z_l r_0 r_1 r_2 r_3 r_4 r_l
        refine (HCL.out _ _ HZ.out (HMX.out _ HB.out)).mono ?_
        rintro e w92 ⟨yv, rfl, ho, hb⟩
        replace Vb_p := Lib.hid (Vb_p.out.below hb)
        replace Vb_q := Lib.hid (Vb_q.out.below hb)
        replace Vb_r := Lib.hid (Vb_r.out.below hb)
        replace Vb_z := Lib.hid (Vb_z.out.below hb)
        replace HP := Lib.hid (FlatAt.below HP.out hb (Nat.le_refl _))
        replace HX := Lib.hid (FlatAt.below HX.out hb (Nat.le_refl _))
        replace HQ := Lib.hid (FlatAt.below HQ.out hb (Nat.le_refl _))
        replace HZ := Lib.hid (FlatAt.below HZ.out hb (Nat.le_refl _))
        replace HB := Lib.hid (belS HB.out hb)
        clear hb
        obtain ⟨sa, sc, rfl⟩ := slice_of ho
        clear ho
        go_upto_region 13 with fail
        have hbn := Bx.new (w92) [.string ⟨kz.toArray⟩, .bool oz, .bool true, .slice sa yz.length sc, .int .i64 nz] 26
        have hbb := bx_box (w92) (.cells #[.string ⟨kz.toArray⟩, .bool oz, .bool true, .slice sa yz.length sc, .int .i64 nz] 26)
        have Vb_y2 := Lib.hid hbn
        clear hbn
        replace Vb_p := Lib.hid (Vb_p.out.below hbb)
        replace Vb_q := Lib.hid (Vb_q.out.below hbb)
        replace Vb_r := Lib.hid (Vb_r.out.below hbb)
        replace Vb_z := Lib.hid (Vb_z.out.below hbb)
        replace HP := Lib.hid (FlatAt.below HP.out hbb (Nat.le_refl _))
        replace HX := Lib.hid (FlatAt.below HX.out hbb (Nat.le_refl _))
        replace HQ := Lib.hid (FlatAt.below HQ.out hbb (Nat.le_refl _))
        replace HZ := Lib.hid (FlatAt.below HZ.out hbb (Nat.le_refl _))
        replace HB := Lib.hid (belS HB.out hbb)
        clear hbb
        have hbn := Bx.new ((w92).alloc (.cells #[.string ⟨kz.toArray⟩, .bool oz, .bool true, .slice sa yz.length sc, .int .i64 nz] 26)) [.int .i64 3, .int .i64 0, .string ⟨[].toArray⟩, .int .i64 0, .int .i64 0] 32
        have hbb := bx_box ((w92).alloc (.cells #[.string ⟨kz.toArray⟩, .bool oz, .bool true, .slice sa yz.length sc, .int .i64 nz] 26)) (.cells #[.int .i64 3, .int .i64 0, .string ⟨[].toArray⟩, .int .i64 0, .int .i64 0] 32)
        rw [show ((w92).alloc (.cells #[.string ⟨kz.toArray⟩, .bool oz, .bool true, .slice sa yz.length sc, .int .i64 nz] 26)).heap.size = w92.heap.size + 1 by simp] at hbn
        have Vb_s := Lib.hid hbn
        clear hbn
        replace Vb_p := Lib.hid (Vb_p.out.below hbb)
        replace Vb_q := Lib.hid (Vb_q.out.below hbb)
        replace Vb_r := Lib.hid (Vb_r.out.below hbb)
        replace Vb_z := Lib.hid (Vb_z.out.below hbb)
        replace Vb_y2 := Lib.hid (Vb_y2.out.below hbb)
        replace HP := Lib.hid (FlatAt.below HP.out hbb (Nat.le_refl _))
        replace HX := Lib.hid (FlatAt.below HX.out hbb (Nat.le_refl _))
        replace HQ := Lib.hid (FlatAt.below HQ.out hbb (Nat.le_refl _))
        replace HZ := Lib.hid (FlatAt.below HZ.out hbb (Nat.le_refl _))
        replace HB := Lib.hid (belS HB.out hbb)
        clear hbb
        generalize ((w92).alloc (.cells #[.string ⟨kz.toArray⟩, .bool oz, .bool true, .slice sa yz.length sc, .int .i64 nz] 26)).alloc (.cells #[.int .i64 3, .int .i64 0, .string ⟨[].toArray⟩, .int .i64 0, .int .i64 0] 32) = w13 at *
        have B_s := Vb_s.out
        have s_0 := Vb_s.out.cell 0 (by simp)
        have s_1 := Vb_s.out.cell 1 (by simp)
        have s_2 := Vb_s.out.cell 2 (by simp)
        have s_3 := Vb_s.out.cell 3 (by simp)
        have s_4 := Vb_s.out.cell 4 (by simp)
        simp only [List.getElem_cons_zero, List.getElem_cons_succ] at s_0 s_1 s_2 s_3 s_4
        have s_l := Vb_s.out.lt
        clear B_s
        have B_z := Vb_z.out
        have z_0 := Vb_z.out.cell 0 (by simp)
        have z_1 := Vb_z.out.cell 1 (by simp)
        have z_2 := Vb_z.out.cell 2 (by simp)
        have z_3 := Vb_z.out.cell 3 (by simp)
        have z_4 := Vb_z.out.cell 4 (by simp)
        simp only [List.getElem_cons_zero, List.getElem_cons_succ] at z_0 z_1 z_2 z_3 z_4
        have z_l := Vb_z.out.lt
        clear B_z
        go_wp2_with fail
        clear s_0 s_1 s_2 s_3 s_4 s_l z_0 z_1 z_2 z_3 z_4 z_l
        go_ret
        exact ⟨rfl, HB.out⟩
      case false =>
        simp only [Bool.false_eq_true, if_false, rV] at HCL
        have B_z := Vb_z.out
        have z_0 := Vb_z.out.cell 0 (by simp)
        have z_1 := Vb_z.out.cell 1 (by simp)
        have z_2 := Vb_z.out.cell 2 (by simp)
        have z_3 := Vb_z.out.cell 3 (by simp)
        have z_4 := Vb_z.out.cell 4 (by simp)
        simp only [List.getElem_cons_zero, List.getElem_cons_succ] at z_0 z_1 z_2 z_3 z_4
        have z_l := Vb_z.out.lt
        clear B_z
        have B_r := Vb_r.out
        have r_0 := Vb_r.out.cell 0 (by simp)
        have r_1 := Vb_r.out.cell 1 (by simp)
        have r_2 := Vb_r.out.cell 2 (by simp)
        have r_3 := Vb_r.out.cell 3 (by simp)
        have r_4 := Vb_r.out.cell 4 (by simp)
        simp only [List.getElem_cons_zero, List.getElem_cons_succ] at r_0 r_1 r_2 r_3 r_4
        have r_l := Vb_r.out.lt
        clear B_r
        go_wp2_with fail
        clear z_0 z_1 z_2 z_3 z_4 z_l r_0 r_1 r_2 r_3 r_4 r_l
        refine (HCL.out _ _ HZ.out (HMX.out _ HB.out)).mono ?_
        rintro e w92 ⟨yv, rfl, ho, hb⟩
        replace Vb_p := Lib.hid (Vb_p.out.below hb)
        replace Vb_q := Lib.hid (Vb_q.out.below hb)
        replace Vb_r := Lib.hid (Vb_r.out.below hb)
        replace Vb_z := Lib.hid (Vb_z.out.below hb)
        replace HP := Lib.hid (FlatAt.below HP.out hb (Nat.le_refl _))
        replace HX := Lib.hid (FlatAt.below HX.out hb (Nat.le_refl _))
        replace HQ := Lib.hid (FlatAt.below HQ.out hb (Nat.le_refl _))
        replace HZ := Lib.hid (FlatAt.below HZ.out hb (Nat.le_refl _))
        replace HB := Lib.hid (belS HB.out hb)
        clear hb
        have HY2 := Lib.hid (ownsF_at ho (show ya.length ≤ 4194304 by have := HYL.out; omega))
        obtain ⟨sa, sc, rfl⟩ := slice_of ho
        clear ho
        go_upto_region 13 with fail
        have hbn := Bx.new (w92) [.string ⟨kz.toArray⟩, .bool oz, .bool false, .slice sa ya.length sc, .int .i64 nz] 26
        have hbb := bx_box (w92) (.cells #[.string ⟨kz.toArray⟩, .bool oz, .bool false, .slice sa ya.length sc, .int .i64 nz] 26)
        have Vb_y2 := Lib.hid hbn
        clear hbn
        replace Vb_p := Lib.hid (Vb_p.out.below hbb)
        replace Vb_q := Lib.hid (Vb_q.out.below hbb)
        replace Vb_r := Lib.hid (Vb_r.out.below hbb)
        replace Vb_z := Lib.hid (Vb_z.out.below hbb)
        replace HP := Lib.hid (FlatAt.below HP.out hbb (Nat.le_refl _))
        replace HX := Lib.hid (FlatAt.below HX.out hbb (Nat.le_refl _))
        replace HQ := Lib.hid (FlatAt.below HQ.out hbb (Nat.le_refl _))
        replace HZ := Lib.hid (FlatAt.below HZ.out hbb (Nat.le_refl _))
        replace HY2 := Lib.hid (FlatAt.below HY2.out hbb (Nat.le_refl _))
        replace HB := Lib.hid (belS HB.out hbb)
        clear hbb
        have hbn := Bx.new ((w92).alloc (.cells #[.string ⟨kz.toArray⟩, .bool oz, .bool false, .slice sa ya.length sc, .int .i64 nz] 26)) [.int .i64 0, .int .i64 ya.length, .string ⟨[].toArray⟩, .int .i64 0, .int .i64 0] 32
        have hbb := bx_box ((w92).alloc (.cells #[.string ⟨kz.toArray⟩, .bool oz, .bool false, .slice sa ya.length sc, .int .i64 nz] 26)) (.cells #[.int .i64 0, .int .i64 ya.length, .string ⟨[].toArray⟩, .int .i64 0, .int .i64 0] 32)
        rw [show ((w92).alloc (.cells #[.string ⟨kz.toArray⟩, .bool oz, .bool false, .slice sa ya.length sc, .int .i64 nz] 26)).heap.size = w92.heap.size + 1 by simp] at hbn
        have Vb_s := Lib.hid hbn
        clear hbn
        replace Vb_p := Lib.hid (Vb_p.out.below hbb)
        replace Vb_q := Lib.hid (Vb_q.out.below hbb)
        replace Vb_r := Lib.hid (Vb_r.out.below hbb)
        replace Vb_z := Lib.hid (Vb_z.out.below hbb)
        replace Vb_y2 := Lib.hid (Vb_y2.out.below hbb)
        replace HP := Lib.hid (FlatAt.below HP.out hbb (Nat.le_refl _))
        replace HX := Lib.hid (FlatAt.below HX.out hbb (Nat.le_refl _))
        replace HQ := Lib.hid (FlatAt.below HQ.out hbb (Nat.le_refl _))
        replace HZ := Lib.hid (FlatAt.below HZ.out hbb (Nat.le_refl _))
        replace HY2 := Lib.hid (FlatAt.below HY2.out hbb (Nat.le_refl _))
        replace HB := Lib.hid (belS HB.out hbb)
        clear hbb
        generalize ((w92).alloc (.cells #[.string ⟨kz.toArray⟩, .bool oz, .bool false, .slice sa ya.length sc, .int .i64 nz] 26)).alloc (.cells #[.int .i64 0, .int .i64 ya.length, .string ⟨[].toArray⟩, .int .i64 0, .int .i64 0] 32) = w13 at *
        have B_s := Vb_s.out
        have s_0 := Vb_s.out.cell 0 (by simp)
        have s_1 := Vb_s.out.cell 1 (by simp)
        have s_2 := Vb_s.out.cell 2 (by simp)
        have s_3 := Vb_s.out.cell 3 (by simp)
        have s_4 := Vb_s.out.cell 4 (by simp)
        simp only [List.getElem_cons_zero, List.getElem_cons_succ] at s_0 s_1 s_2 s_3 s_4
        have s_l := Vb_s.out.lt
        clear B_s
        go_upto_region 15 with fail
        clear s_0 s_1 s_2 s_3 s_4 s_l
        have HSof := Lib.hid (fun W (h : Below w13.heap.size w13 W) => (show W.cell? ⟨w1.heap.size, 0, none⟩ = some (.string ⟨kz.toArray⟩) ∧ W.cell? ⟨w1.heap.size, 1, none⟩ = some (.bool oa) ∧ W.cell? ⟨w1.heap.size, 2, none⟩ = some (.bool ba) ∧ W.cell? ⟨w1.heap.size, 3, none⟩ = some (.slice ua ya.length uc) ∧ W.cell? ⟨w1.heap.size, 4, none⟩ = some (.int .i64 na) ∧ W.cell? ⟨w5.heap.size, 0, none⟩ = some (.string ⟨kz.toArray⟩) ∧ W.cell? ⟨w5.heap.size, 1, none⟩ = some (.bool oa) ∧ W.cell? ⟨w5.heap.size, 2, none⟩ = some (.bool ba) ∧ W.cell? ⟨w5.heap.size, 3, none⟩ = some (.slice qa ya.length qc) ∧ W.cell? ⟨w5.heap.size, 4, none⟩ = some (.int .i64 na) ∧ W.cell? ⟨w92.heap.size + 1, 0, none⟩ = some (.int .i64 0) ∧ W.cell? ⟨w92.heap.size + 1, 1, none⟩ = some (.int .i64 ya.length) ∧ W.cell? ⟨w92.heap.size + 1, 2, none⟩ = some (.string ⟨[].toArray⟩) ∧ W.cell? ⟨w92.heap.size + 1, 3, none⟩ = some (.int .i64 0) ∧ W.cell? ⟨w92.heap.size + 1, 4, none⟩ = some (.int .i64 0) ∧ W.cell? ⟨w92.heap.size, 3, none⟩ = some (.slice sa ya.length sc) ∧ W.cell? ⟨w5.heap.size + 1, 2, none⟩ = some (.string ⟨ft.toArray⟩) ∧ Below w13.heap.size w13 W from ⟨(h.cell (p := ⟨w1.heap.size, 0, none⟩) Vb_p.out.lt).trans (Vb_p.out.cell 0 (by simp)), (h.cell (p := ⟨w1.heap.size, 1, none⟩) Vb_p.out.lt).trans (Vb_p.out.cell 1 (by simp)), (h.cell (p := ⟨w1.heap.size, 2, none⟩) Vb_p.out.lt).trans (Vb_p.out.cell 2 (by simp)), (h.cell (p := ⟨w1.heap.size, 3, none⟩) Vb_p.out.lt).trans (Vb_p.out.cell 3 (by simp)), (h.cell (p := ⟨w1.heap.size, 4, none⟩) Vb_p.out.lt).trans (Vb_p.out.cell 4 (by simp)), (h.cell (p := ⟨w5.heap.size, 0, none⟩) Vb_q.out.lt).trans (Vb_q.out.cell 0 (by simp)), (h.cell (p := ⟨w5.heap.size, 1, none⟩) Vb_q.out.lt).trans (Vb_q.out.cell 1 (by simp)), (h.cell (p := ⟨w5.heap.size, 2, none⟩) Vb_q.out.lt).trans (Vb_q.out.cell 2 (by simp)), (h.cell (p := ⟨w5.heap.size, 3, none⟩) Vb_q.out.lt).trans (Vb_q.out.cell 3 (by simp)), (h.cell (p := ⟨w5.heap.size, 4, none⟩) Vb_q.out.lt).trans (Vb_q.out.cell 4 (by simp)), (h.cell (p := ⟨w92.heap.size + 1, 0, none⟩) Vb_s.out.lt).trans (Vb_s.out.cell 0 (by simp)), (h.cell (p := ⟨w92.heap.size + 1, 1, none⟩) Vb_s.out.lt).trans (Vb_s.out.cell 1 (by simp)), (h.cell (p := ⟨w92.heap.size + 1, 2, none⟩) Vb_s.out.lt).trans (Vb_s.out.cell 2 (by simp)), (h.cell (p := ⟨w92.heap.size + 1, 3, none⟩) Vb_s.out.lt).trans (Vb_s.out.cell 3 (by simp)), (h.cell (p := ⟨w92.heap.size + 1, 4, none⟩) Vb_s.out.lt).trans (Vb_s.out.cell 4 (by simp)), (h.cell (p := ⟨w92.heap.size, 3, none⟩) Vb_y2.out.lt).trans (Vb_y2.out.cell 3 (by simp)), (h.cell (p := ⟨w5.heap.size + 1, 2, none⟩) Vb_r.out.lt).trans (Vb_r.out.cell 2 (by simp)), h⟩))
        refine wp_region_held_drew (S := (fun w' => w'.cell? ⟨w1.heap.size, 0, none⟩ = some (.string ⟨kz.toArray⟩) ∧ w'.cell? ⟨w1.heap.size, 1, none⟩ = some (.bool oa) ∧ w'.cell? ⟨w1.heap.size, 2, none⟩ = some (.bool ba) ∧ w'.cell? ⟨w1.heap.size, 3, none⟩ = some (.slice ua ya.length uc) ∧ w'.cell? ⟨w1.heap.size, 4, none⟩ = some (.int .i64 na) ∧ w'.cell? ⟨w5.heap.size, 0, none⟩ = some (.string ⟨kz.toArray⟩) ∧ w'.cell? ⟨w5.heap.size, 1, none⟩ = some (.bool oa) ∧ w'.cell? ⟨w5.heap.size, 2, none⟩ = some (.bool ba) ∧ w'.cell? ⟨w5.heap.size, 3, none⟩ = some (.slice qa ya.length qc) ∧ w'.cell? ⟨w5.heap.size, 4, none⟩ = some (.int .i64 na) ∧ w'.cell? ⟨w92.heap.size + 1, 0, none⟩ = some (.int .i64 0) ∧ w'.cell? ⟨w92.heap.size + 1, 1, none⟩ = some (.int .i64 ya.length) ∧ w'.cell? ⟨w92.heap.size + 1, 2, none⟩ = some (.string ⟨[].toArray⟩) ∧ w'.cell? ⟨w92.heap.size + 1, 3, none⟩ = some (.int .i64 0) ∧ w'.cell? ⟨w92.heap.size + 1, 4, none⟩ = some (.int .i64 0) ∧ w'.cell? ⟨w92.heap.size, 3, none⟩ = some (.slice sa ya.length sc) ∧ w'.cell? ⟨w5.heap.size + 1, 2, none⟩ = some (.string ⟨ft.toArray⟩) ∧ Below w13.heap.size w13 w')) (by kernel_rfl) ?_ (fun hHeld => ?_)
        · exact HSof.out _ (Below.refl _ _).drew
        refine wpAnyH_take (i := 0) (v := ?_) rfl (by kernel_rfl) (by kernel_rfl) (by kernel_rfl) (fun _ _ _ h => h) (Or.inl ⟨by rfl, ?_⟩) (by assumption) ?_
        rotate_left
        · intro w hSw; (try dsimp only at hSw); go_simp; with_reducible rfl
        try simp only [Act.put, List.getElem_toArray, List.getElem_cons_zero, List.getElem_cons_succ, List.setIfInBounds_toArray, List.set_cons_zero, List.set_cons_succ]
        refine wpAnyH_take (i := 1) (v := ?_) rfl (by kernel_rfl) (by kernel_rfl) (by kernel_rfl) (fun _ _ _ h => h) (Or.inl ⟨by rfl, ?_⟩) (by assumption) ?_
        rotate_left
        · intro w hSw; (try dsimp only at hSw); go_simp; with_reducible rfl
        try simp only [Act.put, List.getElem_toArray, List.getElem_cons_zero, List.getElem_cons_succ, List.setIfInBounds_toArray, List.set_cons_zero, List.set_cons_succ]
        refine wpAnyH_ready (rs := [2]) (by kernel_rfl) (by simp) ?_
        refine AllReadyH.cons rfl (fun K hK => ?_) AllReadyH.nil
        go_simp
        go_at_call 13; (refine (HSM.out _ _ (FlatAt.below HP.out (hHeld.2.2.2.2.2.2.2.2.2.2.2.2.2.2.2.2.2) (Nat.le_refl _)) (FlatAt.below HQ.out (hHeld.2.2.2.2.2.2.2.2.2.2.2.2.2.2.2.2.2) (Nat.le_refl _))).mono ?_); rintro e w93 ⟨rfl, hb⟩; have HBN := Lib.hid (belS (hHeld.2.2.2.2.2.2.2.2.2.2.2.2.2.2.2.2.2) hb); clear hb
        refine hK.out _ _ ?_ (fun hHeld => ?_)
        · exact HSof.out _ HBN.out
        clear hK K
        try simp only [Act.put, List.getElem_toArray, List.getElem_cons_zero, List.getElem_cons_succ, List.setIfInBounds_toArray, List.set_cons_zero, List.set_cons_succ]
        refine wpAnyH_take (i := 3) (v := ?_) rfl (by kernel_rfl) (by kernel_rfl) (by kernel_rfl) (fun _ _ _ h => h) (Or.inl ⟨by rfl, ?_⟩) (by assumption) ?_
        rotate_left
        · intro w hSw; (try dsimp only at hSw); go_simp; with_reducible rfl
        try simp only [Act.put, List.getElem_toArray, List.getElem_cons_zero, List.getElem_cons_succ, List.setIfInBounds_toArray, List.set_cons_zero, List.set_cons_succ]
        refine wpAnyH_take (i := 4) (v := ?_) rfl (by kernel_rfl) (by kernel_rfl) (by kernel_rfl) (fun _ _ _ h => h) (Or.inl ⟨by rfl, ?_⟩) (by assumption) ?_
        rotate_left
        · intro w hSw; (try dsimp only at hSw); go_simp; with_reducible rfl
        try simp only [Act.put, List.getElem_toArray, List.getElem_cons_zero, List.getElem_cons_succ, List.setIfInBounds_toArray, List.set_cons_zero, List.set_cons_succ]
        refine wpAnyH_take (i := 5) (v := ?_) rfl (by kernel_rfl) (by kernel_rfl) (by kernel_rfl) (fun _ _ _ h => h) (Or.inl ⟨by rfl, ?_⟩) (by assumption) ?_
        rotate_left
        · intro w hSw; (try dsimp only at hSw); go_simp; with_reducible rfl
        try simp only [Act.put, List.getElem_toArray, List.getElem_cons_zero, List.getElem_cons_succ, List.setIfInBounds_toArray, List.set_cons_zero, List.set_cons_succ]
        refine wpAnyH_take (i := 6) (v := ?_) rfl (by kernel_rfl) (by kernel_rfl) (by kernel_rfl) (fun _ _ _ h => h) (Or.inl ⟨by rfl, ?_⟩) (by assumption) ?_
        rotate_left
        · intro w hSw; (try dsimp only at hSw); go_simp; with_reducible rfl
        try simp only [Act.put, List.getElem_toArray, List.getElem_cons_zero, List.getElem_cons_succ, List.setIfInBounds_toArray, List.set_cons_zero, List.set_cons_succ]
        refine wpAnyH_take (i := 7) (v := ?_) rfl (by kernel_rfl) (by kernel_rfl) (by kernel_rfl) (fun _ _ _ h => h) (Or.inl ⟨by rfl, ?_⟩) (by assumption) ?_
        rotate_left
        · intro w hSw; (try dsimp only at hSw); go_simp; with_reducible rfl
        try simp only [Act.put, List.getElem_toArray, List.getElem_cons_zero, List.getElem_cons_succ, List.setIfInBounds_toArray, List.set_cons_zero, List.set_cons_succ]
        refine wpAnyH_take (i := 8) (v := ?_) rfl (by kernel_rfl) (by kernel_rfl) (by kernel_rfl) (fun _ _ _ h => h) (Or.inl ⟨by rfl, ?_⟩) (by assumption) ?_
        rotate_left
        · intro w hSw; (try dsimp only at hSw); go_simp; with_reducible rfl
        try simp only [Act.put, List.getElem_toArray, List.getElem_cons_zero, List.getElem_cons_succ, List.setIfInBounds_toArray, List.set_cons_zero, List.set_cons_succ]
        refine wpAnyH_take (i := 9) (v := ?_) rfl (by kernel_rfl) (by kernel_rfl) (by kernel_rfl) (fun _ _ _ h => h) (Or.inl ⟨by rfl, ?_⟩) (by assumption) ?_
        rotate_left
        · intro w hSw; (try dsimp only at hSw); go_simp; with_reducible rfl
        try simp only [Act.put, List.getElem_toArray, List.getElem_cons_zero, List.getElem_cons_succ, List.setIfInBounds_toArray, List.set_cons_zero, List.set_cons_succ]
        refine wpAnyH_take (i := 10) (v := ?_) rfl (by kernel_rfl) (by kernel_rfl) (by kernel_rfl) (fun _ _ _ h => h) (Or.inl ⟨by rfl, ?_⟩) (by assumption) ?_
        rotate_left
        · intro w hSw; (try dsimp only at hSw); go_simp; with_reducible rfl
        try simp only [Act.put, List.getElem_toArray, List.getElem_cons_zero, List.getElem_cons_succ, List.setIfInBounds_toArray, List.set_cons_zero, List.set_cons_succ]
        refine wpAnyH_take (i := 11) (v := ?_) rfl (by kernel_rfl) (by kernel_rfl) (by kernel_rfl) (fun _ _ _ h => h) (Or.inl ⟨by rfl, ?_⟩) (by assumption) ?_
        rotate_left
        · intro w hSw; (try dsimp only at hSw); go_simp; with_reducible rfl
        try simp only [Act.put, List.getElem_toArray, List.getElem_cons_zero, List.getElem_cons_succ, List.setIfInBounds_toArray, List.set_cons_zero, List.set_cons_succ]
        refine wpAnyH_take (i := 12) (v := ?_) rfl (by kernel_rfl) (by kernel_rfl) (by kernel_rfl) (fun _ _ _ h => h) (Or.inl ⟨by rfl, ?_⟩) (by assumption) ?_
        rotate_left
        · intro w hSw; (try dsimp only at hSw); go_simp; with_reducible rfl
        try simp only [Act.put, List.getElem_toArray, List.getElem_cons_zero, List.getElem_cons_succ, List.setIfInBounds_toArray, List.set_cons_zero, List.set_cons_succ]
        refine wpAnyH_take (i := 15) (v := ?_) rfl (by kernel_rfl) (by kernel_rfl) (by kernel_rfl) (fun _ _ _ h => h) (Or.inl ⟨by rfl, ?_⟩) (by assumption) ?_
        rotate_left
        · intro w hSw; (try dsimp only at hSw); go_simp; with_reducible rfl
        try simp only [Act.put, List.getElem_toArray, List.getElem_cons_zero, List.getElem_cons_succ, List.setIfInBounds_toArray, List.set_cons_zero, List.set_cons_succ]
        refine wpAnyH_take (i := 13) (v := ?_) rfl (by kernel_rfl) (by kernel_rfl) (by kernel_rfl) (fun _ _ _ h => h) (Or.inl ⟨by rfl, ?_⟩) (by assumption) ?_
        rotate_left
        · intro w hSw; (try dsimp only at hSw); go_simp; with_reducible rfl
        try simp only [Act.put, List.getElem_toArray, List.getElem_cons_zero, List.getElem_cons_succ, List.setIfInBounds_toArray, List.set_cons_zero, List.set_cons_succ]
        refine wpAnyH_take (i := 16) (v := ?_) rfl (by kernel_rfl) (by kernel_rfl) (by kernel_rfl) (fun _ _ _ h => h) (Or.inl ⟨by rfl, ?_⟩) (by assumption) ?_
        rotate_left
        · intro w hSw; (try dsimp only at hSw); go_simp; with_reducible rfl
        try simp only [Act.put, List.getElem_toArray, List.getElem_cons_zero, List.getElem_cons_succ, List.setIfInBounds_toArray, List.set_cons_zero, List.set_cons_succ]
        refine wpAnyH_ready (rs := [14]) (by kernel_rfl) (by simp) ?_
        refine AllReadyH.cons rfl (fun K hK => ?_) AllReadyH.nil
        go_simp
        go_at_call 15; (refine (HFC.out _ _ (FlatAt.below HY2.out (hHeld.2.2.2.2.2.2.2.2.2.2.2.2.2.2.2.2.2) (Nat.le_refl _))).mono ?_); rintro e w93 ⟨rfl, hb⟩; have HBN := Lib.hid (belS (hHeld.2.2.2.2.2.2.2.2.2.2.2.2.2.2.2.2.2) hb); clear hb
        refine hK.out _ _ ?_ (fun hHeld => ?_)
        · exact HSof.out _ HBN.out
        clear hK K
        try simp only [Act.put, List.getElem_toArray, List.getElem_cons_zero, List.getElem_cons_succ, List.setIfInBounds_toArray, List.set_cons_zero, List.set_cons_succ]
        refine wpAnyH_take (i := 17) (v := ?_) rfl (by kernel_rfl) (by kernel_rfl) (by kernel_rfl) (fun _ _ _ h => h) (Or.inl ⟨by rfl, ?_⟩) (by assumption) ?_
        rotate_left
        · intro w hSw; (try dsimp only at hSw); go_simp; with_reducible rfl
        try simp only [Act.put, List.getElem_toArray, List.getElem_cons_zero, List.getElem_cons_succ, List.setIfInBounds_toArray, List.set_cons_zero, List.set_cons_succ]
        refine wpAnyH_take (i := 18) (v := ?_) rfl (by kernel_rfl) (by kernel_rfl) (by kernel_rfl) (fun _ _ _ h => h) (Or.inl ⟨by rfl, ?_⟩) (by assumption) ?_
        rotate_left
        · intro w hSw; (try dsimp only at hSw); go_simp; with_reducible rfl
        try simp only [Act.put, List.getElem_toArray, List.getElem_cons_zero, List.getElem_cons_succ, List.setIfInBounds_toArray, List.set_cons_zero, List.set_cons_succ]
        refine wpAnyH_take (i := 19) (v := ?_) rfl (by kernel_rfl) (by kernel_rfl) (by kernel_rfl) (fun _ _ _ h => h) (Or.inl ⟨by rfl, ?_⟩) (by assumption) ?_
        rotate_left
        · intro w hSw; (try dsimp only at hSw); go_simp; with_reducible rfl
        try simp only [Act.put, List.getElem_toArray, List.getElem_cons_zero, List.getElem_cons_succ, List.setIfInBounds_toArray, List.set_cons_zero, List.set_cons_succ]
        refine wpAnyH_take (i := 20) (v := ?_) rfl (by kernel_rfl) (by kernel_rfl) (by kernel_rfl) (fun _ _ _ h => h) (Or.inl ⟨by rfl, ?_⟩) (by assumption) ?_
        rotate_left
        · intro w hSw; (try dsimp only at hSw); go_simp; with_reducible rfl
        try simp only [Act.put, List.getElem_toArray, List.getElem_cons_zero, List.getElem_cons_succ, List.setIfInBounds_toArray, List.set_cons_zero, List.set_cons_succ]
        refine wpAnyH_take (i := 23) (v := ?_) rfl (by kernel_rfl) (by kernel_rfl) (by kernel_rfl) (fun _ _ _ h => h) (Or.inl ⟨by rfl, ?_⟩) (by assumption) ?_
        rotate_left
        · intro w hSw; (try dsimp only at hSw); go_simp; with_reducible rfl
        try simp only [Act.put, List.getElem_toArray, List.getElem_cons_zero, List.getElem_cons_succ, List.setIfInBounds_toArray, List.set_cons_zero, List.set_cons_succ]
        refine wpAnyH_take (i := 21) (v := ?_) rfl (by kernel_rfl) (by kernel_rfl) (by kernel_rfl) (fun _ _ _ h => h) (Or.inl ⟨by rfl, ?_⟩) (by assumption) ?_
        rotate_left
        · intro w hSw; (try dsimp only at hSw); go_simp; with_reducible rfl
        try simp only [Act.put, List.getElem_toArray, List.getElem_cons_zero, List.getElem_cons_succ, List.setIfInBounds_toArray, List.set_cons_zero, List.set_cons_succ]
        refine wpAnyH_take (i := 24) (v := ?_) rfl (by kernel_rfl) (by kernel_rfl) (by kernel_rfl) (fun _ _ _ h => h) (Or.inl ⟨by rfl, ?_⟩) (by assumption) ?_
        rotate_left
        · intro w hSw; (try dsimp only at hSw); go_simp; with_reducible rfl
        try simp only [Act.put, List.getElem_toArray, List.getElem_cons_zero, List.getElem_cons_succ, List.setIfInBounds_toArray, List.set_cons_zero, List.set_cons_succ]
        refine wpAnyH_ready (rs := [22]) (by kernel_rfl) (by simp) ?_
        refine AllReadyH.cons rfl (fun K hK => ?_) AllReadyH.nil
        go_simp
        go_at_call 15; (refine (HFC.out _ _ (FlatAt.below HP.out (hHeld.2.2.2.2.2.2.2.2.2.2.2.2.2.2.2.2.2) (Nat.le_refl _))).mono ?_); rintro e w93 ⟨rfl, hb⟩; have HBN := Lib.hid (belS (hHeld.2.2.2.2.2.2.2.2.2.2.2.2.2.2.2.2.2) hb); clear hb
        refine hK.out _ _ ?_ (fun hHeld => ?_)
        · exact HSof.out _ HBN.out
        clear hK K
        try simp only [Act.put, List.getElem_toArray, List.getElem_cons_zero, List.getElem_cons_succ, List.setIfInBounds_toArray, List.set_cons_zero, List.set_cons_succ]
        refine wpAnyH_take (i := 25) (v := ?_) rfl (by kernel_rfl) (by kernel_rfl) (by kernel_rfl) (fun _ _ _ h => h) (Or.inl ⟨by rfl, ?_⟩) (by assumption) ?_
        rotate_left
        · intro w hSw; (try dsimp only at hSw); go_simp; with_reducible rfl
        try simp only [Act.put, List.getElem_toArray, List.getElem_cons_zero, List.getElem_cons_succ, List.setIfInBounds_toArray, List.set_cons_zero, List.set_cons_succ]
        refine wpAnyH_take (i := 26) (v := ?_) rfl (by kernel_rfl) (by kernel_rfl) (by kernel_rfl) (fun _ _ _ h => h) (Or.inl ⟨by rfl, ?_⟩) (by assumption) ?_
        rotate_left
        · intro w hSw; (try dsimp only at hSw); go_simp; with_reducible rfl
        try simp only [Act.put, List.getElem_toArray, List.getElem_cons_zero, List.getElem_cons_succ, List.setIfInBounds_toArray, List.set_cons_zero, List.set_cons_succ]
        refine wpAnyH_take (i := 27) (v := ?_) rfl (by kernel_rfl) (by kernel_rfl) (by kernel_rfl) (fun _ _ _ h => h) (Or.inl ⟨by rfl, ?_⟩) (by assumption) ?_
        rotate_left
        · intro w hSw; (try dsimp only at hSw); go_simp; with_reducible rfl
        try simp only [Act.put, List.getElem_toArray, List.getElem_cons_zero, List.getElem_cons_succ, List.setIfInBounds_toArray, List.set_cons_zero, List.set_cons_succ]
        refine wpAnyH_done (by kernel_rfl) ?_ _
        have hb := HBN.out
        clear HBN HSof hHeld
        replace Vb_p := Lib.hid (Vb_p.out.below hb)
        replace Vb_q := Lib.hid (Vb_q.out.below hb)
        replace Vb_r := Lib.hid (Vb_r.out.below hb)
        replace Vb_z := Lib.hid (Vb_z.out.below hb)
        replace Vb_y2 := Lib.hid (Vb_y2.out.below hb)
        replace Vb_s := Lib.hid (Vb_s.out.below hb)
        replace HP := Lib.hid (FlatAt.below HP.out hb (Nat.le_refl _))
        replace HX := Lib.hid (FlatAt.below HX.out hb (Nat.le_refl _))
        replace HQ := Lib.hid (FlatAt.below HQ.out hb (Nat.le_refl _))
        replace HZ := Lib.hid (FlatAt.below HZ.out hb (Nat.le_refl _))
        replace HY2 := Lib.hid (FlatAt.below HY2.out hb (Nat.le_refl _))
        replace HB := Lib.hid (belS HB.out hb)
        clear hb
        go_wp2_with fail
        go_ret
        exact ⟨rfl, HB.out⟩
    · skip
      have E0 : (c0 == 0) = false := by simpa using e0
      have E1 : (c0 != 0) = true := by simpa using e0
      clear e0 HSD HLD HCS HSK HSN HSS
      have B_r := Vb_r.out
      have r_0 := Vb_r.out.cell 0 (by simp)
      have r_1 := Vb_r.out.cell 1 (by simp)
      have r_2 := Vb_r.out.cell 2 (by simp)
      have r_3 := Vb_r.out.cell 3 (by simp)
      have r_4 := Vb_r.out.cell 4 (by simp)
      simp only [List.getElem_cons_zero, List.getElem_cons_succ] at r_0 r_1 r_2 r_3 r_4
      have r_l := Vb_r.out.lt
      clear B_r
      have B_p := Vb_p.out
      have p_0 := Vb_p.out.cell 0 (by simp)
      have p_1 := Vb_p.out.cell 1 (by simp)
      have p_2 := Vb_p.out.cell 2 (by simp)
      have p_3 := Vb_p.out.cell 3 (by simp)
      have p_4 := Vb_p.out.cell 4 (by simp)
      simp only [List.getElem_cons_zero, List.getElem_cons_succ] at p_0 p_1 p_2 p_3 p_4
      have p_l := Vb_p.out.lt
      clear B_p
      have B_q := Vb_q.out
      have q_0 := Vb_q.out.cell 0 (by simp)
      have q_1 := Vb_q.out.cell 1 (by simp)
      have q_2 := Vb_q.out.cell 2 (by simp)
      have q_3 := Vb_q.out.cell 3 (by simp)
      have q_4 := Vb_q.out.cell 4 (by simp)
      simp only [List.getElem_cons_zero, List.getElem_cons_succ] at q_0 q_1 q_2 q_3 q_4
      have q_l := Vb_q.out.lt
      clear B_q
      go_wp2_with fail
      clear r_0 r_1 r_2 r_3 r_4 r_l p_0 p_1 p_2 p_3 p_4 p_l q_0 q_1 q_2 q_3 q_4 q_l
      refine (HSM.out _ _ HP.out HQ.out).mono ?_
      rintro e w90 ⟨rfl, hb⟩
      replace Vb_p := Lib.hid (Vb_p.out.below hb)
      replace Vb_q := Lib.hid (Vb_q.out.below hb)
      replace Vb_r := Lib.hid (Vb_r.out.below hb)
      replace HP := Lib.hid (FlatAt.below HP.out hb (Nat.le_refl _))
      replace HX := Lib.hid (FlatAt.below HX.out hb (Nat.le_refl _))
      replace HQ := Lib.hid (FlatAt.below HQ.out hb (Nat.le_refl _))
      replace HB := Lib.hid (belS HB.out hb)
      clear hb
      go_wp2_with fail
      go_ret
      exact ⟨rfl, HB.out⟩
set_option maxRecDepth 100000 in
theorem fnSaveLoad_lifted (os : Os) (started : os.Started) (H : Type) (enc : TypeId × Value → H) :
    ReturnsInHanded {} Tryz.checked os 4 .any (Rows.fnSaveLoadSpec.pre6 enc Tryz.prog Tryz.f4 Rows.fnSaveLoadRow.domain false) (Rows.fnSaveLoadSpec.post enc Tryz.prog Tryz.f4 false true false false) := by
  refine returnsInHanded_of_change_shaped (C := Tryz.checked) ownK started (by kernel_rfl) Tryz.func4
    (ChangeSpec.witness6 (enc := enc) (C := Tryz.checked) false ⟨#[], #[.slice none 0 0], []⟩ 8 (by kernel_rfl) (by kernel_rfl) (by kernel_rfl) (by kernel_rfl)) ?_
  intro W base args ds gs before hval0 hW _ _ hsh _
  have hval : ∀ (j : Nat) t v, Tryz.f4.params[j]? = some t → args[j]? = some v → Value.okWide Tryz.prog W .any base t v := hval0
  have hW' := hW
  obtain ⟨p, q, hA0, _, rfl, _, _⟩ := hW
  have hA : DataW.TrodAll enc Tryz.prog W 0 (fun _ => true) true Tryz.f4.params.toList args.toList ds p := hA0
  rw [Tryz.params4] at hA hval
  obtain ⟨v0, vs0, d0, ds0, p0, q0, hargs, rfl, rfl, h0, r0⟩ := trodAll_cons hA
  obtain ⟨rfl, rfl, rfl⟩ := trodAll_nil r0
  obtain rfl : args = #[v0] := by cases args; simp_all
  obtain ⟨l0, w0⟩ := open_byteRow Tryz.underlying22 Tryz.underlying5 (by kernel_rfl) (hval 0 22 v0 rfl rfl) h0
  clear hA0 hval0
  obtain ⟨m, hm⟩ := Tryz.laysM143.s1_3 W hsh
  refine (fnSaveLoad_any v0 l0 W w0 m hm).mono fun e W1 ⟨he, hb⟩ => ?_
  subst he
  exact ⟨_, rfl, law_post laidK rfl (by kernel_rfl) Tryz.underlying4 (by kernel_rfl) (fun ds h => by match ds, h with | [_], _ => rfl) hW' hb⟩
theorem fnSaveLoad_closed : joinedFacts Tryz.prog 4 Tryz.f4 Rows.fnSaveLoadSpec Rows.fnSaveLoadRow = true := by unfold joinedFacts; rw [mayEnter_k, liftsFinal_k, make_k]; kernel_rfl
theorem fnSaveLoad_holds : Rows.FnSaveLoadSaid :=
  OpenClaim.holds_of_wide 4 Tryz.f4 rfl rfl rfl rfl rfl rfl rfl ⟨rfl, rfl, rfl, rfl, rfl⟩ rfl rfl rfl rfl rfl (by kernel_rfl) Tryz.func4 fnSaveLoad_closed
    (of_decide_eq_true (by kernel_rfl)) (by unfold Func.isWrapper; first | (rw [if_pos (by decide +kernel)]; kernel_rfl) | (rw [if_neg (by decide +kernel)]; exact ⟨rfl, rfl⟩))
    (fun os started H enc _ => fnSaveLoad_lifted os started H enc)
end Go.Proofs.YtghebbndfpbkcaaGreat
