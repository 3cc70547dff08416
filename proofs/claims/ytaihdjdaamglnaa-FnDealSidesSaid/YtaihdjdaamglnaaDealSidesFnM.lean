/- FnDealSides: both sides make the same deal, in whatever order, and with one of them twice, at every code that is drawn from. No condition. -/
import Derived.Test.YtaihdjdaamglnaaDealSidesFnM1
import Derived.Test.YtaihdjdaamglnaaDealSidesFnM0
import Derived.HandedShaped
import Derived.Deep.CutRange
import Derived.Deep.QuietTactic
import Derived.BigQuiet
namespace Go.Proofs.Ytaihdjdaamglnaa
set_option linter.unusedVariables false
set_option linter.unusedSimpArgs false
open Go.ChangeShapes Go.WideShapes Go.ChangeAt Go.RowKit Go.WideMaps Go.WideElems
open Go.ChangeMaps (open_string shut_string)
theorem slB {w w' : World} {B : Nat} {v : Value} {l : List VersionD} (h : SliceAt (rFlat cVersion) 2 0 w v l) (hb : Below B w w') (hB : w.heap.size ≤ B) : SliceAt (rFlat cVersion) 2 0 w' v l := SliceAt.below h (good_flat cVersion_len) hb hB
theorem three_offers (W : World) (a0 b0 c0 : List VersionD) (a1 b1 c1 : Int) (x y z : Value) (hx : SliceAt (rFlat cVersion) 2 0 W x a0) (hy : SliceAt (rFlat cVersion) 2 0 W y b0) (hz : SliceAt (rFlat cVersion) 2 0 W z c0) (blk : Nat) (hb : blk = W.heap.size) :
    SliceAt rOffer 2 0 (W.alloc (.cells #[x, .int .i64 a1, y, .int .i64 b1, z, .int .i64 c1] 52)) (.slice (some ⟨blk, 0, none⟩) 3 3) [⟨a0, a1⟩, ⟨b0, b1⟩, ⟨c0, c1⟩] := by
  subst hb
  refine ⟨_, 0, rfl, by unfold maxLen; simp, Or.inr ⟨W.heap.size, 0, rfl, Nat.zero_le _, by simp, fun i hi => ?_⟩⟩
  have h : i = 0 ∨ i = 1 ∨ i = 2 := by simp at hi; omega
  rcases h with rfl | rfl | rfl
  · refine ⟨[x, .int .i64 a1], ⟨x, rfl, slB hx (box1 W _) (Nat.le_refl _)⟩, fun j hj => ?_⟩
    have hj2 : j = 0 ∨ j = 1 := by omega
    rcases hj2 with rfl | rfl <;> simp
  · refine ⟨[y, .int .i64 b1], ⟨y, rfl, slB hy (box1 W _) (Nat.le_refl _)⟩, fun j hj => ?_⟩
    have hj2 : j = 0 ∨ j = 1 := by omega
    rcases hj2 with rfl | rfl <;> simp
  · refine ⟨[z, .int .i64 c1], ⟨z, rfl, slB hz (box1 W _) (Nat.le_refl _)⟩, fun j hj => ?_⟩
    have hj2 : j = 0 ∨ j = 1 := by omega
    rcases hj2 with rfl | rfl <;> simp
set_option maxRecDepth 100000 in
set_option maxHeartbeats 6400000 in
theorem fnDealSides_any (v : Value) (l : List UInt8) (w : World) (hR : RowAt w v (Lib.byteCells l)) :
    Calls Try.prog 6 #[v] w fun e w' => e = .returned (.bool true) ∧ Below w.heap.size w w' := by
  have HR := Lib.hid hR
  have HBG := Lib.hid (big_any v l w hR)
  clear hR
  go_enter Try.func6, Try.ntmps6
  go_wp2_with fail
  refine HBG.out.mono ?_
  rintro e w' ⟨rfl, rfl⟩
  by_cases hbig : 4096 < l.length
  · go_wp2_with fail
    go_ret
    exact ⟨rfl, Below.refl _ _⟩
  have hd : decide (4096 < l.length) = false := by simpa using hbig
  clear hbig
  rw [hd]
  clear hd HBG
  go_wp2_with fail
  refine (drawOffers2_any v l _ HR.out).mono ?_
  rintro e w1 ⟨⟨a0, a1⟩, ⟨c0, c1⟩, ua, uc, rfl, hoa, hoc, hka, hkc, hva, hvc, hb⟩
  obtain ⟨pA, pC, rfl⟩ := slice_of hoa
  obtain ⟨qA, qC, rfl⟩ := slice_of hoc
  simp only at hoa hoc
  have HKA := Lib.hid hka
  have HKC := Lib.hid hkc
  have HVA := Lib.hid hva
  have HVC := Lib.hid hvc
  have HB := Lib.hid hb
  have HPA := Lib.hid (sliceAt_of_flat cVersion_len (ownsF_at hoa (Nat.le_trans hka.1 (by decide))))
  have HPC := Lib.hid (sliceAt_of_flat cVersion_len (ownsF_at hoc (Nat.le_trans hkc.1 (by decide))))
  clear hoa hoc hka hkc hva hvc hb
  go_upto_region 4 with fail
  have hbn := Bx.new (w1) [.slice pA a0.length pC, .int .i64 a1] 52
  have hbb := bx_box (w1) (.cells #[.slice pA a0.length pC, .int .i64 a1] 52)
  have Vb_p := Lib.hid hbn
  clear hbn
  replace HPA := Lib.hid (slB HPA.out hbb (Nat.le_refl _))
  replace HPC := Lib.hid (slB HPC.out hbb (Nat.le_refl _))
  replace HB := Lib.hid (belS HB.out hbb)
  clear hbb
  have hbn := Bx.new ((w1).alloc (.cells #[.slice pA a0.length pC, .int .i64 a1] 52)) [.slice qA c0.length qC, .int .i64 c1] 52
  have hbb := bx_box ((w1).alloc (.cells #[.slice pA a0.length pC, .int .i64 a1] 52)) (.cells #[.slice qA c0.length qC, .int .i64 c1] 52)
  rw [show ((w1).alloc (.cells #[.slice pA a0.length pC, .int .i64 a1] 52)).heap.size = w1.heap.size + 1 by simp] at hbn
  have Vb_q := Lib.hid hbn
  clear hbn
  replace Vb_p := Lib.hid (Vb_p.out.below hbb)
  replace HPA := Lib.hid (slB HPA.out hbb (Nat.le_refl _))
  replace HPC := Lib.hid (slB HPC.out hbb (Nat.le_refl _))
  replace HB := Lib.hid (belS HB.out hbb)
  clear hbb
  generalize ((w1).alloc (.cells #[.slice pA a0.length pC, .int .i64 a1] 52)).alloc (.cells #[.slice qA c0.length qC, .int .i64 c1] 52) = w4 at *
  have HDS := Lib.hid (deal_sides ⟨a0, a1⟩ ⟨c0, c1⟩)
  have HN1 := Lib.hid (fun W (ha : SliceAt (rFlat cVersion) 2 0 W (.slice pA a0.length pC) a0) (hc : SliceAt (rFlat cVersion) 2 0 W (.slice qA c0.length qC) c0) => implNeg_any (.agg #[.slice pA a0.length pC, .int .i64 a1]) (.agg #[.slice qA c0.length qC, .int .i64 c1]) ⟨a0, a1⟩ ⟨c0, c1⟩ W (⟨_, rfl, _, rfl, ha⟩ : ValAt rOffer 0 W (.agg #[.slice pA a0.length pC, .int .i64 a1]) ⟨a0, a1⟩) (⟨_, rfl, _, rfl, hc⟩ : ValAt rOffer 0 W (.agg #[.slice qA c0.length qC, .int .i64 c1]) ⟨c0, c1⟩))
  have HN2 := Lib.hid (fun W (ha : SliceAt (rFlat cVersion) 2 0 W (.slice pA a0.length pC) a0) (hc : SliceAt (rFlat cVersion) 2 0 W (.slice qA c0.length qC) c0) => specNeg_any (.agg #[.slice pA a0.length pC, .int .i64 a1]) (.agg #[.slice qA c0.length qC, .int .i64 c1]) ⟨a0, a1⟩ ⟨c0, c1⟩ W (⟨_, rfl, _, rfl, ha⟩ : ValAt rOffer 0 W (.agg #[.slice pA a0.length pC, .int .i64 a1]) ⟨a0, a1⟩) (⟨_, rfl, _, rfl, hc⟩ : ValAt rOffer 0 W (.agg #[.slice qA c0.length qC, .int .i64 c1]) ⟨c0, c1⟩))
  have HN3 := Lib.hid (fun W (ha : SliceAt (rFlat cVersion) 2 0 W (.slice pA a0.length pC) a0) (hc : SliceAt (rFlat cVersion) 2 0 W (.slice qA c0.length qC) c0) => implNeg_any (.agg #[.slice qA c0.length qC, .int .i64 c1]) (.agg #[.slice pA a0.length pC, .int .i64 a1]) ⟨c0, c1⟩ ⟨a0, a1⟩ W (⟨_, rfl, _, rfl, hc⟩ : ValAt rOffer 0 W (.agg #[.slice qA c0.length qC, .int .i64 c1]) ⟨c0, c1⟩) (⟨_, rfl, _, rfl, ha⟩ : ValAt rOffer 0 W (.agg #[.slice pA a0.length pC, .int .i64 a1]) ⟨a0, a1⟩))
  have HN4 := Lib.hid (fun W u (h : SliceAt rOffer 2 0 W u [⟨a0, a1⟩, ⟨c0, c1⟩]) => implNegAll_any u [⟨a0, a1⟩, ⟨c0, c1⟩] W h)
  have HN5 := Lib.hid (fun W u (h : SliceAt rOffer 2 0 W u [⟨c0, c1⟩, ⟨a0, a1⟩, ⟨c0, c1⟩]) => implNegAll_any u [⟨c0, c1⟩, ⟨a0, a1⟩, ⟨c0, c1⟩] W h)
  rw [HDS.out.1.1, HDS.out.1.2] at HN3
  rw [HDS.out.2.1, HDS.out.2.2] at HN5
  clear HDS
  generalize dealV [⟨a0, a1⟩, ⟨c0, c1⟩] = d at *
  generalize dealB [⟨a0, a1⟩, ⟨c0, c1⟩] = ok at *
  obtain ⟨d0, d1, d2⟩ := d
  simp only [vDeal] at HN1 HN2 HN3 HN4 HN5
  have B_p := Vb_p.out
  have p_0 := Vb_p.out.cell 0 (by simp)
  have p_1 := Vb_p.out.cell 1 (by simp)
  simp only [List.getElem_cons_zero, List.getElem_cons_succ] at p_0 p_1
  have p_l := Vb_p.out.lt
  clear B_p
  have B_q := Vb_q.out
  have q_0 := Vb_q.out.cell 0 (by simp)
  have q_1 := Vb_q.out.cell 1 (by simp)
  simp only [List.getElem_cons_zero, List.getElem_cons_succ] at q_0 q_1
  have q_l := Vb_q.out.lt
  clear B_q
  go_wp2_with fail
  clear p_0 p_1 p_l q_0 q_1 q_l
  refine (HN1.out _ HPA.out HPC.out).mono ?_
  rintro e w5 ⟨rfl, hb⟩
  replace Vb_p := Lib.hid (Vb_p.out.below hb)
  replace Vb_q := Lib.hid (Vb_q.out.below hb)
  replace HPA := Lib.hid (slB HPA.out hb (Nat.le_refl _))
  replace HPC := Lib.hid (slB HPC.out hb (Nat.le_refl _))
  replace HB := Lib.hid (belS HB.out hb)
  clear hb
  go_upto_region 5 with fail
  have hbn := Bx.new (w5) [.int .i64 d0, .int .i64 d1, .int .i64 d2] 58
  have hbb := bx_box (w5) (.cells #[.int .i64 d0, .int .i64 d1, .int .i64 d2] 58)
  have Vb_d := Lib.hid hbn
  clear hbn
  replace Vb_p := Lib.hid (Vb_p.out.below hbb)
  replace Vb_q := Lib.hid (Vb_q.out.below hbb)
  replace HPA := Lib.hid (slB HPA.out hbb (Nat.le_refl _))
  replace HPC := Lib.hid (slB HPC.out hbb (Nat.le_refl _))
  replace HB := Lib.hid (belS HB.out hbb)
  clear hbb
  generalize (w5).alloc (.cells #[.int .i64 d0, .int .i64 d1, .int .i64 d2] 58) = w7 at *
  have B_p := Vb_p.out
  have p_0 := Vb_p.out.cell 0 (by simp)
  have p_1 := Vb_p.out.cell 1 (by simp)
  simp only [List.getElem_cons_zero, List.getElem_cons_succ] at p_0 p_1
  have p_l := Vb_p.out.lt
  clear B_p
  have B_q := Vb_q.out
  have q_0 := Vb_q.out.cell 0 (by simp)
  have q_1 := Vb_q.out.cell 1 (by simp)
  simp only [List.getElem_cons_zero, List.getElem_cons_succ] at q_0 q_1
  have q_l := Vb_q.out.lt
  clear B_q
  go_wp2_with fail
  clear p_0 p_1 p_l q_0 q_1 q_l
  refine (HN2.out _ HPA.out HPC.out).mono ?_
  rintro e w8 ⟨rfl, hb⟩
  replace Vb_p := Lib.hid (Vb_p.out.below hb)
  replace Vb_q := Lib.hid (Vb_q.out.below hb)
  replace Vb_d := Lib.hid (Vb_d.out.below hb)
  replace HPA := Lib.hid (slB HPA.out hb (Nat.le_refl _))
  replace HPC := Lib.hid (slB HPC.out hb (Nat.le_refl _))
  replace HB := Lib.hid (belS HB.out hb)
  clear hb
  go_upto_region 6 with fail
  have hbn := Bx.new (w8) [.int .i64 d0, .int .i64 d1, .int .i64 d2] 58
  have hbb := bx_box (w8) (.cells #[.int .i64 d0, .int .i64 d1, .int .i64 d2] 58)
  have Vb_s := Lib.hid hbn
  clear hbn
  replace Vb_p := Lib.hid (Vb_p.out.below hbb)
  replace Vb_q := Lib.hid (Vb_q.out.below hbb)
  replace Vb_d := Lib.hid (Vb_d.out.below hbb)
  replace HPA := Lib.hid (slB HPA.out hbb (Nat.le_refl _))
  replace HPC := Lib.hid (slB HPC.out hbb (Nat.le_refl _))
  replace HB := Lib.hid (belS HB.out hbb)
  clear hbb
  generalize (w8).alloc (.cells #[.int .i64 d0, .int .i64 d1, .int .i64 d2] 58) = w10 at *
  clear Vb_s
  cases ok
  case false =>
    have B_p := Vb_p.out
    have p_0 := Vb_p.out.cell 0 (by simp)
    have p_1 := Vb_p.out.cell 1 (by simp)
    simp only [List.getElem_cons_zero, List.getElem_cons_succ] at p_0 p_1
    have p_l := Vb_p.out.lt
    clear B_p
    have B_q := Vb_q.out
    have q_0 := Vb_q.out.cell 0 (by simp)
    have q_1 := Vb_q.out.cell 1 (by simp)
    simp only [List.getElem_cons_zero, List.getElem_cons_succ] at q_0 q_1
    have q_l := Vb_q.out.lt
    clear B_q
    go_wp2_with fail
    clear p_0 p_1 p_l q_0 q_1 q_l
    refine (HN3.out _ HPA.out HPC.out).mono ?_
    rintro e w11 ⟨rfl, hb⟩
    replace Vb_p := Lib.hid (Vb_p.out.below hb)
    replace Vb_q := Lib.hid (Vb_q.out.below hb)
    replace Vb_d := Lib.hid (Vb_d.out.below hb)
    replace HPA := Lib.hid (slB HPA.out hb (Nat.le_refl _))
    replace HPC := Lib.hid (slB HPC.out hb (Nat.le_refl _))
    replace HB := Lib.hid (belS HB.out hb)
    clear hb
    go_upto_region 9 with fail
    have hbn := Bx.new (w11) [.int .i64 d0, .int .i64 d1, .int .i64 d2] 58
    have hbb := bx_box (w11) (.cells #[.int .i64 d0, .int .i64 d1, .int .i64 d2] 58)
    have Vb_e := Lib.hid hbn
    clear hbn
    replace Vb_p := Lib.hid (Vb_p.out.below hbb)
    replace Vb_q := Lib.hid (Vb_q.out.below hbb)
    replace Vb_d := Lib.hid (Vb_d.out.below hbb)
    replace HPA := Lib.hid (slB HPA.out hbb (Nat.le_refl _))
    replace HPC := Lib.hid (slB HPC.out hbb (Nat.le_refl _))
    replace HB := Lib.hid (belS HB.out hbb)
    clear hbb
    generalize (w11).alloc (.cells #[.int .i64 d0, .int .i64 d1, .int .i64 d2] 58) = w13 at *
    have B_p := Vb_p.out
    have p_0 := Vb_p.out.cell 0 (by simp)
    have p_1 := Vb_p.out.cell 1 (by simp)
    simp only [List.getElem_cons_zero, List.getElem_cons_succ] at p_0 p_1
    have p_l := Vb_p.out.lt
    clear B_p
    have B_q := Vb_q.out
    have q_0 := Vb_q.out.cell 0 (by simp)
    have q_1 := Vb_q.out.cell 1 (by simp)
    simp only [List.getElem_cons_zero, List.getElem_cons_succ] at q_0 q_1
    have q_l := Vb_q.out.lt
    clear B_q
    go_wp2_with fail
    clear p_0 p_1 p_l q_0 q_1 q_l
    refine (HN4.out _ _ (two_offers w13 a0 c0 a1 c1 _ _ HPA.out HPC.out _ rfl)).mono ?_
    rintro e w14 ⟨rfl, hb⟩
    replace hb := belS (bx_box w13 _) hb
    replace Vb_p := Lib.hid (Vb_p.out.below hb)
    replace Vb_q := Lib.hid (Vb_q.out.below hb)
    replace Vb_d := Lib.hid (Vb_d.out.below hb)
    replace Vb_e := Lib.hid (Vb_e.out.below hb)
    replace HPA := Lib.hid (slB HPA.out hb (Nat.le_refl _))
    replace HPC := Lib.hid (slB HPC.out hb (Nat.le_refl _))
    replace HB := Lib.hid (belS HB.out hb)
    clear hb
    go_upto_region 10 with fail
    have hbn := Bx.new (w14) [.int .i64 d0, .int .i64 d1, .int .i64 d2] 58
    have hbb := bx_box (w14) (.cells #[.int .i64 d0, .int .i64 d1, .int .i64 d2] 58)
    have Vb_x := Lib.hid hbn
    clear hbn
    replace Vb_p := Lib.hid (Vb_p.out.below hbb)
    replace Vb_q := Lib.hid (Vb_q.out.below hbb)
    replace Vb_d := Lib.hid (Vb_d.out.below hbb)
    replace Vb_e := Lib.hid (Vb_e.out.below hbb)
    replace HPA := Lib.hid (slB HPA.out hbb (Nat.le_refl _))
    replace HPC := Lib.hid (slB HPC.out hbb (Nat.le_refl _))
    replace HB := Lib.hid (belS HB.out hbb)
    clear hbb
    generalize (w14).alloc (.cells #[.int .i64 d0, .int .i64 d1, .int .i64 d2] 58) = w16 at *
    have B_p := Vb_p.out
    have p_0 := Vb_p.out.cell 0 (by simp)
    have p_1 := Vb_p.out.cell 1 (by simp)
    simp only [List.getElem_cons_zero, List.getElem_cons_succ] at p_0 p_1
    have p_l := Vb_p.out.lt
    clear B_p
    have B_q := Vb_q.out
    have q_0 := Vb_q.out.cell 0 (by simp)
    have q_1 := Vb_q.out.cell 1 (by simp)
    simp only [List.getElem_cons_zero, List.getElem_cons_succ] at q_0 q_1
    have q_l := Vb_q.out.lt
    clear B_q
    go_wp2_with fail
    clear p_0 p_1 p_l q_0 q_1 q_l
    refine (HN5.out _ _ (three_offers w16 c0 a0 c0 c1 a1 c1 _ _ _ HPC.out HPA.out HPC.out _ rfl)).mono ?_
    rintro e w17 ⟨rfl, hb⟩
    replace hb := belS (bx_box w16 _) hb
    replace Vb_p := Lib.hid (Vb_p.out.below hb)
    replace Vb_q := Lib.hid (Vb_q.out.below hb)
    replace Vb_d := Lib.hid (Vb_d.out.below hb)
    replace Vb_e := Lib.hid (Vb_e.out.below hb)
    replace Vb_x := Lib.hid (Vb_x.out.below hb)
    replace HPA := Lib.hid (slB HPA.out hb (Nat.le_refl _))
    replace HPC := Lib.hid (slB HPC.out hb (Nat.le_refl _))
    replace HB := Lib.hid (belS HB.out hb)
    clear hb
    go_upto_region 11 with fail
    have hbn := Bx.new (w17) [.int .i64 d0, .int .i64 d1, .int .i64 d2] 58
    have hbb := bx_box (w17) (.cells #[.int .i64 d0, .int .i64 d1, .int .i64 d2] 58)
    have Vb_y := Lib.hid hbn
    clear hbn
    replace Vb_p := Lib.hid (Vb_p.out.below hbb)
    replace Vb_q := Lib.hid (Vb_q.out.below hbb)
    replace Vb_d := Lib.hid (Vb_d.out.below hbb)
    replace Vb_e := Lib.hid (Vb_e.out.below hbb)
    replace Vb_x := Lib.hid (Vb_x.out.below hbb)
    replace HPA := Lib.hid (slB HPA.out hbb (Nat.le_refl _))
    replace HPC := Lib.hid (slB HPC.out hbb (Nat.le_refl _))
    replace HB := Lib.hid (belS HB.out hbb)
    clear hbb
    generalize (w17).alloc (.cells #[.int .i64 d0, .int .i64 d1, .int .i64 d2] 58) = w19 at *
    have B_d := Vb_d.out
    have d_0 := Vb_d.out.cell 0 (by simp)
    have d_1 := Vb_d.out.cell 1 (by simp)
    have d_2 := Vb_d.out.cell 2 (by simp)
    simp only [List.getElem_cons_zero, List.getElem_cons_succ] at d_0 d_1 d_2
    have d_l := Vb_d.out.lt
    clear B_d
    have B_e := Vb_e.out
    have e_0 := Vb_e.out.cell 0 (by simp)
    have e_1 := Vb_e.out.cell 1 (by simp)
    have e_2 := Vb_e.out.cell 2 (by simp)
    simp only [List.getElem_cons_zero, List.getElem_cons_succ] at e_0 e_1 e_2
    have e_l := Vb_e.out.lt
    clear B_e
    have B_x := Vb_x.out
    have x_0 := Vb_x.out.cell 0 (by simp)
    have x_1 := Vb_x.out.cell 1 (by simp)
    have x_2 := Vb_x.out.cell 2 (by simp)
    simp only [List.getElem_cons_zero, List.getElem_cons_succ] at x_0 x_1 x_2
    have x_l := Vb_x.out.lt
    clear B_x
    have B_y := Vb_y.out
    have y_0 := Vb_y.out.cell 0 (by simp)
    have y_1 := Vb_y.out.cell 1 (by simp)
    have y_2 := Vb_y.out.cell 2 (by simp)
    simp only [List.getElem_cons_zero, List.getElem_cons_succ] at y_0 y_1 y_2
    have y_l := Vb_y.out.lt
    clear B_y
    go_wp2_with fail
    clear d_0 d_1 d_2 d_l e_0 e_1 e_2 e_l x_0 x_1 x_2 x_l y_0 y_1 y_2 y_l
    go_ret
    exact ⟨rfl, HB.out⟩
  case true =>
    have B_p := Vb_p.out
    have p_0 := Vb_p.out.cell 0 (by simp)
    have p_1 := Vb_p.out.cell 1 (by simp)
    simp only [List.getElem_cons_zero, List.getElem_cons_succ] at p_0 p_1
    have p_l := Vb_p.out.lt
    clear B_p
    have B_q := Vb_q.out
    have q_0 := Vb_q.out.cell 0 (by simp)
    have q_1 := Vb_q.out.cell 1 (by simp)
    simp only [List.getElem_cons_zero, List.getElem_cons_succ] at q_0 q_1
    have q_l := Vb_q.out.lt
    clear B_q
    go_wp2_with fail
    clear p_0 p_1 p_l q_0 q_1 q_l
    refine (HN3.out _ HPA.out HPC.out).mono ?_
    rintro e w11 ⟨rfl, hb⟩
    replace Vb_p := Lib.hid (Vb_p.out.below hb)
    replace Vb_q := Lib.hid (Vb_q.out.below hb)
    replace Vb_d := Lib.hid (Vb_d.out.below hb)
    replace HPA := Lib.hid (slB HPA.out hb (Nat.le_refl _))
    replace HPC := Lib.hid (slB HPC.out hb (Nat.le_refl _))
    replace HB := Lib.hid (belS HB.out hb)
    clear hb
    go_upto_region 9 with fail
    have hbn := Bx.new (w11) [.int .i64 d0, .int .i64 d1, .int .i64 d2] 58
    have hbb := bx_box (w11) (.cells #[.int .i64 d0, .int .i64 d1, .int .i64 d2] 58)
    have Vb_e := Lib.hid hbn
    clear hbn
    replace Vb_p := Lib.hid (Vb_p.out.below hbb)
    replace Vb_q := Lib.hid (Vb_q.out.below hbb)
    replace Vb_d := Lib.hid (Vb_d.out.below hbb)
    replace HPA := Lib.hid (slB HPA.out hbb (Nat.le_refl _))
    replace HPC := Lib.hid (slB HPC.out hbb (Nat.le_refl _))
    replace HB := Lib.hid (belS HB.out hbb)
    clear hbb
    generalize (w11).alloc (.cells #[.int .i64 d0, .int .i64 d1, .int .i64 d2] 58) = w13 at *
    have B_p := Vb_p.out
    have p_0 := Vb_p.out.cell 0 (by simp)
    have p_1 := Vb_p.out.cell 1 (by simp)
    simp only [List.getElem_cons_zero, List.getElem_cons_succ] at p_0 p_1
    have p_l := Vb_p.out.lt
    clear B_p
    have B_q := Vb_q.out
    have q_0 := Vb_q.out.cell 0 (by simp)
    have q_1 := Vb_q.out.cell 1 (by simp)
    simp only [List.getElem_cons_zero, List.getElem_cons_succ] at q_0 q_1
    have q_l := Vb_q.out.lt
    clear B_q
    go_wp2_with fail
    clear p_0 p_1 p_l q_0 q_1 q_l
    refine (HN4.out _ _ (two_offers w13 a0 c0 a1 c1 _ _ HPA.out HPC.out _ rfl)).mono ?_
    rintro e w14 ⟨rfl, hb⟩
    replace hb := belS (bx_box w13 _) hb
    replace Vb_p := Lib.hid (Vb_p.out.below hb)
    replace Vb_q := Lib.hid (Vb_q.out.below hb)
    replace Vb_d := Lib.hid (Vb_d.out.below hb)
    replace Vb_e := Lib.hid (Vb_e.out.below hb)
    replace HPA := Lib.hid (slB HPA.out hb (Nat.le_refl _))
    replace HPC := Lib.hid (slB HPC.out hb (Nat.le_refl _))
    replace HB := Lib.hid (belS HB.out hb)
    clear hb
    go_upto_region 10 with fail
    have hbn := Bx.new (w14) [.int .i64 d0, .int .i64 d1, .int .i64 d2] 58
    have hbb := bx_box (w14) (.cells #[.int .i64 d0, .int .i64 d1, .int .i64 d2] 58)
    have Vb_x := Lib.hid hbn
    clear hbn
    replace Vb_p := Lib.hid (Vb_p.out.below hbb)
    replace Vb_q := Lib.hid (Vb_q.out.below hbb)
    replace Vb_d := Lib.hid (Vb_d.out.below hbb)
    replace Vb_e := Lib.hid (Vb_e.out.below hbb)
    replace HPA := Lib.hid (slB HPA.out hbb (Nat.le_refl _))
    replace HPC := Lib.hid (slB HPC.out hbb (Nat.le_refl _))
    replace HB := Lib.hid (belS HB.out hbb)
    clear hbb
    generalize (w14).alloc (.cells #[.int .i64 d0, .int .i64 d1, .int .i64 d2] 58) = w16 at *
    have B_p := Vb_p.out
    have p_0 := Vb_p.out.cell 0 (by simp)
    have p_1 := Vb_p.out.cell 1 (by simp)
    simp only [List.getElem_cons_zero, List.getElem_cons_succ] at p_0 p_1
    have p_l := Vb_p.out.lt
    clear B_p
    have B_q := Vb_q.out
    have q_0 := Vb_q.out.cell 0 (by simp)
    have q_1 := Vb_q.out.cell 1 (by simp)
    simp only [List.getElem_cons_zero, List.getElem_cons_succ] at q_0 q_1
    have q_l := Vb_q.out.lt
    clear B_q
    go_wp2_with fail
    clear p_0 p_1 p_l q_0 q_1 q_l
    refine (HN5.out _ _ (three_offers w16 c0 a0 c0 c1 a1 c1 _ _ _ HPC.out HPA.out HPC.out _ rfl)).mono ?_
    rintro e w17 ⟨rfl, hb⟩
    replace hb := belS (bx_box w16 _) hb
    replace Vb_p := Lib.hid (Vb_p.out.below hb)
    replace Vb_q := Lib.hid (Vb_q.out.below hb)
    replace Vb_d := Lib.hid (Vb_d.out.below hb)
    replace Vb_e := Lib.hid (Vb_e.out.below hb)
    replace Vb_x := Lib.hid (Vb_x.out.below hb)
    replace HPA := Lib.hid (slB HPA.out hb (Nat.le_refl _))
    replace HPC := Lib.hid (slB HPC.out hb (Nat.le_refl _))
    replace HB := Lib.hid (belS HB.out hb)
    clear hb
    go_upto_region 11 with fail
    have hbn := Bx.new (w17) [.int .i64 d0, .int .i64 d1, .int .i64 d2] 58
    have hbb := bx_box (w17) (.cells #[.int .i64 d0, .int .i64 d1, .int .i64 d2] 58)
    have Vb_y := Lib.hid hbn
    clear hbn
    replace Vb_p := Lib.hid (Vb_p.out.below hbb)
    replace Vb_q := Lib.hid (Vb_q.out.below hbb)
    replace Vb_d := Lib.hid (Vb_d.out.below hbb)
    replace Vb_e := Lib.hid (Vb_e.out.below hbb)
    replace Vb_x := Lib.hid (Vb_x.out.below hbb)
    replace HPA := Lib.hid (slB HPA.out hbb (Nat.le_refl _))
    replace HPC := Lib.hid (slB HPC.out hbb (Nat.le_refl _))
    replace HB := Lib.hid (belS HB.out hbb)
    clear hbb
    generalize (w17).alloc (.cells #[.int .i64 d0, .int .i64 d1, .int .i64 d2] 58) = w19 at *
    have B_d := Vb_d.out
    have d_0 := Vb_d.out.cell 0 (by simp)
    have d_1 := Vb_d.out.cell 1 (by simp)
    have d_2 := Vb_d.out.cell 2 (by simp)
    simp only [List.getElem_cons_zero, List.getElem_cons_succ] at d_0 d_1 d_2
    have d_l := Vb_d.out.lt
    clear B_d
    have B_e := Vb_e.out
    have e_0 := Vb_e.out.cell 0 (by simp)
    have e_1 := Vb_e.out.cell 1 (by simp)
    have e_2 := Vb_e.out.cell 2 (by simp)
    simp only [List.getElem_cons_zero, List.getElem_cons_succ] at e_0 e_1 e_2
    have e_l := Vb_e.out.lt
    clear B_e
    have B_x := Vb_x.out
    have x_0 := Vb_x.out.cell 0 (by simp)
    have x_1 := Vb_x.out.cell 1 (by simp)
    have x_2 := Vb_x.out.cell 2 (by simp)
    simp only [List.getElem_cons_zero, List.getElem_cons_succ] at x_0 x_1 x_2
    have x_l := Vb_x.out.lt
    clear B_x
    have B_y := Vb_y.out
    have y_0 := Vb_y.out.cell 0 (by simp)
    have y_1 := Vb_y.out.cell 1 (by simp)
    have y_2 := Vb_y.out.cell 2 (by simp)
    simp only [List.getElem_cons_zero, List.getElem_cons_succ] at y_0 y_1 y_2
    have y_l := Vb_y.out.lt
    clear B_y
    go_wp2_with fail
    clear d_0 d_1 d_2 d_l e_0 e_1 e_2 e_l x_0 x_1 x_2 x_l y_0 y_1 y_2 y_l
    go_ret
    exact ⟨rfl, HB.out⟩
set_option maxRecDepth 100000 in
theorem fnDealSides_lifted (os : Os) (started : os.Started) (H : Type) (enc : TypeId × Value → H) :
    ReturnsInHanded {} Try.checked os 6 .any (Rows.fnDealSidesSpec.pre6 enc Try.prog Try.f6 Rows.fnDealSidesRow.domain false) (Rows.fnDealSidesSpec.post enc Try.prog Try.f6 false true false false) := by
  refine returnsInHanded_of_change (C := Try.checked) ownK started (by kernel_rfl) Try.func6
    (ChangeSpec.witness6 (enc := enc) (C := Try.checked) false ⟨#[], #[.slice none 0 0], []⟩ 8 (by kernel_rfl) (by kernel_rfl) (by kernel_rfl) (by kernel_rfl)) ?_
  intro W base args ds gs before hval0 hW _ _
  have hval : ∀ (j : Nat) t v, Try.f6.params[j]? = some t → args[j]? = some v → Value.okWide Try.prog W .any base t v := hval0
  have hW' := hW
  obtain ⟨p, q, hA0, _, rfl, _, _⟩ := hW
  have hA : DataW.TrodAll enc Try.prog W 0 (fun _ => true) true Try.f6.params.toList args.toList ds p := hA0
  rw [Try.params6] at hA hval
  obtain ⟨v0, vs0, d0, ds0, p0, q0, hargs, rfl, rfl, h0, r0⟩ := trodAll_cons hA
  obtain ⟨rfl, rfl, rfl⟩ := trodAll_nil r0
  obtain rfl : args = #[v0] := by cases args; simp_all
  obtain ⟨l0, w0⟩ := open_byteRow Try.underlying22 Try.underlying5 (by kernel_rfl) (hval 0 22 v0 rfl rfl) h0
  clear hA0 hval0
  refine (fnDealSides_any v0 l0 W w0).mono fun e W1 ⟨he, hb⟩ => ?_
  subst he
  exact ⟨_, rfl, law_post laidK rfl (by kernel_rfl) Try.underlying4 (by kernel_rfl) (fun ds h => by match ds, h with | [_], _ => rfl) hW' hb⟩
theorem fnDealSides_closed : joinedFacts Try.prog 6 Try.f6 Rows.fnDealSidesSpec Rows.fnDealSidesRow = true := by unfold joinedFacts; rw [mayEnter_k, liftsFinal_k, make_k]; kernel_rfl
theorem fnDealSides_holds : Rows.FnDealSidesSaid :=
  OpenClaim.holds_of_wide 6 Try.f6 rfl rfl rfl rfl rfl rfl rfl ⟨rfl, rfl, rfl, rfl, rfl⟩ rfl rfl rfl rfl rfl (by kernel_rfl) Try.func6 fnDealSides_closed
    (of_decide_eq_true (by kernel_rfl)) (by unfold Func.isWrapper; first | (rw [if_pos (by decide +kernel)]; kernel_rfl) | (rw [if_neg (by decide +kernel)]; exact ⟨rfl, rfl⟩))
    (fun os started H enc _ => fnDealSides_lifted os started H enc)
end Go.Proofs.Ytaihdjdaamglnaa
