/- FnWrapped: a part is wrapped exactly if it offers what the adapter needs and has room; then it offers what the adapter gives, and unwrapped it is as before, at every code that is drawn from. No condition. -/
import Derived.Test.YtaihdjdaamglnaaWrappedFnM0
import Derived.Test.YtaihdjdaamglnaaRecipesFnM2
import Derived.Test.YtaihdjdaamglnaaRecipesFnM1
import Derived.Deep.CutRange
import Derived.Test.YtaihdjdaamglnaaRecipesFnM0
import Derived.HandedShaped
import Derived.Deep.QuietTactic
import Derived.BigQuiet
/- The draws of chapter 4: parts. Written by gen/ch4dr.py. -/
namespace Go.Proofs.Ytaihdjdaamglnaa
set_option linter.unusedVariables false
set_option linter.unusedSimpArgs false
open Go.RowKit
set_option maxRecDepth 100000 in
set_option maxHeartbeats 6400000 in
theorem l4Draw_any (b : Nat) (v : Value) (l : List UInt8) (w : World) (hC : Cur w b v l) :
    Calls Try.prog 77 #[.pointer (some ⟨b, 0, none⟩)] w fun e w' => DrawnPart 3 b v l w e w' := by
  have BG := Lib.hid ((bag_start hC).var zPartV 29)
  clear hC
  go_enter Try.func77, Try.ntmps77
  go_wp2_with fail
  generalize w.alloc (.cells #[.string ⟨#[]⟩, .bool false, .bool false, .slice none 0 0, .int .i64 0, .slice none 0 0] 29) = w0 at *
  refine (l3Draw_any b v l _ BG.out.cur).mono ?_
  rintro e w1 ⟨⟨kd, on, br, y, cnt⟩, cv, rfl, ho, hok, hg, hC⟩
  obtain ⟨ca, cc, rfl⟩ := slice_of ho
  simp only at ho
  have HOK := Lib.hid (show okPt 3 ⟨⟨kd, on, br, y, cnt⟩, []⟩ from ⟨⟨hok.1, Nat.le_trans hok.2.1 (by decide), hok.2.2⟩, by simp, by simp⟩)
  replace BG := Lib.hid (BG.out.drawn2 hg hC (u5 := .slice none 0 0) (z := []) ho (ownsF_no _ _ _ _ _))
  clear ho hok hg hC
  replace BG := Lib.hid (BG.out.var (cPartV kd on br (.slice ca y.length cc) cnt (.slice none 0 0)) 29)
  unfold vCore
  simp only
  go_wp2_with fail
  generalize w1.alloc (.cells #[.string ⟨kd.toArray⟩, .bool on, .bool br, .slice ca y.length cc, .int .i64 cnt, .slice none 0 0] 29) = w2 at *
  generalize w1.heap.size = P at *
  refine (l1Below_any b v l _ _ BG.out.cur (by omega) (by omega)).mono ?_
  rintro e w3 ⟨n, rfl, ⟨n0, n1, n2⟩, hg, hC⟩
  have n3 := n2 (by omega)
  replace BG := Lib.hid (BG.out.draw hg hC)
  clear hg hC n1 n2
  go_wp2_with fail
  go_loopw [4, 5, 6] (fun nv _ _ wr => ∃ (n : Int) (kd : List UInt8) (on br : Bool) (ca la : Option Addr) (cc lc : Nat) (y : List CellD) (z : List LayerD) (cnt : Int), nv = .int .i64 n ∧ 0 ≤ n ∧ n ≤ 3 ∧ okPt 3 (⟨⟨kd, on, br, y, cnt⟩, z⟩ : PartD) ∧ Bag w w.heap.size b v l [(P, cPartV kd on br (.slice ca y.length cc) cnt (.slice la z.length lc)), (w.heap.size, zPartV)] [hPL w (.slice la z.length lc) z, hPC w (.slice ca y.length cc) y] wr) (fun nv _ _ _ => (intOf nv).toNat)
  case atStart => exact ⟨n, kd, on, br, ca, none, cc, 0, y, [], cnt, rfl, by omega, by omega, HOK.out, BG.out⟩
  case round =>
    clear BG HOK n0 n3
    obtain ⟨n, kd, on, br, ca, la, cc, lc, y, z, cnt, rfl, hn0, hn3, hok, hbg⟩ := hrel
    have BG := Lib.hid hbg
    have HOK := Lib.hid hok
    clear hbg hok
    by_cases hp : 0 < n
    · skip
      go_wp2_with fail
      have HSof := Lib.hid (fun W (h : Bx W P (cPartV kd on br (.slice ca y.length cc) cnt (.slice la z.length lc))) => (show six W P (.string ⟨kd.toArray⟩) (.bool on) (.bool br) (.slice ca y.length cc) (.int .i64 cnt) (.slice la z.length lc) from bx_six h))
      have HFS := Lib.hid (show ∀ W W' : World, six W P (.string ⟨kd.toArray⟩) (.bool on) (.bool br) (.slice ca y.length cc) (.int .i64 cnt) (.slice la z.length lc) → Below W.heap.size W W' → six W' P (.string ⟨kd.toArray⟩) (.bool on) (.bool br) (.slice ca y.length cc) (.int .i64 cnt) (.slice la z.length lc) from fun W W' hh hb => six_below hh hb)
      refine wp_region_held_drew (S := fun w' => six w' P (.string ⟨kd.toArray⟩) (.bool on) (.bool br) (.slice ca y.length cc) (.int .i64 cnt) (.slice la z.length lc)) (by kernel_rfl) ?_ (fun hHeld => ?_)
      · exact HSof.out _ (BG.out.drew.box (P, cPartV kd on br (.slice ca y.length cc) cnt (.slice la z.length lc)) (by simp))
      replace BG := Lib.hid BG.out.drew
      generalize wr.drew = v0 at *
      refine wpAnyH_take (i := 0) (v := ?_) rfl (by kernel_rfl) (by kernel_rfl) (by kernel_rfl) (fun _ _ _ h => h) (Or.inl ⟨by rfl, ?_⟩) (by assumption) ?_
      rotate_left
      · intro w hSw; (try dsimp only at hSw); obtain ⟨s0, s1, s2, s3, s4, s5⟩ := hSw; go_simp; with_reducible rfl
      try simp only [Act.put, List.getElem_toArray, List.getElem_cons_zero, List.getElem_cons_succ, List.setIfInBounds_toArray, List.set_cons_zero, List.set_cons_succ]
      refine wpAnyH_take (i := 1) (v := ?_) rfl (by kernel_rfl) (by kernel_rfl) (by kernel_rfl) (fun _ _ _ h => h) (Or.inl ⟨by rfl, ?_⟩) (by assumption) ?_
      rotate_left
      · intro w hSw; (try dsimp only at hSw); obtain ⟨s0, s1, s2, s3, s4, s5⟩ := hSw; go_simp; with_reducible rfl
      try simp only [Act.put, List.getElem_toArray, List.getElem_cons_zero, List.getElem_cons_succ, List.setIfInBounds_toArray, List.set_cons_zero, List.set_cons_succ]
      refine wpAnyH_take (i := 2) (v := ?_) rfl (by kernel_rfl) (by kernel_rfl) (by kernel_rfl) (fun _ _ _ h => h) (Or.inl ⟨by rfl, ?_⟩) (by assumption) ?_
      rotate_left
      · intro w hSw; (try dsimp only at hSw); obtain ⟨s0, s1, s2, s3, s4, s5⟩ := hSw; go_simp; with_reducible rfl
      try simp only [Act.put, List.getElem_toArray, List.getElem_cons_zero, List.getElem_cons_succ, List.setIfInBounds_toArray, List.set_cons_zero, List.set_cons_succ]
      have ZS := Lib.hid BG.out.sizes
      refine wpAnyH_floatD (r := some b) (k1 := 9) (k2 := 10) (d1 := 5) (d2 := 6) (z1 := zPartV) (z2 := zReplyV) (T1 := 29) (T2 := 33) (js := [(3, false), (4, false), (5, false), (6, true), (7, true), (8, true)]) (fz := 2) rfl (fun g e => by injection e with e; subst e; exact BG.out.cur.lt) ⟨⟨_, rfl, rfl, rfl, fun a w => ?_⟩⟩ ⟨⟨_, rfl, rfl, rfl, fun a w => ?_⟩⟩ (by kernel_rfl) (by decide) (by decide) (by kernel_rfl) (fun _ _ _ _ _ => Iff.rfl) HFS.out (by assumption) ?_
      · rfl
      · rfl
      refine wpFd_step rfl (fun v1 hbG hHeld K hK => ?_)
      replace BG := Lib.hid (BG.out.below hbG)
      clear hbG
      go_simp
      go_at_call 41
      refine (specFaceOf_any _ (⟨⟨kd, on, br, y, cnt⟩, z⟩ : PartD) _ (show ValAt rPart 0 _ (.agg #[.string ⟨kd.toArray⟩, .bool on, .bool br, .slice ca y.length cc, .int .i64 cnt, .slice la z.length lc]) (⟨⟨kd, on, br, y, cnt⟩, z⟩ : PartD) from ⟨cPartV kd on br (.slice ca y.length cc) cnt (.slice la z.length lc), rfl, bag_part (n := 3) (x := (⟨⟨kd, on, br, y, cnt⟩, z⟩ : PartD)) BG.out (by simp) (by simp) HOK.out (by decide)⟩)).mono ?_
      rintro e v2 ⟨rfl, hb⟩
      replace BG := Lib.hid (BG.out.below hb)
      refine hK.out _ _ (gr_below hb) (HSof.out _ (BG.out.box (P, cPartV kd on br (.slice ca y.length cc) cnt (.slice la z.length lc)) (by simp))) ?_
      clear hK K hb hHeld
      try simp only [Act.put, List.getElem_toArray, List.getElem_cons_zero, List.getElem_cons_succ, List.setIfInBounds_toArray, List.set_cons_zero, List.set_cons_succ]
      generalize faceP (⟨⟨kd, on, br, y, cnt⟩, z⟩ : PartD) = fc at *
      refine wpFd_step rfl (fun v3 hbG hHeld K hK => ?_)
      replace BG := Lib.hid (BG.out.below hbG)
      clear hbG
      go_simp
      go_at_call 40
      refine (l4Fitting_any b v l _ _ BG.out.cur).mono ?_
      rintro e v4 ⟨s, rfl, hs, hg, hC⟩
      obtain ⟨⟨sl⟩⟩ := s
      have hsl : sl.length ≤ 9 := hs
      replace BG := Lib.hid (BG.out.draw hg hC)
      refine hK.out _ _ hg (HSof.out _ (BG.out.box (P, cPartV kd on br (.slice ca y.length cc) cnt (.slice la z.length lc)) (by simp))) ?_
      clear hK K hg hC hHeld hs
      try simp only [Act.put, List.getElem_toArray, List.getElem_cons_zero, List.getElem_cons_succ, List.setIfInBounds_toArray, List.set_cons_zero, List.set_cons_succ]
      refine wpFd_step rfl (fun v5 hbG hHeld K hK => ?_)
      replace BG := Lib.hid (BG.out.below hbG)
      clear hbG
      have HOK2 := Lib.hid (okPt_wrap HOK.out hsl)
      have HW := Lib.hid (specWrap_any _ (⟨⟨kd, on, br, y, cnt⟩, z⟩ : PartD) ⟨sl.toArray⟩ v5 (show ValAt rPart 0 v5 (.agg #[.string ⟨kd.toArray⟩, .bool on, .bool br, .slice ca y.length cc, .int .i64 cnt, .slice la z.length lc]) (⟨⟨kd, on, br, y, cnt⟩, z⟩ : PartD) from ⟨cPartV kd on br (.slice ca y.length cc) cnt (.slice la z.length lc), rfl, bag_part (n := 3) (x := (⟨⟨kd, on, br, y, cnt⟩, z⟩ : PartD)) BG.out (by simp) (by simp) HOK.out (by decide)⟩) (okPt_small HOK.out (by decide)) (okPt_keys HOK.out) (Nat.le_trans hsl (by decide)))
      simp only [List.toList_toArray] at HW
      generalize wrapP (⟨⟨kd, on, br, y, cnt⟩, z⟩ : PartD) sl = p2 at *
      generalize wrapR (⟨⟨kd, on, br, y, cnt⟩, z⟩ : PartD) sl = r2 at *
      obtain ⟨⟨kd2, on2, br2, y2, cnt2⟩, z2⟩ := p2
      obtain ⟨t0, t1, t2, t3, t4⟩ := r2
      unfold GivesOPR vReply at HW
      simp only at HW
      go_simp
      go_at_call 113
      refine HW.out.mono ?_
      rintro e v6 ⟨_, rfl, ⟨u3, u5, rfl, ho3, ho5⟩, hb⟩
      simp only at ho3 ho5
      obtain ⟨ca2, cc2, rfl⟩ := slice_of ho3
      obtain ⟨la2, lc2, rfl⟩ := slice_of ho5
      have HN3 := Lib.hid (fun g e => World.ownsRow.lt ho3 g e)
      have HN5 := Lib.hid (fun g e => World.ownsRow.lt ho5 g e)
      have hv5 := BG.out.size
      replace BG := Lib.hid (BG.out.made2 hb ho3 ho5)
      refine hK.out _ _ (gr_below hb) (HSof.out _ (BG.out.box (P, cPartV kd on br (.slice ca y.length cc) cnt (.slice la z.length lc)) (by simp))) ?_
      clear hK K hb hHeld ho3 ho5 HW
      try simp only [Act.put, List.getElem_toArray, List.getElem_cons_zero, List.getElem_cons_succ, List.setIfInBounds_toArray, List.set_cons_zero, List.set_cons_succ]
      refine wpFd_take (v := ?_) rfl (Or.inl ⟨by rfl, ?_⟩) ?_
      rotate_left
      · intro w hSw; (try dsimp only at hSw); go_simp; with_reducible rfl
      try simp only [Act.put, List.getElem_toArray, List.getElem_cons_zero, List.getElem_cons_succ, List.setIfInBounds_toArray, List.set_cons_zero, List.set_cons_succ]
      refine wpFd_take (v := ?_) rfl (Or.inl ⟨by rfl, ?_⟩) ?_
      rotate_left
      · intro w hSw; (try dsimp only at hSw); go_simp; with_reducible rfl
      try simp only [Act.put, List.getElem_toArray, List.getElem_cons_zero, List.getElem_cons_succ, List.setIfInBounds_toArray, List.set_cons_zero, List.set_cons_succ]
      refine wpFd_take (v := ?_) rfl (Or.inl ⟨by rfl, ?_⟩) ?_
      rotate_left
      · intro w hSw; (try dsimp only at hSw); go_simp; with_reducible rfl
      try simp only [Act.put, List.getElem_toArray, List.getElem_cons_zero, List.getElem_cons_succ, List.setIfInBounds_toArray, List.set_cons_zero, List.set_cons_succ]
      refine wpFd_end (fun v7 Q1 Q2 hbG hHeld hx1 hx2 hne hl1 hl2 hgap => ?_)
      replace BG := Lib.hid (BG.out.below hbG)
      have hg5 := hgap (v5.heap.size, v6.heap.size) (by simp)
      simp only at hg5
      clear hbG hgap
      have z1 := ZS.out.1
      have z2s := ZS.out.2.1
      have Z3 := Lib.hid ZS.out.2.2.1
      have Z4 := Lib.hid ZS.out.2.2.2
      clear ZS
      have JB2 : ∀ p ∈ [(P, cPartV kd on br (.slice ca y.length cc) cnt (.slice la z.length lc)), (w.heap.size, zPartV)], p.1 ≠ Q2 := by
        intro p hp e
        have := Z3.out p hp; omega
      have JR2 : ∀ r ∈ [hPL w (.slice la2 z2.length lc2) z2, hPC w (.slice ca2 y2.length cc2) y2, hPL w (.slice la z.length lc) z, hPC w (.slice ca y.length cc) y], ¬ r.own Q2 := by
        intro r hr ho
        rcases List.mem_cons.1 hr with rfl | hr
        · have := HN5.out Q2 ho; omega
        rcases List.mem_cons.1 hr with rfl | hr
        · have := HN3.out Q2 ho; omega
        have := Z4.out r hr Q2 ho; omega
      replace BG := Lib.hid (BG.out.join hx2 (by omega) (by omega) JB2 JR2)
      have JB1 : ∀ p ∈ [(Q2, zReplyV), (P, cPartV kd on br (.slice ca y.length cc) cnt (.slice la z.length lc)), (w.heap.size, zPartV)], p.1 ≠ Q1 := by
        intro p hp e
        rcases List.mem_cons.1 hp with rfl | hp
        · exact hne e.symm
        · have := Z3.out p hp; omega
      have JR1 : ∀ r ∈ [hPL w (.slice la2 z2.length lc2) z2, hPC w (.slice ca2 y2.length cc2) y2, hPL w (.slice la z.length lc) z, hPC w (.slice ca y.length cc) y], ¬ r.own Q1 := by
        intro r hr ho
        rcases List.mem_cons.1 hr with rfl | hr
        · have := HN5.out Q1 ho; omega
        rcases List.mem_cons.1 hr with rfl | hr
        · have := HN3.out Q1 ho; omega
        have := Z4.out r hr Q1 ho; omega
      replace BG := Lib.hid (BG.out.join hx1 (by omega) (by omega) JB1 JR1)
      clear hx1 hx2 JB1 JB2 JR1 JR2 hg5 Z3 Z4 HN3 HN5 z1 z2s hl1 hl2
      try simp only [Act.put, List.getElem_toArray, List.getElem_cons_zero, List.getElem_cons_succ, List.setIfInBounds_toArray, List.set_cons_zero, List.set_cons_succ]
      have B_x := Lib.hid (BG.out.box (Q1, zPartV) (by simp))
      have x0 := B_x.out.cell 0 (by simp)
      have x1 := B_x.out.cell 1 (by simp)
      have x2 := B_x.out.cell 2 (by simp)
      have x3 := B_x.out.cell 3 (by simp)
      have x4 := B_x.out.cell 4 (by simp)
      have x5 := B_x.out.cell 5 (by simp)
      simp only [List.getElem_cons_zero, List.getElem_cons_succ] at x0 x1 x2 x3 x4 x5
      have fx0 := B_x.out.froz 0 (by simp)
      have fx1 := B_x.out.froz 1 (by simp)
      have fx2 := B_x.out.froz 2 (by simp)
      have fx3 := B_x.out.froz 3 (by simp)
      have fx4 := B_x.out.froz 4 (by simp)
      have fx5 := B_x.out.froz 5 (by simp)
      have l_x := B_x.out.lt
      have B_e := Lib.hid (BG.out.box (Q2, zReplyV) (by simp))
      have e0 := B_e.out.cell 0 (by simp)
      have e1 := B_e.out.cell 1 (by simp)
      have e2 := B_e.out.cell 2 (by simp)
      have e3 := B_e.out.cell 3 (by simp)
      have e4 := B_e.out.cell 4 (by simp)
      simp only [List.getElem_cons_zero, List.getElem_cons_succ] at e0 e1 e2 e3 e4
      have fe0 := B_e.out.froz 0 (by simp)
      have fe1 := B_e.out.froz 1 (by simp)
      have fe2 := B_e.out.froz 2 (by simp)
      have fe3 := B_e.out.froz 3 (by simp)
      have fe4 := B_e.out.froz 4 (by simp)
      have l_e := B_e.out.lt
      have ne12 : ¬ Q1 = Q2 := hne
      have ne21 : ¬ Q2 = Q1 := fun e => hne e.symm
      refine wpAnyH_ready (rs := [11]) (by kernel_rfl) (by simp) ?_
      refine AllReadyH.cons rfl (fun K hK => ?_) AllReadyH.nil
      go_simp
      have BG2 := Lib.hid (BG.out.put6 0 rfl (.string ⟨kd2.toArray⟩) (.bool on2) (.bool br2) (.slice ca2 y2.length cc2) (.int .i64 cnt2) (.slice la2 z2.length lc2))
      simp only [List.set_cons_zero, List.set_cons_succ] at BG2
      refine hK.out _ _ (HSof.out _ (BG2.out.box (P, cPartV kd on br (.slice ca y.length cc) cnt (.slice la z.length lc)) (by simp))) (fun hHeld => ?_)
      clear hK K
      try simp only [Act.put, List.getElem_toArray, List.getElem_cons_zero, List.getElem_cons_succ, List.setIfInBounds_toArray, List.set_cons_zero, List.set_cons_succ]
      refine wpAnyH_ready (rs := [12]) (by kernel_rfl) (by simp) ?_
      refine AllReadyH.cons rfl (fun K hK => ?_) AllReadyH.nil
      go_simp
      have BG3 := Lib.hid (BG2.out.put5 1 rfl (.int .i64 t0) (.int .i64 t1) (.string ⟨t2.toArray⟩) (.int .i64 t3) (.int .i64 t4))
      simp only [List.set_cons_zero, List.set_cons_succ] at BG3
      refine hK.out _ _ (HSof.out _ (BG3.out.box (P, cPartV kd on br (.slice ca y.length cc) cnt (.slice la z.length lc)) (by simp))) (fun hHeld => ?_)
      clear hK K
      try simp only [Act.put, List.getElem_toArray, List.getElem_cons_zero, List.getElem_cons_succ, List.setIfInBounds_toArray, List.set_cons_zero, List.set_cons_succ]
      refine wpAnyH_done (by kernel_rfl) ?_ _
      replace BG := BG3
      clear BG2 BG3
      clear B_x l_x x0 x1 x2 x3 x4 x5 fx0 fx1 fx2 fx3 fx4 fx5
      clear B_e l_e e0 e1 e2 e3 e4 fe0 fe1 fe2 fe3 fe4
      generalize (((((((((((v7.setCell ⟨Q1, 0, none⟩ (.string ⟨kd2.toArray⟩)).setCell ⟨Q1, 1, none⟩ (.bool on2)).setCell ⟨Q1, 2, none⟩ (.bool br2)).setCell ⟨Q1, 3, none⟩ (.slice ca2 y2.length cc2)).setCell ⟨Q1, 4, none⟩ (.int .i64 cnt2)).setCell ⟨Q1, 5, none⟩ (.slice la2 z2.length lc2)).setCell ⟨Q2, 0, none⟩ (.int .i64 t0)).setCell ⟨Q2, 1, none⟩ (.int .i64 t1)).setCell ⟨Q2, 2, none⟩ (.string ⟨t2.toArray⟩)).setCell ⟨Q2, 3, none⟩ (.int .i64 t3)).setCell ⟨Q2, 4, none⟩ (.int .i64 t4)) = v8 at *
      clear hHeld HSof HFS
      have B_x := Lib.hid (BG.out.box (Q1, cPartV kd2 on2 br2 (.slice ca2 y2.length cc2) cnt2 (.slice la2 z2.length lc2)) (by simp))
      have x0 := B_x.out.cell 0 (by simp)
      have x1 := B_x.out.cell 1 (by simp)
      have x2 := B_x.out.cell 2 (by simp)
      have x3 := B_x.out.cell 3 (by simp)
      have x4 := B_x.out.cell 4 (by simp)
      have x5 := B_x.out.cell 5 (by simp)
      simp only [List.getElem_cons_zero, List.getElem_cons_succ] at x0 x1 x2 x3 x4 x5
      have l_x := B_x.out.lt
      have B_e := Lib.hid (BG.out.box (Q2, [.int .i64 t0, .int .i64 t1, .string ⟨t2.toArray⟩, .int .i64 t3, .int .i64 t4]) (by simp))
      have e0 := B_e.out.cell 0 (by simp)
      have e1 := B_e.out.cell 1 (by simp)
      have e2 := B_e.out.cell 2 (by simp)
      have e3 := B_e.out.cell 3 (by simp)
      have e4 := B_e.out.cell 4 (by simp)
      simp only [List.getElem_cons_zero, List.getElem_cons_succ] at e0 e1 e2 e3 e4
      have l_e := B_e.out.lt
      have B_q := Lib.hid (BG.out.box (P, cPartV kd on br (.slice ca y.length cc) cnt (.slice la z.length lc)) (by simp))
      have q0 := B_q.out.cell 0 (by simp)
      have q1 := B_q.out.cell 1 (by simp)
      have q2 := B_q.out.cell 2 (by simp)
      have q3 := B_q.out.cell 3 (by simp)
      have q4 := B_q.out.cell 4 (by simp)
      have q5 := B_q.out.cell 5 (by simp)
      simp only [List.getElem_cons_zero, List.getElem_cons_succ] at q0 q1 q2 q3 q4 q5
      have fq0 := B_q.out.froz 0 (by simp)
      have fq1 := B_q.out.froz 1 (by simp)
      have fq2 := B_q.out.froz 2 (by simp)
      have fq3 := B_q.out.froz 3 (by simp)
      have fq4 := B_q.out.froz 4 (by simp)
      have fq5 := B_q.out.froz 5 (by simp)
      have l_q := B_q.out.lt
      by_cases e0 : t0 = 0
      · subst e0
        have BG4 := Lib.hid ((BG.out.put6 2 rfl (.string ⟨kd2.toArray⟩) (.bool on2) (.bool br2) (.slice ca2 y2.length cc2) (.int .i64 cnt2) (.slice la2 z2.length lc2)).less (bs' := [(P, cPartV kd2 on2 br2 (.slice ca2 y2.length cc2) cnt2 (.slice la2 z2.length lc2)), (w.heap.size, zPartV)]) (rs' := [hPL w (.slice la2 z2.length lc2) z2, hPC w (.slice ca2 y2.length cc2) y2]) (.cons _ (.cons _ (.refl _))) (.cons_cons _ (.cons_cons _ (.cons _ (.cons _ .slnil)))))
        go_wp2_with fail
        exact ⟨⟨n - 1, kd2, on2, br2, ca2, la2, cc2, lc2, y2, z2, cnt2, by go_num, by omega, by omega, HOK2.out, BG4.out⟩, by simp [intOf]; omega⟩
      · have E0 : (t0 == 0) = false := by simpa using e0
        have BG4 := Lib.hid (BG.out.less (bs' := [(P, cPartV kd on br (.slice ca y.length cc) cnt (.slice la z.length lc)), (w.heap.size, zPartV)]) (rs' := [hPL w (.slice la z.length lc) z, hPC w (.slice ca y.length cc) y]) (.cons _ (.cons _ (.refl _))) (.cons _ (.cons _ (.refl _))))
        go_wp2_with fail
        exact ⟨⟨n - 1, kd, on, br, ca, la, cc, lc, y, z, cnt, by go_num, by omega, by omega, HOK.out, BG4.out⟩, by simp [intOf]; omega⟩
    · have hn : n = 0 := by omega
      subst hn
      have B_q := Lib.hid (BG.out.box (P, cPartV kd on br (.slice ca y.length cc) cnt (.slice la z.length lc)) (by simp))
      have q0 := B_q.out.cell 0 (by simp)
      have q1 := B_q.out.cell 1 (by simp)
      have q2 := B_q.out.cell 2 (by simp)
      have q3 := B_q.out.cell 3 (by simp)
      have q4 := B_q.out.cell 4 (by simp)
      have q5 := B_q.out.cell 5 (by simp)
      simp only [List.getElem_cons_zero, List.getElem_cons_succ] at q0 q1 q2 q3 q4 q5
      have fq0 := B_q.out.froz 0 (by simp)
      have fq1 := B_q.out.froz 1 (by simp)
      have fq2 := B_q.out.froz 2 (by simp)
      have fq3 := B_q.out.froz 3 (by simp)
      have fq4 := B_q.out.froz 4 (by simp)
      have fq5 := B_q.out.froz 5 (by simp)
      have l_q := B_q.out.lt
      go_wp2_with fail
      clear B_q l_q q0 q1 q2 q3 q4 q5 fq0 fq1 fq2 fq3 fq4 fq5
      have hzm : z.length = z.length := rfl
      have hz3 : z.length ≤ 3 := HOK.out.2.1
      have Z0 := Lib.hid (show z.length = z.length from rfl)
      clear hzm Z0
      generalize hm : z.length = m at *
      go_loopw [7, 8, 34] (fun _ _ iv wr => ∃ (k : Nat) (z : List LayerD), iv = .int .i64 k ∧ k ≤ m ∧ z.length = m ∧ okPt 3 (⟨⟨kd, on, br, y, cnt⟩, z⟩ : PartD) ∧ Bag w w.heap.size b v l [(P, cPartV kd on br (.slice ca y.length cc) cnt (.slice la m lc)), (w.heap.size, zPartV)] [hPL w (.slice la m lc) z, hPC w (.slice ca y.length cc) y] wr) (fun _ _ iv _ => m - (intOf iv).toNat)
      case atStart => exact ⟨0, z, rfl, Nat.zero_le _, hm, HOK.out, BG.out⟩
      case round =>
        clear BG HOK hm
        obtain ⟨k, z, rfl, hk, hzm, hok, hbg⟩ := hrel
        have BG := Lib.hid hbg
        have HOK := Lib.hid hok
        clear hbg hok
        by_cases hlt : k < m
        · skip
          have hkz : k < z.length := by omega
          have hic : (k : Int) < (m : Int) := by omega
          obtain ⟨g, rfl, hgl, hf⟩ := row_form (show OwnsF cLayer 81 2 _ w.heap.size (.slice la m lc) z from BG.out.row (hPL w (.slice la m lc) z) (by simp)) cLayer_len (by omega)
          have d0 := (hf k hkz 0 (by decide)).1
          have d1 := (hf k hkz 1 (by decide)).1
          clear hf
          have HM := Lib.hid (HOK.out.2.2 z[k] (List.getElem_mem hkz))
          have HZK := Lib.hid (show z[k] = z[k] from rfl)
          generalize hzk : z[k] = e at d0 d1 HM
          obtain ⟨nm, ct⟩ := e
          simp only [cLayer, List.getElem?_cons_zero, List.getElem?_cons_succ, Nat.add_zero] at d0 d1
          clear HZK
          have HZK := Lib.hid hzk
          clear hzk
          have BV := Lib.hid (BG.out.var [.string ⟨nm.toArray⟩, .int .i64 ct] 81)
          go_upto_region 11 with fail
          clear d0 d1
          generalize wr.alloc (.cells #[.string ⟨nm.toArray⟩, .int .i64 ct] 81) = w20 at *
          generalize wr.heap.size = XB at *
          by_cases hcn : countedB nm = true
          · skip
            have hcn2 : nm = [99, 111, 117, 110, 116, 115] ∨ nm = [104, 101, 97, 114, 115] := by simpa [countedB] using hcn
            clear hcn
            replace BG := BV
            clear BV
            have BX0 := Lib.hid (BG.out.box (XB, [.string ⟨nm.toArray⟩, .int .i64 ct]) (by simp))
            have x0 := BX0.out.cell 0 (by simp)
            have x1 := BX0.out.cell 1 (by simp)
            simp only [List.getElem_cons_zero, List.getElem_cons_succ] at x0 x1
            have hXl := BX0.out.lt
            rcases hcn2 with rfl | rfl
            · skip
              go_wp2_with fail
              clear x0 x1 BX0 hXl
              replace BG := Lib.hid BG.out.drew
              refine region_T (S := fun w' => w'.cell? ⟨P, 5, none⟩ = some (.slice (some ⟨g, 0, none⟩) m lc)) (t := 7) (by kernel_rfl) ?_ (fun hHeld => ?_)
              · exact (BG.out.box (P, cPartV kd on br (.slice ca y.length cc) cnt (.slice (some ⟨g, 0, none⟩) m lc)) (by simp)).cell 5 (by simp)
              refine anyT_take (i := 0) (v := ?_) rfl (by kernel_rfl) (by kernel_rfl) (by kernel_rfl) (by kernel_rfl) (by kernel_rfl) (fun _ _ _ h => h) (Or.inl ⟨by rfl, ?_⟩) (by assumption) ?_
              rotate_left
              · intro w hSw; (try dsimp only at hSw); go_simp; with_reducible rfl
              try simp only [Act.put, List.getElem_toArray, List.getElem_cons_zero, List.getElem_cons_succ, List.setIfInBounds_toArray, List.set_cons_zero, List.set_cons_succ]
              refine anyT_take (i := 2) (v := ?_) rfl (by kernel_rfl) (by kernel_rfl) (by kernel_rfl) (by kernel_rfl) (by kernel_rfl) (fun _ _ _ h => h) (Or.inl ⟨by rfl, ?_⟩) (by assumption) ?_
              rotate_left
              · intro w hSw; (try dsimp only at hSw); go_simp; with_reducible rfl
              try simp only [Act.put, List.getElem_toArray, List.getElem_cons_zero, List.getElem_cons_succ, List.setIfInBounds_toArray, List.set_cons_zero, List.set_cons_succ]
              refine anyT_take (i := 3) (v := ?_) rfl (by kernel_rfl) (by kernel_rfl) (by kernel_rfl) (by kernel_rfl) (by kernel_rfl) (fun _ _ _ h => h) (Or.inl ⟨by rfl, ?_⟩) (by assumption) ?_
              rotate_left
              · intro w hSw; (try dsimp only at hSw); go_simp; with_reducible rfl
              try simp only [Act.put, List.getElem_toArray, List.getElem_cons_zero, List.getElem_cons_succ, List.setIfInBounds_toArray, List.set_cons_zero, List.set_cons_succ]
              refine anyT_take (i := 1) (v := ?_) rfl (by kernel_rfl) (by kernel_rfl) (by kernel_rfl) (by kernel_rfl) (by kernel_rfl) (fun _ _ _ h => h) (Or.inl ⟨by rfl, ?_⟩) (by assumption) ?_
              rotate_left
              · intro w hSw; (try dsimp only at hSw); go_simp; with_reducible rfl
              try simp only [Act.put, List.getElem_toArray, List.getElem_cons_zero, List.getElem_cons_succ, List.setIfInBounds_toArray, List.set_cons_zero, List.set_cons_succ]
              refine anyT_only (i := 4) (by kernel_rfl) rfl (fun K hK => ?_)
              go_simp
              go_at_call 56; refine (l1Below_any b v l _ _ BG.out.cur (by omega) (by omega)).mono ?_; rintro e w21 ⟨cn, rfl, ⟨c0, c1, c2⟩, hg, hC⟩; have c3 := c2 (by omega); replace BG := Lib.hid (BG.out.draw hg hC); clear hg hC c1 c2
              refine hK.out _ _ ?_ (fun hHeld => ?_)
              · exact (BG.out.box (P, cPartV kd on br (.slice ca y.length cc) cnt (.slice (some ⟨g, 0, none⟩) m lc)) (by simp)).cell 5 (by simp)
              clear hK K
              try simp only [Act.put, List.getElem_toArray, List.getElem_cons_zero, List.getElem_cons_succ, List.setIfInBounds_toArray, List.set_cons_zero, List.set_cons_succ]
              refine anyT_take (i := 5) (v := ?_) rfl (by kernel_rfl) (by kernel_rfl) (by kernel_rfl) (by kernel_rfl) (by kernel_rfl) (fun _ _ _ h => h) (Or.inl ⟨by rfl, ?_⟩) (by assumption) ?_
              rotate_left
              · intro w hSw; (try dsimp only at hSw); go_simp; with_reducible rfl
              try simp only [Act.put, List.getElem_toArray, List.getElem_cons_zero, List.getElem_cons_succ, List.setIfInBounds_toArray, List.set_cons_zero, List.set_cons_succ]
              refine anyT_take (i := 6) (v := ?_) rfl (by kernel_rfl) (by kernel_rfl) (by kernel_rfl) (by kernel_rfl) (by kernel_rfl) (fun _ _ _ h => h) (Or.inl ⟨by rfl, ?_⟩) (by assumption) ?_
              rotate_left
              · intro w hSw; (try dsimp only at hSw); go_simp; with_reducible rfl
              try simp only [Act.put, List.getElem_toArray, List.getElem_cons_zero, List.getElem_cons_succ, List.setIfInBounds_toArray, List.set_cons_zero, List.set_cons_succ]
              obtain ⟨g2, hg2, hgl2, hf⟩ := row_form (show OwnsF cLayer 81 2 _ w.heap.size (.slice (some ⟨g, 0, none⟩) m lc) z from BG.out.row (hPL w (.slice (some ⟨g, 0, none⟩) m lc) z) (by simp)) cLayer_len (by omega)
              obtain rfl : g = g2 := by injection hg2 with hg2; injection hg2
              have d0 := (hf k hkz 0 (by decide)).1
              have d1 := (hf k hkz 1 (by decide)).1
              have fz1 := (hf k hkz 1 (by decide)).2
              clear hf hg2
              rw [HZK.out] at d0 d1
              simp only [cLayer, List.getElem?_cons_zero, List.getElem?_cons_succ, Nat.add_zero] at d0 d1
              have BG2 := Lib.hid (BG.out.elem2 0 rfl hzm.symm cLayer_len k hkz (⟨[99, 111, 117, 110, 116, 115], cn⟩ : LayerD) (.int .i64 cn) (by rw [HZK.out]; rfl))
              simp only [List.set_cons_zero, List.set_cons_succ] at BG2
              refine anyT_tail (by kernel_rfl) rfl (fun K hK => ?_)
              go_simp
              refine hK.out _ _ ?_
              clear hK K
              try simp only [Act.put, List.getElem_toArray, List.getElem_cons_zero, List.getElem_cons_succ, List.setIfInBounds_toArray, List.set_cons_zero, List.set_cons_succ]
              refine anyT_done (by kernel_rfl) ?_ _
              have hkz3 : k < (z.set k (⟨[99, 111, 117, 110, 116, 115], cn⟩ : LayerD)).length := by rw [List.length_set]; exact hkz
              have HOK3 := Lib.hid (show okPt 3 ⟨⟨kd, on, br, y, cnt⟩, z.set k (⟨[99, 111, 117, 110, 116, 115], cn⟩ : LayerD)⟩ from ⟨HOK.out.1, by simp only [List.length_set]; exact HOK.out.2.1, fun t ht => by rcases List.mem_or_eq_of_mem_set ht with ht | rfl; exact HOK.out.2.2 t ht; exact ⟨by simp, by unfold I64; simp only; omega⟩⟩)
              have hzm3 : (z.set k (⟨[99, 111, 117, 110, 116, 115], cn⟩ : LayerD)).length = m := by rw [List.length_set]; exact hzm
              have HZK3 := Lib.hid (show (z.set k (⟨[99, 111, 117, 110, 116, 115], cn⟩ : LayerD))[k] = ⟨[99, 111, 117, 110, 116, 115], cn⟩ from List.getElem_set_self ..)
              generalize z.set k (⟨[99, 111, 117, 110, 116, 115], cn⟩ : LayerD) = z3 at *
              replace BG := BG2
              clear BG2 d0 d1 fz1 hgl2 hHeld
              go_wp2_with fail
              generalize w21.setCell ⟨g, k * 2 + 1, none⟩ (.int .i64 cn) = w22 at *
              refine (l1Once_any b v l _ _ BG.out.cur (by omega) (by omega)).mono ?_
              rintro e w23 ⟨bo, rfl, hg, hC⟩
              replace BG := Lib.hid (BG.out.draw hg hC)
              clear hg hC
              cases bo
              case false =>
                have BG4 := Lib.hid (BG.out.less (bs' := [(P, cPartV kd on br (.slice ca y.length cc) cnt (.slice (some ⟨g, 0, none⟩) m lc)), (w.heap.size, zPartV)]) (.cons _ (.refl _)) (.refl _))
                go_wp2_with fail
                exact ⟨⟨k + 1, z3, by go_num, by omega, hzm3, HOK3.out, BG4.out⟩, by simp [intOf]; omega⟩
              case true =>
                obtain ⟨g2, hg2, hgl2, hf⟩ := row_form (show OwnsF cLayer 81 2 _ w.heap.size (.slice (some ⟨g, 0, none⟩) m lc) z3 from BG.out.row (hPL w (.slice (some ⟨g, 0, none⟩) m lc) z3) (by simp)) cLayer_len (by omega)
                obtain rfl : g = g2 := by injection hg2 with hg2; injection hg2
                have d1 := (hf k hkz3 1 (by decide)).1
                have fz1 := (hf k hkz3 1 (by decide)).2
                clear hf hg2
                rw [HZK3.out] at d1
                simp only [cLayer, List.getElem?_cons_zero, List.getElem?_cons_succ, Nat.add_zero] at d1
                have BG2 := Lib.hid (BG.out.elem2 0 rfl hzm3.symm cLayer_len k hkz3 (⟨[99, 111, 117, 110, 116, 115], 999⟩ : LayerD) (.int .i64 999) (by rw [HZK3.out]; rfl))
                simp only [List.set_cons_zero, List.set_cons_succ] at BG2
                have HOK5 := Lib.hid (show okPt 3 ⟨⟨kd, on, br, y, cnt⟩, z3.set k (⟨[99, 111, 117, 110, 116, 115], 999⟩ : LayerD)⟩ from ⟨HOK3.out.1, by simp only [List.length_set]; exact HOK3.out.2.1, fun t ht => by rcases List.mem_or_eq_of_mem_set ht with ht | rfl; exact HOK3.out.2.2 t ht; exact ⟨by simp, by unfold I64; simp⟩⟩)
                have hzm5 : (z3.set k (⟨[99, 111, 117, 110, 116, 115], 999⟩ : LayerD)).length = m := by rw [List.length_set]; exact hzm3
                have BG4 := Lib.hid (BG2.out.less (bs' := [(P, cPartV kd on br (.slice ca y.length cc) cnt (.slice (some ⟨g, 0, none⟩) m lc)), (w.heap.size, zPartV)]) (.cons _ (.refl _)) (.refl _))
                have B_q := Lib.hid (BG.out.box (P, cPartV kd on br (.slice ca y.length cc) cnt (.slice (some ⟨g, 0, none⟩) m lc)) (by simp))
                have q0 := B_q.out.cell 0 (by simp)
                have q1 := B_q.out.cell 1 (by simp)
                have q2 := B_q.out.cell 2 (by simp)
                have q3 := B_q.out.cell 3 (by simp)
                have q4 := B_q.out.cell 4 (by simp)
                have q5 := B_q.out.cell 5 (by simp)
                simp only [List.getElem_cons_zero, List.getElem_cons_succ] at q0 q1 q2 q3 q4 q5
                have l_q := B_q.out.lt
                go_wp2_with fail
                exact ⟨⟨k + 1, _, by go_num, by omega, hzm5, HOK5.out, BG4.out⟩, by simp [intOf]; omega⟩
            · skip
              go_wp2_with fail
              clear x0 x1 BX0 hXl
              replace BG := Lib.hid BG.out.drew
              refine region_T (S := fun w' => w'.cell? ⟨P, 5, none⟩ = some (.slice (some ⟨g, 0, none⟩) m lc)) (t := 7) (by kernel_rfl) ?_ (fun hHeld => ?_)
              · exact (BG.out.box (P, cPartV kd on br (.slice ca y.length cc) cnt (.slice (some ⟨g, 0, none⟩) m lc)) (by simp)).cell 5 (by simp)
              refine anyT_take (i := 0) (v := ?_) rfl (by kernel_rfl) (by kernel_rfl) (by kernel_rfl) (by kernel_rfl) (by kernel_rfl) (fun _ _ _ h => h) (Or.inl ⟨by rfl, ?_⟩) (by assumption) ?_
              rotate_left
              · intro w hSw; (try dsimp only at hSw); go_simp; with_reducible rfl
              try simp only [Act.put, List.getElem_toArray, List.getElem_cons_zero, List.getElem_cons_succ, List.setIfInBounds_toArray, List.set_cons_zero, List.set_cons_succ]
              refine anyT_take (i := 2) (v := ?_) rfl (by kernel_rfl) (by kernel_rfl) (by kernel_rfl) (by kernel_rfl) (by kernel_rfl) (fun _ _ _ h => h) (Or.inl ⟨by rfl, ?_⟩) (by assumption) ?_
              rotate_left
              · intro w hSw; (try dsimp only at hSw); go_simp; with_reducible rfl
              try simp only [Act.put, List.getElem_toArray, List.getElem_cons_zero, List.getElem_cons_succ, List.setIfInBounds_toArray, List.set_cons_zero, List.set_cons_succ]
              refine anyT_take (i := 3) (v := ?_) rfl (by kernel_rfl) (by kernel_rfl) (by kernel_rfl) (by kernel_rfl) (by kernel_rfl) (fun _ _ _ h => h) (Or.inl ⟨by rfl, ?_⟩) (by assumption) ?_
              rotate_left
              · intro w hSw; (try dsimp only at hSw); go_simp; with_reducible rfl
              try simp only [Act.put, List.getElem_toArray, List.getElem_cons_zero, List.getElem_cons_succ, List.setIfInBounds_toArray, List.set_cons_zero, List.set_cons_succ]
              refine anyT_take (i := 1) (v := ?_) rfl (by kernel_rfl) (by kernel_rfl) (by kernel_rfl) (by kernel_rfl) (by kernel_rfl) (fun _ _ _ h => h) (Or.inl ⟨by rfl, ?_⟩) (by assumption) ?_
              rotate_left
              · intro w hSw; (try dsimp only at hSw); go_simp; with_reducible rfl
              try simp only [Act.put, List.getElem_toArray, List.getElem_cons_zero, List.getElem_cons_succ, List.setIfInBounds_toArray, List.set_cons_zero, List.set_cons_succ]
              refine anyT_only (i := 4) (by kernel_rfl) rfl (fun K hK => ?_)
              go_simp
              go_at_call 56; refine (l1Below_any b v l _ _ BG.out.cur (by omega) (by omega)).mono ?_; rintro e w21 ⟨cn, rfl, ⟨c0, c1, c2⟩, hg, hC⟩; have c3 := c2 (by omega); replace BG := Lib.hid (BG.out.draw hg hC); clear hg hC c1 c2
              refine hK.out _ _ ?_ (fun hHeld => ?_)
              · exact (BG.out.box (P, cPartV kd on br (.slice ca y.length cc) cnt (.slice (some ⟨g, 0, none⟩) m lc)) (by simp)).cell 5 (by simp)
              clear hK K
              try simp only [Act.put, List.getElem_toArray, List.getElem_cons_zero, List.getElem_cons_succ, List.setIfInBounds_toArray, List.set_cons_zero, List.set_cons_succ]
              refine anyT_take (i := 5) (v := ?_) rfl (by kernel_rfl) (by kernel_rfl) (by kernel_rfl) (by kernel_rfl) (by kernel_rfl) (fun _ _ _ h => h) (Or.inl ⟨by rfl, ?_⟩) (by assumption) ?_
              rotate_left
              · intro w hSw; (try dsimp only at hSw); go_simp; with_reducible rfl
              try simp only [Act.put, List.getElem_toArray, List.getElem_cons_zero, List.getElem_cons_succ, List.setIfInBounds_toArray, List.set_cons_zero, List.set_cons_succ]
              refine anyT_take (i := 6) (v := ?_) rfl (by kernel_rfl) (by kernel_rfl) (by kernel_rfl) (by kernel_rfl) (by kernel_rfl) (fun _ _ _ h => h) (Or.inl ⟨by rfl, ?_⟩) (by assumption) ?_
              rotate_left
              · intro w hSw; (try dsimp only at hSw); go_simp; with_reducible rfl
              try simp only [Act.put, List.getElem_toArray, List.getElem_cons_zero, List.getElem_cons_succ, List.setIfInBounds_toArray, List.set_cons_zero, List.set_cons_succ]
              obtain ⟨g2, hg2, hgl2, hf⟩ := row_form (show OwnsF cLayer 81 2 _ w.heap.size (.slice (some ⟨g, 0, none⟩) m lc) z from BG.out.row (hPL w (.slice (some ⟨g, 0, none⟩) m lc) z) (by simp)) cLayer_len (by omega)
              obtain rfl : g = g2 := by injection hg2 with hg2; injection hg2
              have d0 := (hf k hkz 0 (by decide)).1
              have d1 := (hf k hkz 1 (by decide)).1
              have fz1 := (hf k hkz 1 (by decide)).2
              clear hf hg2
              rw [HZK.out] at d0 d1
              simp only [cLayer, List.getElem?_cons_zero, List.getElem?_cons_succ, Nat.add_zero] at d0 d1
              have BG2 := Lib.hid (BG.out.elem2 0 rfl hzm.symm cLayer_len k hkz (⟨[104, 101, 97, 114, 115], cn⟩ : LayerD) (.int .i64 cn) (by rw [HZK.out]; rfl))
              simp only [List.set_cons_zero, List.set_cons_succ] at BG2
              refine anyT_tail (by kernel_rfl) rfl (fun K hK => ?_)
              go_simp
              refine hK.out _ _ ?_
              clear hK K
              try simp only [Act.put, List.getElem_toArray, List.getElem_cons_zero, List.getElem_cons_succ, List.setIfInBounds_toArray, List.set_cons_zero, List.set_cons_succ]
              refine anyT_done (by kernel_rfl) ?_ _
              have hkz3 : k < (z.set k (⟨[104, 101, 97, 114, 115], cn⟩ : LayerD)).length := by rw [List.length_set]; exact hkz
              have HOK3 := Lib.hid (show okPt 3 ⟨⟨kd, on, br, y, cnt⟩, z.set k (⟨[104, 101, 97, 114, 115], cn⟩ : LayerD)⟩ from ⟨HOK.out.1, by simp only [List.length_set]; exact HOK.out.2.1, fun t ht => by rcases List.mem_or_eq_of_mem_set ht with ht | rfl; exact HOK.out.2.2 t ht; exact ⟨by simp, by unfold I64; simp only; omega⟩⟩)
              have hzm3 : (z.set k (⟨[104, 101, 97, 114, 115], cn⟩ : LayerD)).length = m := by rw [List.length_set]; exact hzm
              have HZK3 := Lib.hid (show (z.set k (⟨[104, 101, 97, 114, 115], cn⟩ : LayerD))[k] = ⟨[104, 101, 97, 114, 115], cn⟩ from List.getElem_set_self ..)
              generalize z.set k (⟨[104, 101, 97, 114, 115], cn⟩ : LayerD) = z3 at *
              replace BG := BG2
              clear BG2 d0 d1 fz1 hgl2 hHeld
              go_wp2_with fail
              generalize w21.setCell ⟨g, k * 2 + 1, none⟩ (.int .i64 cn) = w22 at *
              refine (l1Once_any b v l _ _ BG.out.cur (by omega) (by omega)).mono ?_
              rintro e w23 ⟨bo, rfl, hg, hC⟩
              replace BG := Lib.hid (BG.out.draw hg hC)
              clear hg hC
              cases bo
              case false =>
                have BG4 := Lib.hid (BG.out.less (bs' := [(P, cPartV kd on br (.slice ca y.length cc) cnt (.slice (some ⟨g, 0, none⟩) m lc)), (w.heap.size, zPartV)]) (.cons _ (.refl _)) (.refl _))
                go_wp2_with fail
                exact ⟨⟨k + 1, z3, by go_num, by omega, hzm3, HOK3.out, BG4.out⟩, by simp [intOf]; omega⟩
              case true =>
                obtain ⟨g2, hg2, hgl2, hf⟩ := row_form (show OwnsF cLayer 81 2 _ w.heap.size (.slice (some ⟨g, 0, none⟩) m lc) z3 from BG.out.row (hPL w (.slice (some ⟨g, 0, none⟩) m lc) z3) (by simp)) cLayer_len (by omega)
                obtain rfl : g = g2 := by injection hg2 with hg2; injection hg2
                have d1 := (hf k hkz3 1 (by decide)).1
                have fz1 := (hf k hkz3 1 (by decide)).2
                clear hf hg2
                rw [HZK3.out] at d1
                simp only [cLayer, List.getElem?_cons_zero, List.getElem?_cons_succ, Nat.add_zero] at d1
                have BG2 := Lib.hid (BG.out.elem2 0 rfl hzm3.symm cLayer_len k hkz3 (⟨[104, 101, 97, 114, 115], 999⟩ : LayerD) (.int .i64 999) (by rw [HZK3.out]; rfl))
                simp only [List.set_cons_zero, List.set_cons_succ] at BG2
                have HOK5 := Lib.hid (show okPt 3 ⟨⟨kd, on, br, y, cnt⟩, z3.set k (⟨[104, 101, 97, 114, 115], 999⟩ : LayerD)⟩ from ⟨HOK3.out.1, by simp only [List.length_set]; exact HOK3.out.2.1, fun t ht => by rcases List.mem_or_eq_of_mem_set ht with ht | rfl; exact HOK3.out.2.2 t ht; exact ⟨by simp, by unfold I64; simp⟩⟩)
                have hzm5 : (z3.set k (⟨[104, 101, 97, 114, 115], 999⟩ : LayerD)).length = m := by rw [List.length_set]; exact hzm3
                have BG4 := Lib.hid (BG2.out.less (bs' := [(P, cPartV kd on br (.slice ca y.length cc) cnt (.slice (some ⟨g, 0, none⟩) m lc)), (w.heap.size, zPartV)]) (.cons _ (.refl _)) (.refl _))
                have B_q := Lib.hid (BG.out.box (P, cPartV kd on br (.slice ca y.length cc) cnt (.slice (some ⟨g, 0, none⟩) m lc)) (by simp))
                have q0 := B_q.out.cell 0 (by simp)
                have q1 := B_q.out.cell 1 (by simp)
                have q2 := B_q.out.cell 2 (by simp)
                have q3 := B_q.out.cell 3 (by simp)
                have q4 := B_q.out.cell 4 (by simp)
                have q5 := B_q.out.cell 5 (by simp)
                simp only [List.getElem_cons_zero, List.getElem_cons_succ] at q0 q1 q2 q3 q4 q5
                have l_q := B_q.out.lt
                go_wp2_with fail
                exact ⟨⟨k + 1, _, by go_num, by omega, hzm5, HOK5.out, BG4.out⟩, by simp [intOf]; omega⟩
          · skip
            have g0 : (nm == [99, 111, 117, 110, 116, 115]) = false := by cases h : (nm == [99, 111, 117, 110, 116, 115]) with | false => rfl | true => exact absurd (by unfold countedB; rw [h]; rfl) hcn
            have g1 : (nm == [104, 101, 97, 114, 115]) = false := by cases h : (nm == [104, 101, 97, 114, 115]) with | false => rfl | true => exact absurd (by unfold countedB; rw [h]; simp) hcn
            clear hcn
            replace BG := BV
            clear BV
            have BX0 := Lib.hid (BG.out.box (XB, [.string ⟨nm.toArray⟩, .int .i64 ct]) (by simp))
            have x0 := BX0.out.cell 0 (by simp)
            have x1 := BX0.out.cell 1 (by simp)
            simp only [List.getElem_cons_zero, List.getElem_cons_succ] at x0 x1
            have hXl := BX0.out.lt
            have BG4 := Lib.hid (BG.out.less (bs' := [(P, cPartV kd on br (.slice ca y.length cc) cnt (.slice (some ⟨g, 0, none⟩) m lc)), (w.heap.size, zPartV)]) (.cons _ (.refl _)) (.refl _))
            go_wp2_with fail
            exact ⟨⟨k + 1, z, by go_num, by omega, hzm, HOK.out, BG4.out⟩, by simp [intOf]; omega⟩
        · skip
          have hic : ¬ (k : Int) < (m : Int) := by omega
          have B_q := Lib.hid (BG.out.box (P, cPartV kd on br (.slice ca y.length cc) cnt (.slice la m lc)) (by simp))
          have q0 := B_q.out.cell 0 (by simp)
          have q1 := B_q.out.cell 1 (by simp)
          have q2 := B_q.out.cell 2 (by simp)
          have q3 := B_q.out.cell 3 (by simp)
          have q4 := B_q.out.cell 4 (by simp)
          have q5 := B_q.out.cell 5 (by simp)
          simp only [List.getElem_cons_zero, List.getElem_cons_succ] at q0 q1 q2 q3 q4 q5
          have l_q := B_q.out.lt
          have B_r := Lib.hid (BG.out.box (w.heap.size, zPartV) (by simp))
          have r0 := B_r.out.cell 0 (by simp)
          have r1 := B_r.out.cell 1 (by simp)
          have r2 := B_r.out.cell 2 (by simp)
          have r3 := B_r.out.cell 3 (by simp)
          have r4 := B_r.out.cell 4 (by simp)
          have r5 := B_r.out.cell 5 (by simp)
          simp only [List.getElem_cons_zero, List.getElem_cons_succ] at r0 r1 r2 r3 r4 r5
          have fr0 := B_r.out.froz 0 (by simp)
          have fr1 := B_r.out.froz 1 (by simp)
          have fr2 := B_r.out.froz 2 (by simp)
          have fr3 := B_r.out.froz 3 (by simp)
          have fr4 := B_r.out.froz 4 (by simp)
          have fr5 := B_r.out.froz 5 (by simp)
          have l_r := B_r.out.lt
          have BGf := Lib.hid (BG.out.put6 1 rfl (.string ⟨kd.toArray⟩) (.bool on) (.bool br) (.slice ca y.length cc) (.int .i64 cnt) (.slice la m lc))
          simp only [List.set_cons_zero, List.set_cons_succ] at BGf
          have hPR : ¬ P = w.heap.size := by have := BG.out.dis; simp only [List.pairwise_cons, List.mem_cons, List.not_mem_nil, or_false, forall_eq] at this; exact this.1
          have hRP : ¬ w.heap.size = P := fun e => hPR e.symm
          go_wp2_with fail
          refine bodyPost_ret (v := .agg #[.string ⟨kd.toArray⟩, .bool on, .bool br, .slice ca y.length cc, .int .i64 cnt, .slice la m lc]) (by simp [results, Try.results77, go_sem, cell_set_at, cell_set_ne, r0, r1, r2, r3, r4, r5]) rfl ?_
          exact ⟨⟨⟨kd, on, br, y, cnt⟩, z⟩, .slice ca y.length cc, .slice la m lc, rfl, BGf.out.row (hPC w (.slice ca y.length cc) y) (by simp), BGf.out.row (hPL w (.slice la m lc) z) (by simp), HOK.out, BGf.out.grown, BGf.out.cur⟩
end Go.Proofs.Ytaihdjdaamglnaa
/- The draws of chapter 4: parts. Written by gen/ch4dr.py. -/
namespace Go.Proofs.Ytaihdjdaamglnaa
set_option linter.unusedVariables false
set_option linter.unusedSimpArgs false
open Go.RowKit
theorem okPt_up {n m : Nat} {x : PartD} (h : okPt n x) (hm : n ≤ m) : okPt m x := ⟨h.1, Nat.le_trans h.2.1 hm, h.2.2⟩
set_option maxRecDepth 100000 in
set_option maxHeartbeats 6400000 in
theorem l4Any_any (b : Nat) (v : Value) (l : List UInt8) (w : World) (hC : Cur w b v l) :
    Calls Try.prog 38 #[.pointer (some ⟨b, 0, none⟩)] w fun e w' => DrawnPart 4 b v l w e w' := by
  have BG := Lib.hid ((bag_start hC).var zPartV 29)
  clear hC
  go_enter Try.func38, Try.ntmps38
  go_wp2_with fail
  generalize w.alloc (.cells #[.string ⟨#[]⟩, .bool false, .bool false, .slice none 0 0, .int .i64 0, .slice none 0 0] 29) = w0 at *
  refine (l4Draw_any b v l _ BG.out.cur).mono ?_
  rintro e w1 ⟨⟨⟨kd, on, br, y, cnt⟩, z⟩, cv, lv, rfl, ho3, ho5, hok, hg, hC⟩
  simp only at ho3 ho5
  obtain ⟨ca, cc, rfl⟩ := slice_of ho3
  obtain ⟨la, lc, rfl⟩ := slice_of ho5
  have HOK := Lib.hid hok
  replace BG := Lib.hid (BG.out.drawn2 hg hC ho3 ho5)
  clear ho3 ho5 hok hg hC
  replace BG := Lib.hid (BG.out.var (cPartV kd on br (.slice ca y.length cc) cnt (.slice la z.length lc)) 29)
  go_wp2_with fail
  generalize w1.alloc (.cells #[.string ⟨kd.toArray⟩, .bool on, .bool br, .slice ca y.length cc, .int .i64 cnt, .slice la z.length lc] 29) = w2 at *
  generalize w1.heap.size = P at *
  refine (l1Below_any b v l _ _ BG.out.cur (by omega) (by omega)).mono ?_
  rintro e w3 ⟨k, rfl, ⟨k0, k1, k2⟩, hg, hC⟩
  replace BG := Lib.hid (BG.out.draw hg hC)
  clear hg hC k1 k2
  by_cases e0 : k = 0
  · subst e0
    go_wp2_with fail
    refine (l3Any_any b v l _ BG.out.cur).mono ?_
    rintro e w4 ⟨⟨kd2, on2, br2, y2, cnt2⟩, cv2, rfl, ho, hok, hg, hC⟩
    obtain ⟨ca2, cc2, rfl⟩ := slice_of ho
    simp only at ho
    have HOK2 := Lib.hid (show okPt 4 ⟨⟨kd2, on2, br2, y2, cnt2⟩, z⟩ from ⟨hok, Nat.le_trans HOK.out.2.1 (by decide), HOK.out.2.2⟩)
    replace BG := Lib.hid (BG.out.drawn hg hC (hPC w (.slice ca2 y2.length cc2) y2) (ownsF_base ho BG.out.size) (fun g e => (World.ownsRow.lt ho g e).1))
    clear ho hok hg hC
    unfold vCore
    simp only
    have B_q := Lib.hid (BG.out.box (P, cPartV kd on br (.slice ca y.length cc) cnt (.slice la z.length lc)) (by simp))
    have q0 := B_q.out.cell 0 (by simp)
    have q1 := B_q.out.cell 1 (by simp)
    have q2 := B_q.out.cell 2 (by simp)
    have q3 := B_q.out.cell 3 (by simp)
    have q4 := B_q.out.cell 4 (by simp)
    have q5 := B_q.out.cell 5 (by simp)
    simp only [List.getElem_cons_zero, List.getElem_cons_succ] at q0 q1 q2 q3 q4 q5
    have fq0 := B_q.out.froz 0 (by simp)
    have fq1 := B_q.out.froz 1 (by simp)
    have fq2 := B_q.out.froz 2 (by simp)
    have fq3 := B_q.out.froz 3 (by simp)
    have fq4 := B_q.out.froz 4 (by simp)
    have fq5 := B_q.out.froz 5 (by simp)
    have l_q := B_q.out.lt
    have BG5 := Lib.hid (BG.out.put5 0 rfl (.string ⟨kd2.toArray⟩) (.bool on2) (.bool br2) (.slice ca2 y2.length cc2) (.int .i64 cnt2))
    simp only [List.set_cons_zero, List.set_cons_succ] at BG5
    have B_r := Lib.hid (BG.out.box (w.heap.size, zPartV) (by simp))
    have r0 := B_r.out.cell 0 (by simp)
    have r1 := B_r.out.cell 1 (by simp)
    have r2 := B_r.out.cell 2 (by simp)
    have r3 := B_r.out.cell 3 (by simp)
    have r4 := B_r.out.cell 4 (by simp)
    have r5 := B_r.out.cell 5 (by simp)
    simp only [List.getElem_cons_zero, List.getElem_cons_succ] at r0 r1 r2 r3 r4 r5
    have fr0 := B_r.out.froz 0 (by simp)
    have fr1 := B_r.out.froz 1 (by simp)
    have fr2 := B_r.out.froz 2 (by simp)
    have fr3 := B_r.out.froz 3 (by simp)
    have fr4 := B_r.out.froz 4 (by simp)
    have fr5 := B_r.out.froz 5 (by simp)
    have l_r := B_r.out.lt
    have BGf := Lib.hid (BG5.out.put6 1 rfl (.string ⟨kd2.toArray⟩) (.bool on2) (.bool br2) (.slice ca2 y2.length cc2) (.int .i64 cnt2) (.slice la z.length lc))
    simp only [List.set_cons_zero, List.set_cons_succ] at BGf
    have hPR : ¬ P = w.heap.size := by have := BG.out.dis; simp only [List.pairwise_cons, List.mem_cons, List.not_mem_nil, or_false, forall_eq] at this; exact this.1
    have hRP : ¬ w.heap.size = P := fun e => hPR e.symm
    go_wp2_with fail
    refine bodyPost_ret (v := .agg #[.string ⟨kd2.toArray⟩, .bool on2, .bool br2, .slice ca2 y2.length cc2, .int .i64 cnt2, .slice la z.length lc]) (by simp [results, Try.results38, go_sem, cell_set_at, cell_set_ne, bx_set_ne, hPR, hRP, r0, r1, r2, r3, r4, r5]) rfl ?_
    exact ⟨⟨⟨kd2, on2, br2, y2, cnt2⟩, z⟩, .slice ca2 y2.length cc2, .slice la z.length lc, rfl, BGf.out.row (hPC w (.slice ca2 y2.length cc2) y2) (by simp), BGf.out.row (hPL w (.slice la z.length lc) z) (by simp), HOK2.out, BGf.out.grown, BGf.out.cur⟩
  have E0 : (k == 0) = false := by simpa using e0
  by_cases e1 : k = 1
  · subst e1
    go_wp2_with fail
    replace BG := Lib.hid BG.out.drew
    refine region_T (S := fun w' => w'.cell? ⟨P, 5, none⟩ = some (.slice la z.length lc)) (t := 10) (by kernel_rfl) ?_ (fun hHeld => ?_)
    · exact (BG.out.box (P, cPartV kd on br (.slice ca y.length cc) cnt (.slice la z.length lc)) (by simp)).cell 5 (by simp)
    refine anyT_take (i := 0) (v := ?_) rfl (by kernel_rfl) (by kernel_rfl) (by kernel_rfl) (by kernel_rfl) (by kernel_rfl) (fun _ _ _ h => h) (Or.inl ⟨by rfl, ?_⟩) (by assumption) ?_
    rotate_left
    · intro w hSw; (try dsimp only at hSw); go_simp; with_reducible rfl
    try simp only [Act.put, List.getElem_toArray, List.getElem_cons_zero, List.getElem_cons_succ, List.setIfInBounds_toArray, List.set_cons_zero, List.set_cons_succ]
    refine anyT_take (i := 2) (v := ?_) rfl (by kernel_rfl) (by kernel_rfl) (by kernel_rfl) (by kernel_rfl) (by kernel_rfl) (fun _ _ _ h => h) (Or.inl ⟨by rfl, ?_⟩) (by assumption) ?_
    rotate_left
    · intro w hSw; (try dsimp only at hSw); go_simp; with_reducible rfl
    try simp only [Act.put, List.getElem_toArray, List.getElem_cons_zero, List.getElem_cons_succ, List.setIfInBounds_toArray, List.set_cons_zero, List.set_cons_succ]
    refine anyT_take (i := 4) (v := ?_) rfl (by kernel_rfl) (by kernel_rfl) (by kernel_rfl) (by kernel_rfl) (by kernel_rfl) (fun _ _ _ h => h) (Or.inl ⟨by rfl, ?_⟩) (by assumption) ?_
    rotate_left
    · intro w hSw; (try dsimp only at hSw); go_simp; with_reducible rfl
    try simp only [Act.put, List.getElem_toArray, List.getElem_cons_zero, List.getElem_cons_succ, List.setIfInBounds_toArray, List.set_cons_zero, List.set_cons_succ]
    refine anyT_take (i := 1) (v := ?_) rfl (by kernel_rfl) (by kernel_rfl) (by kernel_rfl) (by kernel_rfl) (by kernel_rfl) (fun _ _ _ h => h) (Or.inl ⟨by rfl, ?_⟩) (by assumption) ?_
    rotate_left
    · intro w hSw; (try dsimp only at hSw); go_simp; with_reducible rfl
    try simp only [Act.put, List.getElem_toArray, List.getElem_cons_zero, List.getElem_cons_succ, List.setIfInBounds_toArray, List.set_cons_zero, List.set_cons_succ]
    refine anyT_only (i := 3) (by kernel_rfl) rfl (fun K hK => ?_)
    go_simp
    go_at_call 42; refine (l4Name_any b v l _ BG.out.cur).mono ?_; rintro e w5 ⟨s, rfl, hs, hg, hC⟩; obtain ⟨⟨sl⟩⟩ := s; have hsl : sl.length ≤ 9 := hs; replace BG := Lib.hid (BG.out.draw hg hC); clear hg hC hs
    refine hK.out _ _ ?_ (fun hHeld => ?_)
    · exact (BG.out.box (P, cPartV kd on br (.slice ca y.length cc) cnt (.slice la z.length lc)) (by simp)).cell 5 (by simp)
    clear hK K
    try simp only [Act.put, List.getElem_toArray, List.getElem_cons_zero, List.getElem_cons_succ, List.setIfInBounds_toArray, List.set_cons_zero, List.set_cons_succ]
    refine anyT_only (i := 5) (by kernel_rfl) rfl (fun K hK => ?_)
    go_simp
    go_at_call 56; refine (l1Below_any b v l _ _ BG.out.cur (by omega) (by omega)).mono ?_; rintro e w6 ⟨cn, rfl, ⟨c0, c1, c2⟩, hg, hC⟩; have c3 := c2 (by omega); replace BG := Lib.hid (BG.out.draw hg hC); clear hg hC c1 c2
    refine hK.out _ _ ?_ (fun hHeld => ?_)
    · exact (BG.out.box (P, cPartV kd on br (.slice ca y.length cc) cnt (.slice la z.length lc)) (by simp)).cell 5 (by simp)
    clear hK K
    try simp only [Act.put, List.getElem_toArray, List.getElem_cons_zero, List.getElem_cons_succ, List.setIfInBounds_toArray, List.set_cons_zero, List.set_cons_succ]
    refine anyT_take (i := 6) (v := ?_) rfl (by kernel_rfl) (by kernel_rfl) (by kernel_rfl) (by kernel_rfl) (by kernel_rfl) (fun _ _ _ h => h) (Or.inl ⟨by rfl, ?_⟩) (by assumption) ?_
    rotate_left
    · intro w hSw; (try dsimp only at hSw); go_simp; with_reducible rfl
    try simp only [Act.put, List.getElem_toArray, List.getElem_cons_zero, List.getElem_cons_succ, List.setIfInBounds_toArray, List.set_cons_zero, List.set_cons_succ]
    refine anyT_only (i := 7) (by kernel_rfl) rfl (fun K hK => ?_)
    go_simp
    have BGp := Lib.hid (BG.out.past (.cells #[.string ⟨sl.toArray⟩, .int .i64 cn] 81))
    refine hK.out _ _ ?_ (fun hHeld => ?_)
    · exact (BGp.out.box (P, cPartV kd on br (.slice ca y.length cc) cnt (.slice la z.length lc)) (by simp)).cell 5 (by simp)
    clear hK K
    try simp only [Act.put, List.getElem_toArray, List.getElem_cons_zero, List.getElem_cons_succ, List.setIfInBounds_toArray, List.set_cons_zero, List.set_cons_succ]
    refine anyT_only (i := 8) (by kernel_rfl) rfl (fun K hK => ?_)
    have hz3 := HOK.out.2.1
    simp only at hz3
    refine step_flat cLayer_len cLayer_one infoLay rfl (by decide) (by decide) Try.underlying27 rfl (.tmp 16) (.tmp 22) rfl w.heap.size (.slice la z.length lc) z (⟨sl, cn⟩ : LayerD) _ w6.heap.size rfl (show OwnsF cLayer 81 2 _ w.heap.size (.slice la z.length lc) z from BGp.out.row (hPL w (.slice la z.length lc) z) (by simp)) rfl (cell_newL w6 (⟨sl, cn⟩ : LayerD) _ rfl) (by omega) (by have := BG.out.size; simp; omega) ?_
    intro u w7 ho hgr hne
    have BG7 := Lib.hid (BGp.out.app 0 rfl hgr ho hne)
    simp only [List.set_cons_zero] at BG7
    refine hK.out _ _ ?_ (fun hHeld => ?_)
    · exact (BG7.out.box (P, cPartV kd on br (.slice ca y.length cc) cnt (.slice la z.length lc)) (by simp)).cell 5 (by simp)
    clear hK K
    try simp only [Act.put, List.getElem_toArray, List.getElem_cons_zero, List.getElem_cons_succ, List.setIfInBounds_toArray, List.set_cons_zero, List.set_cons_succ]
    have HOK2 := Lib.hid (show okPt 4 ⟨⟨kd, on, br, y, cnt⟩, z ++ [(⟨sl, cn⟩ : LayerD)]⟩ from ⟨HOK.out.1, by simp; omega, fun t ht => by rcases List.mem_append.1 ht with ht | ht; exact HOK.out.2.2 t ht; rw [List.mem_singleton.1 ht]; exact ⟨hsl, by unfold I64; simp only; omega⟩⟩)
    generalize z ++ [(⟨sl, cn⟩ : LayerD)] = zz at *
    obtain ⟨lb, ld, rfl⟩ := slice_of ho
    clear ho hgr hne hHeld BGp
    replace BG := BG7
    clear BG7
    have B_q := Lib.hid (BG.out.box (P, cPartV kd on br (.slice ca y.length cc) cnt (.slice la z.length lc)) (by simp))
    have q0 := B_q.out.cell 0 (by simp)
    have q1 := B_q.out.cell 1 (by simp)
    have q2 := B_q.out.cell 2 (by simp)
    have q3 := B_q.out.cell 3 (by simp)
    have q4 := B_q.out.cell 4 (by simp)
    have q5 := B_q.out.cell 5 (by simp)
    simp only [List.getElem_cons_zero, List.getElem_cons_succ] at q0 q1 q2 q3 q4 q5
    have fq0 := B_q.out.froz 0 (by simp)
    have fq1 := B_q.out.froz 1 (by simp)
    have fq2 := B_q.out.froz 2 (by simp)
    have fq3 := B_q.out.froz 3 (by simp)
    have fq4 := B_q.out.froz 4 (by simp)
    have fq5 := B_q.out.froz 5 (by simp)
    have l_q := B_q.out.lt
    have B_r := Lib.hid (BG.out.box (w.heap.size, zPartV) (by simp))
    have r0 := B_r.out.cell 0 (by simp)
    have r1 := B_r.out.cell 1 (by simp)
    have r2 := B_r.out.cell 2 (by simp)
    have r3 := B_r.out.cell 3 (by simp)
    have r4 := B_r.out.cell 4 (by simp)
    have r5 := B_r.out.cell 5 (by simp)
    simp only [List.getElem_cons_zero, List.getElem_cons_succ] at r0 r1 r2 r3 r4 r5
    have fr0 := B_r.out.froz 0 (by simp)
    have fr1 := B_r.out.froz 1 (by simp)
    have fr2 := B_r.out.froz 2 (by simp)
    have fr3 := B_r.out.froz 3 (by simp)
    have fr4 := B_r.out.froz 4 (by simp)
    have fr5 := B_r.out.froz 5 (by simp)
    have l_r := B_r.out.lt
    refine anyT_take (i := 9) (v := ?_) rfl (by kernel_rfl) (by kernel_rfl) (by kernel_rfl) (by kernel_rfl) (by kernel_rfl) (fun _ _ _ h => h) (Or.inl ⟨by rfl, ?_⟩) (q5) ?_
    rotate_left
    · intro w hSw; (try dsimp only at hSw); go_simp; with_reducible rfl
    try simp only [Act.put, List.getElem_toArray, List.getElem_cons_zero, List.getElem_cons_succ, List.setIfInBounds_toArray, List.set_cons_zero, List.set_cons_succ]
    refine anyT_tail (by kernel_rfl) rfl (fun K hK => ?_)
    go_simp
    refine hK.out _ _ ?_
    clear hK K
    try simp only [Act.put, List.getElem_toArray, List.getElem_cons_zero, List.getElem_cons_succ, List.setIfInBounds_toArray, List.set_cons_zero, List.set_cons_succ]
    refine anyT_done (by kernel_rfl) ?_ _
    have BG5 := Lib.hid (BG.out.set 0 rfl (j := 5) (by simp) (.slice lb zz.length ld))
    simp only [List.set_cons_zero, List.set_cons_succ] at BG5
    have BGf := Lib.hid (BG5.out.put6 1 rfl (.string ⟨kd.toArray⟩) (.bool on) (.bool br) (.slice ca y.length cc) (.int .i64 cnt) (.slice lb zz.length ld))
    simp only [List.set_cons_zero, List.set_cons_succ] at BGf
    have hPR : ¬ P = w.heap.size := by have := BG.out.dis; simp only [List.pairwise_cons, List.mem_cons, List.not_mem_nil, or_false, forall_eq] at this; exact this.1
    have hRP : ¬ w.heap.size = P := fun e => hPR e.symm
    go_wp2_with fail
    refine bodyPost_ret (v := .agg #[.string ⟨kd.toArray⟩, .bool on, .bool br, .slice ca y.length cc, .int .i64 cnt, .slice lb zz.length ld]) (by simp [results, Try.results38, go_sem, cell_set_at, cell_set_ne, bx_set_ne, hPR, hRP, r0, r1, r2, r3, r4, r5]) rfl ?_
    exact ⟨⟨⟨kd, on, br, y, cnt⟩, zz⟩, .slice ca y.length cc, .slice lb zz.length ld, rfl, BGf.out.row (hPC w (.slice ca y.length cc) y) (by simp), BGf.out.row (hPL w (.slice lb zz.length ld) zz) (by simp), HOK2.out, BGf.out.grown, BGf.out.cur⟩
  have E1 : (k == 1) = false := by simpa using e1
  by_cases e2 : k = 2
  · subst e2
    by_cases hz0 : 0 < z.length
    · skip
      have hz0i : (0 : Int) < (z.length : Int) := by omega
      have hz3 := HOK.out.2.1
      simp only at hz3
      have B_q := Lib.hid (BG.out.box (P, cPartV kd on br (.slice ca y.length cc) cnt (.slice la z.length lc)) (by simp))
      have q0 := B_q.out.cell 0 (by simp)
      have q1 := B_q.out.cell 1 (by simp)
      have q2 := B_q.out.cell 2 (by simp)
      have q3 := B_q.out.cell 3 (by simp)
      have q4 := B_q.out.cell 4 (by simp)
      have q5 := B_q.out.cell 5 (by simp)
      simp only [List.getElem_cons_zero, List.getElem_cons_succ] at q0 q1 q2 q3 q4 q5
      have fq0 := B_q.out.froz 0 (by simp)
      have fq1 := B_q.out.froz 1 (by simp)
      have fq2 := B_q.out.froz 2 (by simp)
      have fq3 := B_q.out.froz 3 (by simp)
      have fq4 := B_q.out.froz 4 (by simp)
      have fq5 := B_q.out.froz 5 (by simp)
      have l_q := B_q.out.lt
      go_wp2_with fail
      clear B_q l_q q0 q1 q2 q3 q4 q5 fq0 fq1 fq2 fq3 fq4 fq5
      replace BG := Lib.hid BG.out.drew
      obtain ⟨g, rfl, _, _⟩ := row_form (show OwnsF cLayer 81 2 _ w.heap.size (.slice la z.length lc) z from BG.out.row (hPL w (.slice la z.length lc) z) (by simp)) cLayer_len hz0
      refine region_T (S := fun w' => w'.cell? ⟨P, 5, none⟩ = some (.slice (some ⟨g, 0, none⟩) z.length lc)) (t := 11) (by kernel_rfl) ?_ (fun hHeld => ?_)
      · exact (BG.out.box (P, cPartV kd on br (.slice ca y.length cc) cnt (.slice (some ⟨g, 0, none⟩) z.length lc)) (by simp)).cell 5 (by simp)
      refine anyT_take (i := 0) (v := ?_) rfl (by kernel_rfl) (by kernel_rfl) (by kernel_rfl) (by kernel_rfl) (by kernel_rfl) (fun _ _ _ h => h) (Or.inl ⟨by rfl, ?_⟩) (by assumption) ?_
      rotate_left
      · intro w hSw; (try dsimp only at hSw); go_simp; with_reducible rfl
      try simp only [Act.put, List.getElem_toArray, List.getElem_cons_zero, List.getElem_cons_succ, List.setIfInBounds_toArray, List.set_cons_zero, List.set_cons_succ]
      refine anyT_take (i := 2) (v := ?_) rfl (by kernel_rfl) (by kernel_rfl) (by kernel_rfl) (by kernel_rfl) (by kernel_rfl) (fun _ _ _ h => h) (Or.inl ⟨by rfl, ?_⟩) (by assumption) ?_
      rotate_left
      · intro w hSw; (try dsimp only at hSw); go_simp; with_reducible rfl
      try simp only [Act.put, List.getElem_toArray, List.getElem_cons_zero, List.getElem_cons_succ, List.setIfInBounds_toArray, List.set_cons_zero, List.set_cons_succ]
      refine anyT_take (i := 3) (v := ?_) rfl (by kernel_rfl) (by kernel_rfl) (by kernel_rfl) (by kernel_rfl) (by kernel_rfl) (fun _ _ _ h => h) (Or.inl ⟨by rfl, ?_⟩) (by assumption) ?_
      rotate_left
      · intro w hSw; (try dsimp only at hSw); go_simp; with_reducible rfl
      try simp only [Act.put, List.getElem_toArray, List.getElem_cons_zero, List.getElem_cons_succ, List.setIfInBounds_toArray, List.set_cons_zero, List.set_cons_succ]
      refine anyT_take (i := 7) (v := ?_) rfl (by kernel_rfl) (by kernel_rfl) (by kernel_rfl) (by kernel_rfl) (by kernel_rfl) (fun _ _ _ h => h) (Or.inl ⟨by rfl, ?_⟩) (by assumption) ?_
      rotate_left
      · intro w hSw; (try dsimp only at hSw); go_simp; with_reducible rfl
      try simp only [Act.put, List.getElem_toArray, List.getElem_cons_zero, List.getElem_cons_succ, List.setIfInBounds_toArray, List.set_cons_zero, List.set_cons_succ]
      refine anyT_take (i := 1) (v := ?_) rfl (by kernel_rfl) (by kernel_rfl) (by kernel_rfl) (by kernel_rfl) (by kernel_rfl) (fun _ _ _ h => h) (Or.inl ⟨by rfl, ?_⟩) (by assumption) ?_
      rotate_left
      · intro w hSw; (try dsimp only at hSw); go_simp; with_reducible rfl
      try simp only [Act.put, List.getElem_toArray, List.getElem_cons_zero, List.getElem_cons_succ, List.setIfInBounds_toArray, List.set_cons_zero, List.set_cons_succ]
      refine anyT_take (i := 4) (v := ?_) rfl (by kernel_rfl) (by kernel_rfl) (by kernel_rfl) (by kernel_rfl) (by kernel_rfl) (fun _ _ _ h => h) (Or.inl ⟨by rfl, ?_⟩) (by assumption) ?_
      rotate_left
      · intro w hSw; (try dsimp only at hSw); go_simp; with_reducible rfl
      try simp only [Act.put, List.getElem_toArray, List.getElem_cons_zero, List.getElem_cons_succ, List.setIfInBounds_toArray, List.set_cons_zero, List.set_cons_succ]
      refine anyT_take (i := 5) (v := ?_) rfl (by kernel_rfl) (by kernel_rfl) (by kernel_rfl) (by kernel_rfl) (by kernel_rfl) (fun _ _ _ h => h) (Or.inl ⟨by rfl, ?_⟩) (by assumption) ?_
      rotate_left
      · intro w hSw; (try dsimp only at hSw); go_simp; with_reducible rfl
      try simp only [Act.put, List.getElem_toArray, List.getElem_cons_zero, List.getElem_cons_succ, List.setIfInBounds_toArray, List.set_cons_zero, List.set_cons_succ]
      refine anyT_only (i := 6) (by kernel_rfl) rfl (fun K hK => ?_)
      go_simp
      go_at_call 56; refine (l1Below_any b v l _ _ BG.out.cur (by omega) (by omega)).mono ?_; rintro e w5 ⟨ix, rfl, ⟨x0, x1, x2⟩, hg, hC⟩; have x3 := x2 (by omega); replace BG := Lib.hid (BG.out.draw hg hC); clear hg hC x1 x2
      refine hK.out _ _ ?_ (fun hHeld => ?_)
      · exact (BG.out.box (P, cPartV kd on br (.slice ca y.length cc) cnt (.slice (some ⟨g, 0, none⟩) z.length lc)) (by simp)).cell 5 (by simp)
      clear hK K
      try simp only [Act.put, List.getElem_toArray, List.getElem_cons_zero, List.getElem_cons_succ, List.setIfInBounds_toArray, List.set_cons_zero, List.set_cons_succ]
      refine anyT_only (i := 8) (by kernel_rfl) rfl (fun K hK => ?_)
      go_simp
      go_at_call 79; refine (l1Odd_any b v l _ BG.out.cur).mono ?_; rintro e w6 ⟨cn, rfl, hcn, hg, hC⟩; replace BG := Lib.hid (BG.out.draw hg hC); clear hg hC
      refine hK.out _ _ ?_ (fun hHeld => ?_)
      · exact (BG.out.box (P, cPartV kd on br (.slice ca y.length cc) cnt (.slice (some ⟨g, 0, none⟩) z.length lc)) (by simp)).cell 5 (by simp)
      clear hK K
      try simp only [Act.put, List.getElem_toArray, List.getElem_cons_zero, List.getElem_cons_succ, List.setIfInBounds_toArray, List.set_cons_zero, List.set_cons_succ]
      obtain ⟨ix, rfl⟩ : ∃ m : Nat, ix = (m : Int) := ⟨ix.toNat, by omega⟩
      have hix : ix < z.length := by omega
      refine anyT_take (i := 9) (v := ?_) rfl (by kernel_rfl) (by kernel_rfl) (by kernel_rfl) (by kernel_rfl) (by kernel_rfl) (fun _ _ _ h => h) (Or.inl ⟨by rfl, ?_⟩) (by assumption) ?_
      rotate_left
      · intro w hSw; (try dsimp only at hSw); go_simp; with_reducible rfl
      try simp only [Act.put, List.getElem_toArray, List.getElem_cons_zero, List.getElem_cons_succ, List.setIfInBounds_toArray, List.set_cons_zero, List.set_cons_succ]
      refine anyT_take (i := 10) (v := ?_) rfl (by kernel_rfl) (by kernel_rfl) (by kernel_rfl) (by kernel_rfl) (by kernel_rfl) (fun _ _ _ h => h) (Or.inl ⟨by rfl, ?_⟩) (by assumption) ?_
      rotate_left
      · intro w hSw; (try dsimp only at hSw); go_simp; with_reducible rfl
      try simp only [Act.put, List.getElem_toArray, List.getElem_cons_zero, List.getElem_cons_succ, List.setIfInBounds_toArray, List.set_cons_zero, List.set_cons_succ]
      obtain ⟨g2, hg2, hgl2, hf⟩ := row_form (show OwnsF cLayer 81 2 _ w.heap.size (.slice (some ⟨g, 0, none⟩) z.length lc) z from BG.out.row (hPL w (.slice (some ⟨g, 0, none⟩) z.length lc) z) (by simp)) cLayer_len hz0
      obtain rfl : g = g2 := by injection hg2 with hg2; injection hg2
      have d1 := (hf ix hix 1 (by decide)).1
      have fz1 := (hf ix hix 1 (by decide)).2
      clear hf hg2
      have HM := Lib.hid (HOK.out.2.2 z[ix] (List.getElem_mem hix))
      generalize hzk : z[ix] = e at d1 HM
      obtain ⟨nm, ct⟩ := e
      simp only [cLayer, List.getElem?_cons_zero, List.getElem?_cons_succ, Nat.add_zero] at d1
      have BG2 := Lib.hid (BG.out.elem2 0 rfl rfl cLayer_len ix hix (⟨nm, cn⟩ : LayerD) (.int .i64 cn) (by rw [hzk]; rfl))
      simp only [List.set_cons_zero, List.set_cons_succ] at BG2
      clear hzk
      have HOK2 := Lib.hid (show okPt 4 ⟨⟨kd, on, br, y, cnt⟩, z.set ix (⟨nm, cn⟩ : LayerD)⟩ from ⟨HOK.out.1, by simp only [List.length_set]; omega, fun t ht => by rcases List.mem_or_eq_of_mem_set ht with ht | rfl; exact HOK.out.2.2 t ht; exact ⟨HM.out.1, hcn⟩⟩)
      refine anyT_tail (by kernel_rfl) rfl (fun K hK => ?_)
      go_simp
      refine hK.out _ _ ?_
      clear hK K
      try simp only [Act.put, List.getElem_toArray, List.getElem_cons_zero, List.getElem_cons_succ, List.setIfInBounds_toArray, List.set_cons_zero, List.set_cons_succ]
      refine anyT_done (by kernel_rfl) ?_ _
      clear d1 fz1 hHeld HM
      replace BG := BG2
      clear BG2
      generalize w6.setCell ⟨g, ix * 2 + 1, none⟩ (.int .i64 cn) = w7 at *
      have B_q := Lib.hid (BG.out.box (P, cPartV kd on br (.slice ca y.length cc) cnt (.slice (some ⟨g, 0, none⟩) z.length lc)) (by simp))
      have q0 := B_q.out.cell 0 (by simp)
      have q1 := B_q.out.cell 1 (by simp)
      have q2 := B_q.out.cell 2 (by simp)
      have q3 := B_q.out.cell 3 (by simp)
      have q4 := B_q.out.cell 4 (by simp)
      have q5 := B_q.out.cell 5 (by simp)
      simp only [List.getElem_cons_zero, List.getElem_cons_succ] at q0 q1 q2 q3 q4 q5
      have l_q := B_q.out.lt
      have B_r := Lib.hid (BG.out.box (w.heap.size, zPartV) (by simp))
      have r0 := B_r.out.cell 0 (by simp)
      have r1 := B_r.out.cell 1 (by simp)
      have r2 := B_r.out.cell 2 (by simp)
      have r3 := B_r.out.cell 3 (by simp)
      have r4 := B_r.out.cell 4 (by simp)
      have r5 := B_r.out.cell 5 (by simp)
      simp only [List.getElem_cons_zero, List.getElem_cons_succ] at r0 r1 r2 r3 r4 r5
      have fr0 := B_r.out.froz 0 (by simp)
      have fr1 := B_r.out.froz 1 (by simp)
      have fr2 := B_r.out.froz 2 (by simp)
      have fr3 := B_r.out.froz 3 (by simp)
      have fr4 := B_r.out.froz 4 (by simp)
      have fr5 := B_r.out.froz 5 (by simp)
      have l_r := B_r.out.lt
      have BG5 := BG
      have BGf := Lib.hid (BG5.out.put6 1 rfl (.string ⟨kd.toArray⟩) (.bool on) (.bool br) (.slice ca y.length cc) (.int .i64 cnt) (.slice (some ⟨g, 0, none⟩) z.length lc))
      simp only [List.set_cons_zero, List.set_cons_succ] at BGf
      have hPR : ¬ P = w.heap.size := by have := BG.out.dis; simp only [List.pairwise_cons, List.mem_cons, List.not_mem_nil, or_false, forall_eq] at this; exact this.1
      have hRP : ¬ w.heap.size = P := fun e => hPR e.symm
      go_wp2_with fail
      refine bodyPost_ret (v := .agg #[.string ⟨kd.toArray⟩, .bool on, .bool br, .slice ca y.length cc, .int .i64 cnt, .slice (some ⟨g, 0, none⟩) z.length lc]) (by simp [results, Try.results38, go_sem, cell_set_at, cell_set_ne, bx_set_ne, hPR, hRP, r0, r1, r2, r3, r4, r5]) rfl ?_
      exact ⟨⟨⟨kd, on, br, y, cnt⟩, z.set ix (⟨nm, cn⟩ : LayerD)⟩, .slice ca y.length cc, .slice (some ⟨g, 0, none⟩) z.length lc, rfl, BGf.out.row (hPC w (.slice ca y.length cc) y) (by simp), BGf.out.row (hPL w (.slice (some ⟨g, 0, none⟩) z.length lc) (z.set ix (⟨nm, cn⟩ : LayerD))) (by simp), HOK2.out, BGf.out.grown, BGf.out.cur⟩
    · skip
      have hz0i : ¬ (0 : Int) < (z.length : Int) := by omega
      have B_q := Lib.hid (BG.out.box (P, cPartV kd on br (.slice ca y.length cc) cnt (.slice la z.length lc)) (by simp))
      have q0 := B_q.out.cell 0 (by simp)
      have q1 := B_q.out.cell 1 (by simp)
      have q2 := B_q.out.cell 2 (by simp)
      have q3 := B_q.out.cell 3 (by simp)
      have q4 := B_q.out.cell 4 (by simp)
      have q5 := B_q.out.cell 5 (by simp)
      simp only [List.getElem_cons_zero, List.getElem_cons_succ] at q0 q1 q2 q3 q4 q5
      have l_q := B_q.out.lt
      have B_r := Lib.hid (BG.out.box (w.heap.size, zPartV) (by simp))
      have r0 := B_r.out.cell 0 (by simp)
      have r1 := B_r.out.cell 1 (by simp)
      have r2 := B_r.out.cell 2 (by simp)
      have r3 := B_r.out.cell 3 (by simp)
      have r4 := B_r.out.cell 4 (by simp)
      have r5 := B_r.out.cell 5 (by simp)
      simp only [List.getElem_cons_zero, List.getElem_cons_succ] at r0 r1 r2 r3 r4 r5
      have fr0 := B_r.out.froz 0 (by simp)
      have fr1 := B_r.out.froz 1 (by simp)
      have fr2 := B_r.out.froz 2 (by simp)
      have fr3 := B_r.out.froz 3 (by simp)
      have fr4 := B_r.out.froz 4 (by simp)
      have fr5 := B_r.out.froz 5 (by simp)
      have l_r := B_r.out.lt
      have BG5 := BG
      have BGf := Lib.hid (BG5.out.put6 1 rfl (.string ⟨kd.toArray⟩) (.bool on) (.bool br) (.slice ca y.length cc) (.int .i64 cnt) (.slice la z.length lc))
      simp only [List.set_cons_zero, List.set_cons_succ] at BGf
      have hPR : ¬ P = w.heap.size := by have := BG.out.dis; simp only [List.pairwise_cons, List.mem_cons, List.not_mem_nil, or_false, forall_eq] at this; exact this.1
      have hRP : ¬ w.heap.size = P := fun e => hPR e.symm
      go_wp2_with fail
      refine bodyPost_ret (v := .agg #[.string ⟨kd.toArray⟩, .bool on, .bool br, .slice ca y.length cc, .int .i64 cnt, .slice la z.length lc]) (by simp [results, Try.results38, go_sem, cell_set_at, cell_set_ne, bx_set_ne, hPR, hRP, r0, r1, r2, r3, r4, r5]) rfl ?_
      exact ⟨⟨⟨kd, on, br, y, cnt⟩, z⟩, .slice ca y.length cc, .slice la z.length lc, rfl, BGf.out.row (hPC w (.slice ca y.length cc) y) (by simp), BGf.out.row (hPL w (.slice la z.length lc) z) (by simp), okPt_up HOK.out (by decide), BGf.out.grown, BGf.out.cur⟩
  have E2 : (k == 2) = false := by simpa using e2
  clear e0 e1 e2
  have B_q := Lib.hid (BG.out.box (P, cPartV kd on br (.slice ca y.length cc) cnt (.slice la z.length lc)) (by simp))
  have q0 := B_q.out.cell 0 (by simp)
  have q1 := B_q.out.cell 1 (by simp)
  have q2 := B_q.out.cell 2 (by simp)
  have q3 := B_q.out.cell 3 (by simp)
  have q4 := B_q.out.cell 4 (by simp)
  have q5 := B_q.out.cell 5 (by simp)
  simp only [List.getElem_cons_zero, List.getElem_cons_succ] at q0 q1 q2 q3 q4 q5
  have l_q := B_q.out.lt
  have B_r := Lib.hid (BG.out.box (w.heap.size, zPartV) (by simp))
  have r0 := B_r.out.cell 0 (by simp)
  have r1 := B_r.out.cell 1 (by simp)
  have r2 := B_r.out.cell 2 (by simp)
  have r3 := B_r.out.cell 3 (by simp)
  have r4 := B_r.out.cell 4 (by simp)
  have r5 := B_r.out.cell 5 (by simp)
  simp only [List.getElem_cons_zero, List.getElem_cons_succ] at r0 r1 r2 r3 r4 r5
  have fr0 := B_r.out.froz 0 (by simp)
  have fr1 := B_r.out.froz 1 (by simp)
  have fr2 := B_r.out.froz 2 (by simp)
  have fr3 := B_r.out.froz 3 (by simp)
  have fr4 := B_r.out.froz 4 (by simp)
  have fr5 := B_r.out.froz 5 (by simp)
  have l_r := B_r.out.lt
  have BG5 := BG
  have BGf := Lib.hid (BG5.out.put6 1 rfl (.string ⟨kd.toArray⟩) (.bool on) (.bool br) (.slice ca y.length cc) (.int .i64 cnt) (.slice la z.length lc))
  simp only [List.set_cons_zero, List.set_cons_succ] at BGf
  have hPR : ¬ P = w.heap.size := by have := BG.out.dis; simp only [List.pairwise_cons, List.mem_cons, List.not_mem_nil, or_false, forall_eq] at this; exact this.1
  have hRP : ¬ w.heap.size = P := fun e => hPR e.symm
  go_wp2_with fail
  refine bodyPost_ret (v := .agg #[.string ⟨kd.toArray⟩, .bool on, .bool br, .slice ca y.length cc, .int .i64 cnt, .slice la z.length lc]) (by simp [results, Try.results38, go_sem, cell_set_at, cell_set_ne, bx_set_ne, hPR, hRP, r0, r1, r2, r3, r4, r5]) rfl ?_
  exact ⟨⟨⟨kd, on, br, y, cnt⟩, z⟩, .slice ca y.length cc, .slice la z.length lc, rfl, BGf.out.row (hPC w (.slice ca y.length cc) y) (by simp), BGf.out.row (hPL w (.slice la z.length lc) z) (by simp), okPt_up HOK.out (by decide), BGf.out.grown, BGf.out.cur⟩
end Go.Proofs.Ytaihdjdaamglnaa
/- The draws of chapter 4: parts. Written by gen/ch4dr.py. -/
namespace Go.Proofs.Ytaihdjdaamglnaa
set_option linter.unusedVariables false
set_option linter.unusedSimpArgs false
open Go.RowKit
def GivesPW (w : World) (e : Ending) (w' : World) : Prop := ∃ (x : PartD) (cv lv : Value) (s : List UInt8), e = .returned (.tuple #[.agg (cPartV x.fCore.fKind x.fCore.fOn x.fCore.fBroken cv x.fCore.fCount lv).toArray, .string ⟨s.toArray⟩]) ∧ OwnsF cCell 134 2 w' w.heap.size cv x.fCore.fCells ∧ OwnsF cLayer 81 2 w' w.heap.size lv x.fLayers ∧ okPt 4 x ∧ s.length ≤ 9 ∧ Below w.heap.size w w'
set_option maxRecDepth 100000 in
set_option maxHeartbeats 6400000 in
theorem drawWrap_any (v : Value) (l : List UInt8) (w : World) (hR : RowAt w v (Lib.byteCells l)) :
    Calls Try.prog 10 #[v] w fun e w' => GivesPW w e w' := by
  have hcode := Lib.hid (bag_code hR)
  obtain ⟨B1, HB0⟩ := bx_start1 w zPartV 29
  have HR := Lib.hid (RowAt.below hR HB0 (Nat.le_refl _))
  have B1 := Lib.hid B1
  have HB0 := Lib.hid HB0
  have HN := Lib.hid (l1New_any v l _ HR.out)
  clear hR
  go_enter Try.func10, Try.ntmps10
  go_wp2_with fail
  generalize w.alloc (.cells #[.string ⟨#[]⟩, .bool false, .bool false, .slice none 0 0, .int .i64 0, .slice none 0 0] 29) = w0 at *
  refine HN.out.mono ?_
  rintro e w1 ⟨b, rfl, hb, hB, hC⟩
  have BG := Lib.hid (bag_new (bs := [(w.heap.size, zPartV)]) HB0.out (by intro p hp; simp only [List.mem_cons, List.not_mem_nil, or_false] at hp; subst hp; exact ⟨B1.out, Nat.le_refl _⟩) (by simp) hb hB hC hcode.out)
  have hbw : w.heap.size ≤ b := by have := B1.out.lt; omega
  clear hB hC hb HB0 HN HR B1 hcode
  go_wp2_with fail
  refine (l4Any_any b v l _ BG.out.cur).mono ?_
  rintro e w2 ⟨⟨⟨kd, on, br, y, cnt⟩, z⟩, cv, lv, rfl, ho3, ho5, hok, hg, hC⟩
  simp only at ho3 ho5
  obtain ⟨ca, cc, rfl⟩ := slice_of ho3
  obtain ⟨la, lc, rfl⟩ := slice_of ho5
  have HOK := Lib.hid hok
  replace BG := Lib.hid (BG.out.drawn2 hg hC ho3 ho5)
  clear ho3 ho5 hok hg hC
  replace BG := Lib.hid (BG.out.var (cPartV kd on br (.slice ca y.length cc) cnt (.slice la z.length lc)) 29)
  go_wp2_with fail
  generalize w2.alloc (.cells #[.string ⟨kd.toArray⟩, .bool on, .bool br, .slice ca y.length cc, .int .i64 cnt, .slice la z.length lc] 29) = w3 at *
  generalize w2.heap.size = P at *
  refine (l1Once_any b v l _ _ BG.out.cur (by omega) (by omega)).mono ?_
  rintro e w4 ⟨o, rfl, hg, hC⟩
  replace BG := Lib.hid (BG.out.draw hg hC)
  clear hg hC
  have hPR : ¬ P = w.heap.size := by have := BG.out.dis; simp only [List.pairwise_cons, List.mem_cons, List.not_mem_nil, or_false, forall_eq] at this; exact this.1
  have hRP : ¬ w.heap.size = P := fun e => hPR e.symm
  cases o
  case false =>
    go_wp2_with fail
    have HSof := Lib.hid (fun W (h : Bx W P (cPartV kd on br (.slice ca y.length cc) cnt (.slice la z.length lc))) => (show six W P (.string ⟨kd.toArray⟩) (.bool on) (.bool br) (.slice ca y.length cc) (.int .i64 cnt) (.slice la z.length lc) from bx_six h))
    refine wp_region_held_drew (S := fun w' => six w' P (.string ⟨kd.toArray⟩) (.bool on) (.bool br) (.slice ca y.length cc) (.int .i64 cnt) (.slice la z.length lc)) (by kernel_rfl) ?_ (fun hHeld => ?_)
    · exact HSof.out _ (BG.out.drew.box (P, cPartV kd on br (.slice ca y.length cc) cnt (.slice la z.length lc)) (by simp))
    replace BG := Lib.hid BG.out.drew
    generalize w4.drew = v0 at *
    refine wpAnyH_take (i := 0) (v := ?_) rfl (by kernel_rfl) (by kernel_rfl) (by kernel_rfl) (fun _ _ _ h => h) (Or.inl ⟨by rfl, ?_⟩) (by assumption) ?_
    rotate_left
    · intro w hSw; (try dsimp only at hSw); obtain ⟨s0, s1, s2, s3, s4, s5⟩ := hSw; go_simp; with_reducible rfl
    try simp only [Act.put, List.getElem_toArray, List.getElem_cons_zero, List.getElem_cons_succ, List.setIfInBounds_toArray, List.set_cons_zero, List.set_cons_succ]
    refine wpAnyH_take (i := 1) (v := ?_) rfl (by kernel_rfl) (by kernel_rfl) (by kernel_rfl) (fun _ _ _ h => h) (Or.inl ⟨by rfl, ?_⟩) (by assumption) ?_
    rotate_left
    · intro w hSw; (try dsimp only at hSw); obtain ⟨s0, s1, s2, s3, s4, s5⟩ := hSw; go_simp; with_reducible rfl
    try simp only [Act.put, List.getElem_toArray, List.getElem_cons_zero, List.getElem_cons_succ, List.setIfInBounds_toArray, List.set_cons_zero, List.set_cons_succ]
    refine wpAnyH_ready (rs := [2]) (by kernel_rfl) (by simp) ?_
    refine AllReadyH.cons rfl (fun K hK => ?_) AllReadyH.nil
    go_simp
    go_at_call 42
    refine (l4Name_any b v l _ BG.out.cur).mono ?_
    rintro e v1 ⟨s, rfl, hs, hg, hC⟩
    obtain ⟨⟨sl⟩⟩ := s
    have hsl : sl.length ≤ 9 := hs
    replace BG := Lib.hid (BG.out.draw hg hC)
    clear hg hC hs
    refine hK.out _ _ (HSof.out _ (BG.out.box (P, cPartV kd on br (.slice ca y.length cc) cnt (.slice la z.length lc)) (by simp))) (fun hHeld => ?_)
    clear hK K
    try simp only [Act.put, List.getElem_toArray, List.getElem_cons_zero, List.getElem_cons_succ, List.setIfInBounds_toArray, List.set_cons_zero, List.set_cons_succ]
    have B_r := Lib.hid (BG.out.box (w.heap.size, zPartV) (by simp))
    have r0 := B_r.out.cell 0 (by simp)
    have r1 := B_r.out.cell 1 (by simp)
    have r2 := B_r.out.cell 2 (by simp)
    have r3 := B_r.out.cell 3 (by simp)
    have r4 := B_r.out.cell 4 (by simp)
    have r5 := B_r.out.cell 5 (by simp)
    simp only [List.getElem_cons_zero, List.getElem_cons_succ] at r0 r1 r2 r3 r4 r5
    have fr0 := B_r.out.froz 0 (by simp)
    have fr1 := B_r.out.froz 1 (by simp)
    have fr2 := B_r.out.froz 2 (by simp)
    have fr3 := B_r.out.froz 3 (by simp)
    have fr4 := B_r.out.froz 4 (by simp)
    have fr5 := B_r.out.froz 5 (by simp)
    have l_r := B_r.out.lt
    refine wpAnyH_ready (rs := [3]) (by kernel_rfl) (by simp) ?_
    refine AllReadyH.cons rfl (fun K hK => ?_) AllReadyH.nil
    go_simp
    have BGf := Lib.hid (BG.out.put6 1 rfl (.string ⟨kd.toArray⟩) (.bool on) (.bool br) (.slice ca y.length cc) (.int .i64 cnt) (.slice la z.length lc))
    simp only [List.set_cons_zero, List.set_cons_succ] at BGf
    refine hK.out _ _ (HSof.out _ (BGf.out.box (P, cPartV kd on br (.slice ca y.length cc) cnt (.slice la z.length lc)) (by simp))) (fun hHeld => ?_)
    clear hK K
    try simp only [Act.put, List.getElem_toArray, List.getElem_cons_zero, List.getElem_cons_succ, List.setIfInBounds_toArray, List.set_cons_zero, List.set_cons_succ]
    refine wpAnyH_take (i := 4) (v := ?_) rfl (by kernel_rfl) (by kernel_rfl) (by kernel_rfl) (fun _ _ _ h => h) (Or.inl ⟨by rfl, ?_⟩) (by assumption) ?_
    rotate_left
    · intro w hSw; (try dsimp only at hSw); obtain ⟨s0, s1, s2, s3, s4, s5⟩ := hSw; go_simp; with_reducible rfl
    try simp only [Act.put, List.getElem_toArray, List.getElem_cons_zero, List.getElem_cons_succ, List.setIfInBounds_toArray, List.set_cons_zero, List.set_cons_succ]
    refine wpAnyH_done (by kernel_rfl) ?_ _
    clear B_r l_r r0 r1 r2 r3 r4 r5 fr0 fr1 fr2 fr3 fr4 fr5
    generalize ((((((v1.setCell ⟨w.heap.size, 0, none⟩ (.string ⟨kd.toArray⟩)).setCell ⟨w.heap.size, 1, none⟩ (.bool on)).setCell ⟨w.heap.size, 2, none⟩ (.bool br)).setCell ⟨w.heap.size, 3, none⟩ (.slice ca y.length cc)).setCell ⟨w.heap.size, 4, none⟩ (.int .i64 cnt)).setCell ⟨w.heap.size, 5, none⟩ (.slice la z.length lc)) = v9 at *
    clear hHeld HSof
    have BR := Lib.hid (BGf.out.box (w.heap.size, cPartV kd on br (.slice ca y.length cc) cnt (.slice la z.length lc)) (by simp))
    have r0 := BR.out.cell 0 (by simp)
    have r1 := BR.out.cell 1 (by simp)
    have r2 := BR.out.cell 2 (by simp)
    have r3 := BR.out.cell 3 (by simp)
    have r4 := BR.out.cell 4 (by simp)
    have r5 := BR.out.cell 5 (by simp)
    simp only [List.getElem_cons_zero, List.getElem_cons_succ] at r0 r1 r2 r3 r4 r5
    go_wp2_with fail
    refine bodyPost_ret (v := .tuple #[.agg #[.string ⟨kd.toArray⟩, .bool on, .bool br, .slice ca y.length cc, .int .i64 cnt, .slice la z.length lc], .string ⟨sl.toArray⟩]) (by simp [results, Try.results10, go_sem, r0, r1, r2, r3, r4, r5]) rfl ?_
    exact ⟨(⟨⟨kd, on, br, y, cnt⟩, z⟩ : PartD), .slice ca y.length cc, .slice la z.length lc, sl, rfl, BGf.out.row (hPC w (.slice ca y.length cc) y) (by simp), BGf.out.row (hPL w (.slice la z.length lc) z) (by simp), HOK.out, hsl, BGf.out.bel hbw⟩
  case true =>
    go_wp2_with fail
    have HSof := Lib.hid (fun W (h : Bx W P (cPartV kd on br (.slice ca y.length cc) cnt (.slice la z.length lc))) => (show six W P (.string ⟨kd.toArray⟩) (.bool on) (.bool br) (.slice ca y.length cc) (.int .i64 cnt) (.slice la z.length lc) from bx_six h))
    refine wp_region_held_drew (S := fun w' => six w' P (.string ⟨kd.toArray⟩) (.bool on) (.bool br) (.slice ca y.length cc) (.int .i64 cnt) (.slice la z.length lc)) (by kernel_rfl) ?_ (fun hHeld => ?_)
    · exact HSof.out _ (BG.out.drew.box (P, cPartV kd on br (.slice ca y.length cc) cnt (.slice la z.length lc)) (by simp))
    replace BG := Lib.hid BG.out.drew
    generalize w4.drew = v0 at *
    refine wpAnyH_take (i := 0) (v := ?_) rfl (by kernel_rfl) (by kernel_rfl) (by kernel_rfl) (fun _ _ _ h => h) (Or.inl ⟨by rfl, ?_⟩) (by assumption) ?_
    rotate_left
    · intro w hSw; (try dsimp only at hSw); obtain ⟨s0, s1, s2, s3, s4, s5⟩ := hSw; go_simp; with_reducible rfl
    try simp only [Act.put, List.getElem_toArray, List.getElem_cons_zero, List.getElem_cons_succ, List.setIfInBounds_toArray, List.set_cons_zero, List.set_cons_succ]
    refine wpAnyH_take (i := 1) (v := ?_) rfl (by kernel_rfl) (by kernel_rfl) (by kernel_rfl) (fun _ _ _ h => h) (Or.inl ⟨by rfl, ?_⟩) (by assumption) ?_
    rotate_left
    · intro w hSw; (try dsimp only at hSw); obtain ⟨s0, s1, s2, s3, s4, s5⟩ := hSw; go_simp; with_reducible rfl
    try simp only [Act.put, List.getElem_toArray, List.getElem_cons_zero, List.getElem_cons_succ, List.setIfInBounds_toArray, List.set_cons_zero, List.set_cons_succ]
    refine wpAnyH_take (i := 2) (v := ?_) rfl (by kernel_rfl) (by kernel_rfl) (by kernel_rfl) (fun _ _ _ h => h) (Or.inl ⟨by rfl, ?_⟩) (by assumption) ?_
    rotate_left
    · intro w hSw; (try dsimp only at hSw); obtain ⟨s0, s1, s2, s3, s4, s5⟩ := hSw; go_simp; with_reducible rfl
    try simp only [Act.put, List.getElem_toArray, List.getElem_cons_zero, List.getElem_cons_succ, List.setIfInBounds_toArray, List.set_cons_zero, List.set_cons_succ]
    refine wpAnyH_ready (rs := [3]) (by kernel_rfl) (by simp) ?_
    refine AllReadyH.cons rfl (fun K hK => ?_) AllReadyH.nil
    go_simp
    go_at_call 41
    refine (specFaceOf_any _ (⟨⟨kd, on, br, y, cnt⟩, z⟩ : PartD) _ (show ValAt rPart 0 _ (.agg #[.string ⟨kd.toArray⟩, .bool on, .bool br, .slice ca y.length cc, .int .i64 cnt, .slice la z.length lc]) (⟨⟨kd, on, br, y, cnt⟩, z⟩ : PartD) from ⟨cPartV kd on br (.slice ca y.length cc) cnt (.slice la z.length lc), rfl, bag_part (n := 4) (x := (⟨⟨kd, on, br, y, cnt⟩, z⟩ : PartD)) BG.out (by simp) (by simp) HOK.out (by decide)⟩)).mono ?_
    rintro e v1 ⟨rfl, hb⟩
    replace BG := Lib.hid (BG.out.below hb)
    clear hb
    refine hK.out _ _ (HSof.out _ (BG.out.box (P, cPartV kd on br (.slice ca y.length cc) cnt (.slice la z.length lc)) (by simp))) (fun hHeld => ?_)
    clear hK K
    try simp only [Act.put, List.getElem_toArray, List.getElem_cons_zero, List.getElem_cons_succ, List.setIfInBounds_toArray, List.set_cons_zero, List.set_cons_succ]
    generalize faceP (⟨⟨kd, on, br, y, cnt⟩, z⟩ : PartD) = fc at *
    refine wpAnyH_ready (rs := [4]) (by kernel_rfl) (by simp) ?_
    refine AllReadyH.cons rfl (fun K hK => ?_) AllReadyH.nil
    go_simp
    go_at_call 40
    refine (l4Fitting_any b v l _ _ BG.out.cur).mono ?_
    rintro e v2 ⟨s, rfl, hs, hg, hC⟩
    obtain ⟨⟨sl⟩⟩ := s
    have hsl : sl.length ≤ 9 := hs
    replace BG := Lib.hid (BG.out.draw hg hC)
    clear hg hC hs
    refine hK.out _ _ (HSof.out _ (BG.out.box (P, cPartV kd on br (.slice ca y.length cc) cnt (.slice la z.length lc)) (by simp))) (fun hHeld => ?_)
    clear hK K
    try simp only [Act.put, List.getElem_toArray, List.getElem_cons_zero, List.getElem_cons_succ, List.setIfInBounds_toArray, List.set_cons_zero, List.set_cons_succ]
    have B_r := Lib.hid (BG.out.box (w.heap.size, zPartV) (by simp))
    have r0 := B_r.out.cell 0 (by simp)
    have r1 := B_r.out.cell 1 (by simp)
    have r2 := B_r.out.cell 2 (by simp)
    have r3 := B_r.out.cell 3 (by simp)
    have r4 := B_r.out.cell 4 (by simp)
    have r5 := B_r.out.cell 5 (by simp)
    simp only [List.getElem_cons_zero, List.getElem_cons_succ] at r0 r1 r2 r3 r4 r5
    have fr0 := B_r.out.froz 0 (by simp)
    have fr1 := B_r.out.froz 1 (by simp)
    have fr2 := B_r.out.froz 2 (by simp)
    have fr3 := B_r.out.froz 3 (by simp)
    have fr4 := B_r.out.froz 4 (by simp)
    have fr5 := B_r.out.froz 5 (by simp)
    have l_r := B_r.out.lt
    refine wpAnyH_ready (rs := [5]) (by kernel_rfl) (by simp) ?_
    refine AllReadyH.cons rfl (fun K hK => ?_) AllReadyH.nil
    go_simp
    have BGf := Lib.hid (BG.out.put6 1 rfl (.string ⟨kd.toArray⟩) (.bool on) (.bool br) (.slice ca y.length cc) (.int .i64 cnt) (.slice la z.length lc))
    simp only [List.set_cons_zero, List.set_cons_succ] at BGf
    refine hK.out _ _ (HSof.out _ (BGf.out.box (P, cPartV kd on br (.slice ca y.length cc) cnt (.slice la z.length lc)) (by simp))) (fun hHeld => ?_)
    clear hK K
    try simp only [Act.put, List.getElem_toArray, List.getElem_cons_zero, List.getElem_cons_succ, List.setIfInBounds_toArray, List.set_cons_zero, List.set_cons_succ]
    refine wpAnyH_take (i := 6) (v := ?_) rfl (by kernel_rfl) (by kernel_rfl) (by kernel_rfl) (fun _ _ _ h => h) (Or.inl ⟨by rfl, ?_⟩) (by assumption) ?_
    rotate_left
    · intro w hSw; (try dsimp only at hSw); obtain ⟨s0, s1, s2, s3, s4, s5⟩ := hSw; go_simp; with_reducible rfl
    try simp only [Act.put, List.getElem_toArray, List.getElem_cons_zero, List.getElem_cons_succ, List.setIfInBounds_toArray, List.set_cons_zero, List.set_cons_succ]
    refine wpAnyH_done (by kernel_rfl) ?_ _
    clear B_r l_r r0 r1 r2 r3 r4 r5 fr0 fr1 fr2 fr3 fr4 fr5
    generalize ((((((v2.setCell ⟨w.heap.size, 0, none⟩ (.string ⟨kd.toArray⟩)).setCell ⟨w.heap.size, 1, none⟩ (.bool on)).setCell ⟨w.heap.size, 2, none⟩ (.bool br)).setCell ⟨w.heap.size, 3, none⟩ (.slice ca y.length cc)).setCell ⟨w.heap.size, 4, none⟩ (.int .i64 cnt)).setCell ⟨w.heap.size, 5, none⟩ (.slice la z.length lc)) = v9 at *
    clear hHeld HSof
    have BR := Lib.hid (BGf.out.box (w.heap.size, cPartV kd on br (.slice ca y.length cc) cnt (.slice la z.length lc)) (by simp))
    have r0 := BR.out.cell 0 (by simp)
    have r1 := BR.out.cell 1 (by simp)
    have r2 := BR.out.cell 2 (by simp)
    have r3 := BR.out.cell 3 (by simp)
    have r4 := BR.out.cell 4 (by simp)
    have r5 := BR.out.cell 5 (by simp)
    simp only [List.getElem_cons_zero, List.getElem_cons_succ] at r0 r1 r2 r3 r4 r5
    go_wp2_with fail
    refine bodyPost_ret (v := .tuple #[.agg #[.string ⟨kd.toArray⟩, .bool on, .bool br, .slice ca y.length cc, .int .i64 cnt, .slice la z.length lc], .string ⟨sl.toArray⟩]) (by simp [results, Try.results10, go_sem, r0, r1, r2, r3, r4, r5]) rfl ?_
    exact ⟨(⟨⟨kd, on, br, y, cnt⟩, z⟩ : PartD), .slice ca y.length cc, .slice la z.length lc, sl, rfl, BGf.out.row (hPC w (.slice ca y.length cc) y) (by simp), BGf.out.row (hPL w (.slice la z.length lc) z) (by simp), HOK.out, hsl, BGf.out.bel hbw⟩
end Go.Proofs.Ytaihdjdaamglnaa
/- Contracts of chapter 4: RecipeOf, both sides. -/
namespace Go.Proofs.Ytaihdjdaamglnaa
set_option linter.unusedVariables false
set_option linter.unusedSimpArgs false
open Go.RowKit
def recL (x : PartD) : List (List UInt8) := x.fCore.fKind :: x.fLayers.map (·.fName)
theorem owns_oneL (w : World) (B : Nat) (a : List UInt8) (h : B ≤ w.heap.size) : Owns (w.alloc (.cells #[.string ⟨a.toArray⟩] 9)) B (.slice (some ⟨w.heap.size, 0, none⟩) 1 1) [a] :=
  ⟨rfl, .inr ⟨w.heap.size, 1, #[.string ⟨a.toArray⟩], rfl, h, heap_alloc_new w _, Nat.le_refl _, by decide, rfl, by simp [strV]⟩⟩
theorem rec_len (k : List UInt8) (l : List LayerD) (n : Nat) : (k :: (l.take n).map (·.fName)).length ≤ l.length + 1 := by simp; omega
theorem rec_step (k : List UInt8) (l : List LayerD) (n : Nat) (h : n < l.length) : k :: (l.take (n + 1)).map (·.fName) = (k :: (l.take n).map (·.fName)) ++ [(l[n]).fName] := by
  rw [List.take_succ_eq_append_getElem h, List.map_append]; rfl
set_option maxRecDepth 100000 in
set_option maxHeartbeats 1600000 in
theorem implRecipe_any (v : Value) (x : PartD) (w : World) (hx : ValAt rPart 0 w v x) (hs : SmallP x) :
    Calls Try.prog 23 #[v] w fun e w' => GivesRow (recL x) w e w' := by
  obtain ⟨_, rfl, hx⟩ := hx
  have HR := Lib.hid (show recL x = x.fCore.fKind :: x.fLayers.map (·.fName) from rfl)
  obtain ⟨⟨a0, a1, a2, a3, a4⟩, l⟩ := x
  obtain ⟨v3, v5, rfl, h3, h5⟩ := hx
  have HN := Lib.hid hs.names
  have hm := hs.lays
  have HK := Lib.hid (fun W => copyText_any ⟨a0.toArray⟩ W (by have := hs.kind; rw [← size_list]; simp only at this; simp; omega))
  simp only [List.toList_toArray] at h3 h5 HN hm HR
  obtain ⟨ra, rc, rfl, _⟩ := sliceAt_len h3
  obtain ⟨sa, sc, rfl, hl⟩ := sliceAt_len h5
  have H5 := Lib.hid h5
  unfold maxLen at hl
  generalize recL ⟨⟨a0, a1, a2, a3, a4⟩, l⟩ = res at *
  have HS0 := Lib.hid (Bx.new w [.string ⟨a0.toArray⟩, .bool a1, .bool a2, .slice ra a3.length rc, .int .i64 a4, .slice sa l.length sc] 29)
  have HB0 := Lib.hid (bx_box w (.cells #[.string ⟨a0.toArray⟩, .bool a1, .bool a2, .slice ra a3.length rc, .int .i64 a4, .slice sa l.length sc] 29))
  clear h3 h5 hs
  go_enter Try.func23, Try.ntmps23
  go_wp2_with fail
  refine (HK.out _).mono ?_
  rintro e w1 ⟨rfl, hb⟩
  have HB1 := Lib.hid (belS HB0.out hb)
  have BX1 := Lib.hid (HS0.out.below hb)
  clear hb
  have BX2 := Lib.hid (BX1.out.alloc (.cells #[.string ⟨a0.toArray⟩] 9))
  have HB2 := Lib.hid (belS HB1.out (bx_box w1 (.cells #[.string ⟨a0.toArray⟩] 9)))
  have HO0 := Lib.hid (owns_oneL w1 w.heap.size a0 HB1.out.size)
  have e5 := BX1.out.cell 5 (by simp)
  simp only [List.getElem_cons_zero, List.getElem_cons_succ] at e5
  have hlt1 := BX1.out.lt
  have hne : ¬ w.heap.size = w1.heap.size := by omega
  go_wp2_with fail
  clear e5 hlt1 hne
  go_loopw [3, 14] (fun u i wr => ∃ k : Nat, k ≤ l.length ∧ i = .int .i64 k ∧ Owns wr w.heap.size u (a0 :: (l.take k).map (·.fName)) ∧ Below w.heap.size w wr) (fun _ i _ => l.length - (intOf i).toNat)
  case atStart => exact ⟨0, Nat.zero_le _, rfl, HO0.out, HB2.out⟩
  case round =>
    obtain ⟨k, hk2, rfl, hO, hb⟩ := hrel
    have HO := Lib.hid hO
    have HB := Lib.hid hb
    have HXr := Lib.hid (SliceAt.below H5.out (good_flat cLayer_len) hb (Nat.le_refl _))
    clear hO hb
    by_cases hlt : k < l.length
    · obtain ⟨b, o, cs, rfl, hbl, hat, hd⟩ := sliceAt_cell HXr.out k hlt
      have HSN := Lib.hid (rec_step a0 l k hlt)
      have HLN := Lib.hid (rec_len a0 l k)
      have hks := HN.out l[k] (List.getElem_mem hlt)
      generalize l[k] = p at *
      obtain ⟨b0, b1⟩ := p
      simp only [rFlat, cLayer] at hat
      subst hat
      have d0 := hd 0 (by decide)
      have d1 := hd 1 (by decide)
      simp only [List.getElem?_cons_zero, List.getElem?_cons_succ, Nat.add_zero] at d0 d1 hks
      have HCT := Lib.hid (fun W => copyText_any ⟨b0.toArray⟩ W (by rw [← size_list]; simp; omega))
      have HW := Lib.hid (belS HB.out (bx_box wr (.cells #[.string ⟨b0.toArray⟩, .int .i64 b1] 81)))
      generalize a0 :: (l.take k).map (·.fName) = ys at *
      clear hks hd
      go_wp2_with fail
      refine (HCT.out _).mono ?_
      rintro e w2 ⟨rfl, hb⟩
      have HB3 := Lib.hid (belS HW.out hb)
      have HO3 := Lib.hid (owns_below (owns_alloc HO.out _) hb (Nat.le_refl _))
      have hys := HLN.out
      clear hb
      go_wp2_with (at_builtin; (refine append_strs rfl _ _ rfl w.heap.size u3 ys b0 _ w2.heap.size (by rfl) (owns_alloc HO3.out _) rfl (cell_new _ _ _) (by omega) (by have := HB3.out.size; simp; omega) ?_; intro v' w3 hO1 hg1))
      have HB4 := Lib.hid (below_append (HB3.out.alloc HB3.out.size _) (owns_alloc HO3.out _) hg1 (by have := HB3.out.size; simp; omega))
      exact ⟨⟨k + 1, by omega, by go_num, by rw [HSN.out]; exact hO1, HB4.out⟩, by simp [intOf]; omega⟩
    · have HE := Lib.hid (show a0 :: (l.take k).map (·.fName) = res by rw [HR.out, List.take_of_length_le (by omega)])
      go_wp2
      go_ret
      exact ⟨u3, rfl, by rw [← HE.out]; exact HO.out, HB.out⟩
end Go.Proofs.Ytaihdjdaamglnaa
/- Recipes, plain: what is made is valid, has the recipe and the face, and each beginning of it can be made. -/
namespace Go.Proofs.Ytaihdjdaamglnaa
set_option linter.unusedVariables false
set_option linter.unusedSimpArgs false
open Go.RowKit
theorem getD_app {α : Type} (l ys : List α) (d : α) (i : Nat) (h : i < l.length) : (l ++ ys).getD i d = l.getD i d := by
  rw [List.getD_eq_getElem?_getD, List.getD_eq_getElem?_getD, List.getElem?_append_left h]
theorem faceN_app (c : CoreD) (ls ys : List LayerD) (i : Nat) (h : i ≤ ls.length) : faceN ⟨c, ls ++ ys⟩ i = faceN ⟨c, ls⟩ i := by
  cases i with
  | zero => rfl
  | succ i =>
    show giveI (layI ((ls ++ ys).getD i default).fName) = giveI (layI (ls.getD i default).fName)
    rw [getD_app _ _ _ _ (by omega)]
theorem layOk_app (c : CoreD) (ls ys : List LayerD) (i : Nat) (h : i < ls.length) : layOk ⟨c, ls ++ ys⟩ i = layOk ⟨c, ls⟩ i := by
  unfold layOk
  rw [faceN_app c ls ys i (by omega)]
  simp only
  rw [getD_app _ _ _ _ h]
theorem wrapI_zero {p : PartD} {s : List UInt8} (h : wrapI p s = 0) : partB p = true ∧ 0 ≤ layI s ∧ p.fLayers.length ≠ 3 ∧ offersF (faceP p) (needI (layI s)) = true := by
  unfold wrapI at h
  by_cases h1 : partB p = true ∧ 0 ≤ layI s
  · rw [if_pos h1] at h
    by_cases h2 : p.fLayers.length = 3
    · rw [if_pos h2] at h; cases h
    · rw [if_neg h2] at h
      by_cases h3 : offersF (faceP p) (needI (layI s)) = true
      · exact ⟨h1.1, h1.2, h2, h3⟩
      · rw [if_neg h3] at h; cases h
  · rw [if_neg h1] at h; cases h
theorem wrapP_zero {p : PartD} {s : List UInt8} (h : wrapI p s = 0) : wrapP p s = ⟨p.fCore, p.fLayers ++ [⟨s, 0⟩]⟩ := by unfold wrapP; rw [if_pos h]
theorem wrap_part {p : PartD} {s : List UInt8} (h : wrapI p s = 0) : partB (wrapP p s) = true := by
  obtain ⟨h1, h2, h3, h4⟩ := wrapI_zero h
  rw [wrapP_zero h]
  obtain ⟨c, ls⟩ := p
  simp only at h3 ⊢
  have hc := partB_core h1
  have hl := partB_len h1
  have hk := partB_lay h1
  simp only at hc hl hk
  unfold partB
  rw [Bool.and_eq_true, Bool.and_eq_true]
  refine ⟨⟨hc, decide_eq_true (by simp; omega)⟩, ?_⟩
  unfold layTo
  rw [List.all_eq_true]
  intro i hi
  rw [List.mem_range] at hi
  simp only [List.length_append, List.length_cons, List.length_nil] at hi
  by_cases hlt : i < ls.length
  · rw [layOk_app c ls _ i hlt]; exact hk i hlt
  · obtain rfl : i = ls.length := by omega
    rw [layOk_of ⟨c, ls ++ [(⟨s, 0⟩ : LayerD)]⟩ ls.length (by simp) (⟨s, 0⟩ : LayerD) (by simp), faceN_app c ls _ _ (Nat.le_refl _)]
    rw [Bool.and_eq_true, Bool.and_eq_true]
    refine ⟨⟨decide_eq_true h2, h4⟩, ?_⟩
    unfold cntB
    split
    · show numB 0 = true
      decide
    · rfl
theorem newP_part {k : List UInt8} (h : 0 ≤ kindI k) : partB (newP k) = true := by
  unfold partB newP coreB
  rw [show decide (0 ≤ kindI k) = true from decide_eq_true h]
  rfl
theorem makeGo_ok (r : List (List UInt8)) : ∀ {p : PartD}, (partB p = true) → (makeGo p r).2.fCode = 0 → partB (makeGo p r).1 = true ∧ (makeGo p r).1.fCore = p.fCore ∧ (makeGo p r).1.fLayers.map (·.fName) = p.fLayers.map (·.fName) ++ r ∧
    ∀ j (hj : j < r.length), (makeGo p (r.take j)).2.fCode = 0 ∧ 0 ≤ layI r[j] ∧ offersF (faceP (makeGo p (r.take j)).1) (needI (layI r[j])) = true := by
  induction r with
  | nil => intro p hp h; exact ⟨hp, rfl, by simp [makeGo], fun j hj => absurd hj (Nat.not_lt_zero _)⟩
  | cons s r ih =>
    intro p hp h
    by_cases hi : wrapI p s = 0
    · rw [makeGo_on hi] at h ⊢
      obtain ⟨h1, h2, h3, h4⟩ := ih (wrap_part hi) h
      obtain ⟨w1, w2, w3, w4⟩ := wrapI_zero hi
      refine ⟨h1, h2.trans (wrapP_core p s), ?_, fun j hj => ?_⟩
      · rw [h3, wrapP_zero hi]; simp
      · cases j with
        | zero => exact ⟨rfl, w2, w4⟩
        | succ j =>
          rw [List.take_succ_cons, makeGo_on hi]
          exact h4 j (by simpa using hj)
    · rw [makeGo_stop hi] at h
      exact absurd h hi
theorem makeGo_no (r : List (List UInt8)) : ∀ {p : PartD}, (makeGo p r).2.fCode ≠ 0 → (makeGo p r).1 = zeroP := by
  induction r with
  | nil => intro p h; exact absurd rfl h
  | cons s r ih =>
    intro p h
    by_cases hi : wrapI p s = 0
    · rw [makeGo_on hi] at h ⊢; exact ih h
    · rw [makeGo_stop hi]
theorem make_no {l : List (List UInt8)} (h : recB l = false) : (makePR l).1 = zeroP ∧ recI l = 0 := by
  unfold recB at h
  have hc : (makePR l).2.fCode ≠ 0 := of_decide_eq_false h
  refine ⟨?_, by unfold recI; rw [if_neg hc]⟩
  cases l with
  | nil => rfl
  | cons k r =>
    by_cases hk : 0 ≤ kindI k
    · have e : makePR (k :: r) = makeGo (newP k) r := if_pos hk
      rw [e] at hc ⊢; exact makeGo_no r hc
    · have e : makePR (k :: r) = (zeroP, ⟨7, 0, [], 0, 0⟩) := if_neg hk
      rw [e]
theorem make_ok {l : List (List UInt8)} (h : recB l = true) : partB (makePR l).1 = true ∧ recL (makePR l).1 = l ∧ faceP (makePR l).1 = recI l ∧ (makePR l).2.fValue = recI l ∧ (makePR l).2.fCode = 0 ∧
    ∀ i (hi : i < l.length), 1 ≤ i → recB (l.take i) = true ∧ 0 ≤ layI l[i] ∧ offersF (recI (l.take i)) (needI (layI l[i])) = true := by
  unfold recB at h
  have hc : (makePR l).2.fCode = 0 := of_decide_eq_true h
  have hI : recI l = faceP (makePR l).1 := if_pos hc
  refine ⟨?_, ?_, hI.symm, by rw [hI]; exact makePR_val hc, hc, ?_⟩
  all_goals
    cases l with
    | nil => cases hc
    | cons k r =>
      by_cases hk : 0 ≤ kindI k
      · have e : makePR (k :: r) = makeGo (newP k) r := if_pos hk
        rw [e] at hc
        obtain ⟨h1, h2, h3, h4⟩ := makeGo_ok r (newP_part hk) hc
        first
          | (rw [e]; exact h1)
          | (rw [e]; unfold recL; rw [h2, h3]; rfl)
          | (intro i hi h1i
             obtain ⟨j, rfl⟩ : ∃ j, i = j + 1 := ⟨i - 1, by omega⟩
             have hj : j < r.length := by simpa using hi
             obtain ⟨q1, q2, q3⟩ := h4 j hj
             have e2 : makePR ((k :: r).take (j + 1)) = makeGo (newP k) (r.take j) := by rw [List.take_succ_cons]; exact if_pos hk
             refine ⟨by unfold recB; rw [e2]; exact decide_eq_true q1, by simpa using q2, ?_⟩
             have e3 : recI ((k :: r).take (j + 1)) = faceP (makeGo (newP k) (r.take j)).1 := by unfold recI; rw [e2, if_pos q1]
             rw [e3]; simpa using q3)
      · have e : makePR (k :: r) = (zeroP, ⟨7, 0, [], 0, 0⟩) := if_neg hk
        rw [e] at hc; cases hc
end Go.Proofs.Ytaihdjdaamglnaa
/- Contracts of chapter 4: Wrap, the program's. Written by gen/ch4wr.py. -/
namespace Go.Proofs.Ytaihdjdaamglnaa
set_option linter.unusedVariables false
set_option linter.unusedSimpArgs false
open Go.RowKit
set_option maxRecDepth 100000 in
set_option maxHeartbeats 3200000 in
theorem implWrap_bad1 (v : Value) (x : PartD) (s : ByteArray) (w : World) (hx : ValAt rPart 0 w v x) (hs : SmallP x) (hk : ∀ c ∈ x.fCore.fCells, c.fKey.length ≤ maxLen) (hz : s.size ≤ 1048576) (hc : ¬ 0 ≤ layI s.data.toList) :
    Calls Try.prog 11 #[v, .string s] w fun e w' => GivesOPR (wrapP x s.data.toList) (wrapR x s.data.toList) w e w' := by
  obtain ⟨hwp, hwr⟩ := wrap_bad (x := x) (s := s.data.toList) (fun h => hc h.2)
  rw [hwp, hwr]
  clear hwp hwr
  have HTX := Lib.hid (fun W => copyText_any s W (by omega))
  obtain ⟨_, rfl, hx⟩ := hx
  have HX := Lib.hid (fun W (hb : Below w.heap.size w W) => goodPart.keep hx (kept_below hb (Nat.le_refl _)))
  have HIP := Lib.hid (fun cs W (h : rPart 0 W cs x) => implIsPart_any (.agg cs.toArray) x W ⟨cs, rfl, h⟩ hk)
  have HCP := Lib.hid (fun cs W (h : rPart 0 W cs x) => copyPart_c (.agg cs.toArray) x W ⟨cs, rfl, h⟩ hs)
  have HLN := Lib.hid (fun W => implLayerNeeds_any s W)
  have HSZ := Lib.hid hs.lays
  unfold ndV at HLN
  unfold GivesOPR vReply
  unfold GivesOP at HCP
  rw [show decide (0 ≤ layI s.data.toList) = false from decide_eq_false hc] at HLN
  generalize needI (layI s.data.toList) = nd at *
  obtain ⟨⟨a0, a1, a2, a3, a4⟩, l⟩ := x
  obtain ⟨v3, v5, rfl, h3, h5⟩ := hx
  simp only at h3 h5 HSZ
  obtain ⟨ra, rc, rfl, _⟩ := sliceAt_len h3
  obtain ⟨sa, sc, rfl, hl, hcap⟩ := sliceAt_cap h5
  clear h3 h5 hs hk hcap hl
  have BS := Lib.hid (bx_start3 w [.string ⟨a0.toArray⟩, .bool a1, .bool a2, .slice ra a3.length rc, .int .i64 a4, .slice sa l.length sc] [.string ⟨#[]⟩, .bool false, .bool false, .slice none 0 0, .int .i64 0, .slice none 0 0] [.int .i64 0, .int .i64 0, .string ⟨#[]⟩, .int .i64 0, .int .i64 0] 29 29 33)
  have HR0 := Lib.hid (HX.out _ BS.out.2.2.2)
  clear hc
  go_enter Try.func11, Try.ntmps11
  go_wp2_with fail
  refine (HCP.out _ _ HR0.out).mono ?_
  rintro e w1 ⟨_, rfl, ⟨u3, u5, rfl, ho3, ho5⟩, hb⟩
  have HPQ := Lib.hid (fun (hsm : SmallP (⟨⟨a0, a1, a2, a3, a4⟩, l⟩ : PartD)) => oPart_r ⟨u3, u5, rfl, ho3, ho5⟩ hsm)
  simp only at ho3 ho5
  obtain ⟨ga, gc, rfl⟩ := slice_of ho3
  obtain ⟨ua, uc, rfl⟩ := slice_of ho5
  have HB1 := Lib.hid ((belS BS.out.2.2.2 hb).alloc (belS BS.out.2.2.2 hb).size (.cells #[.string ⟨a0.toArray⟩, .bool a1, .bool a2, .slice ga a3.length gc, .int .i64 a4, .slice ua l.length uc] 29))
  have B41 := Lib.hid ((BS.out.2.1.below hb).alloc (.cells #[.string ⟨a0.toArray⟩, .bool a1, .bool a2, .slice ga a3.length gc, .int .i64 a4, .slice ua l.length uc] 29))
  have B51 := Lib.hid ((BS.out.2.2.1.below hb).alloc (.cells #[.string ⟨a0.toArray⟩, .bool a1, .bool a2, .slice ga a3.length gc, .int .i64 a4, .slice ua l.length uc] 29))
  have BQ1 := Lib.hid (Bx.new w1 [.string ⟨a0.toArray⟩, .bool a1, .bool a2, .slice ga a3.length gc, .int .i64 a4, .slice ua l.length uc] 29)
  have O3 := Lib.hid (ownsF_alloc (ownsF_base (B' := w.heap.size + 1 + 1 + 1) ho3 (by simp)) (.cells #[.string ⟨a0.toArray⟩, .bool a1, .bool a2, .slice ga a3.length gc, .int .i64 a4, .slice ua l.length uc] 29))
  have O5 := Lib.hid (ownsF_alloc (ownsF_base (B' := w.heap.size + 1 + 1 + 1) ho5 (by simp)) (.cells #[.string ⟨a0.toArray⟩, .bool a1, .bool a2, .slice ga a3.length gc, .int .i64 a4, .slice ua l.length uc] 29))
  have h3s := hb.size
  simp at h3s
  clear hb ho3 ho5 BS
  go_wp2_with fail
  refine (HLN.out _).mono ?_
  rintro e w2 ⟨rfl, rfl⟩
  have q0 := BQ1.out.cell 0 (by simp)
  have q1 := BQ1.out.cell 1 (by simp)
  have q2 := BQ1.out.cell 2 (by simp)
  have q3 := BQ1.out.cell 3 (by simp)
  have q4 := BQ1.out.cell 4 (by simp)
  have q5 := BQ1.out.cell 5 (by simp)
  simp only [List.getElem_cons_zero, List.getElem_cons_succ] at q0 q1 q2 q3 q4 q5
  have r0 := B41.out.cell 0 (by simp)
  have r1 := B41.out.cell 1 (by simp)
  have r2 := B41.out.cell 2 (by simp)
  have r3 := B41.out.cell 3 (by simp)
  have r4 := B41.out.cell 4 (by simp)
  have r5 := B41.out.cell 5 (by simp)
  simp only [List.getElem_cons_zero, List.getElem_cons_succ] at r0 r1 r2 r3 r4 r5
  have z0 := B41.out.froz 0 (by simp)
  have z1 := B41.out.froz 1 (by simp)
  have z2 := B41.out.froz 2 (by simp)
  have z3 := B41.out.froz 3 (by simp)
  have z4 := B41.out.froz 4 (by simp)
  have z5 := B41.out.froz 5 (by simp)
  have s0 := B51.out.cell 0 (by simp)
  have s1 := B51.out.cell 1 (by simp)
  have s2 := B51.out.cell 2 (by simp)
  have s3 := B51.out.cell 3 (by simp)
  have s4 := B51.out.cell 4 (by simp)
  simp only [List.getElem_cons_zero, List.getElem_cons_succ] at s0 s1 s2 s3 s4
  have y0 := B51.out.froz 0 (by simp)
  have y1 := B51.out.froz 1 (by simp)
  have y2 := B51.out.froz 2 (by simp)
  have y3 := B51.out.froz 3 (by simp)
  have y4 := B51.out.froz 4 (by simp)
  go_wp2_with fail
  clear q0 q1 q2 q3 q4 q5
  clear r0 r1 r2 r3 r4 r5 z0 z1 z2 z3 z4 z5 s0 s1 s2 s3 s4 y0 y1 y2 y3 y4
  have E4 := Lib.hid ((B41.out.put6 (.string ⟨a0.toArray⟩) (.bool a1) (.bool a2) (.slice ga a3.length gc) (.int .i64 a4) (.slice ua l.length uc)).put5o (c := w.heap.size + 1 + 1) (by omega) (.int .i64 7) (.int .i64 0) (.string ⟨#[]⟩) (.int .i64 0) (.int .i64 0))
  have E5 := Lib.hid ((B51.out.put6o (c := w.heap.size + 1) (by omega) (.string ⟨a0.toArray⟩) (.bool a1) (.bool a2) (.slice ga a3.length gc) (.int .i64 a4) (.slice ua l.length uc)).put5 (.int .i64 7) (.int .i64 0) (.string ⟨#[]⟩) (.int .i64 0) (.int .i64 0))
  have EB := Lib.hid (below_put5 (below_put6 HB1.out (w.heap.size + 1) (by omega) (.string ⟨a0.toArray⟩) (.bool a1) (.bool a2) (.slice ga a3.length gc) (.int .i64 a4) (.slice ua l.length uc)) (w.heap.size + 1 + 1) (by omega) (.int .i64 7) (.int .i64 0) (.string ⟨#[]⟩) (.int .i64 0) (.int .i64 0))
  have OC := Lib.hid (ownsF_put5 (ownsF_put6 O3.out (w.heap.size + 1) (by omega) (.string ⟨a0.toArray⟩) (.bool a1) (.bool a2) (.slice ga a3.length gc) (.int .i64 a4) (.slice ua l.length uc)) (w.heap.size + 1 + 1) (by omega) (.int .i64 7) (.int .i64 0) (.string ⟨#[]⟩) (.int .i64 0) (.int .i64 0))
  have OL := Lib.hid (ownsF_put5 (ownsF_put6 O5.out (w.heap.size + 1) (by omega) (.string ⟨a0.toArray⟩) (.bool a1) (.bool a2) (.slice ga a3.length gc) (.int .i64 a4) (.slice ua l.length uc)) (w.heap.size + 1 + 1) (by omega) (.int .i64 7) (.int .i64 0) (.string ⟨#[]⟩) (.int .i64 0) (.int .i64 0))
  generalize ((((((((((((w1.alloc (.cells #[.string ⟨a0.toArray⟩, .bool a1, .bool a2, .slice ga a3.length gc, .int .i64 a4, .slice ua l.length uc] 29)).setCell ⟨w.heap.size + 1, 0, none⟩ (.string ⟨a0.toArray⟩)).setCell ⟨w.heap.size + 1, 1, none⟩ (.bool a1)).setCell ⟨w.heap.size + 1, 2, none⟩ (.bool a2)).setCell ⟨w.heap.size + 1, 3, none⟩ (.slice ga a3.length gc)).setCell ⟨w.heap.size + 1, 4, none⟩ (.int .i64 a4)).setCell ⟨w.heap.size + 1, 5, none⟩ (.slice ua l.length uc)).setCell ⟨w.heap.size + 1 + 1, 0, none⟩ (.int .i64 7)).setCell ⟨w.heap.size + 1 + 1, 1, none⟩ (.int .i64 0)).setCell ⟨w.heap.size + 1 + 1, 2, none⟩ (.string ⟨#[]⟩)).setCell ⟨w.heap.size + 1 + 1, 3, none⟩ (.int .i64 0)).setCell ⟨w.heap.size + 1 + 1, 4, none⟩ (.int .i64 0)) = WE at *
  have r0 := E4.out.cell 0 (by simp)
  have r1 := E4.out.cell 1 (by simp)
  have r2 := E4.out.cell 2 (by simp)
  have r3 := E4.out.cell 3 (by simp)
  have r4 := E4.out.cell 4 (by simp)
  have r5 := E4.out.cell 5 (by simp)
  simp only [List.getElem_cons_zero, List.getElem_cons_succ] at r0 r1 r2 r3 r4 r5
  have s0 := E5.out.cell 0 (by simp)
  have s1 := E5.out.cell 1 (by simp)
  have s2 := E5.out.cell 2 (by simp)
  have s3 := E5.out.cell 3 (by simp)
  have s4 := E5.out.cell 4 (by simp)
  simp only [List.getElem_cons_zero, List.getElem_cons_succ] at s0 s1 s2 s3 s4
  exact bodyPost_ret (v := .tuple #[.agg #[.string ⟨a0.toArray⟩, .bool a1, .bool a2, .slice ga a3.length gc, .int .i64 a4, .slice ua l.length uc], .agg #[.int .i64 7, .int .i64 0, .string ⟨#[]⟩, .int .i64 0, .int .i64 0]]) (by simp [results, Try.results11, go_sem, r0, r1, r2, r3, r4, r5, s0, s1, s2, s3, s4]) rfl ⟨_, rfl, ⟨_, _, rfl, ownsF_base OC.out (by omega), ownsF_base OL.out (by omega)⟩, EB.out⟩
set_option maxRecDepth 100000 in
set_option maxHeartbeats 3200000 in
theorem implWrap_bad2 (v : Value) (x : PartD) (s : ByteArray) (w : World) (hx : ValAt rPart 0 w v x) (hs : SmallP x) (hk : ∀ c ∈ x.fCore.fCells, c.fKey.length ≤ maxLen) (hz : s.size ≤ 1048576) (hc : 0 ≤ layI s.data.toList) (hp : partB x = false) :
    Calls Try.prog 11 #[v, .string s] w fun e w' => GivesOPR (wrapP x s.data.toList) (wrapR x s.data.toList) w e w' := by
  obtain ⟨hwp, hwr⟩ := wrap_bad (x := x) (s := s.data.toList) (fun h => by rw [hp] at h; exact absurd h.1 (by decide))
  rw [hwp, hwr]
  clear hwp hwr
  have HTX := Lib.hid (fun W => copyText_any s W (by omega))
  obtain ⟨_, rfl, hx⟩ := hx
  have HX := Lib.hid (fun W (hb : Below w.heap.size w W) => goodPart.keep hx (kept_below hb (Nat.le_refl _)))
  have HIP := Lib.hid (fun cs W (h : rPart 0 W cs x) => implIsPart_any (.agg cs.toArray) x W ⟨cs, rfl, h⟩ hk)
  have HCP := Lib.hid (fun cs W (h : rPart 0 W cs x) => copyPart_c (.agg cs.toArray) x W ⟨cs, rfl, h⟩ hs)
  have HLN := Lib.hid (fun W => implLayerNeeds_any s W)
  have HSZ := Lib.hid hs.lays
  unfold ndV at HLN
  unfold GivesOPR vReply
  unfold GivesOP at HCP
  rw [show decide (0 ≤ layI s.data.toList) = true from decide_eq_true hc] at HLN
  rw [hp] at HIP
  generalize needI (layI s.data.toList) = nd at *
  have HSP := Lib.hid hs
  obtain ⟨⟨a0, a1, a2, a3, a4⟩, l⟩ := x
  obtain ⟨v3, v5, rfl, h3, h5⟩ := hx
  simp only at h3 h5 HSZ
  obtain ⟨ra, rc, rfl, _⟩ := sliceAt_len h3
  obtain ⟨sa, sc, rfl, hl, hcap⟩ := sliceAt_cap h5
  clear h3 h5 hs hk hcap hl
  have BS := Lib.hid (bx_start3 w [.string ⟨a0.toArray⟩, .bool a1, .bool a2, .slice ra a3.length rc, .int .i64 a4, .slice sa l.length sc] [.string ⟨#[]⟩, .bool false, .bool false, .slice none 0 0, .int .i64 0, .slice none 0 0] [.int .i64 0, .int .i64 0, .string ⟨#[]⟩, .int .i64 0, .int .i64 0] 29 29 33)
  have HR0 := Lib.hid (HX.out _ BS.out.2.2.2)
  clear hc hp
  go_enter Try.func11, Try.ntmps11
  go_wp2_with fail
  refine (HCP.out _ _ HR0.out).mono ?_
  rintro e w1 ⟨_, rfl, ⟨u3, u5, rfl, ho3, ho5⟩, hb⟩
  simp only at ho3 ho5
  obtain ⟨ga, gc, rfl⟩ := slice_of ho3
  obtain ⟨ua, uc, rfl⟩ := slice_of ho5
  have HB1 := Lib.hid ((belS BS.out.2.2.2 hb).alloc (belS BS.out.2.2.2 hb).size (.cells #[.string ⟨a0.toArray⟩, .bool a1, .bool a2, .slice ga a3.length gc, .int .i64 a4, .slice ua l.length uc] 29))
  have B41 := Lib.hid ((BS.out.2.1.below hb).alloc (.cells #[.string ⟨a0.toArray⟩, .bool a1, .bool a2, .slice ga a3.length gc, .int .i64 a4, .slice ua l.length uc] 29))
  have B51 := Lib.hid ((BS.out.2.2.1.below hb).alloc (.cells #[.string ⟨a0.toArray⟩, .bool a1, .bool a2, .slice ga a3.length gc, .int .i64 a4, .slice ua l.length uc] 29))
  have BQ1 := Lib.hid (Bx.new w1 [.string ⟨a0.toArray⟩, .bool a1, .bool a2, .slice ga a3.length gc, .int .i64 a4, .slice ua l.length uc] 29)
  have O3 := Lib.hid (ownsF_alloc (ownsF_base (B' := w.heap.size + 1 + 1 + 1) ho3 (by simp)) (.cells #[.string ⟨a0.toArray⟩, .bool a1, .bool a2, .slice ga a3.length gc, .int .i64 a4, .slice ua l.length uc] 29))
  have O5 := Lib.hid (ownsF_alloc (ownsF_base (B' := w.heap.size + 1 + 1 + 1) ho5 (by simp)) (.cells #[.string ⟨a0.toArray⟩, .bool a1, .bool a2, .slice ga a3.length gc, .int .i64 a4, .slice ua l.length uc] 29))
  have h3s := hb.size
  simp at h3s
  clear hb ho3 ho5 BS
  go_wp2_with fail
  refine (HLN.out _).mono ?_
  rintro e w2 ⟨rfl, rfl⟩
  have q0 := BQ1.out.cell 0 (by simp)
  have q1 := BQ1.out.cell 1 (by simp)
  have q2 := BQ1.out.cell 2 (by simp)
  have q3 := BQ1.out.cell 3 (by simp)
  have q4 := BQ1.out.cell 4 (by simp)
  have q5 := BQ1.out.cell 5 (by simp)
  simp only [List.getElem_cons_zero, List.getElem_cons_succ] at q0 q1 q2 q3 q4 q5
  have HRQ := Lib.hid (show rPart 0 (w1.alloc (.cells #[.string ⟨a0.toArray⟩, .bool a1, .bool a2, .slice ga a3.length gc, .int .i64 a4, .slice ua l.length uc] 29)) [.string ⟨a0.toArray⟩, .bool a1, .bool a2, .slice ga a3.length gc, .int .i64 a4, .slice ua l.length uc] ⟨⟨a0, a1, a2, a3, a4⟩, l⟩ from goodPart.mono (oPart_r ⟨_, _, rfl, O3.out, O5.out⟩ HSP.out) (Nat.zero_le _))
  go_wp2_with fail
  refine (HIP.out _ _ HRQ.out).mono ?_
  rintro e w2 ⟨rfl, hb⟩
  have HB2 := Lib.hid (belS HB1.out hb)
  have B42 := Lib.hid (B41.out.below hb)
  have B52 := Lib.hid (B51.out.below hb)
  have BQ2 := Lib.hid (BQ1.out.below hb)
  have P3 := Lib.hid (ownsF_below O3.out hb (Nat.le_refl _))
  have P5 := Lib.hid (ownsF_below O5.out hb (Nat.le_refl _))
  have h4s := hb.size
  simp at h4s
  clear hb q0 q1 q2 q3 q4 q5
  have q0 := BQ2.out.cell 0 (by simp)
  have q1 := BQ2.out.cell 1 (by simp)
  have q2 := BQ2.out.cell 2 (by simp)
  have q3 := BQ2.out.cell 3 (by simp)
  have q4 := BQ2.out.cell 4 (by simp)
  have q5 := BQ2.out.cell 5 (by simp)
  simp only [List.getElem_cons_zero, List.getElem_cons_succ] at q0 q1 q2 q3 q4 q5
  have r0 := B42.out.cell 0 (by simp)
  have r1 := B42.out.cell 1 (by simp)
  have r2 := B42.out.cell 2 (by simp)
  have r3 := B42.out.cell 3 (by simp)
  have r4 := B42.out.cell 4 (by simp)
  have r5 := B42.out.cell 5 (by simp)
  simp only [List.getElem_cons_zero, List.getElem_cons_succ] at r0 r1 r2 r3 r4 r5
  have z0 := B42.out.froz 0 (by simp)
  have z1 := B42.out.froz 1 (by simp)
  have z2 := B42.out.froz 2 (by simp)
  have z3 := B42.out.froz 3 (by simp)
  have z4 := B42.out.froz 4 (by simp)
  have z5 := B42.out.froz 5 (by simp)
  have s0 := B52.out.cell 0 (by simp)
  have s1 := B52.out.cell 1 (by simp)
  have s2 := B52.out.cell 2 (by simp)
  have s3 := B52.out.cell 3 (by simp)
  have s4 := B52.out.cell 4 (by simp)
  simp only [List.getElem_cons_zero, List.getElem_cons_succ] at s0 s1 s2 s3 s4
  have y0 := B52.out.froz 0 (by simp)
  have y1 := B52.out.froz 1 (by simp)
  have y2 := B52.out.froz 2 (by simp)
  have y3 := B52.out.froz 3 (by simp)
  have y4 := B52.out.froz 4 (by simp)
  go_wp2_with fail
  clear q0 q1 q2 q3 q4 q5
  clear r0 r1 r2 r3 r4 r5 z0 z1 z2 z3 z4 z5 s0 s1 s2 s3 s4 y0 y1 y2 y3 y4
  have E4 := Lib.hid ((B42.out.put6 (.string ⟨a0.toArray⟩) (.bool a1) (.bool a2) (.slice ga a3.length gc) (.int .i64 a4) (.slice ua l.length uc)).put5o (c := w.heap.size + 1 + 1) (by omega) (.int .i64 7) (.int .i64 0) (.string ⟨#[]⟩) (.int .i64 0) (.int .i64 0))
  have E5 := Lib.hid ((B52.out.put6o (c := w.heap.size + 1) (by omega) (.string ⟨a0.toArray⟩) (.bool a1) (.bool a2) (.slice ga a3.length gc) (.int .i64 a4) (.slice ua l.length uc)).put5 (.int .i64 7) (.int .i64 0) (.string ⟨#[]⟩) (.int .i64 0) (.int .i64 0))
  have EB := Lib.hid (below_put5 (below_put6 HB2.out (w.heap.size + 1) (by omega) (.string ⟨a0.toArray⟩) (.bool a1) (.bool a2) (.slice ga a3.length gc) (.int .i64 a4) (.slice ua l.length uc)) (w.heap.size + 1 + 1) (by omega) (.int .i64 7) (.int .i64 0) (.string ⟨#[]⟩) (.int .i64 0) (.int .i64 0))
  have OC := Lib.hid (ownsF_put5 (ownsF_put6 P3.out (w.heap.size + 1) (by omega) (.string ⟨a0.toArray⟩) (.bool a1) (.bool a2) (.slice ga a3.length gc) (.int .i64 a4) (.slice ua l.length uc)) (w.heap.size + 1 + 1) (by omega) (.int .i64 7) (.int .i64 0) (.string ⟨#[]⟩) (.int .i64 0) (.int .i64 0))
  have OL := Lib.hid (ownsF_put5 (ownsF_put6 P5.out (w.heap.size + 1) (by omega) (.string ⟨a0.toArray⟩) (.bool a1) (.bool a2) (.slice ga a3.length gc) (.int .i64 a4) (.slice ua l.length uc)) (w.heap.size + 1 + 1) (by omega) (.int .i64 7) (.int .i64 0) (.string ⟨#[]⟩) (.int .i64 0) (.int .i64 0))
  generalize (((((((((((w2.setCell ⟨w.heap.size + 1, 0, none⟩ (.string ⟨a0.toArray⟩)).setCell ⟨w.heap.size + 1, 1, none⟩ (.bool a1)).setCell ⟨w.heap.size + 1, 2, none⟩ (.bool a2)).setCell ⟨w.heap.size + 1, 3, none⟩ (.slice ga a3.length gc)).setCell ⟨w.heap.size + 1, 4, none⟩ (.int .i64 a4)).setCell ⟨w.heap.size + 1, 5, none⟩ (.slice ua l.length uc)).setCell ⟨w.heap.size + 1 + 1, 0, none⟩ (.int .i64 7)).setCell ⟨w.heap.size + 1 + 1, 1, none⟩ (.int .i64 0)).setCell ⟨w.heap.size + 1 + 1, 2, none⟩ (.string ⟨#[]⟩)).setCell ⟨w.heap.size + 1 + 1, 3, none⟩ (.int .i64 0)).setCell ⟨w.heap.size + 1 + 1, 4, none⟩ (.int .i64 0)) = WE at *
  have r0 := E4.out.cell 0 (by simp)
  have r1 := E4.out.cell 1 (by simp)
  have r2 := E4.out.cell 2 (by simp)
  have r3 := E4.out.cell 3 (by simp)
  have r4 := E4.out.cell 4 (by simp)
  have r5 := E4.out.cell 5 (by simp)
  simp only [List.getElem_cons_zero, List.getElem_cons_succ] at r0 r1 r2 r3 r4 r5
  have s0 := E5.out.cell 0 (by simp)
  have s1 := E5.out.cell 1 (by simp)
  have s2 := E5.out.cell 2 (by simp)
  have s3 := E5.out.cell 3 (by simp)
  have s4 := E5.out.cell 4 (by simp)
  simp only [List.getElem_cons_zero, List.getElem_cons_succ] at s0 s1 s2 s3 s4
  exact bodyPost_ret (v := .tuple #[.agg #[.string ⟨a0.toArray⟩, .bool a1, .bool a2, .slice ga a3.length gc, .int .i64 a4, .slice ua l.length uc], .agg #[.int .i64 7, .int .i64 0, .string ⟨#[]⟩, .int .i64 0, .int .i64 0]]) (by simp [results, Try.results11, go_sem, r0, r1, r2, r3, r4, r5, s0, s1, s2, s3, s4]) rfl ⟨_, rfl, ⟨_, _, rfl, ownsF_base OC.out (by omega), ownsF_base OL.out (by omega)⟩, EB.out⟩
set_option maxRecDepth 100000 in
set_option maxHeartbeats 3200000 in
theorem implWrap_full (v : Value) (x : PartD) (s : ByteArray) (w : World) (hx : ValAt rPart 0 w v x) (hs : SmallP x) (hk : ∀ c ∈ x.fCore.fCells, c.fKey.length ≤ maxLen) (hz : s.size ≤ 1048576) (hc : 0 ≤ layI s.data.toList) (hp : partB x = true) (h3 : x.fLayers.length = 3) :
    Calls Try.prog 11 #[v, .string s] w fun e w' => GivesOPR (wrapP x s.data.toList) (wrapR x s.data.toList) w e w' := by
  obtain ⟨hwp, hwr⟩ := wrap_full (x := x) (s := s.data.toList) ⟨hp, hc⟩ h3
  rw [hwp, hwr]
  clear hwp hwr
  have HTX := Lib.hid (fun W => copyText_any s W (by omega))
  have H3 := Lib.hid h3
  clear h3
  obtain ⟨_, rfl, hx⟩ := hx
  have HX := Lib.hid (fun W (hb : Below w.heap.size w W) => goodPart.keep hx (kept_below hb (Nat.le_refl _)))
  have HIP := Lib.hid (fun cs W (h : rPart 0 W cs x) => implIsPart_any (.agg cs.toArray) x W ⟨cs, rfl, h⟩ hk)
  have HCP := Lib.hid (fun cs W (h : rPart 0 W cs x) => copyPart_c (.agg cs.toArray) x W ⟨cs, rfl, h⟩ hs)
  have HLN := Lib.hid (fun W => implLayerNeeds_any s W)
  have HSZ := Lib.hid hs.lays
  unfold ndV at HLN
  unfold GivesOPR vReply
  unfold GivesOP at HCP
  rw [show decide (0 ≤ layI s.data.toList) = true from decide_eq_true hc] at HLN
  rw [hp] at HIP
  generalize needI (layI s.data.toList) = nd at *
  have HSP := Lib.hid hs
  obtain ⟨⟨a0, a1, a2, a3, a4⟩, l⟩ := x
  obtain ⟨v3, v5, rfl, h3, h5⟩ := hx
  simp only at h3 h5 HSZ
  obtain ⟨ra, rc, rfl, _⟩ := sliceAt_len h3
  obtain ⟨sa, sc, rfl, hl, hcap⟩ := sliceAt_cap h5
  clear h3 h5 hs hk hcap hl
  have BS := Lib.hid (bx_start3 w [.string ⟨a0.toArray⟩, .bool a1, .bool a2, .slice ra a3.length rc, .int .i64 a4, .slice sa l.length sc] [.string ⟨#[]⟩, .bool false, .bool false, .slice none 0 0, .int .i64 0, .slice none 0 0] [.int .i64 0, .int .i64 0, .string ⟨#[]⟩, .int .i64 0, .int .i64 0] 29 29 33)
  have HR0 := Lib.hid (HX.out _ BS.out.2.2.2)
  clear hc hp
  go_enter Try.func11, Try.ntmps11
  go_wp2_with fail
  refine (HCP.out _ _ HR0.out).mono ?_
  rintro e w1 ⟨_, rfl, ⟨u3, u5, rfl, ho3, ho5⟩, hb⟩
  simp only at ho3 ho5
  obtain ⟨ga, gc, rfl⟩ := slice_of ho3
  obtain ⟨ua, uc, rfl⟩ := slice_of ho5
  have HB1 := Lib.hid ((belS BS.out.2.2.2 hb).alloc (belS BS.out.2.2.2 hb).size (.cells #[.string ⟨a0.toArray⟩, .bool a1, .bool a2, .slice ga a3.length gc, .int .i64 a4, .slice ua l.length uc] 29))
  have B41 := Lib.hid ((BS.out.2.1.below hb).alloc (.cells #[.string ⟨a0.toArray⟩, .bool a1, .bool a2, .slice ga a3.length gc, .int .i64 a4, .slice ua l.length uc] 29))
  have B51 := Lib.hid ((BS.out.2.2.1.below hb).alloc (.cells #[.string ⟨a0.toArray⟩, .bool a1, .bool a2, .slice ga a3.length gc, .int .i64 a4, .slice ua l.length uc] 29))
  have BQ1 := Lib.hid (Bx.new w1 [.string ⟨a0.toArray⟩, .bool a1, .bool a2, .slice ga a3.length gc, .int .i64 a4, .slice ua l.length uc] 29)
  have O3 := Lib.hid (ownsF_alloc (ownsF_base (B' := w.heap.size + 1 + 1 + 1) ho3 (by simp)) (.cells #[.string ⟨a0.toArray⟩, .bool a1, .bool a2, .slice ga a3.length gc, .int .i64 a4, .slice ua l.length uc] 29))
  have O5 := Lib.hid (ownsF_alloc (ownsF_base (B' := w.heap.size + 1 + 1 + 1) ho5 (by simp)) (.cells #[.string ⟨a0.toArray⟩, .bool a1, .bool a2, .slice ga a3.length gc, .int .i64 a4, .slice ua l.length uc] 29))
  have h3s := hb.size
  simp at h3s
  clear hb ho3 ho5 BS
  go_wp2_with fail
  refine (HLN.out _).mono ?_
  rintro e w2 ⟨rfl, rfl⟩
  have q0 := BQ1.out.cell 0 (by simp)
  have q1 := BQ1.out.cell 1 (by simp)
  have q2 := BQ1.out.cell 2 (by simp)
  have q3 := BQ1.out.cell 3 (by simp)
  have q4 := BQ1.out.cell 4 (by simp)
  have q5 := BQ1.out.cell 5 (by simp)
  simp only [List.getElem_cons_zero, List.getElem_cons_succ] at q0 q1 q2 q3 q4 q5
  have HRQ := Lib.hid (show rPart 0 (w1.alloc (.cells #[.string ⟨a0.toArray⟩, .bool a1, .bool a2, .slice ga a3.length gc, .int .i64 a4, .slice ua l.length uc] 29)) [.string ⟨a0.toArray⟩, .bool a1, .bool a2, .slice ga a3.length gc, .int .i64 a4, .slice ua l.length uc] ⟨⟨a0, a1, a2, a3, a4⟩, l⟩ from goodPart.mono (oPart_r ⟨_, _, rfl, O3.out, O5.out⟩ HSP.out) (Nat.zero_le _))
  go_wp2_with fail
  refine (HIP.out _ _ HRQ.out).mono ?_
  rintro e w2 ⟨rfl, hb⟩
  have HB2 := Lib.hid (belS HB1.out hb)
  have B42 := Lib.hid (B41.out.below hb)
  have B52 := Lib.hid (B51.out.below hb)
  have BQ2 := Lib.hid (BQ1.out.below hb)
  have P3 := Lib.hid (ownsF_below O3.out hb (Nat.le_refl _))
  have P5 := Lib.hid (ownsF_below O5.out hb (Nat.le_refl _))
  have h4s := hb.size
  simp at h4s
  clear hb q0 q1 q2 q3 q4 q5
  have h3 := H3.out
  try simp only at h3
  have hl3 : ((l.length : Int) == 3) = true := by rw [h3]; rfl
  clear h3
  have q0 := BQ2.out.cell 0 (by simp)
  have q1 := BQ2.out.cell 1 (by simp)
  have q2 := BQ2.out.cell 2 (by simp)
  have q3 := BQ2.out.cell 3 (by simp)
  have q4 := BQ2.out.cell 4 (by simp)
  have q5 := BQ2.out.cell 5 (by simp)
  simp only [List.getElem_cons_zero, List.getElem_cons_succ] at q0 q1 q2 q3 q4 q5
  have r0 := B42.out.cell 0 (by simp)
  have r1 := B42.out.cell 1 (by simp)
  have r2 := B42.out.cell 2 (by simp)
  have r3 := B42.out.cell 3 (by simp)
  have r4 := B42.out.cell 4 (by simp)
  have r5 := B42.out.cell 5 (by simp)
  simp only [List.getElem_cons_zero, List.getElem_cons_succ] at r0 r1 r2 r3 r4 r5
  have z0 := B42.out.froz 0 (by simp)
  have z1 := B42.out.froz 1 (by simp)
  have z2 := B42.out.froz 2 (by simp)
  have z3 := B42.out.froz 3 (by simp)
  have z4 := B42.out.froz 4 (by simp)
  have z5 := B42.out.froz 5 (by simp)
  have s0 := B52.out.cell 0 (by simp)
  have s1 := B52.out.cell 1 (by simp)
  have s2 := B52.out.cell 2 (by simp)
  have s3 := B52.out.cell 3 (by simp)
  have s4 := B52.out.cell 4 (by simp)
  simp only [List.getElem_cons_zero, List.getElem_cons_succ] at s0 s1 s2 s3 s4
  have y0 := B52.out.froz 0 (by simp)
  have y1 := B52.out.froz 1 (by simp)
  have y2 := B52.out.froz 2 (by simp)
  have y3 := B52.out.froz 3 (by simp)
  have y4 := B52.out.froz 4 (by simp)
  go_wp2_with fail
  clear q0 q1 q2 q3 q4 q5
  clear r0 r1 r2 r3 r4 r5 z0 z1 z2 z3 z4 z5 s0 s1 s2 s3 s4 y0 y1 y2 y3 y4
  have E4 := Lib.hid ((B42.out.put6 (.string ⟨a0.toArray⟩) (.bool a1) (.bool a2) (.slice ga a3.length gc) (.int .i64 a4) (.slice ua l.length uc)).put5o (c := w.heap.size + 1 + 1) (by omega) (.int .i64 5) (.int .i64 0) (.string ⟨#[]⟩) (.int .i64 0) (.int .i64 0))
  have E5 := Lib.hid ((B52.out.put6o (c := w.heap.size + 1) (by omega) (.string ⟨a0.toArray⟩) (.bool a1) (.bool a2) (.slice ga a3.length gc) (.int .i64 a4) (.slice ua l.length uc)).put5 (.int .i64 5) (.int .i64 0) (.string ⟨#[]⟩) (.int .i64 0) (.int .i64 0))
  have EB := Lib.hid (below_put5 (below_put6 HB2.out (w.heap.size + 1) (by omega) (.string ⟨a0.toArray⟩) (.bool a1) (.bool a2) (.slice ga a3.length gc) (.int .i64 a4) (.slice ua l.length uc)) (w.heap.size + 1 + 1) (by omega) (.int .i64 5) (.int .i64 0) (.string ⟨#[]⟩) (.int .i64 0) (.int .i64 0))
  have OC := Lib.hid (ownsF_put5 (ownsF_put6 P3.out (w.heap.size + 1) (by omega) (.string ⟨a0.toArray⟩) (.bool a1) (.bool a2) (.slice ga a3.length gc) (.int .i64 a4) (.slice ua l.length uc)) (w.heap.size + 1 + 1) (by omega) (.int .i64 5) (.int .i64 0) (.string ⟨#[]⟩) (.int .i64 0) (.int .i64 0))
  have OL := Lib.hid (ownsF_put5 (ownsF_put6 P5.out (w.heap.size + 1) (by omega) (.string ⟨a0.toArray⟩) (.bool a1) (.bool a2) (.slice ga a3.length gc) (.int .i64 a4) (.slice ua l.length uc)) (w.heap.size + 1 + 1) (by omega) (.int .i64 5) (.int .i64 0) (.string ⟨#[]⟩) (.int .i64 0) (.int .i64 0))
  generalize (((((((((((w2.setCell ⟨w.heap.size + 1, 0, none⟩ (.string ⟨a0.toArray⟩)).setCell ⟨w.heap.size + 1, 1, none⟩ (.bool a1)).setCell ⟨w.heap.size + 1, 2, none⟩ (.bool a2)).setCell ⟨w.heap.size + 1, 3, none⟩ (.slice ga a3.length gc)).setCell ⟨w.heap.size + 1, 4, none⟩ (.int .i64 a4)).setCell ⟨w.heap.size + 1, 5, none⟩ (.slice ua l.length uc)).setCell ⟨w.heap.size + 1 + 1, 0, none⟩ (.int .i64 5)).setCell ⟨w.heap.size + 1 + 1, 1, none⟩ (.int .i64 0)).setCell ⟨w.heap.size + 1 + 1, 2, none⟩ (.string ⟨#[]⟩)).setCell ⟨w.heap.size + 1 + 1, 3, none⟩ (.int .i64 0)).setCell ⟨w.heap.size + 1 + 1, 4, none⟩ (.int .i64 0)) = WE at *
  have r0 := E4.out.cell 0 (by simp)
  have r1 := E4.out.cell 1 (by simp)
  have r2 := E4.out.cell 2 (by simp)
  have r3 := E4.out.cell 3 (by simp)
  have r4 := E4.out.cell 4 (by simp)
  have r5 := E4.out.cell 5 (by simp)
  simp only [List.getElem_cons_zero, List.getElem_cons_succ] at r0 r1 r2 r3 r4 r5
  have s0 := E5.out.cell 0 (by simp)
  have s1 := E5.out.cell 1 (by simp)
  have s2 := E5.out.cell 2 (by simp)
  have s3 := E5.out.cell 3 (by simp)
  have s4 := E5.out.cell 4 (by simp)
  simp only [List.getElem_cons_zero, List.getElem_cons_succ] at s0 s1 s2 s3 s4
  exact bodyPost_ret (v := .tuple #[.agg #[.string ⟨a0.toArray⟩, .bool a1, .bool a2, .slice ga a3.length gc, .int .i64 a4, .slice ua l.length uc], .agg #[.int .i64 5, .int .i64 0, .string ⟨#[]⟩, .int .i64 0, .int .i64 0]]) (by simp [results, Try.results11, go_sem, r0, r1, r2, r3, r4, r5, s0, s1, s2, s3, s4]) rfl ⟨_, rfl, ⟨_, _, rfl, ownsF_base OC.out (by omega), ownsF_base OL.out (by omega)⟩, EB.out⟩
set_option maxRecDepth 100000 in
set_option maxHeartbeats 3200000 in
theorem implWrap_fail (v : Value) (x : PartD) (s : ByteArray) (w : World) (hx : ValAt rPart 0 w v x) (hs : SmallP x) (hk : ∀ c ∈ x.fCore.fCells, c.fKey.length ≤ maxLen) (hz : s.size ≤ 1048576) (hc : 0 ≤ layI s.data.toList) (hp : partB x = true) (h3 : ¬ x.fLayers.length = 3) (ho : offersF (faceP x) (needI (layI s.data.toList)) = false) :
    Calls Try.prog 11 #[v, .string s] w fun e w' => GivesOPR (wrapP x s.data.toList) (wrapR x s.data.toList) w e w' := by
  obtain ⟨hwp, hwr⟩ := wrap_fail (x := x) (s := s.data.toList) ⟨hp, hc⟩ h3 ho
  rw [hwp, hwr]
  clear hwp hwr
  have HTX := Lib.hid (fun W => copyText_any s W (by omega))
  have H3 := Lib.hid h3
  clear h3
  obtain ⟨q, hq1, hq2, hq3⟩ : ∃ q : Nat, layI s.data.toList = q ∧ q < 9 ∧ layN q = s.data.toList := by
    rcases layI_bd s.data.toList with h1 | h1
    · omega
    · exact h1
  have hn : needI (layI s.data.toList) = needN q := by rw [hq1]; unfold needI; rw [if_neg (by omega)]; rfl
  have hg : giveI (layI s.data.toList) = giveN q := by rw [hq1]; unfold giveI; rw [if_neg (by omega)]; rfl
  rw [hn] at ho
  rw [hn]
  have HWP := Lib.hid (fun b0 cs W (h : rPart 0 W cs x) (hb : Bx W b0 cs) => wholePart_c b0 cs x W h hb hp)
  have HNM := Lib.hid (show Value.string s = .string ⟨(layN q).toArray⟩ by rw [hq3])
  have HNS := Lib.hid hq3
  have HO := Lib.hid ho
  have HQ := Lib.hid hq2
  clear hq1 hn hg ho
  obtain ⟨_, rfl, hx⟩ := hx
  have HX := Lib.hid (fun W (hb : Below w.heap.size w W) => goodPart.keep hx (kept_below hb (Nat.le_refl _)))
  have HIP := Lib.hid (fun cs W (h : rPart 0 W cs x) => implIsPart_any (.agg cs.toArray) x W ⟨cs, rfl, h⟩ hk)
  have HCP := Lib.hid (fun cs W (h : rPart 0 W cs x) => copyPart_c (.agg cs.toArray) x W ⟨cs, rfl, h⟩ hs)
  have HLN := Lib.hid (fun W => implLayerNeeds_any s W)
  have HSZ := Lib.hid hs.lays
  unfold ndV at HLN
  unfold GivesOPR vReply
  unfold GivesOP at HCP
  rw [show decide (0 ≤ layI s.data.toList) = true from decide_eq_true hc] at HLN
  rw [hp] at HIP
  generalize needI (layI s.data.toList) = nd at HLN
  generalize faceP x = fp at *
  have HSP := Lib.hid hs
  obtain ⟨⟨a0, a1, a2, a3, a4⟩, l⟩ := x
  obtain ⟨v3, v5, rfl, h3, h5⟩ := hx
  simp only at h3 h5 HSZ
  obtain ⟨ra, rc, rfl, _⟩ := sliceAt_len h3
  obtain ⟨sa, sc, rfl, hl, hcap⟩ := sliceAt_cap h5
  clear h3 h5 hs hk hcap hl
  have BS := Lib.hid (bx_start3 w [.string ⟨a0.toArray⟩, .bool a1, .bool a2, .slice ra a3.length rc, .int .i64 a4, .slice sa l.length sc] [.string ⟨#[]⟩, .bool false, .bool false, .slice none 0 0, .int .i64 0, .slice none 0 0] [.int .i64 0, .int .i64 0, .string ⟨#[]⟩, .int .i64 0, .int .i64 0] 29 29 33)
  have HR0 := Lib.hid (HX.out _ BS.out.2.2.2)
  clear hc hp
  go_enter Try.func11, Try.ntmps11
  go_wp2_with fail
  refine (HCP.out _ _ HR0.out).mono ?_
  rintro e w1 ⟨_, rfl, ⟨u3, u5, rfl, ho3, ho5⟩, hb⟩
  simp only at ho3 ho5
  obtain ⟨ga, gc, rfl⟩ := slice_of ho3
  obtain ⟨ua, uc, rfl⟩ := slice_of ho5
  have HB1 := Lib.hid ((belS BS.out.2.2.2 hb).alloc (belS BS.out.2.2.2 hb).size (.cells #[.string ⟨a0.toArray⟩, .bool a1, .bool a2, .slice ga a3.length gc, .int .i64 a4, .slice ua l.length uc] 29))
  have B41 := Lib.hid ((BS.out.2.1.below hb).alloc (.cells #[.string ⟨a0.toArray⟩, .bool a1, .bool a2, .slice ga a3.length gc, .int .i64 a4, .slice ua l.length uc] 29))
  have B51 := Lib.hid ((BS.out.2.2.1.below hb).alloc (.cells #[.string ⟨a0.toArray⟩, .bool a1, .bool a2, .slice ga a3.length gc, .int .i64 a4, .slice ua l.length uc] 29))
  have BQ1 := Lib.hid (Bx.new w1 [.string ⟨a0.toArray⟩, .bool a1, .bool a2, .slice ga a3.length gc, .int .i64 a4, .slice ua l.length uc] 29)
  have O3 := Lib.hid (ownsF_alloc (ownsF_base (B' := w.heap.size + 1 + 1 + 1) ho3 (by simp)) (.cells #[.string ⟨a0.toArray⟩, .bool a1, .bool a2, .slice ga a3.length gc, .int .i64 a4, .slice ua l.length uc] 29))
  have O5 := Lib.hid (ownsF_alloc (ownsF_base (B' := w.heap.size + 1 + 1 + 1) ho5 (by simp)) (.cells #[.string ⟨a0.toArray⟩, .bool a1, .bool a2, .slice ga a3.length gc, .int .i64 a4, .slice ua l.length uc] 29))
  have h3s := hb.size
  simp at h3s
  clear hb ho3 ho5 BS
  go_wp2_with fail
  refine (HLN.out _).mono ?_
  rintro e w2 ⟨rfl, rfl⟩
  have q0 := BQ1.out.cell 0 (by simp)
  have q1 := BQ1.out.cell 1 (by simp)
  have q2 := BQ1.out.cell 2 (by simp)
  have q3 := BQ1.out.cell 3 (by simp)
  have q4 := BQ1.out.cell 4 (by simp)
  have q5 := BQ1.out.cell 5 (by simp)
  simp only [List.getElem_cons_zero, List.getElem_cons_succ] at q0 q1 q2 q3 q4 q5
  have HRQ := Lib.hid (show rPart 0 (w1.alloc (.cells #[.string ⟨a0.toArray⟩, .bool a1, .bool a2, .slice ga a3.length gc, .int .i64 a4, .slice ua l.length uc] 29)) [.string ⟨a0.toArray⟩, .bool a1, .bool a2, .slice ga a3.length gc, .int .i64 a4, .slice ua l.length uc] ⟨⟨a0, a1, a2, a3, a4⟩, l⟩ from goodPart.mono (oPart_r ⟨_, _, rfl, O3.out, O5.out⟩ HSP.out) (Nat.zero_le _))
  go_wp2_with fail
  refine (HIP.out _ _ HRQ.out).mono ?_
  rintro e w2 ⟨rfl, hb⟩
  have HB2 := Lib.hid (belS HB1.out hb)
  have B42 := Lib.hid (B41.out.below hb)
  have B52 := Lib.hid (B51.out.below hb)
  have BQ2 := Lib.hid (BQ1.out.below hb)
  have P3 := Lib.hid (ownsF_below O3.out hb (Nat.le_refl _))
  have P5 := Lib.hid (ownsF_below O5.out hb (Nat.le_refl _))
  have h4s := hb.size
  simp at h4s
  clear hb q0 q1 q2 q3 q4 q5
  have h3 := H3.out
  try simp only at h3
  have hl3 : ¬ (l.length : Int) = 3 := by omega
  clear h3
  have q0 := BQ2.out.cell 0 (by simp)
  have q1 := BQ2.out.cell 1 (by simp)
  have q2 := BQ2.out.cell 2 (by simp)
  have q3 := BQ2.out.cell 3 (by simp)
  have q4 := BQ2.out.cell 4 (by simp)
  have q5 := BQ2.out.cell 5 (by simp)
  simp only [List.getElem_cons_zero, List.getElem_cons_succ] at q0 q1 q2 q3 q4 q5
  go_wp2_with fail
  refine (HTX.out _).mono ?_
  rintro e w3 ⟨rfl, hb⟩
  have HB3 := Lib.hid ((belS HB2.out hb).alloc (belS HB2.out hb).size (.cells #[.string s, .int .i64 0] 81))
  have B43 := Lib.hid ((B42.out.below hb).alloc (.cells #[.string s, .int .i64 0] 81))
  have B53 := Lib.hid ((B52.out.below hb).alloc (.cells #[.string s, .int .i64 0] 81))
  have BQ3 := Lib.hid ((BQ2.out.below hb).alloc (.cells #[.string s, .int .i64 0] 81))
  have BL3 := Lib.hid (Bx.new w3 [.string s, .int .i64 0] 81)
  have R3 := Lib.hid (ownsF_alloc (ownsF_below P3.out hb (Nat.le_refl _)) (.cells #[.string s, .int .i64 0] 81))
  have R5 := Lib.hid (ownsF_alloc (ownsF_below P5.out hb (Nat.le_refl _)) (.cells #[.string s, .int .i64 0] 81))
  have h5s := hb.size
  clear hb q0 q1 q2 q3 q4 q5
  have HRW := Lib.hid (show rPart 0 (w3.alloc (.cells #[.string s, .int .i64 0] 81)) [.string ⟨a0.toArray⟩, .bool a1, .bool a2, .slice ga a3.length gc, .int .i64 a4, .slice ua l.length uc] ⟨⟨a0, a1, a2, a3, a4⟩, l⟩ from goodPart.mono (oPart_r ⟨_, _, rfl, R3.out, R5.out⟩ HSP.out) (Nat.zero_le _))
  go_wp2_with fail
  refine (HWP.out _ _ _ HRW.out BQ3.out).mono ?_
  rintro e w4 ⟨pv, rfl, hpv, hb⟩
  have HB4 := Lib.hid (belS HB3.out hb)
  have B44 := Lib.hid (B43.out.below hb)
  have B54 := Lib.hid (B53.out.below hb)
  have BQ4 := Lib.hid (BQ3.out.below hb)
  have BL4 := Lib.hid (BL3.out.below hb)
  have S3 := Lib.hid (ownsF_below R3.out hb (Nat.le_refl _))
  have S5 := Lib.hid (ownsF_below R5.out hb (Nat.le_refl _))
  have h6s := hb.size
  simp at h6s
  have HPV := Lib.hid hpv
  have l0 := BL4.out.cell 0 (by simp)
  simp only [List.getElem_cons_zero] at l0
  rw [HNM.out] at l0
  have HWI := Lib.hid (wrapIn_c w3.heap.size 0 q HQ.out pv fp w4 l0 HPV.out)
  clear hb hpv l0
  go_wp2_with fail
  refine HWI.out.mono ?_
  rintro e w5 ⟨hb, hres⟩
  obtain rfl : e = .returned (.tuple #[pv, vReply ⟨1, 0, [], needN q, fp⟩]) := by
    rcases hres with ⟨h, _⟩ | ⟨_, h⟩
    · rw [HO.out] at h; cases h
    · exact h
  unfold vReply
  have HB5 := Lib.hid ((belS HB4.out hb).alloc (belS HB4.out hb).size (.cells #[.int .i64 1, .int .i64 0, .string ⟨#[]⟩, .int .i64 (needN q), .int .i64 fp] 33))
  have B45 := Lib.hid ((B44.out.below hb).alloc (.cells #[.int .i64 1, .int .i64 0, .string ⟨#[]⟩, .int .i64 (needN q), .int .i64 fp] 33))
  have B55 := Lib.hid ((B54.out.below hb).alloc (.cells #[.int .i64 1, .int .i64 0, .string ⟨#[]⟩, .int .i64 (needN q), .int .i64 fp] 33))
  have BQ5 := Lib.hid ((BQ4.out.below hb).alloc (.cells #[.int .i64 1, .int .i64 0, .string ⟨#[]⟩, .int .i64 (needN q), .int .i64 fp] 33))
  have BL5 := Lib.hid ((BL4.out.below hb).alloc (.cells #[.int .i64 1, .int .i64 0, .string ⟨#[]⟩, .int .i64 (needN q), .int .i64 fp] 33))
  have BR5 := Lib.hid (Bx.new w5 [.int .i64 1, .int .i64 0, .string ⟨#[]⟩, .int .i64 (needN q), .int .i64 fp] 33)
  have T3 := Lib.hid (ownsF_alloc (ownsF_below S3.out hb (Nat.le_refl _)) (.cells #[.int .i64 1, .int .i64 0, .string ⟨#[]⟩, .int .i64 (needN q), .int .i64 fp] 33))
  have T5 := Lib.hid (ownsF_alloc (ownsF_below S5.out hb (Nat.le_refl _)) (.cells #[.int .i64 1, .int .i64 0, .string ⟨#[]⟩, .int .i64 (needN q), .int .i64 fp] 33))
  have h7s := hb.size
  clear hb hres
  have t0 := BR5.out.cell 0 (by simp)
  have t1 := BR5.out.cell 1 (by simp)
  have t2 := BR5.out.cell 2 (by simp)
  have t3 := BR5.out.cell 3 (by simp)
  have t4 := BR5.out.cell 4 (by simp)
  simp only [List.getElem_cons_zero, List.getElem_cons_succ] at t0 t1 t2 t3 t4
  go_wp2_with fail
  clear t0 t1 t2 t3 t4
  have t0 := BR5.out.cell 0 (by simp)
  have t1 := BR5.out.cell 1 (by simp)
  have t2 := BR5.out.cell 2 (by simp)
  have t3 := BR5.out.cell 3 (by simp)
  have t4 := BR5.out.cell 4 (by simp)
  simp only [List.getElem_cons_zero, List.getElem_cons_succ] at t0 t1 t2 t3 t4
  have q0 := BQ5.out.cell 0 (by simp)
  have q1 := BQ5.out.cell 1 (by simp)
  have q2 := BQ5.out.cell 2 (by simp)
  have q3 := BQ5.out.cell 3 (by simp)
  have q4 := BQ5.out.cell 4 (by simp)
  have q5 := BQ5.out.cell 5 (by simp)
  simp only [List.getElem_cons_zero, List.getElem_cons_succ] at q0 q1 q2 q3 q4 q5
  have r0 := B45.out.cell 0 (by simp)
  have r1 := B45.out.cell 1 (by simp)
  have r2 := B45.out.cell 2 (by simp)
  have r3 := B45.out.cell 3 (by simp)
  have r4 := B45.out.cell 4 (by simp)
  have r5 := B45.out.cell 5 (by simp)
  simp only [List.getElem_cons_zero, List.getElem_cons_succ] at r0 r1 r2 r3 r4 r5
  have z0 := B45.out.froz 0 (by simp)
  have z1 := B45.out.froz 1 (by simp)
  have z2 := B45.out.froz 2 (by simp)
  have z3 := B45.out.froz 3 (by simp)
  have z4 := B45.out.froz 4 (by simp)
  have z5 := B45.out.froz 5 (by simp)
  have s0 := B55.out.cell 0 (by simp)
  have s1 := B55.out.cell 1 (by simp)
  have s2 := B55.out.cell 2 (by simp)
  have s3 := B55.out.cell 3 (by simp)
  have s4 := B55.out.cell 4 (by simp)
  simp only [List.getElem_cons_zero, List.getElem_cons_succ] at s0 s1 s2 s3 s4
  have y0 := B55.out.froz 0 (by simp)
  have y1 := B55.out.froz 1 (by simp)
  have y2 := B55.out.froz 2 (by simp)
  have y3 := B55.out.froz 3 (by simp)
  have y4 := B55.out.froz 4 (by simp)
  go_region
  all_goals (try go_wp2_with fail)
  all_goals
    refine bodyPost_ret (v := .tuple #[.agg #[.string ⟨a0.toArray⟩, .bool a1, .bool a2, .slice ga a3.length gc, .int .i64 a4, .slice ua l.length uc], .agg #[.int .i64 1, .int .i64 0, .string ⟨#[]⟩, .int .i64 (needN q), .int .i64 fp]]) (by simp [results, Try.results11, go_sem, cell_set_at, cell_set_ne, t0, t1, t2, t3, t4, r0, r1, r2, r3, r4, r5, s0, s1, s2, s3, s4]) rfl ⟨_, rfl, ⟨_, _, rfl, ?_, ?_⟩, ?_⟩
    · refine ownsF_base (B := (((w.heap.size + 1) + 1) + 1)) ?_ (by omega)
      repeat (first | with_reducible refine ownsF_set ?_ (by simp; try omega) | with_reducible refine ownsF_drew ?_)
      have h := T3.out
      simpa using h
    · refine ownsF_base (B := (((w.heap.size + 1) + 1) + 1)) ?_ (by omega)
      repeat (first | with_reducible refine ownsF_set ?_ (by simp; try omega) | with_reducible refine ownsF_drew ?_)
      have h := T5.out
      simpa using h
    · repeat (first | with_reducible exact HB5.out | with_reducible refine Below.setCell ?_ (by simp; try omega) _ | with_reducible refine Below.drew ?_)
set_option maxRecDepth 100000 in
set_option maxHeartbeats 3200000 in
theorem implWrap_ok (v : Value) (x : PartD) (s : ByteArray) (w : World) (hx : ValAt rPart 0 w v x) (hs : SmallP x) (hk : ∀ c ∈ x.fCore.fCells, c.fKey.length ≤ maxLen) (hz : s.size ≤ 1048576) (hc : 0 ≤ layI s.data.toList) (hp : partB x = true) (h3 : ¬ x.fLayers.length = 3) (ho : offersF (faceP x) (needI (layI s.data.toList)) = true) :
    Calls Try.prog 11 #[v, .string s] w fun e w' => GivesOPR (wrapP x s.data.toList) (wrapR x s.data.toList) w e w' := by
  obtain ⟨hwp, hwr⟩ := wrap_ok (x := x) (s := s.data.toList) ⟨hp, hc⟩ h3 ho
  rw [hwp, hwr]
  clear hwp hwr
  have HTX := Lib.hid (fun W => copyText_any s W (by omega))
  have H3 := Lib.hid h3
  clear h3
  obtain ⟨q, hq1, hq2, hq3⟩ : ∃ q : Nat, layI s.data.toList = q ∧ q < 9 ∧ layN q = s.data.toList := by
    rcases layI_bd s.data.toList with h1 | h1
    · omega
    · exact h1
  have hn : needI (layI s.data.toList) = needN q := by rw [hq1]; unfold needI; rw [if_neg (by omega)]; rfl
  have hg : giveI (layI s.data.toList) = giveN q := by rw [hq1]; unfold giveI; rw [if_neg (by omega)]; rfl
  rw [hn] at ho
  rw [hg]
  have HWP := Lib.hid (fun b0 cs W (h : rPart 0 W cs x) (hb : Bx W b0 cs) => wholePart_c b0 cs x W h hb hp)
  have HNM := Lib.hid (show Value.string s = .string ⟨(layN q).toArray⟩ by rw [hq3])
  have HNS := Lib.hid hq3
  have HO := Lib.hid ho
  have HQ := Lib.hid hq2
  clear hq1 hn hg ho
  obtain ⟨_, rfl, hx⟩ := hx
  have HX := Lib.hid (fun W (hb : Below w.heap.size w W) => goodPart.keep hx (kept_below hb (Nat.le_refl _)))
  have HIP := Lib.hid (fun cs W (h : rPart 0 W cs x) => implIsPart_any (.agg cs.toArray) x W ⟨cs, rfl, h⟩ hk)
  have HCP := Lib.hid (fun cs W (h : rPart 0 W cs x) => copyPart_c (.agg cs.toArray) x W ⟨cs, rfl, h⟩ hs)
  have HLN := Lib.hid (fun W => implLayerNeeds_any s W)
  have HSZ := Lib.hid hs.lays
  unfold ndV at HLN
  unfold GivesOPR vReply
  unfold GivesOP at HCP
  rw [show decide (0 ≤ layI s.data.toList) = true from decide_eq_true hc] at HLN
  rw [hp] at HIP
  generalize needI (layI s.data.toList) = nd at HLN
  generalize faceP x = fp at *
  have HSP := Lib.hid hs
  obtain ⟨⟨a0, a1, a2, a3, a4⟩, l⟩ := x
  obtain ⟨v3, v5, rfl, h3, h5⟩ := hx
  simp only at h3 h5 HSZ
  obtain ⟨ra, rc, rfl, _⟩ := sliceAt_len h3
  obtain ⟨sa, sc, rfl, hl, hcap⟩ := sliceAt_cap h5
  clear h3 h5 hs hk hcap hl
  have BS := Lib.hid (bx_start3 w [.string ⟨a0.toArray⟩, .bool a1, .bool a2, .slice ra a3.length rc, .int .i64 a4, .slice sa l.length sc] [.string ⟨#[]⟩, .bool false, .bool false, .slice none 0 0, .int .i64 0, .slice none 0 0] [.int .i64 0, .int .i64 0, .string ⟨#[]⟩, .int .i64 0, .int .i64 0] 29 29 33)
  have HR0 := Lib.hid (HX.out _ BS.out.2.2.2)
  clear hc hp
  go_enter Try.func11, Try.ntmps11
  go_wp2_with fail
  refine (HCP.out _ _ HR0.out).mono ?_
  rintro e w1 ⟨_, rfl, ⟨u3, u5, rfl, ho3, ho5⟩, hb⟩
  simp only at ho3 ho5
  obtain ⟨ga, gc, rfl⟩ := slice_of ho3
  obtain ⟨ua, uc, rfl⟩ := slice_of ho5
  have HB1 := Lib.hid ((belS BS.out.2.2.2 hb).alloc (belS BS.out.2.2.2 hb).size (.cells #[.string ⟨a0.toArray⟩, .bool a1, .bool a2, .slice ga a3.length gc, .int .i64 a4, .slice ua l.length uc] 29))
  have B41 := Lib.hid ((BS.out.2.1.below hb).alloc (.cells #[.string ⟨a0.toArray⟩, .bool a1, .bool a2, .slice ga a3.length gc, .int .i64 a4, .slice ua l.length uc] 29))
  have B51 := Lib.hid ((BS.out.2.2.1.below hb).alloc (.cells #[.string ⟨a0.toArray⟩, .bool a1, .bool a2, .slice ga a3.length gc, .int .i64 a4, .slice ua l.length uc] 29))
  have BQ1 := Lib.hid (Bx.new w1 [.string ⟨a0.toArray⟩, .bool a1, .bool a2, .slice ga a3.length gc, .int .i64 a4, .slice ua l.length uc] 29)
  have O3 := Lib.hid (ownsF_alloc (ownsF_base (B' := w.heap.size + 1 + 1 + 1) ho3 (by simp)) (.cells #[.string ⟨a0.toArray⟩, .bool a1, .bool a2, .slice ga a3.length gc, .int .i64 a4, .slice ua l.length uc] 29))
  have O5 := Lib.hid (ownsF_alloc (ownsF_base (B' := w.heap.size + 1 + 1 + 1) ho5 (by simp)) (.cells #[.string ⟨a0.toArray⟩, .bool a1, .bool a2, .slice ga a3.length gc, .int .i64 a4, .slice ua l.length uc] 29))
  have h3s := hb.size
  simp at h3s
  have HU5 := Lib.hid (fun g (h : (Value.slice ua l.length uc).ownBlock = some g) => (show w.heap.size + 1 + 1 + 1 ≤ g ∧ g < w1.heap.size from ⟨by have := (World.ownsRow.lt ho5 g h).1; simpa using this, (World.ownsRow.lt ho5 g h).2⟩))
  have HU3 := Lib.hid (fun g (h : (Value.slice ga a3.length gc).ownBlock = some g) => (show g < w1.heap.size from (World.ownsRow.lt ho3 g h).2))
  clear hb ho3 ho5 BS
  go_wp2_with fail
  refine (HLN.out _).mono ?_
  rintro e w2 ⟨rfl, rfl⟩
  have q0 := BQ1.out.cell 0 (by simp)
  have q1 := BQ1.out.cell 1 (by simp)
  have q2 := BQ1.out.cell 2 (by simp)
  have q3 := BQ1.out.cell 3 (by simp)
  have q4 := BQ1.out.cell 4 (by simp)
  have q5 := BQ1.out.cell 5 (by simp)
  simp only [List.getElem_cons_zero, List.getElem_cons_succ] at q0 q1 q2 q3 q4 q5
  have HRQ := Lib.hid (show rPart 0 (w1.alloc (.cells #[.string ⟨a0.toArray⟩, .bool a1, .bool a2, .slice ga a3.length gc, .int .i64 a4, .slice ua l.length uc] 29)) [.string ⟨a0.toArray⟩, .bool a1, .bool a2, .slice ga a3.length gc, .int .i64 a4, .slice ua l.length uc] ⟨⟨a0, a1, a2, a3, a4⟩, l⟩ from goodPart.mono (oPart_r ⟨_, _, rfl, O3.out, O5.out⟩ HSP.out) (Nat.zero_le _))
  go_wp2_with fail
  refine (HIP.out _ _ HRQ.out).mono ?_
  rintro e w2 ⟨rfl, hb⟩
  have HB2 := Lib.hid (belS HB1.out hb)
  have B42 := Lib.hid (B41.out.below hb)
  have B52 := Lib.hid (B51.out.below hb)
  have BQ2 := Lib.hid (BQ1.out.below hb)
  have P3 := Lib.hid (ownsF_below O3.out hb (Nat.le_refl _))
  have P5 := Lib.hid (ownsF_below O5.out hb (Nat.le_refl _))
  have h4s := hb.size
  simp at h4s
  clear hb q0 q1 q2 q3 q4 q5
  have h3 := H3.out
  try simp only at h3
  have hl3 : ¬ (l.length : Int) = 3 := by omega
  clear h3
  have q0 := BQ2.out.cell 0 (by simp)
  have q1 := BQ2.out.cell 1 (by simp)
  have q2 := BQ2.out.cell 2 (by simp)
  have q3 := BQ2.out.cell 3 (by simp)
  have q4 := BQ2.out.cell 4 (by simp)
  have q5 := BQ2.out.cell 5 (by simp)
  simp only [List.getElem_cons_zero, List.getElem_cons_succ] at q0 q1 q2 q3 q4 q5
  go_wp2_with fail
  refine (HTX.out _).mono ?_
  rintro e w3 ⟨rfl, hb⟩
  have HB3 := Lib.hid ((belS HB2.out hb).alloc (belS HB2.out hb).size (.cells #[.string s, .int .i64 0] 81))
  have B43 := Lib.hid ((B42.out.below hb).alloc (.cells #[.string s, .int .i64 0] 81))
  have B53 := Lib.hid ((B52.out.below hb).alloc (.cells #[.string s, .int .i64 0] 81))
  have BQ3 := Lib.hid ((BQ2.out.below hb).alloc (.cells #[.string s, .int .i64 0] 81))
  have BL3 := Lib.hid (Bx.new w3 [.string s, .int .i64 0] 81)
  have R3 := Lib.hid (ownsF_alloc (ownsF_below P3.out hb (Nat.le_refl _)) (.cells #[.string s, .int .i64 0] 81))
  have R5 := Lib.hid (ownsF_alloc (ownsF_below P5.out hb (Nat.le_refl _)) (.cells #[.string s, .int .i64 0] 81))
  have h5s := hb.size
  clear hb q0 q1 q2 q3 q4 q5
  have HRW := Lib.hid (show rPart 0 (w3.alloc (.cells #[.string s, .int .i64 0] 81)) [.string ⟨a0.toArray⟩, .bool a1, .bool a2, .slice ga a3.length gc, .int .i64 a4, .slice ua l.length uc] ⟨⟨a0, a1, a2, a3, a4⟩, l⟩ from goodPart.mono (oPart_r ⟨_, _, rfl, R3.out, R5.out⟩ HSP.out) (Nat.zero_le _))
  go_wp2_with fail
  refine (HWP.out _ _ _ HRW.out BQ3.out).mono ?_
  rintro e w4 ⟨pv, rfl, hpv, hb⟩
  have HB4 := Lib.hid (belS HB3.out hb)
  have B44 := Lib.hid (B43.out.below hb)
  have B54 := Lib.hid (B53.out.below hb)
  have BQ4 := Lib.hid (BQ3.out.below hb)
  have BL4 := Lib.hid (BL3.out.below hb)
  have S3 := Lib.hid (ownsF_below R3.out hb (Nat.le_refl _))
  have S5 := Lib.hid (ownsF_below R5.out hb (Nat.le_refl _))
  have h6s := hb.size
  simp at h6s
  have HPV := Lib.hid hpv
  have l0 := BL4.out.cell 0 (by simp)
  simp only [List.getElem_cons_zero] at l0
  rw [HNM.out] at l0
  have HWI := Lib.hid (wrapIn_c w3.heap.size 0 q HQ.out pv fp w4 l0 HPV.out)
  clear hb hpv l0
  go_wp2_with fail
  refine HWI.out.mono ?_
  rintro e w5 ⟨hb, hres⟩
  obtain rfl : e = .returned (.tuple #[wrapV w3.heap.size 0 pv q, vReply ⟨0, giveN q, [], 0, 0⟩]) := by
    rcases hres with ⟨_, h⟩ | ⟨h, _⟩
    · exact h
    · rw [HO.out] at h; cases h
  generalize wrapV w3.heap.size 0 pv q = nv at *
  unfold vReply
  have HB5 := Lib.hid ((belS HB4.out hb).alloc (belS HB4.out hb).size (.cells #[.int .i64 0, .int .i64 (giveN q), .string ⟨#[]⟩, .int .i64 0, .int .i64 0] 33))
  have B45 := Lib.hid ((B44.out.below hb).alloc (.cells #[.int .i64 0, .int .i64 (giveN q), .string ⟨#[]⟩, .int .i64 0, .int .i64 0] 33))
  have B55 := Lib.hid ((B54.out.below hb).alloc (.cells #[.int .i64 0, .int .i64 (giveN q), .string ⟨#[]⟩, .int .i64 0, .int .i64 0] 33))
  have BQ5 := Lib.hid ((BQ4.out.below hb).alloc (.cells #[.int .i64 0, .int .i64 (giveN q), .string ⟨#[]⟩, .int .i64 0, .int .i64 0] 33))
  have BL5 := Lib.hid ((BL4.out.below hb).alloc (.cells #[.int .i64 0, .int .i64 (giveN q), .string ⟨#[]⟩, .int .i64 0, .int .i64 0] 33))
  have BR5 := Lib.hid (Bx.new w5 [.int .i64 0, .int .i64 (giveN q), .string ⟨#[]⟩, .int .i64 0, .int .i64 0] 33)
  have T3 := Lib.hid (ownsF_alloc (ownsF_below S3.out hb (Nat.le_refl _)) (.cells #[.int .i64 0, .int .i64 (giveN q), .string ⟨#[]⟩, .int .i64 0, .int .i64 0] 33))
  have T5 := Lib.hid (ownsF_alloc (ownsF_below S5.out hb (Nat.le_refl _)) (.cells #[.int .i64 0, .int .i64 (giveN q), .string ⟨#[]⟩, .int .i64 0, .int .i64 0] 33))
  have h7s := hb.size
  clear hb hres
  have t0 := BR5.out.cell 0 (by simp)
  have t1 := BR5.out.cell 1 (by simp)
  have t2 := BR5.out.cell 2 (by simp)
  have t3 := BR5.out.cell 3 (by simp)
  have t4 := BR5.out.cell 4 (by simp)
  simp only [List.getElem_cons_zero, List.getElem_cons_succ] at t0 t1 t2 t3 t4
  have hcl : ∀ j, j < 2 → ((w5.alloc (.cells #[.int .i64 0, .int .i64 (giveN q), .string ⟨#[]⟩, .int .i64 0, .int .i64 0] 33)).alloc (.cells #[.string s, .int .i64 0] 81)).cell? ⟨w5.heap.size + 1, j, none⟩ = (cLayer ⟨s.data.toList, 0⟩)[j]? := cell_newL (w5.alloc (.cells #[.int .i64 0, .int .i64 (giveN q), .string ⟨#[]⟩, .int .i64 0, .int .i64 0] 33)) ⟨s.data.toList, 0⟩ _ (by simp)
  have hlen : (l ++ [(⟨s.data.toList, 0⟩ : LayerD)]).length = l.length + 1 := by simp
  have hcap : l.length ≤ 4194304 := by have := HSZ.out; omega
  have hBs : w.heap.size + 1 + 1 + 1 ≤ ((w5.alloc (.cells #[.int .i64 0, .int .i64 (giveN q), .string ⟨#[]⟩, .int .i64 0, .int .i64 0] 33)).alloc (.cells #[.string s, .int .i64 0] 81)).heap.size := by simp; omega
  have m0 := BL5.out.cell 0 (by simp)
  have m1 := BL5.out.cell 1 (by simp)
  simp only [List.getElem_cons_zero, List.getElem_cons_succ] at m0 m1
  have q0 := BQ5.out.cell 0 (by simp)
  have q1 := BQ5.out.cell 1 (by simp)
  have q2 := BQ5.out.cell 2 (by simp)
  have q3 := BQ5.out.cell 3 (by simp)
  have q4 := BQ5.out.cell 4 (by simp)
  have q5 := BQ5.out.cell 5 (by simp)
  simp only [List.getElem_cons_zero, List.getElem_cons_succ] at q0 q1 q2 q3 q4 q5
  have p0 := BQ5.out.froz 0 (by simp)
  have p1 := BQ5.out.froz 1 (by simp)
  have p2 := BQ5.out.froz 2 (by simp)
  have p3 := BQ5.out.froz 3 (by simp)
  have p4 := BQ5.out.froz 4 (by simp)
  have p5 := BQ5.out.froz 5 (by simp)
  go_wp2_with (at_builtin; refine append_lay rfl _ _ rfl (w.heap.size + 1 + 1 + 1) (.slice ua l.length uc) l ⟨s.data.toList, 0⟩ ((w5.alloc (.cells #[.int .i64 0, .int .i64 (giveN q), .string ⟨#[]⟩, .int .i64 0, .int .i64 0] 33)).alloc (.cells #[.string s, .int .i64 0] 81)) (w5.heap.size + 1) rfl (ownsF_alloc T5.out _) rfl hcl hcap hBs ?_; intro v6 w6 hO6 hg6; obtain ⟨va, vc, rfl⟩ := slice_lenW hO6 hlen; have HO6 := Lib.hid hO6; clear hO6; have HG6 := Lib.hid hg6; clear hg6; have QX := Lib.hid ((BQ5.out.alloc (.cells #[.string s, .int .i64 0] 81)).grown HG6.out (fun e => by have := HU5.out _ e; omega)); have q5' := QX.out.cell 5 (by simp); have p5' := QX.out.froz 5 (by simp); simp only [List.getElem_cons_zero, List.getElem_cons_succ] at q5')
  have B46 := Lib.hid ((B45.out.alloc (.cells #[.string s, .int .i64 0] 81)).grown HG6.out (fun e => by have := HU5.out _ e; omega))
  have B56 := Lib.hid ((B55.out.alloc (.cells #[.string s, .int .i64 0] 81)).grown HG6.out (fun e => by have := HU5.out _ e; omega))
  have BR6 := Lib.hid ((BR5.out.alloc (.cells #[.string s, .int .i64 0] 81)).grown HG6.out (fun e => by have := HU5.out _ e; omega))
  have HB6 := Lib.hid (below_appendF (HB5.out.alloc HB5.out.size _) (ownsF_base (B' := w.heap.size) (ownsF_alloc T5.out _) (by omega)) HG6.out (Nat.le_trans (by omega) hBs))
  have U3 := Lib.hid (ownsF_keptF (ownsF_alloc T3.out _) (ownsF_alloc T5.out _) HG6.out (by decide))
  have hnb : (Value.slice va (l.length + 1) vc).ownBlock ≠ some w1.heap.size := lay_not_bool HO6.out (by rw [hlen]; omega) (QX.out.cell 1 (by simp))
  have B47 := Lib.hid (B46.out.other (c := w1.heap.size) (by omega) 5 (.slice va (l.length + 1) vc))
  have B57 := Lib.hid (B56.out.other (c := w1.heap.size) (by omega) 5 (.slice va (l.length + 1) vc))
  have BR7 := Lib.hid (BR6.out.other (c := w1.heap.size) (by omega) 5 (.slice va (l.length + 1) vc))
  have BQ7 := Lib.hid (QX.out.set 5 (by simp) (.slice va (l.length + 1) vc))
  have HB7 := Lib.hid (HB6.out.setCell (p := ⟨w1.heap.size, 5, none⟩) (by simp; omega) (.slice va (l.length + 1) vc))
  have V3 := Lib.hid (ownsF_setNe (p := ⟨w1.heap.size, 5, none⟩) (u := .slice va (l.length + 1) vc) U3.out (fun e => Nat.lt_irrefl _ (HU3.out _ e)))
  have V5 := Lib.hid (ownsF_setNe (p := ⟨w1.heap.size, 5, none⟩) (u := .slice va (l.length + 1) vc) HO6.out hnb)
  simp only [List.set_cons_succ, List.set_cons_zero] at BQ7
  clear q0 q1 q2 q3 q4 q5 p0 p1 p2 p3 p4 p5 m0 m1 t0 t1 t2 t3 t4 q5' p5' QX HG6 BL5 BQ5 B45 B55 BR5 B46 B56 BR6
  generalize w6.setCell ⟨w1.heap.size, 5, none⟩ (.slice va (l.length + 1) vc) = w7 at *
  have q0 := BQ7.out.cell 0 (by simp)
  have q1 := BQ7.out.cell 1 (by simp)
  have q2 := BQ7.out.cell 2 (by simp)
  have q3 := BQ7.out.cell 3 (by simp)
  have q4 := BQ7.out.cell 4 (by simp)
  have q5 := BQ7.out.cell 5 (by simp)
  simp only [List.getElem_cons_zero, List.getElem_cons_succ] at q0 q1 q2 q3 q4 q5
  have t0 := BR7.out.cell 0 (by simp)
  have t1 := BR7.out.cell 1 (by simp)
  have t2 := BR7.out.cell 2 (by simp)
  have t3 := BR7.out.cell 3 (by simp)
  have t4 := BR7.out.cell 4 (by simp)
  simp only [List.getElem_cons_zero, List.getElem_cons_succ] at t0 t1 t2 t3 t4
  have r0 := B47.out.cell 0 (by simp)
  have r1 := B47.out.cell 1 (by simp)
  have r2 := B47.out.cell 2 (by simp)
  have r3 := B47.out.cell 3 (by simp)
  have r4 := B47.out.cell 4 (by simp)
  have r5 := B47.out.cell 5 (by simp)
  simp only [List.getElem_cons_zero, List.getElem_cons_succ] at r0 r1 r2 r3 r4 r5
  have z0 := B47.out.froz 0 (by simp)
  have z1 := B47.out.froz 1 (by simp)
  have z2 := B47.out.froz 2 (by simp)
  have z3 := B47.out.froz 3 (by simp)
  have z4 := B47.out.froz 4 (by simp)
  have z5 := B47.out.froz 5 (by simp)
  have s0 := B57.out.cell 0 (by simp)
  have s1 := B57.out.cell 1 (by simp)
  have s2 := B57.out.cell 2 (by simp)
  have s3 := B57.out.cell 3 (by simp)
  have s4 := B57.out.cell 4 (by simp)
  simp only [List.getElem_cons_zero, List.getElem_cons_succ] at s0 s1 s2 s3 s4
  have y0 := B57.out.froz 0 (by simp)
  have y1 := B57.out.froz 1 (by simp)
  have y2 := B57.out.froz 2 (by simp)
  have y3 := B57.out.froz 3 (by simp)
  have y4 := B57.out.froz 4 (by simp)
  go_region
  all_goals (try go_wp2_with fail)
  all_goals
    refine bodyPost_ret (v := .tuple #[.agg #[.string ⟨a0.toArray⟩, .bool a1, .bool a2, .slice ga a3.length gc, .int .i64 a4, .slice va (l.length + 1) vc], .agg #[.int .i64 0, .int .i64 (giveN q), .string ⟨#[]⟩, .int .i64 0, .int .i64 0]]) (by simp [results, Try.results11, go_sem, cell_set_at, cell_set_ne, t0, t1, t2, t3, t4, r0, r1, r2, r3, r4, r5, s0, s1, s2, s3, s4]) rfl ⟨_, rfl, ⟨_, _, rfl, ?_, ?_⟩, ?_⟩
    · refine ownsF_base (B := (((w.heap.size + 1) + 1) + 1)) ?_ (by omega)
      repeat (first | with_reducible refine ownsF_set ?_ (by simp; try omega) | with_reducible refine ownsF_drew ?_)
      have h := V3.out
      simpa using h
    · refine ownsF_base (B := (((w.heap.size + 1) + 1) + 1)) ?_ (by omega)
      repeat (first | with_reducible refine ownsF_set ?_ (by simp; try omega) | with_reducible refine ownsF_drew ?_)
      have h := V5.out
      simpa using h
    · repeat (first | with_reducible exact HB7.out | with_reducible refine Below.setCell ?_ (by simp; try omega) _ | with_reducible refine Below.drew ?_)
theorem implWrap_any (v : Value) (x : PartD) (s : ByteArray) (w : World) (hx : ValAt rPart 0 w v x) (hs : SmallP x) (hk : ∀ c ∈ x.fCore.fCells, c.fKey.length ≤ maxLen) (hz : s.size ≤ 1048576) :
    Calls Try.prog 11 #[v, .string s] w fun e w' => GivesOPR (wrapP x s.data.toList) (wrapR x s.data.toList) w e w' := by
  by_cases hc : 0 ≤ layI s.data.toList
  · cases hp : partB x with
    | false => exact implWrap_bad2 v x s w hx hs hk hz hc hp
    | true =>
      by_cases h3 : x.fLayers.length = 3
      · exact implWrap_full v x s w hx hs hk hz hc hp h3
      · cases ho : offersF (faceP x) (needI (layI s.data.toList)) with
        | false => exact implWrap_fail v x s w hx hs hk hz hc hp h3 ho
        | true => exact implWrap_ok v x s w hx hs hk hz hc hp h3 ho
  · exact implWrap_bad1 v x s w hx hs hk hz hc
end Go.Proofs.Ytaihdjdaamglnaa
/- Contracts of chapter 4: Unwrap, the program's. -/
namespace Go.Proofs.Ytaihdjdaamglnaa
set_option linter.unusedVariables false
set_option linter.unusedSimpArgs false
open Go.RowKit
def unwB (x : PartD) : Bool := partB x && !(decide (x.fLayers.length = 0))
def unwP (x : PartD) : PartD := if unwB x = true then ⟨x.fCore, x.fLayers.take (x.fLayers.length - 1)⟩ else x
theorem smallP_take {x : PartD} (h : SmallP x) (n : Nat) : SmallP ⟨x.fCore, x.fLayers.take n⟩ := by
  refine ⟨?_, h.kind, h.cells, h.keys, ?_, fun y hy => h.names y (List.mem_of_mem_take hy)⟩
  · have h1 := h.z
    unfold zPart at h1 ⊢
    have h2 := sumF_take_le zLayer x.fLayers n
    have h3 : (x.fLayers.take n).length ≤ x.fLayers.length := by simp; omega
    simp only
    omega
  · have h3 : (x.fLayers.take n).length ≤ x.fLayers.length := by simp; omega
    exact Nat.le_trans h3 h.lays
def GivesOPB (x : PartD) (b : Bool) (w : World) (e : Ending) (w' : World) : Prop := ∃ cs, e = .returned (.tuple #[.agg cs.toArray, .bool b]) ∧ oPart w' w.heap.size cs x ∧ Below w.heap.size w w'
set_option maxRecDepth 100000 in
set_option maxHeartbeats 3200000 in
theorem implUnwrap_any (v : Value) (x : PartD) (w : World) (hx : ValAt rPart 0 w v x) (hs : SmallP x) (hk : ∀ c ∈ x.fCore.fCells, c.fKey.length ≤ maxLen) :
    Calls Try.prog 18 #[v] w fun e w' => GivesOPB (unwP x) (unwB x) w e w' := by
  obtain ⟨_, rfl, hx⟩ := hx
  have HX := Lib.hid (fun W (hb : Below w.heap.size w W) => goodPart.keep hx (kept_below hb (Nat.le_refl _)))
  have HIP := Lib.hid (fun cs W (h : rPart 0 W cs x) => implIsPart_any (.agg cs.toArray) x W ⟨cs, rfl, h⟩ hk)
  have HCP := Lib.hid (fun cs W (h : rPart 0 W cs x) => copyPart_c (.agg cs.toArray) x W ⟨cs, rfl, h⟩ hs)
  have HCT := Lib.hid (fun cs W (h : rPart 0 W cs ⟨x.fCore, x.fLayers.take (x.fLayers.length - 1)⟩) => copyPart_c (.agg cs.toArray) ⟨x.fCore, x.fLayers.take (x.fLayers.length - 1)⟩ W ⟨cs, rfl, h⟩ (smallP_take hs _))
  have HU := Lib.hid (show unwB x = (partB x && !(decide (x.fLayers.length = 0))) from rfl)
  have HY := Lib.hid (show unwB x = true → unwP x = ⟨x.fCore, x.fLayers.take (x.fLayers.length - 1)⟩ from fun h => if_pos h)
  have HZ := Lib.hid (show unwB x = false → unwP x = x from fun h => if_neg (by simp [h]))
  unfold GivesOPB
  unfold GivesOP at HCP HCT
  generalize unwB x = ub at *
  generalize unwP x = ux at *
  generalize partB x = pb at *
  obtain ⟨⟨a0, a1, a2, a3, a4⟩, l⟩ := x
  obtain ⟨v3, v5, rfl, h3, h5⟩ := hx
  simp only at h3 h5 HU HY HZ HCT
  obtain ⟨ra, rc, rfl, _⟩ := sliceAt_len h3
  obtain ⟨sa, sc, rfl, hl, hcap⟩ := sliceAt_cap h5
  have H3 := Lib.hid h3
  have H5 := Lib.hid h5
  clear h3 h5 hs hk
  unfold maxLen at hl
  have BS := Lib.hid (bx_start2 w [.string ⟨a0.toArray⟩, .bool a1, .bool a2, .slice ra a3.length rc, .int .i64 a4, .slice sa l.length sc] [.string ⟨#[]⟩, .bool false, .bool false, .slice none 0 0, .int .i64 0, .slice none 0 0] 29 29)
  have HR0 := Lib.hid (HX.out _ BS.out.2.2)
  have HIO := Lib.hid (fun W (h : 0 < l.length) => insideOf_c ⟨a0.toArray⟩ a1 a2 ra sa a3.length rc l.length sc a4 (l.length - 1) W (by omega) (by unfold maxLen; omega))
  have fin : ∀ (cs : List Value) (b : Bool), True := fun _ _ => trivial
  clear fin
  go_enter Try.func18, Try.ntmps18
  go_wp2_with fail
  refine (HIP.out _ _ HR0.out).mono ?_
  rintro e w1 ⟨rfl, hb⟩
  have HB1 := Lib.hid (belS BS.out.2.2 hb)
  have BP1 := Lib.hid (BS.out.1.below hb)
  have BR1 := Lib.hid (BS.out.2.1.below hb)
  clear hb
  have p0 := BP1.out.cell 0 (by simp)
  have p1 := BP1.out.cell 1 (by simp)
  have p2 := BP1.out.cell 2 (by simp)
  have p3 := BP1.out.cell 3 (by simp)
  have p4 := BP1.out.cell 4 (by simp)
  have p5 := BP1.out.cell 5 (by simp)
  simp only [List.getElem_cons_zero, List.getElem_cons_succ] at p0 p1 p2 p3 p4 p5
  by_cases hg : pb = true ∧ 0 < l.length
  · obtain ⟨rfl, hl0⟩ := hg
    have hub : ub = true := by rw [HU.out, show decide (l.length = 0) = false from decide_eq_false (by omega)]; rfl
    obtain rfl : ux = ⟨⟨a0, a1, a2, a3, a4⟩, l.take (l.length - 1)⟩ := HY.out hub
    subst hub
    have HRT := Lib.hid (fun W (hW : Below w.heap.size w W) => (show rPart 0 W [.string ⟨a0.toArray⟩, .bool a1, .bool a2, .slice ra a3.length rc, .int .i64 a4, .slice sa (l.length - 1) sc] ⟨⟨a0, a1, a2, a3, a4⟩, l.take (l.length - 1)⟩ from ⟨_, _, rfl, SliceAt.below H3.out (good_flat cCell_len) hW (Nat.le_refl _), sliceAt_take (SliceAt.below H5.out (good_flat cLayer_len) hW (Nat.le_refl _)) (l.length - 1) (by omega) (by omega)⟩))
    clear HY HZ
    generalize hlt : l.take (l.length - 1) = lt at *
    have HLT := Lib.hid hlt
    clear hlt
    have HI := Lib.hid (fun W => HIO.out W hl0)
    have hne : ¬ (l.length : Int) = 0 := by omega
    have hsub : IntKind.i64.wrap ((l.length : Int) - 1) = ((l.length - 1 : Nat) : Int) := by rw [IntWalk.i64_in _ (by omega)]; omega
    go_wp2_with fail
    refine (HI.out _).mono ?_
    rintro e w2 ⟨rfl, hb⟩
    have HB2 := Lib.hid (belS HB1.out hb)
    have BR2 := Lib.hid (BR1.out.below hb)
    clear hb p0 p1 p2 p3 p4 p5
    go_wp2_with fail
    refine (HCT.out _ _ (HRT.out _ HB2.out)).mono ?_
    rintro e wE ⟨_, rfl, ho, hb⟩
    obtain ⟨u3, u5, rfl, ho3, ho5⟩ := ho
    simp only at ho3 ho5
    obtain ⟨ga, gc, rfl⟩ := slice_of ho3
    obtain ⟨ua, uc, rfl⟩ := slice_of ho5
    have HBE := Lib.hid (belS HB2.out hb)
    have BRE := Lib.hid (BR2.out.below hb)
    have hsz := HB2.out.size
    have O3 := Lib.hid ho3
    have O5 := Lib.hid ho5
    have lr := BR2.out.lt
    clear hb ho3 ho5
    have r0 := BRE.out.cell 0 (by simp)
    have r1 := BRE.out.cell 1 (by simp)
    have r2 := BRE.out.cell 2 (by simp)
    have r3 := BRE.out.cell 3 (by simp)
    have r4 := BRE.out.cell 4 (by simp)
    have r5 := BRE.out.cell 5 (by simp)
    simp only [List.getElem_cons_zero, List.getElem_cons_succ] at r0 r1 r2 r3 r4 r5
    have z0 := BRE.out.froz 0 (by simp)
    have z1 := BRE.out.froz 1 (by simp)
    have z2 := BRE.out.froz 2 (by simp)
    have z3 := BRE.out.froz 3 (by simp)
    have z4 := BRE.out.froz 4 (by simp)
    have z5 := BRE.out.froz 5 (by simp)
    go_wp2_with fail
    clear r0 r1 r2 r3 r4 r5 z0 z1 z2 z3 z4 z5
    have BR4 := Lib.hid (BRE.out.put6 (.string ⟨a0.toArray⟩) (.bool a1) (.bool a2) (.slice ga a3.length gc) (.int .i64 a4) (.slice ua lt.length uc))
    have HB6 := Lib.hid (below_put6 HBE.out (w.heap.size + 1) (by omega) (.string ⟨a0.toArray⟩) (.bool a1) (.bool a2) (.slice ga a3.length gc) (.int .i64 a4) (.slice ua lt.length uc))
    have OC := Lib.hid (ownsF_put6 O3.out (w.heap.size + 1) lr (.string ⟨a0.toArray⟩) (.bool a1) (.bool a2) (.slice ga a3.length gc) (.int .i64 a4) (.slice ua lt.length uc))
    have OL := Lib.hid (ownsF_put6 O5.out (w.heap.size + 1) lr (.string ⟨a0.toArray⟩) (.bool a1) (.bool a2) (.slice ga a3.length gc) (.int .i64 a4) (.slice ua lt.length uc))
    generalize ((((((wE.setCell ⟨w.heap.size + 1, 0, none⟩ (.string ⟨a0.toArray⟩)).setCell ⟨w.heap.size + 1, 1, none⟩ (.bool a1)).setCell ⟨w.heap.size + 1, 2, none⟩ (.bool a2)).setCell ⟨w.heap.size + 1, 3, none⟩ (.slice ga a3.length gc)).setCell ⟨w.heap.size + 1, 4, none⟩ (.int .i64 a4)).setCell ⟨w.heap.size + 1, 5, none⟩ (.slice ua lt.length uc)) = WE at *
    have r0 := BR4.out.cell 0 (by simp)
    have r1 := BR4.out.cell 1 (by simp)
    have r2 := BR4.out.cell 2 (by simp)
    have r3 := BR4.out.cell 3 (by simp)
    have r4 := BR4.out.cell 4 (by simp)
    have r5 := BR4.out.cell 5 (by simp)
    simp only [List.getElem_cons_zero, List.getElem_cons_succ] at r0 r1 r2 r3 r4 r5
    exact bodyPost_ret (v := .tuple #[.agg #[.string ⟨a0.toArray⟩, .bool a1, .bool a2, .slice ga a3.length gc, .int .i64 a4, .slice ua lt.length uc], .bool true]) (by simp [results, Try.results18, go_sem, r0, r1, r2, r3, r4, r5]) rfl ⟨_, rfl, by rw [HLT.out]; exact ⟨_, _, rfl, ownsF_base OC.out (by omega), ownsF_base OL.out (by omega)⟩, HB6.out⟩
  · have hub : ub = false := by
      rw [HU.out]
      cases pb with
      | false => rfl
      | true => rw [show decide (l.length = 0) = true from decide_eq_true (by have h9 : ¬ 0 < l.length := fun h => hg ⟨rfl, h⟩; omega)]; rfl
    obtain rfl : ux = ⟨⟨a0, a1, a2, a3, a4⟩, l⟩ := HZ.out hub
    subst hub
    have hnil : pb = true → l.length = 0 := fun h => by have h9 : ¬ 0 < l.length := fun h2 => hg ⟨h, h2⟩; omega
    have HR1 := Lib.hid (HX.out _ HB1.out)
    cases pb
    · clear hnil hg
      go_wp2_with fail
      refine (HCP.out _ _ HR1.out).mono ?_
      rintro e wE ⟨_, rfl, ho, hb⟩
      clear p0 p1 p2 p3 p4 p5
      obtain ⟨u3, u5, rfl, ho3, ho5⟩ := ho
      simp only at ho3 ho5
      obtain ⟨ga, gc, rfl⟩ := slice_of ho3
      obtain ⟨ua, uc, rfl⟩ := slice_of ho5
      have HBE := Lib.hid (belS HB1.out hb)
      have BRE := Lib.hid (BR1.out.below hb)
      have hsz := HB1.out.size
      have O3 := Lib.hid ho3
      have O5 := Lib.hid ho5
      have lr := BR1.out.lt
      clear hb ho3 ho5
      have r0 := BRE.out.cell 0 (by simp)
      have r1 := BRE.out.cell 1 (by simp)
      have r2 := BRE.out.cell 2 (by simp)
      have r3 := BRE.out.cell 3 (by simp)
      have r4 := BRE.out.cell 4 (by simp)
      have r5 := BRE.out.cell 5 (by simp)
      simp only [List.getElem_cons_zero, List.getElem_cons_succ] at r0 r1 r2 r3 r4 r5
      have z0 := BRE.out.froz 0 (by simp)
      have z1 := BRE.out.froz 1 (by simp)
      have z2 := BRE.out.froz 2 (by simp)
      have z3 := BRE.out.froz 3 (by simp)
      have z4 := BRE.out.froz 4 (by simp)
      have z5 := BRE.out.froz 5 (by simp)
      go_wp2_with fail
      clear r0 r1 r2 r3 r4 r5 z0 z1 z2 z3 z4 z5
      have BR4 := Lib.hid (BRE.out.put6 (.string ⟨a0.toArray⟩) (.bool a1) (.bool a2) (.slice ga a3.length gc) (.int .i64 a4) (.slice ua l.length uc))
      have HB6 := Lib.hid (below_put6 HBE.out (w.heap.size + 1) (by omega) (.string ⟨a0.toArray⟩) (.bool a1) (.bool a2) (.slice ga a3.length gc) (.int .i64 a4) (.slice ua l.length uc))
      have OC := Lib.hid (ownsF_put6 O3.out (w.heap.size + 1) lr (.string ⟨a0.toArray⟩) (.bool a1) (.bool a2) (.slice ga a3.length gc) (.int .i64 a4) (.slice ua l.length uc))
      have OL := Lib.hid (ownsF_put6 O5.out (w.heap.size + 1) lr (.string ⟨a0.toArray⟩) (.bool a1) (.bool a2) (.slice ga a3.length gc) (.int .i64 a4) (.slice ua l.length uc))
      generalize ((((((wE.setCell ⟨w.heap.size + 1, 0, none⟩ (.string ⟨a0.toArray⟩)).setCell ⟨w.heap.size + 1, 1, none⟩ (.bool a1)).setCell ⟨w.heap.size + 1, 2, none⟩ (.bool a2)).setCell ⟨w.heap.size + 1, 3, none⟩ (.slice ga a3.length gc)).setCell ⟨w.heap.size + 1, 4, none⟩ (.int .i64 a4)).setCell ⟨w.heap.size + 1, 5, none⟩ (.slice ua l.length uc)) = WE at *
      have r0 := BR4.out.cell 0 (by simp)
      have r1 := BR4.out.cell 1 (by simp)
      have r2 := BR4.out.cell 2 (by simp)
      have r3 := BR4.out.cell 3 (by simp)
      have r4 := BR4.out.cell 4 (by simp)
      have r5 := BR4.out.cell 5 (by simp)
      simp only [List.getElem_cons_zero, List.getElem_cons_succ] at r0 r1 r2 r3 r4 r5
      exact bodyPost_ret (v := .tuple #[.agg #[.string ⟨a0.toArray⟩, .bool a1, .bool a2, .slice ga a3.length gc, .int .i64 a4, .slice ua l.length uc], .bool false]) (by simp [results, Try.results18, go_sem, r0, r1, r2, r3, r4, r5]) rfl ⟨_, rfl, ⟨_, _, rfl, ownsF_base OC.out (by omega), ownsF_base OL.out (by omega)⟩, HB6.out⟩
    · obtain rfl : l = [] := List.eq_nil_of_length_eq_zero (hnil rfl)
      clear hnil hg HIO HCT
      simp only [List.length_nil] at *
      go_wp2_with fail
      refine (HCP.out _ _ HR1.out).mono ?_
      rintro e wE ⟨_, rfl, ho, hb⟩
      clear p0 p1 p2 p3 p4 p5
      obtain ⟨u3, u5, rfl, ho3, ho5⟩ := ho
      simp only at ho3 ho5
      obtain ⟨ga, gc, rfl⟩ := slice_of ho3
      obtain ⟨ua, uc, rfl⟩ := slice_of ho5
      have HBE := Lib.hid (belS HB1.out hb)
      have BRE := Lib.hid (BR1.out.below hb)
      have hsz := HB1.out.size
      have O3 := Lib.hid ho3
      have O5 := Lib.hid ho5
      have lr := BR1.out.lt
      clear hb ho3 ho5
      have r0 := BRE.out.cell 0 (by simp)
      have r1 := BRE.out.cell 1 (by simp)
      have r2 := BRE.out.cell 2 (by simp)
      have r3 := BRE.out.cell 3 (by simp)
      have r4 := BRE.out.cell 4 (by simp)
      have r5 := BRE.out.cell 5 (by simp)
      simp only [List.getElem_cons_zero, List.getElem_cons_succ] at r0 r1 r2 r3 r4 r5
      have z0 := BRE.out.froz 0 (by simp)
      have z1 := BRE.out.froz 1 (by simp)
      have z2 := BRE.out.froz 2 (by simp)
      have z3 := BRE.out.froz 3 (by simp)
      have z4 := BRE.out.froz 4 (by simp)
      have z5 := BRE.out.froz 5 (by simp)
      go_wp2_with fail
      clear r0 r1 r2 r3 r4 r5 z0 z1 z2 z3 z4 z5
      have BR4 := Lib.hid (BRE.out.put6 (.string ⟨a0.toArray⟩) (.bool a1) (.bool a2) (.slice ga a3.length gc) (.int .i64 a4) (.slice ua 0 uc))
      have HB6 := Lib.hid (below_put6 HBE.out (w.heap.size + 1) (by omega) (.string ⟨a0.toArray⟩) (.bool a1) (.bool a2) (.slice ga a3.length gc) (.int .i64 a4) (.slice ua 0 uc))
      have OC := Lib.hid (ownsF_put6 O3.out (w.heap.size + 1) lr (.string ⟨a0.toArray⟩) (.bool a1) (.bool a2) (.slice ga a3.length gc) (.int .i64 a4) (.slice ua 0 uc))
      have OL := Lib.hid (ownsF_put6 O5.out (w.heap.size + 1) lr (.string ⟨a0.toArray⟩) (.bool a1) (.bool a2) (.slice ga a3.length gc) (.int .i64 a4) (.slice ua 0 uc))
      generalize ((((((wE.setCell ⟨w.heap.size + 1, 0, none⟩ (.string ⟨a0.toArray⟩)).setCell ⟨w.heap.size + 1, 1, none⟩ (.bool a1)).setCell ⟨w.heap.size + 1, 2, none⟩ (.bool a2)).setCell ⟨w.heap.size + 1, 3, none⟩ (.slice ga a3.length gc)).setCell ⟨w.heap.size + 1, 4, none⟩ (.int .i64 a4)).setCell ⟨w.heap.size + 1, 5, none⟩ (.slice ua 0 uc)) = WE at *
      have r0 := BR4.out.cell 0 (by simp)
      have r1 := BR4.out.cell 1 (by simp)
      have r2 := BR4.out.cell 2 (by simp)
      have r3 := BR4.out.cell 3 (by simp)
      have r4 := BR4.out.cell 4 (by simp)
      have r5 := BR4.out.cell 5 (by simp)
      simp only [List.getElem_cons_zero, List.getElem_cons_succ] at r0 r1 r2 r3 r4 r5
      exact bodyPost_ret (v := .tuple #[.agg #[.string ⟨a0.toArray⟩, .bool a1, .bool a2, .slice ga a3.length gc, .int .i64 a4, .slice ua 0 uc], .bool false]) (by simp [results, Try.results18, go_sem, r0, r1, r2, r3, r4, r5]) rfl ⟨_, rfl, ⟨_, _, rfl, ownsF_base OC.out (by omega), ownsF_base OL.out (by omega)⟩, HB6.out⟩
end Go.Proofs.Ytaihdjdaamglnaa
/- Contracts of chapter 3: slices.Equal of cells; SameCore, the program's and the model's. -/
namespace Go.Proofs.Ytaihdjdaamglnaa
set_option linter.unusedVariables false
open Go.RowKit
theorem belE {B : Nat} {a w : World} (h : Below B a w) (n : Nat) : Below B a (w.drewN n) := ⟨h.os, h.tape, h.output, h.size, h.block⟩
set_option maxRecDepth 100000 in
set_option maxHeartbeats 1600000 in
theorem equalCells_any (v u : Value) (x y : List CellD) (w : World) (hx : FlatAt cCell 2 w v x) (hy : FlatAt cCell 2 w u y) :
    Calls Try.prog 93 #[v, u] w fun e w' => e = .returned (.bool (decide (x = y))) ∧ Below w.heap.size w w' := by
  obtain ⟨a, c, rfl, hl⟩ := flatAt_len hx
  obtain ⟨a2, c2, rfl, hl2⟩ := flatAt_len hy
  have HX := Lib.hid hx
  have HY := Lib.hid hy
  clear hx hy
  unfold maxLen at hl hl2
  by_cases he : x.length = y.length
  · have hb : ((x.length : Int) == y.length) = true := beq_iff_eq.2 (by omega)
    have hbn : ((x.length : Int) != y.length) = false := by rw [bne_eq_false_iff_eq]; omega
    have HE := Lib.hid he
    clear he
    go_enter Try.func93, Try.ntmps93
    go_wp2
    go_loopw [5, 13] (fun _ i wr => ∃ k : Nat, k ≤ x.length ∧ i = .int .i64 k ∧ x.take k = y.take k ∧ Below w.heap.size w wr) (fun _ i _ => x.length - (intOf i).toNat)
    case atStart => exact ⟨0, Nat.zero_le _, rfl, rfl, Below.refl _ _⟩
    case round =>
      obtain ⟨k, hk, rfl, ht, hbr⟩ := hrel
      have HT := Lib.hid ht
      have HB := Lib.hid hbr
      have HXr := Lib.hid (FlatAt.below HX.out hbr (Nat.le_refl _))
      have HYr := Lib.hid (FlatAt.below HY.out hbr (Nat.le_refl _))
      clear ht hbr
      by_cases hlt : k < x.length
      · have hky : k < y.length := by have := HE.out; omega
        obtain ⟨b, o, rfl, _, hd⟩ := flatAt_cell cCell_len HXr.out k hlt (by decide)
        obtain ⟨b2, o2, rfl, _, hd2⟩ := flatAt_cell cCell_len HYr.out k hky (by decide)
        have d0 := hd 0 (by decide)
        have d1 := hd 1 (by decide)
        have q0 := hd2 0 (by decide)
        have q1 := hd2 1 (by decide)
        clear hd hd2
        have HS := Lib.hid (take_eq_step x y HE.out k hlt HT.out)
        have HD := Lib.hid (show x[k] ≠ y[k] → ¬ x = y from fun h e => h (by subst e; rfl))
        generalize x[k] = p at *
        generalize y[k] = q at *
        obtain ⟨a0, a1⟩ := p
        obtain ⟨b0, b1⟩ := q
        simp only [cCell, List.getElem?_cons_zero, List.getElem?_cons_succ, Nat.add_zero] at d0 d1 q0 q1
        have hk0 : (0 : Int) ≤ (k : Int) := by omega
        have hk1 : (k : Int) < (x.length : Int) := by omega
        have hk2 : (k : Int) < (y.length : Int) := by omega
        by_cases heq : (⟨a0, a1⟩ : CellD) = ⟨b0, b1⟩
        · have HN := Lib.hid (HS.out heq)
          injection heq with e0 e1
          subst e0 e1
          clear HS HD
          go_wp2
          go_quiet (fail)
          go_wp2_with fail
          exact ⟨⟨k + 1, by omega, by go_num, HN.out, belE HB.out _⟩, by simp [intOf]; omega⟩
        · have HN := Lib.hid (HD.out heq)
          by_cases e0 : a0 = b0
          · have e1 : ¬ a1 = b1 := fun e => heq (by rw [e0, e])
            have hn1 : (a1 == b1) = false := by simpa using e1
            subst e0
            clear HS HD heq e1
            go_wp2
            go_quiet (fail)
            go_wp2_with fail
            go_ret
            exact ⟨ret_bool (by simp [HN.out]), belE HB.out _⟩
          · have hn0 : (a0 == b0) = false := by simpa using e0
            clear HS HD heq e0
            go_wp2
            go_quiet (fail)
            go_wp2_with fail
            go_ret
            exact ⟨ret_bool (by simp [HN.out]), belE HB.out _⟩
      · have HN := Lib.hid (show x = y from by
          have h := HT.out
          rw [List.take_of_length_le (by omega), List.take_of_length_le (by have := HE.out; omega)] at h
          exact h)
        go_wp2
        go_ret
        exact ⟨ret_bool (by simp [HN.out]), HB.out⟩
  · have hb : ((x.length : Int) == y.length) = false := beq_eq_false_iff_ne.2 (by omega)
    have hbn : ((x.length : Int) != y.length) = true := by rw [bne_iff_ne]; omega
    have HN := Lib.hid (show ¬ x = y from fun e => he (by rw [e]))
    clear he
    go_enter Try.func93, Try.ntmps93
    go_wp2
    go_ret
    exact ⟨ret_bool (by simp [HN.out]), Below.refl _ _⟩
set_option maxRecDepth 100000 in
set_option maxHeartbeats 3200000 in
theorem implSame_b (v u : Value) (x y : CoreD) (q : Bool) (hq : decide (x = y) = q) (w : World) (hx : CoreAt w v x) (hy : CoreAt w u y) :
    Calls Try.prog 50 #[v, u] w fun e w' => e = .returned (.bool q) ∧ Below w.heap.size w w' := by
  obtain ⟨cv, rfl, hx⟩ := hx
  obtain ⟨cu, rfl, hy⟩ := hy
  have hex := coreD_ext x y
  obtain ⟨a0, a1, a2, a3, a4⟩ := x
  obtain ⟨b0, b1, b2, b3, b4⟩ := y
  unfold vCore
  simp only at *
  have B2 := Lib.hid (show ∀ o1 o2, Below w.heap.size w ((w.alloc o1).alloc o2) from fun o1 o2 => ((Below.refl _ _).alloc (Nat.le_refl _) _).alloc (by simp) _)
  have HX := Lib.hid hx
  have HY := Lib.hid hy
  have HN := Lib.hid (show ¬ (a0 = b0 ∧ a1 = b1 ∧ a2 = b2 ∧ a3 = b3 ∧ a4 = b4) → false = q from fun h => by rw [← hq]; symm; rw [decide_eq_false_iff_not, hex]; exact h)
  have HQ := Lib.hid (show a0 = b0 → a1 = b1 → a2 = b2 → a4 = b4 → decide (a3 = b3) = q from fun h0 h1 h2 h4 => by
    rw [← hq]
    by_cases h3 : a3 = b3
    · rw [decide_eq_true h3, decide_eq_true (hex.2 ⟨h0, h1, h2, h3, h4⟩)]
    · rw [decide_eq_false h3, decide_eq_false (fun e => h3 (hex.1 e).2.2.2.1)])
  have HC := Lib.hid (fun o1 o2 => equalCells_any cv cu a3 b3 ((w.alloc o1).alloc o2) (HX.out.below (B2.out o1 o2) (Nat.le_refl _)) (HY.out.below (B2.out o1 o2) (Nat.le_refl _)))
  clear hx hy hq hex
  by_cases h0 : a0 = b0
  case neg =>
    have HF := Lib.hid (HN.out fun e => h0 e.1)
    have hne : (a0 == b0) = false := by simpa using h0
    have hnf : (a0 != b0) = true := by simpa using h0
    clear h0
    go_enter Try.func50, Try.ntmps50
    go_wp2_with fail
    go_ret
    exact ⟨ret_bool HF.out, B2.out _ _⟩
  case pos =>
    by_cases h1 : a1 = b1
    case neg =>
      have HF := Lib.hid (HN.out fun e => h1 e.2.1)
      subst h0
      cases a1 <;> cases b1
      all_goals first
        | exact absurd rfl h1
        | (clear h1
           go_enter Try.func50, Try.ntmps50
           go_wp2_with fail
           go_ret
           exact ⟨ret_bool HF.out, B2.out _ _⟩)
    case pos =>
      by_cases h2 : a2 = b2
      case neg =>
        have HF := Lib.hid (HN.out fun e => h2 e.2.2.1)
        subst h0 h1
        cases a1 <;> cases a2 <;> cases b2
        all_goals first
          | exact absurd rfl h2
          | (clear h2
             go_enter Try.func50, Try.ntmps50
             go_wp2_with fail
             go_ret
             exact ⟨ret_bool HF.out, B2.out _ _⟩)
      case pos =>
        by_cases h4 : a4 = b4
        case neg =>
          have HF := Lib.hid (HN.out fun e => h4 e.2.2.2.2)
          have hne : (a4 == b4) = false := by simpa using h4
          have hnf : (a4 != b4) = true := by simpa using h4
          subst h0 h1 h2
          clear h4
          cases a1 <;> cases a2
          all_goals
            go_enter Try.func50, Try.ntmps50
            go_wp2_with fail
            go_ret
            exact ⟨ret_bool HF.out, B2.out _ _⟩
        case pos =>
          have HF := Lib.hid (HQ.out h0 h1 h2 h4)
          subst h0 h1 h2 h4
          obtain ⟨pa, pc, rfl, _⟩ := flatAt_len HX.out
          obtain ⟨qa, qc, rfl, _⟩ := flatAt_len HY.out
          generalize decide (a3 = b3) = eq at *
          cases a1 <;> cases a2
          all_goals
            go_enter Try.func50, Try.ntmps50
            go_wp2_with fail
            refine (HC.out _ _).mono ?_
            rintro e w1 ⟨rfl, hb⟩
            have HB := Lib.hid ((B2.out _ _).trans (hb.mono (B2.out _ _).size))
            clear hb
            go_wp2_with fail
            go_ret
            exact ⟨ret_bool HF.out, HB.out⟩
theorem implSame_any (v u : Value) (x y : CoreD) (w : World) (hx : CoreAt w v x) (hy : CoreAt w u y) :
    Calls Try.prog 50 #[v, u] w fun e w' => e = .returned (.bool (decide (x = y))) ∧ Below w.heap.size w w' := implSame_b v u x y _ rfl w hx hy
end Go.Proofs.Ytaihdjdaamglnaa
/- Contracts of chapter 4: slices.Equal of layers; SamePart, the program's. -/
namespace Go.Proofs.Ytaihdjdaamglnaa
set_option linter.unusedVariables false
set_option linter.unusedSimpArgs false
open Go.RowKit
set_option maxRecDepth 100000 in
set_option maxHeartbeats 1600000 in
theorem equalLayers_any (v u : Value) (x y : List LayerD) (w : World) (hx : FlatAt cLayer 2 w v x) (hy : FlatAt cLayer 2 w u y) :
    Calls Try.prog 51 #[v, u] w fun e w' => e = .returned (.bool (decide (x = y))) ∧ Below w.heap.size w w' := by
  obtain ⟨a, c, rfl, hl⟩ := flatAt_len hx
  obtain ⟨a2, c2, rfl, hl2⟩ := flatAt_len hy
  have HX := Lib.hid hx
  have HY := Lib.hid hy
  clear hx hy
  unfold maxLen at hl hl2
  by_cases he : x.length = y.length
  · have hb : ((x.length : Int) == y.length) = true := beq_iff_eq.2 (by omega)
    have hbn : ((x.length : Int) != y.length) = false := by rw [bne_eq_false_iff_eq]; omega
    have HE := Lib.hid he
    clear he
    go_enter Try.func51, Try.ntmps51
    go_wp2
    go_loopw [5, 13] (fun _ i wr => ∃ k : Nat, k ≤ x.length ∧ i = .int .i64 k ∧ x.take k = y.take k ∧ Below w.heap.size w wr) (fun _ i _ => x.length - (intOf i).toNat)
    case atStart => exact ⟨0, Nat.zero_le _, rfl, rfl, Below.refl _ _⟩
    case round =>
      obtain ⟨k, hk, rfl, ht, hbr⟩ := hrel
      have HT := Lib.hid ht
      have HB := Lib.hid hbr
      have HXr := Lib.hid (FlatAt.below HX.out hbr (Nat.le_refl _))
      have HYr := Lib.hid (FlatAt.below HY.out hbr (Nat.le_refl _))
      clear ht hbr
      by_cases hlt : k < x.length
      · have hky : k < y.length := by have := HE.out; omega
        obtain ⟨b, o, rfl, _, hd⟩ := flatAt_cell cLayer_len HXr.out k hlt (by decide)
        obtain ⟨b2, o2, rfl, _, hd2⟩ := flatAt_cell cLayer_len HYr.out k hky (by decide)
        have d0 := hd 0 (by decide)
        have d1 := hd 1 (by decide)
        have q0 := hd2 0 (by decide)
        have q1 := hd2 1 (by decide)
        clear hd hd2
        have HS := Lib.hid (take_eq_step x y HE.out k hlt HT.out)
        have HD := Lib.hid (show x[k] ≠ y[k] → ¬ x = y from fun h e => h (by subst e; rfl))
        generalize x[k] = p at *
        generalize y[k] = q at *
        obtain ⟨a0, a1⟩ := p
        obtain ⟨b0, b1⟩ := q
        simp only [cLayer, List.getElem?_cons_zero, List.getElem?_cons_succ, Nat.add_zero] at d0 d1 q0 q1
        have hk0 : (0 : Int) ≤ (k : Int) := by omega
        have hk1 : (k : Int) < (x.length : Int) := by omega
        have hk2 : (k : Int) < (y.length : Int) := by omega
        by_cases heq : (⟨a0, a1⟩ : LayerD) = ⟨b0, b1⟩
        · have HN := Lib.hid (HS.out heq)
          injection heq with e0 e1
          subst e0 e1
          clear HS HD
          go_wp2
          go_quiet (fail)
          go_wp2_with fail
          exact ⟨⟨k + 1, by omega, by go_num, HN.out, belE HB.out _⟩, by simp [intOf]; omega⟩
        · have HN := Lib.hid (HD.out heq)
          by_cases e0 : a0 = b0
          · have e1 : ¬ a1 = b1 := fun e => heq (by rw [e0, e])
            have hn1 : (a1 == b1) = false := by simpa using e1
            subst e0
            clear HS HD heq e1
            go_wp2
            go_quiet (fail)
            go_wp2_with fail
            go_ret
            exact ⟨ret_bool (by simp [HN.out]), belE HB.out _⟩
          · have hn0 : (a0 == b0) = false := by simpa using e0
            clear HS HD heq e0
            go_wp2
            go_quiet (fail)
            go_wp2_with fail
            go_ret
            exact ⟨ret_bool (by simp [HN.out]), belE HB.out _⟩
      · have HN := Lib.hid (show x = y from by
          have h := HT.out
          rw [List.take_of_length_le (by omega), List.take_of_length_le (by have := HE.out; omega)] at h
          exact h)
        go_wp2
        go_ret
        exact ⟨ret_bool (by simp [HN.out]), HB.out⟩
  · have hb : ((x.length : Int) == y.length) = false := beq_eq_false_iff_ne.2 (by omega)
    have hbn : ((x.length : Int) != y.length) = true := by rw [bne_iff_ne]; omega
    have HN := Lib.hid (show ¬ x = y from fun e => he (by rw [e]))
    clear he
    go_enter Try.func51, Try.ntmps51
    go_wp2
    go_ret
    exact ⟨ret_bool (by simp [HN.out]), Below.refl _ _⟩

theorem part_eq (x y : PartD) : decide (x = y) = (decide (x.fCore = y.fCore) && decide (x.fLayers = y.fLayers)) := by rw [Bool.eq_iff_iff]; cases x; cases y; simp
set_option maxRecDepth 100000 in
set_option maxHeartbeats 1600000 in
theorem implSamePart_any (v u : Value) (x y : PartD) (w : World) (hx : ValAt rPart 0 w v x) (hy : ValAt rPart 0 w u y) :
    Calls Try.prog 15 #[v, u] w fun e w' => e = .returned (.bool (decide (x = y))) ∧ Below w.heap.size w w' := by
  rw [part_eq]
  obtain ⟨_, rfl, hx⟩ := hx
  obtain ⟨_, rfl, hy⟩ := hy
  obtain ⟨⟨a0, a1, a2, a3, a4⟩, ls⟩ := x
  obtain ⟨⟨b0, b1, b2, b3, b4⟩, ms⟩ := y
  obtain ⟨v3, v5, rfl, h3, h5⟩ := hx
  obtain ⟨u3, u5, rfl, k3, k5⟩ := hy
  simp only at h3 h5 k3 k5 ⊢
  have HC := Lib.hid (fun w1 (hw : Below w.heap.size w w1) => implSame_any (.agg #[.string ⟨a0.toArray⟩, .bool a1, .bool a2, v3, .int .i64 a4]) (.agg #[.string ⟨b0.toArray⟩, .bool b1, .bool b2, u3, .int .i64 b4]) ⟨a0, a1, a2, a3, a4⟩ ⟨b0, b1, b2, b3, b4⟩ w1 ⟨v3, rfl, (flatAt_of_slice cCell_len (by decide) h3).below hw (Nat.le_refl _)⟩ ⟨u3, rfl, (flatAt_of_slice cCell_len (by decide) k3).below hw (Nat.le_refl _)⟩)
  have HL := Lib.hid (fun w1 (hw : Below w.heap.size w w1) => equalLayers_any v5 u5 ls ms w1 ((flatAt_of_slice cLayer_len (by decide) h5).below hw (Nat.le_refl _)) ((flatAt_of_slice cLayer_len (by decide) k5).below hw (Nat.le_refl _)))
  obtain ⟨ra, rc, rfl, _⟩ := sliceAt_len h3
  obtain ⟨sa, sc, rfl, _⟩ := sliceAt_len h5
  obtain ⟨pa, pc, rfl, _⟩ := sliceAt_len k3
  obtain ⟨qa, qc, rfl, _⟩ := sliceAt_len k5
  have HS := Lib.hid (bx_start2 w [.string ⟨a0.toArray⟩, .bool a1, .bool a2, .slice ra a3.length rc, .int .i64 a4, .slice sa ls.length sc] [.string ⟨b0.toArray⟩, .bool b1, .bool b2, .slice pa b3.length pc, .int .i64 b4, .slice qa ms.length qc] 29 29)
  generalize decide ((⟨a0, a1, a2, a3, a4⟩ : CoreD) = ⟨b0, b1, b2, b3, b4⟩) = p at *
  generalize decide (ls = ms) = q at *
  clear h3 h5 k3 k5
  cases p with
  | false =>
    go_enter Try.func15, Try.ntmps15
    go_wp2_with fail
    refine (HC.out _ HS.out.2.2).mono ?_
    rintro e w1 ⟨rfl, hb⟩
    have HB := Lib.hid (belS (w := w) HS.out.2.2 hb)
    clear hb
    go_wp2_with fail
    go_ret
    exact ⟨rfl, HB.out⟩
  | true =>
    go_enter Try.func15, Try.ntmps15
    go_wp2_with fail
    refine (HC.out _ HS.out.2.2).mono ?_
    rintro e w1 ⟨rfl, hb⟩
    have HB := Lib.hid (belS (w := w) HS.out.2.2 hb)
    have BA := Lib.hid (HS.out.1.below hb)
    have BB := Lib.hid (HS.out.2.1.below hb)
    clear hb
    have eA := BA.out.cell 5 (by simp)
    have eB := BB.out.cell 5 (by simp)
    simp only [List.getElem_cons_zero, List.getElem_cons_succ] at eA eB
    go_wp2_with fail
    refine (HL.out _ HB.out).mono ?_
    rintro e w2 ⟨rfl, hb⟩
    have HB := Lib.hid (belS (w := w) HB.out hb)
    clear hb eA eB
    go_wp2_with fail
    go_ret
    exact ⟨ret_bool (by simp), HB.out⟩
end Go.Proofs.Ytaihdjdaamglnaa
namespace Go.Proofs.Ytaihdjdaamglnaa
set_option linter.unusedVariables false
set_option linter.unusedSimpArgs false
open Go.ChangeShapes Go.WideShapes Go.ChangeAt Go.RowKit Go.WideMaps Go.WideElems
open Go.ChangeMaps (open_string shut_string)
theorem rpB {w w' : World} {B : Nat} {cs : List Value} {x : PartD} (h : rPart 0 w cs x) (hb : Below B w w') (hB : w.heap.size ≤ B) : rPart 0 w' cs x := goodPart.keep h (kept_below hb hB)
def five (W : World) (P : Nat) (c0 c1 c2 c3 c4 : Value) : Prop := W.cell? ⟨P, 0, none⟩ = some c0 ∧ W.cell? ⟨P, 1, none⟩ = some c1 ∧ W.cell? ⟨P, 2, none⟩ = some c2 ∧ W.cell? ⟨P, 3, none⟩ = some c3 ∧ W.cell? ⟨P, 4, none⟩ = some c4
theorem wrap_okQ {x : PartD} {s : List UInt8} (h : partB x = true ∧ 0 ≤ layI s) (h3 : ¬ x.fLayers.length = 3) (ho : offersF (faceP x) (needI (layI s)) = true) :
    wrapR x s = ⟨0, giveI (layI s), [], 0, 0⟩ ∧ partB (wrapP x s) = true ∧ faceP (wrapP x s) = giveI (layI s) ∧ unwB (wrapP x s) = true ∧ unwP (wrapP x s) = x := by
  obtain ⟨h1, h2⟩ := wrap_ok h h3 ho
  have hi : wrapI x s = 0 := by unfold wrapI; rw [if_pos h, if_neg h3, if_pos ho]
  have hp := wrap_part hi
  have hb : unwB (wrapP x s) = true := by unfold unwB; rw [hp, h1]; simp
  refine ⟨h2, hp, ?_, hb, ?_⟩
  · rw [h1]
    have e : faceP ⟨x.fCore, x.fLayers ++ [(⟨s, 0⟩ : LayerD)]⟩ = faceN ⟨x.fCore, x.fLayers ++ [(⟨s, 0⟩ : LayerD)]⟩ (x.fLayers.length + 1) := by unfold faceP; simp only [List.length_append, List.length_cons, List.length_nil]
    rw [e, faceN_succ _ _ (by simp)]
    simp
  · unfold unwP; rw [if_pos hb, h1]; simp
theorem bx_five {W : World} {P : Nat} {c0 c1 c2 c3 c4 : Value} (h : Bx W P [c0, c1, c2, c3, c4]) : five W P c0 c1 c2 c3 c4 := ⟨h.cell 0 (by simp), h.cell 1 (by simp), h.cell 2 (by simp), h.cell 3 (by simp), h.cell 4 (by simp)⟩
theorem belL {a w w' : World} {B : Nat} (h : Below a.heap.size a w) (hb : Below B w w') (hB : w.heap.size ≤ B) : Below a.heap.size a w' := h.trans (hb.mono (Nat.le_trans h.size hB))
theorem cellL {w w' : World} {B : Nat} {p : Addr} {v : Value} (h : w.cell? p = some v) (hb : Below B w w') (hB : w.heap.size ≤ B) : w'.cell? p = some v := (hb.cell (Nat.lt_of_lt_of_le (World.block_lt_of_cell? w _ h) hB)).trans h
set_option maxRecDepth 100000 in
set_option maxHeartbeats 6400000 in
theorem fnWrapped_any (v : Value) (l : List UInt8) (w : World) (hR : RowAt w v (Lib.byteCells l)) :
    Calls Try.prog 3 #[v] w fun e w' => e = .returned (.bool true) ∧ Below w.heap.size w w' := by
  have HR := Lib.hid hR
  have HBG := Lib.hid (big_any v l w hR)
  clear hR
  go_enter Try.func3, Try.ntmps3
  go_wp2_with fail
  refine HBG.out.mono ?_
  rintro e w' ⟨rfl, rfl⟩
  by_cases hbig : 4096 < l.length
  · go_wp2_with fail
    go_ret
    exact ⟨rfl, Below.refl _ _⟩
  have hd : decide (4096 < l.length) = false := by simpa using hbig
  clear hbig
  rw [hd]
  clear hd HBG
  go_wp2_with fail
  refine (drawWrap_any v l _ HR.out).mono ?_
  rintro e w1 ⟨⟨⟨kd, on, br, y, cnt⟩, z⟩, cv, lv, sl, rfl, ho3, ho5, hok, hsl, hb⟩
  simp only at ho3 ho5
  obtain ⟨ca, cc, rfl⟩ := slice_of ho3
  obtain ⟨la, lc, rfl⟩ := slice_of ho5
  have HB := Lib.hid hb
  have HOK := Lib.hid hok
  have HSM := Lib.hid (okPt_small hok (by decide))
  have HKY := Lib.hid (okPt_keys hok)
  have HPP := Lib.hid (show rPart 0 _ [.string ⟨kd.toArray⟩, .bool on, .bool br, .slice ca y.length cc, .int .i64 cnt, .slice la z.length lc] (⟨⟨kd, on, br, y, cnt⟩, z⟩ : PartD) from goodPart.mono (oPart_r ⟨_, _, rfl, ho3, ho5⟩ (okPt_small hok (by decide))) (Nat.zero_le _))
  clear ho3 ho5 hok hb
  go_upto_region 4 with fail
  have hbn := Bx.new (w1) [.string ⟨kd.toArray⟩, .bool on, .bool br, .slice ca y.length cc, .int .i64 cnt, .slice la z.length lc] 29
  have hbb := bx_box (w1) (.cells #[.string ⟨kd.toArray⟩, .bool on, .bool br, .slice ca y.length cc, .int .i64 cnt, .slice la z.length lc] 29)
  have Vb_p := Lib.hid hbn
  clear hbn
  replace HPP := Lib.hid (rpB HPP.out hbb (Nat.le_refl _))
  replace HB := Lib.hid (belS HB.out hbb)
  clear hbb
  generalize (w1).alloc (.cells #[.string ⟨kd.toArray⟩, .bool on, .bool br, .slice ca y.length cc, .int .i64 cnt, .slice la z.length lc] 29) = w3 at *
  have HW := Lib.hid (fun W (h : rPart 0 W [.string ⟨kd.toArray⟩, .bool on, .bool br, .slice ca y.length cc, .int .i64 cnt, .slice la z.length lc] (⟨⟨kd, on, br, y, cnt⟩, z⟩ : PartD)) => implWrap_any (.agg #[.string ⟨kd.toArray⟩, .bool on, .bool br, .slice ca y.length cc, .int .i64 cnt, .slice la z.length lc]) (⟨⟨kd, on, br, y, cnt⟩, z⟩ : PartD) ⟨sl.toArray⟩ W (⟨_, rfl, h⟩ : ValAt rPart 0 W (.agg #[.string ⟨kd.toArray⟩, .bool on, .bool br, .slice ca y.length cc, .int .i64 cnt, .slice la z.length lc]) (⟨⟨kd, on, br, y, cnt⟩, z⟩ : PartD)) HSM.out HKY.out (Nat.le_trans hsl (by decide)))
  have HIP := Lib.hid (fun W (h : rPart 0 W [.string ⟨kd.toArray⟩, .bool on, .bool br, .slice ca y.length cc, .int .i64 cnt, .slice la z.length lc] (⟨⟨kd, on, br, y, cnt⟩, z⟩ : PartD)) => implIsPart_any (.agg #[.string ⟨kd.toArray⟩, .bool on, .bool br, .slice ca y.length cc, .int .i64 cnt, .slice la z.length lc]) (⟨⟨kd, on, br, y, cnt⟩, z⟩ : PartD) W (⟨_, rfl, h⟩ : ValAt rPart 0 W (.agg #[.string ⟨kd.toArray⟩, .bool on, .bool br, .slice ca y.length cc, .int .i64 cnt, .slice la z.length lc]) (⟨⟨kd, on, br, y, cnt⟩, z⟩ : PartD)) HKY.out)
  have HFO := Lib.hid (fun W (h : rPart 0 W [.string ⟨kd.toArray⟩, .bool on, .bool br, .slice ca y.length cc, .int .i64 cnt, .slice la z.length lc] (⟨⟨kd, on, br, y, cnt⟩, z⟩ : PartD)) => implFaceOf_any (.agg #[.string ⟨kd.toArray⟩, .bool on, .bool br, .slice ca y.length cc, .int .i64 cnt, .slice la z.length lc]) (⟨⟨kd, on, br, y, cnt⟩, z⟩ : PartD) W (⟨_, rfl, h⟩ : ValAt rPart 0 W (.agg #[.string ⟨kd.toArray⟩, .bool on, .bool br, .slice ca y.length cc, .int .i64 cnt, .slice la z.length lc]) (⟨⟨kd, on, br, y, cnt⟩, z⟩ : PartD)))
  have HLN := Lib.hid (fun W => implLayerNeeds_any ⟨sl.toArray⟩ W)
  have HLG := Lib.hid (fun W => implLayerGives_any ⟨sl.toArray⟩ W)
  simp only [ndV, List.toList_toArray] at HLN
  simp only [gvV, List.toList_toArray] at HLG
  simp only [List.toList_toArray] at HW
  have HSMW := Lib.hid (wrapP_small HSM.out sl)
  have HKW := Lib.hid (show ∀ c ∈ (wrapP (⟨⟨kd, on, br, y, cnt⟩, z⟩ : PartD) sl).fCore.fCells, c.fKey.length ≤ maxLen from by rw [wrapP_core]; exact HKY.out)
  have HOF := Lib.hid (fun W => implOffers_any (faceP (⟨⟨kd, on, br, y, cnt⟩, z⟩ : PartD)) (needI (layI sl)) W)
  have HBAD := Lib.hid (@wrap_bad (⟨⟨kd, on, br, y, cnt⟩, z⟩ : PartD) sl)
  have HFUL := Lib.hid (fun h h3 => @wrap_full (⟨⟨kd, on, br, y, cnt⟩, z⟩ : PartD) sl h h3)
  have HOKW := Lib.hid (fun h h3 ho => @wrap_okQ (⟨⟨kd, on, br, y, cnt⟩, z⟩ : PartD) sl h h3 ho)
  have HFAI := Lib.hid (fun h h3 ho => @wrap_fail (⟨⟨kd, on, br, y, cnt⟩, z⟩ : PartD) sl h h3 ho)
  generalize wrapP (⟨⟨kd, on, br, y, cnt⟩, z⟩ : PartD) sl = p2 at *
  generalize wrapR (⟨⟨kd, on, br, y, cnt⟩, z⟩ : PartD) sl = r2 at *
  obtain ⟨⟨kd2, on2, br2, y2, cnt2⟩, z2⟩ := p2
  obtain ⟨t0, t1, t2, t3, t4⟩ := r2
  unfold GivesOPR vReply at HW
  simp only at HW
  generalize hpb : partB (⟨⟨kd, on, br, y, cnt⟩, z⟩ : PartD) = pb at *
  clear hpb
  generalize hly : decide (0 ≤ layI sl) = ly at *
  generalize faceP (⟨⟨kd, on, br, y, cnt⟩, z⟩ : PartD) = fp at *
  generalize needI (layI sl) = nd at *
  generalize giveI (layI sl) = gv at *
  generalize hof : offersF fp nd = of at *
  clear hof
  have B_p := Vb_p.out
  have p_0 := Vb_p.out.cell 0 (by simp)
  have p_1 := Vb_p.out.cell 1 (by simp)
  have p_2 := Vb_p.out.cell 2 (by simp)
  have p_3 := Vb_p.out.cell 3 (by simp)
  have p_4 := Vb_p.out.cell 4 (by simp)
  have p_5 := Vb_p.out.cell 5 (by simp)
  simp only [List.getElem_cons_zero, List.getElem_cons_succ] at p_0 p_1 p_2 p_3 p_4 p_5
  have p_l := Vb_p.out.lt
  clear B_p
  go_wp2_with fail
  clear p_0 p_1 p_2 p_3 p_4 p_5 p_l
  refine (HW.out _ HPP.out).mono ?_
  rintro e w4 ⟨_, rfl, ⟨u3, u5, rfl, ho3, ho5⟩, hb⟩
  replace Vb_p := Lib.hid (Vb_p.out.below hb)
  replace HPP := Lib.hid (rpB HPP.out hb (Nat.le_refl _))
  replace HB := Lib.hid (belS HB.out hb)
  clear hb
  simp only at ho3 ho5
  obtain ⟨cb, cd, rfl⟩ := slice_of ho3
  obtain ⟨lb, ld, rfl⟩ := slice_of ho5
  have HQQ := Lib.hid (show rPart 0 _ [.string ⟨kd2.toArray⟩, .bool on2, .bool br2, .slice cb y2.length cd, .int .i64 cnt2, .slice lb z2.length ld] (⟨⟨kd2, on2, br2, y2, cnt2⟩, z2⟩ : PartD) from goodPart.mono (oPart_r ⟨_, _, rfl, ho3, ho5⟩ HSMW.out) (Nat.zero_le _))
  clear ho3 ho5
  go_upto_region 5 with fail
  have hbn := Bx.new (w4) [.string ⟨kd2.toArray⟩, .bool on2, .bool br2, .slice cb y2.length cd, .int .i64 cnt2, .slice lb z2.length ld] 29
  have hbb := bx_box (w4) (.cells #[.string ⟨kd2.toArray⟩, .bool on2, .bool br2, .slice cb y2.length cd, .int .i64 cnt2, .slice lb z2.length ld] 29)
  have Vb_q := Lib.hid hbn
  clear hbn
  replace Vb_p := Lib.hid (Vb_p.out.below hbb)
  replace HPP := Lib.hid (rpB HPP.out hbb (Nat.le_refl _))
  replace HQQ := Lib.hid (rpB HQQ.out hbb (Nat.le_refl _))
  replace HB := Lib.hid (belS HB.out hbb)
  clear hbb
  have hbn := Bx.new ((w4).alloc (.cells #[.string ⟨kd2.toArray⟩, .bool on2, .bool br2, .slice cb y2.length cd, .int .i64 cnt2, .slice lb z2.length ld] 29)) [.int .i64 t0, .int .i64 t1, .string ⟨t2.toArray⟩, .int .i64 t3, .int .i64 t4] 33
  have hbb := bx_box ((w4).alloc (.cells #[.string ⟨kd2.toArray⟩, .bool on2, .bool br2, .slice cb y2.length cd, .int .i64 cnt2, .slice lb z2.length ld] 29)) (.cells #[.int .i64 t0, .int .i64 t1, .string ⟨t2.toArray⟩, .int .i64 t3, .int .i64 t4] 33)
  rw [show ((w4).alloc (.cells #[.string ⟨kd2.toArray⟩, .bool on2, .bool br2, .slice cb y2.length cd, .int .i64 cnt2, .slice lb z2.length ld] 29)).heap.size = w4.heap.size + 1 by simp] at hbn
  have Vb_r := Lib.hid hbn
  clear hbn
  replace Vb_p := Lib.hid (Vb_p.out.below hbb)
  replace Vb_q := Lib.hid (Vb_q.out.below hbb)
  replace HPP := Lib.hid (rpB HPP.out hbb (Nat.le_refl _))
  replace HQQ := Lib.hid (rpB HQQ.out hbb (Nat.le_refl _))
  replace HB := Lib.hid (belS HB.out hbb)
  clear hbb
  generalize ((w4).alloc (.cells #[.string ⟨kd2.toArray⟩, .bool on2, .bool br2, .slice cb y2.length cd, .int .i64 cnt2, .slice lb z2.length ld] 29)).alloc (.cells #[.int .i64 t0, .int .i64 t1, .string ⟨t2.toArray⟩, .int .i64 t3, .int .i64 t4] 33) = w7 at *
  have HSP := Lib.hid (fun W (h : rPart 0 W [.string ⟨kd.toArray⟩, .bool on, .bool br, .slice ca y.length cc, .int .i64 cnt, .slice la z.length lc] (⟨⟨kd, on, br, y, cnt⟩, z⟩ : PartD)) (h2 : rPart 0 W [.string ⟨kd2.toArray⟩, .bool on2, .bool br2, .slice cb y2.length cd, .int .i64 cnt2, .slice lb z2.length ld] (⟨⟨kd2, on2, br2, y2, cnt2⟩, z2⟩ : PartD)) => implSamePart_any (.agg #[.string ⟨kd.toArray⟩, .bool on, .bool br, .slice ca y.length cc, .int .i64 cnt, .slice la z.length lc]) (.agg #[.string ⟨kd2.toArray⟩, .bool on2, .bool br2, .slice cb y2.length cd, .int .i64 cnt2, .slice lb z2.length ld]) (⟨⟨kd, on, br, y, cnt⟩, z⟩ : PartD) (⟨⟨kd2, on2, br2, y2, cnt2⟩, z2⟩ : PartD) W (⟨_, rfl, h⟩ : ValAt rPart 0 W (.agg #[.string ⟨kd.toArray⟩, .bool on, .bool br, .slice ca y.length cc, .int .i64 cnt, .slice la z.length lc]) (⟨⟨kd, on, br, y, cnt⟩, z⟩ : PartD)) (⟨_, rfl, h2⟩ : ValAt rPart 0 W (.agg #[.string ⟨kd2.toArray⟩, .bool on2, .bool br2, .slice cb y2.length cd, .int .i64 cnt2, .slice lb z2.length ld]) (⟨⟨kd2, on2, br2, y2, cnt2⟩, z2⟩ : PartD)))
  go_wp2_with fail
  refine (HLN.out _).mono ?_
  rintro e w8 ⟨rfl, rfl⟩
  go_wp2_with fail
  refine (HLG.out _).mono ?_
  rintro e w9 ⟨rfl, rfl⟩
  have B_p := Vb_p.out
  have p_0 := Vb_p.out.cell 0 (by simp)
  have p_1 := Vb_p.out.cell 1 (by simp)
  have p_2 := Vb_p.out.cell 2 (by simp)
  have p_3 := Vb_p.out.cell 3 (by simp)
  have p_4 := Vb_p.out.cell 4 (by simp)
  have p_5 := Vb_p.out.cell 5 (by simp)
  simp only [List.getElem_cons_zero, List.getElem_cons_succ] at p_0 p_1 p_2 p_3 p_4 p_5
  have p_l := Vb_p.out.lt
  clear B_p
  go_wp2_with fail
  clear p_0 p_1 p_2 p_3 p_4 p_5 p_l
  refine (HIP.out _ HPP.out).mono ?_
  rintro e w10 ⟨rfl, hb⟩
  replace Vb_p := Lib.hid (Vb_p.out.below hb)
  replace Vb_q := Lib.hid (Vb_q.out.below hb)
  replace Vb_r := Lib.hid (Vb_r.out.below hb)
  replace HPP := Lib.hid (rpB HPP.out hb (Nat.le_refl _))
  replace HQQ := Lib.hid (rpB HQQ.out hb (Nat.le_refl _))
  replace HB := Lib.hid (belS HB.out hb)
  clear hb
  cases pb
  case false =>
    cases ly
    case false =>
      obtain ⟨e1, e2⟩ := HBAD.out (by rintro ⟨h1, h2⟩; first | (cases h1; done) | (rw [decide_eq_true h2] at hly; cases hly))
      clear HBAD HFUL HOKW HFAI HOF HFO
      replace HSP := HSP.out
      skip
      have HE := Lib.hid e1
      clear e1
      have e1 := HE.out
      clear HE
      injection e1 with f1 f2
      injection f1 with f1 f3 f4 f5 f6
      injection e2 with q0 q1 q2 q3 q4
      subst q0; subst q1; subst q2; subst q3; subst q4
      subst f2; subst f1; subst f3; subst f4; subst f5; subst f6
      simp only [decide_true] at HSP
      replace HSP := Lib.hid HSP
      have B_p := Vb_p.out
      have p_0 := Vb_p.out.cell 0 (by simp)
      have p_1 := Vb_p.out.cell 1 (by simp)
      have p_2 := Vb_p.out.cell 2 (by simp)
      have p_3 := Vb_p.out.cell 3 (by simp)
      have p_4 := Vb_p.out.cell 4 (by simp)
      have p_5 := Vb_p.out.cell 5 (by simp)
      simp only [List.getElem_cons_zero, List.getElem_cons_succ] at p_0 p_1 p_2 p_3 p_4 p_5
      have p_l := Vb_p.out.lt
      clear B_p
      have B_q := Vb_q.out
      have q_0 := Vb_q.out.cell 0 (by simp)
      have q_1 := Vb_q.out.cell 1 (by simp)
      have q_2 := Vb_q.out.cell 2 (by simp)
      have q_3 := Vb_q.out.cell 3 (by simp)
      have q_4 := Vb_q.out.cell 4 (by simp)
      have q_5 := Vb_q.out.cell 5 (by simp)
      simp only [List.getElem_cons_zero, List.getElem_cons_succ] at q_0 q_1 q_2 q_3 q_4 q_5
      have q_l := Vb_q.out.lt
      clear B_q
      have B_r := Vb_r.out
      have r_0 := Vb_r.out.cell 0 (by simp)
      have r_1 := Vb_r.out.cell 1 (by simp)
      have r_2 := Vb_r.out.cell 2 (by simp)
      have r_3 := Vb_r.out.cell 3 (by simp)
      have r_4 := Vb_r.out.cell 4 (by simp)
      simp only [List.getElem_cons_zero, List.getElem_cons_succ] at r_0 r_1 r_2 r_3 r_4
      have r_l := Vb_r.out.lt
      clear B_r
      go_wp2_with fail
      clear p_0 p_1 p_2 p_3 p_4 p_5 p_l q_0 q_1 q_2 q_3 q_4 q_5 q_l r_0 r_1 r_2 r_3 r_4 r_l
      refine (HSP.out _ HPP.out HQQ.out).mono ?_
      rintro e w11 ⟨rfl, hb⟩
      replace Vb_p := Lib.hid (Vb_p.out.below hb)
      replace Vb_q := Lib.hid (Vb_q.out.below hb)
      replace Vb_r := Lib.hid (Vb_r.out.below hb)
      replace HPP := Lib.hid (rpB HPP.out hb (Nat.le_refl _))
      replace HQQ := Lib.hid (rpB HQQ.out hb (Nat.le_refl _))
      replace HB := Lib.hid (belS HB.out hb)
      clear hb
      go_wp2_with fail
      go_ret
      exact ⟨rfl, HB.out⟩
    case true =>
      obtain ⟨e1, e2⟩ := HBAD.out (by rintro ⟨h1, h2⟩; first | (cases h1; done) | (rw [decide_eq_true h2] at hly; cases hly))
      clear HBAD HFUL HOKW HFAI HOF HFO
      replace HSP := HSP.out
      skip
      have HE := Lib.hid e1
      clear e1
      have e1 := HE.out
      clear HE
      injection e1 with f1 f2
      injection f1 with f1 f3 f4 f5 f6
      injection e2 with q0 q1 q2 q3 q4
      subst q0; subst q1; subst q2; subst q3; subst q4
      subst f2; subst f1; subst f3; subst f4; subst f5; subst f6
      simp only [decide_true] at HSP
      replace HSP := Lib.hid HSP
      have B_p := Vb_p.out
      have p_0 := Vb_p.out.cell 0 (by simp)
      have p_1 := Vb_p.out.cell 1 (by simp)
      have p_2 := Vb_p.out.cell 2 (by simp)
      have p_3 := Vb_p.out.cell 3 (by simp)
      have p_4 := Vb_p.out.cell 4 (by simp)
      have p_5 := Vb_p.out.cell 5 (by simp)
      simp only [List.getElem_cons_zero, List.getElem_cons_succ] at p_0 p_1 p_2 p_3 p_4 p_5
      have p_l := Vb_p.out.lt
      clear B_p
      have B_q := Vb_q.out
      have q_0 := Vb_q.out.cell 0 (by simp)
      have q_1 := Vb_q.out.cell 1 (by simp)
      have q_2 := Vb_q.out.cell 2 (by simp)
      have q_3 := Vb_q.out.cell 3 (by simp)
      have q_4 := Vb_q.out.cell 4 (by simp)
      have q_5 := Vb_q.out.cell 5 (by simp)
      simp only [List.getElem_cons_zero, List.getElem_cons_succ] at q_0 q_1 q_2 q_3 q_4 q_5
      have q_l := Vb_q.out.lt
      clear B_q
      have B_r := Vb_r.out
      have r_0 := Vb_r.out.cell 0 (by simp)
      have r_1 := Vb_r.out.cell 1 (by simp)
      have r_2 := Vb_r.out.cell 2 (by simp)
      have r_3 := Vb_r.out.cell 3 (by simp)
      have r_4 := Vb_r.out.cell 4 (by simp)
      simp only [List.getElem_cons_zero, List.getElem_cons_succ] at r_0 r_1 r_2 r_3 r_4
      have r_l := Vb_r.out.lt
      clear B_r
      go_wp2_with fail
      clear p_0 p_1 p_2 p_3 p_4 p_5 p_l q_0 q_1 q_2 q_3 q_4 q_5 q_l r_0 r_1 r_2 r_3 r_4 r_l
      refine (HSP.out _ HPP.out HQQ.out).mono ?_
      rintro e w11 ⟨rfl, hb⟩
      replace Vb_p := Lib.hid (Vb_p.out.below hb)
      replace Vb_q := Lib.hid (Vb_q.out.below hb)
      replace Vb_r := Lib.hid (Vb_r.out.below hb)
      replace HPP := Lib.hid (rpB HPP.out hb (Nat.le_refl _))
      replace HQQ := Lib.hid (rpB HQQ.out hb (Nat.le_refl _))
      replace HB := Lib.hid (belS HB.out hb)
      clear hb
      go_wp2_with fail
      go_ret
      exact ⟨rfl, HB.out⟩
  case true =>
    cases ly
    case false =>
      obtain ⟨e1, e2⟩ := HBAD.out (by rintro ⟨h1, h2⟩; first | (cases h1; done) | (rw [decide_eq_true h2] at hly; cases hly))
      clear HBAD HFUL HOKW HFAI HOF HFO
      replace HSP := HSP.out
      skip
      have HE := Lib.hid e1
      clear e1
      have e1 := HE.out
      clear HE
      injection e1 with f1 f2
      injection f1 with f1 f3 f4 f5 f6
      injection e2 with q0 q1 q2 q3 q4
      subst q0; subst q1; subst q2; subst q3; subst q4
      subst f2; subst f1; subst f3; subst f4; subst f5; subst f6
      simp only [decide_true] at HSP
      replace HSP := Lib.hid HSP
      have B_p := Vb_p.out
      have p_0 := Vb_p.out.cell 0 (by simp)
      have p_1 := Vb_p.out.cell 1 (by simp)
      have p_2 := Vb_p.out.cell 2 (by simp)
      have p_3 := Vb_p.out.cell 3 (by simp)
      have p_4 := Vb_p.out.cell 4 (by simp)
      have p_5 := Vb_p.out.cell 5 (by simp)
      simp only [List.getElem_cons_zero, List.getElem_cons_succ] at p_0 p_1 p_2 p_3 p_4 p_5
      have p_l := Vb_p.out.lt
      clear B_p
      have B_q := Vb_q.out
      have q_0 := Vb_q.out.cell 0 (by simp)
      have q_1 := Vb_q.out.cell 1 (by simp)
      have q_2 := Vb_q.out.cell 2 (by simp)
      have q_3 := Vb_q.out.cell 3 (by simp)
      have q_4 := Vb_q.out.cell 4 (by simp)
      have q_5 := Vb_q.out.cell 5 (by simp)
      simp only [List.getElem_cons_zero, List.getElem_cons_succ] at q_0 q_1 q_2 q_3 q_4 q_5
      have q_l := Vb_q.out.lt
      clear B_q
      have B_r := Vb_r.out
      have r_0 := Vb_r.out.cell 0 (by simp)
      have r_1 := Vb_r.out.cell 1 (by simp)
      have r_2 := Vb_r.out.cell 2 (by simp)
      have r_3 := Vb_r.out.cell 3 (by simp)
      have r_4 := Vb_r.out.cell 4 (by simp)
      simp only [List.getElem_cons_zero, List.getElem_cons_succ] at r_0 r_1 r_2 r_3 r_4
      have r_l := Vb_r.out.lt
      clear B_r
      go_wp2_with fail
      clear p_0 p_1 p_2 p_3 p_4 p_5 p_l q_0 q_1 q_2 q_3 q_4 q_5 q_l r_0 r_1 r_2 r_3 r_4 r_l
      refine (HSP.out _ HPP.out HQQ.out).mono ?_
      rintro e w11 ⟨rfl, hb⟩
      replace Vb_p := Lib.hid (Vb_p.out.below hb)
      replace Vb_q := Lib.hid (Vb_q.out.below hb)
      replace Vb_r := Lib.hid (Vb_r.out.below hb)
      replace HPP := Lib.hid (rpB HPP.out hb (Nat.le_refl _))
      replace HQQ := Lib.hid (rpB HQQ.out hb (Nat.le_refl _))
      replace HB := Lib.hid (belS HB.out hb)
      clear hb
      go_wp2_with fail
      go_ret
      exact ⟨rfl, HB.out⟩
    case true =>
      have hly2 : 0 ≤ layI sl := of_decide_eq_true hly
      have B_p := Vb_p.out
      have p_0 := Vb_p.out.cell 0 (by simp)
      have p_1 := Vb_p.out.cell 1 (by simp)
      have p_2 := Vb_p.out.cell 2 (by simp)
      have p_3 := Vb_p.out.cell 3 (by simp)
      have p_4 := Vb_p.out.cell 4 (by simp)
      have p_5 := Vb_p.out.cell 5 (by simp)
      simp only [List.getElem_cons_zero, List.getElem_cons_succ] at p_0 p_1 p_2 p_3 p_4 p_5
      have p_l := Vb_p.out.lt
      clear B_p
      go_wp2_with fail
      clear p_0 p_1 p_2 p_3 p_4 p_5 p_l
      refine (HFO.out _ HPP.out).mono ?_
      rintro e w11 ⟨rfl, hb⟩
      replace Vb_p := Lib.hid (Vb_p.out.below hb)
      replace Vb_q := Lib.hid (Vb_q.out.below hb)
      replace Vb_r := Lib.hid (Vb_r.out.below hb)
      replace HPP := Lib.hid (rpB HPP.out hb (Nat.le_refl _))
      replace HQQ := Lib.hid (rpB HQQ.out hb (Nat.le_refl _))
      replace HB := Lib.hid (belS HB.out hb)
      clear hb
      go_wp2_with fail
      refine (HOF.out _).mono ?_
      rintro e w12 ⟨rfl, rfl⟩
      by_cases h3 : z.length = 3
      · skip
        have h3i : (z.length : Int) = 3 := by omega
        obtain ⟨e1, e2⟩ := HFUL.out ⟨by first | rfl | trivial, hly2⟩ h3
        clear HBAD HFUL HOKW HFAI HOF HFO
        replace HSP := HSP.out
        injection e1 with f1 f2
        injection f1 with f1 f3 f4 f5 f6
        injection e2 with q0 q1 q2 q3 q4
        subst q0; subst q1; subst q2; subst q3; subst q4
        subst f2; subst f1; subst f3; subst f4; subst f5; subst f6
        simp only [decide_true] at HSP
        replace HSP := Lib.hid HSP
        skip
        have h3b : ((z2.length : Int) == 3) = true := by simpa using h3i
        replace h3 := Lib.hid h3
        replace h3i := Lib.hid h3i
        have B_p := Vb_p.out
        have p_0 := Vb_p.out.cell 0 (by simp)
        have p_1 := Vb_p.out.cell 1 (by simp)
        have p_2 := Vb_p.out.cell 2 (by simp)
        have p_3 := Vb_p.out.cell 3 (by simp)
        have p_4 := Vb_p.out.cell 4 (by simp)
        have p_5 := Vb_p.out.cell 5 (by simp)
        simp only [List.getElem_cons_zero, List.getElem_cons_succ] at p_0 p_1 p_2 p_3 p_4 p_5
        have p_l := Vb_p.out.lt
        clear B_p
        have B_q := Vb_q.out
        have q_0 := Vb_q.out.cell 0 (by simp)
        have q_1 := Vb_q.out.cell 1 (by simp)
        have q_2 := Vb_q.out.cell 2 (by simp)
        have q_3 := Vb_q.out.cell 3 (by simp)
        have q_4 := Vb_q.out.cell 4 (by simp)
        have q_5 := Vb_q.out.cell 5 (by simp)
        simp only [List.getElem_cons_zero, List.getElem_cons_succ] at q_0 q_1 q_2 q_3 q_4 q_5
        have q_l := Vb_q.out.lt
        clear B_q
        have B_r := Vb_r.out
        have r_0 := Vb_r.out.cell 0 (by simp)
        have r_1 := Vb_r.out.cell 1 (by simp)
        have r_2 := Vb_r.out.cell 2 (by simp)
        have r_3 := Vb_r.out.cell 3 (by simp)
        have r_4 := Vb_r.out.cell 4 (by simp)
        simp only [List.getElem_cons_zero, List.getElem_cons_succ] at r_0 r_1 r_2 r_3 r_4
        have r_l := Vb_r.out.lt
        clear B_r
        go_wp2_with fail
        clear p_0 p_1 p_2 p_3 p_4 p_5 p_l q_0 q_1 q_2 q_3 q_4 q_5 q_l r_0 r_1 r_2 r_3 r_4 r_l
        refine (HSP.out _ HPP.out HQQ.out).mono ?_
        rintro e w13 ⟨rfl, hb⟩
        replace Vb_p := Lib.hid (Vb_p.out.below hb)
        replace Vb_q := Lib.hid (Vb_q.out.below hb)
        replace Vb_r := Lib.hid (Vb_r.out.below hb)
        replace HPP := Lib.hid (rpB HPP.out hb (Nat.le_refl _))
        replace HQQ := Lib.hid (rpB HQQ.out hb (Nat.le_refl _))
        replace HB := Lib.hid (belS HB.out hb)
        clear hb
        go_wp2_with fail
        go_ret
        exact ⟨rfl, HB.out⟩
      · skip
        have h3n : ¬ (z.length : Int) = 3 := by omega
        have h3b : ((z.length : Int) == 3) = false := by simpa using h3n
        replace h3n := Lib.hid h3n
        replace h3 := Lib.hid h3
        cases of
        case false =>
          obtain ⟨e1, e2⟩ := HFAI.out ⟨by first | rfl | trivial, hly2⟩ h3.out (by first | rfl | trivial)
          clear HBAD HFUL HOKW HFAI HOF
          replace HSP := HSP.out
          injection e1 with f1 f2
          injection f1 with f1 f3 f4 f5 f6
          injection e2 with q0 q1 q2 q3 q4
          subst q0; subst q1; subst q2; subst q3; subst q4
          subst f2; subst f1; subst f3; subst f4; subst f5; subst f6
          simp only [decide_true] at HSP
          replace HSP := Lib.hid HSP
          have B_p := Vb_p.out
          have p_0 := Vb_p.out.cell 0 (by simp)
          have p_1 := Vb_p.out.cell 1 (by simp)
          have p_2 := Vb_p.out.cell 2 (by simp)
          have p_3 := Vb_p.out.cell 3 (by simp)
          have p_4 := Vb_p.out.cell 4 (by simp)
          have p_5 := Vb_p.out.cell 5 (by simp)
          simp only [List.getElem_cons_zero, List.getElem_cons_succ] at p_0 p_1 p_2 p_3 p_4 p_5
          have p_l := Vb_p.out.lt
          clear B_p
          go_wp2_with fail
          clear p_0 p_1 p_2 p_3 p_4 p_5 p_l
          have HSof := Lib.hid (show ∀ W, Below w11.heap.size w11 W → (six W (w1.heap.size) (.string ⟨kd2.toArray⟩) (.bool on2) (.bool br2) (.slice ca y2.length cc) (.int .i64 cnt2) (.slice la z2.length lc) ∧ six W (w4.heap.size) (.string ⟨kd2.toArray⟩) (.bool on2) (.bool br2) (.slice cb y2.length cd) (.int .i64 cnt2) (.slice lb z2.length ld) ∧ five W (w4.heap.size + 1) (.int .i64 1) (.int .i64 0) (.string ⟨#[]⟩) (.int .i64 t3) (.int .i64 t4)) from fun W h => ⟨bx_six (Vb_p.out.below h), bx_six (Vb_q.out.below h), bx_five (Vb_r.out.below h)⟩)
          refine wp_region_held_drew (S := fun w' => (six w' (w1.heap.size) (.string ⟨kd2.toArray⟩) (.bool on2) (.bool br2) (.slice ca y2.length cc) (.int .i64 cnt2) (.slice la z2.length lc) ∧ six w' (w4.heap.size) (.string ⟨kd2.toArray⟩) (.bool on2) (.bool br2) (.slice cb y2.length cd) (.int .i64 cnt2) (.slice lb z2.length ld) ∧ five w' (w4.heap.size + 1) (.int .i64 1) (.int .i64 0) (.string ⟨#[]⟩) (.int .i64 t3) (.int .i64 t4))) (by kernel_rfl) ?_ (fun hHeld => ?_)
          · exact HSof.out _ (Below.refl _ _).drew
          have HBW := Lib.hid ((Below.refl w11.heap.size w11).drew)
          generalize w11.drew = vf0 at *
          refine wpAnyH_take (i := 0) (v := ?_) rfl (by kernel_rfl) (by kernel_rfl) (by kernel_rfl) (fun _ _ _ h => h) (Or.inl ⟨by rfl, ?_⟩) (by assumption) ?_
          rotate_left
          · intro w hSw; (try dsimp only at hSw); obtain ⟨⟨a0, a1, a2, a3, a4, a5⟩, ⟨b0, b1, b2, b3, b4, b5⟩, ⟨c0, c1, c2, c3, c4⟩⟩ := hSw; go_simp; with_reducible rfl
          try simp only [Act.put, List.getElem_toArray, List.getElem_cons_zero, List.getElem_cons_succ, List.setIfInBounds_toArray, List.set_cons_zero, List.set_cons_succ]
          refine wpAnyH_take (i := 1) (v := ?_) rfl (by kernel_rfl) (by kernel_rfl) (by kernel_rfl) (fun _ _ _ h => h) (Or.inl ⟨by rfl, ?_⟩) (by assumption) ?_
          rotate_left
          · intro w hSw; (try dsimp only at hSw); obtain ⟨⟨a0, a1, a2, a3, a4, a5⟩, ⟨b0, b1, b2, b3, b4, b5⟩, ⟨c0, c1, c2, c3, c4⟩⟩ := hSw; go_simp; with_reducible rfl
          try simp only [Act.put, List.getElem_toArray, List.getElem_cons_zero, List.getElem_cons_succ, List.setIfInBounds_toArray, List.set_cons_zero, List.set_cons_succ]
          refine wpAnyH_take (i := 2) (v := ?_) rfl (by kernel_rfl) (by kernel_rfl) (by kernel_rfl) (fun _ _ _ h => h) (Or.inl ⟨by rfl, ?_⟩) (by assumption) ?_
          rotate_left
          · intro w hSw; (try dsimp only at hSw); obtain ⟨⟨a0, a1, a2, a3, a4, a5⟩, ⟨b0, b1, b2, b3, b4, b5⟩, ⟨c0, c1, c2, c3, c4⟩⟩ := hSw; go_simp; with_reducible rfl
          try simp only [Act.put, List.getElem_toArray, List.getElem_cons_zero, List.getElem_cons_succ, List.setIfInBounds_toArray, List.set_cons_zero, List.set_cons_succ]
          refine wpAnyH_ready (rs := [3]) (by kernel_rfl) (by simp) ?_
          refine AllReadyH.cons rfl (fun K hK => ?_) AllReadyH.nil
          go_simp
          go_at_call 17
          refine (HFO.out _ (rpB HPP.out HBW.out (Nat.le_refl _))).mono ?_
          rintro e vf1 ⟨rfl, hb⟩
          replace HBW := Lib.hid (belS HBW.out hb)
          refine hK.out _ _ (HSof.out _ HBW.out) (fun hHeld => ?_)
          clear hK K hb
          try simp only [Act.put, List.getElem_toArray, List.getElem_cons_zero, List.getElem_cons_succ, List.setIfInBounds_toArray, List.set_cons_zero, List.set_cons_succ]
          refine wpAnyH_take (i := 4) (v := ?_) rfl (by kernel_rfl) (by kernel_rfl) (by kernel_rfl) (fun _ _ _ h => h) (Or.inl ⟨by rfl, ?_⟩) (by assumption) ?_
          rotate_left
          · intro w hSw; (try dsimp only at hSw); obtain ⟨⟨a0, a1, a2, a3, a4, a5⟩, ⟨b0, b1, b2, b3, b4, b5⟩, ⟨c0, c1, c2, c3, c4⟩⟩ := hSw; go_simp; with_reducible rfl
          try simp only [Act.put, List.getElem_toArray, List.getElem_cons_zero, List.getElem_cons_succ, List.setIfInBounds_toArray, List.set_cons_zero, List.set_cons_succ]
          refine wpAnyH_take (i := 5) (v := ?_) rfl (by kernel_rfl) (by kernel_rfl) (by kernel_rfl) (fun _ _ _ h => h) (Or.inl ⟨by rfl, ?_⟩) (by assumption) ?_
          rotate_left
          · intro w hSw; (try dsimp only at hSw); obtain ⟨⟨a0, a1, a2, a3, a4, a5⟩, ⟨b0, b1, b2, b3, b4, b5⟩, ⟨c0, c1, c2, c3, c4⟩⟩ := hSw; go_simp; with_reducible rfl
          try simp only [Act.put, List.getElem_toArray, List.getElem_cons_zero, List.getElem_cons_succ, List.setIfInBounds_toArray, List.set_cons_zero, List.set_cons_succ]
          refine wpAnyH_take (i := 6) (v := ?_) rfl (by kernel_rfl) (by kernel_rfl) (by kernel_rfl) (fun _ _ _ h => h) (Or.inl ⟨by rfl, ?_⟩) (by assumption) ?_
          rotate_left
          · intro w hSw; (try dsimp only at hSw); obtain ⟨⟨a0, a1, a2, a3, a4, a5⟩, ⟨b0, b1, b2, b3, b4, b5⟩, ⟨c0, c1, c2, c3, c4⟩⟩ := hSw; go_simp; with_reducible rfl
          try simp only [Act.put, List.getElem_toArray, List.getElem_cons_zero, List.getElem_cons_succ, List.setIfInBounds_toArray, List.set_cons_zero, List.set_cons_succ]
          refine wpAnyH_take (i := 7) (v := ?_) rfl (by kernel_rfl) (by kernel_rfl) (by kernel_rfl) (fun _ _ _ h => h) (Or.inl ⟨by rfl, ?_⟩) (by assumption) ?_
          rotate_left
          · intro w hSw; (try dsimp only at hSw); obtain ⟨⟨a0, a1, a2, a3, a4, a5⟩, ⟨b0, b1, b2, b3, b4, b5⟩, ⟨c0, c1, c2, c3, c4⟩⟩ := hSw; go_simp; with_reducible rfl
          try simp only [Act.put, List.getElem_toArray, List.getElem_cons_zero, List.getElem_cons_succ, List.setIfInBounds_toArray, List.set_cons_zero, List.set_cons_succ]
          refine wpAnyH_take (i := 8) (v := ?_) rfl (by kernel_rfl) (by kernel_rfl) (by kernel_rfl) (fun _ _ _ h => h) (Or.inl ⟨by rfl, ?_⟩) (by assumption) ?_
          rotate_left
          · intro w hSw; (try dsimp only at hSw); obtain ⟨⟨a0, a1, a2, a3, a4, a5⟩, ⟨b0, b1, b2, b3, b4, b5⟩, ⟨c0, c1, c2, c3, c4⟩⟩ := hSw; go_simp; with_reducible rfl
          try simp only [Act.put, List.getElem_toArray, List.getElem_cons_zero, List.getElem_cons_succ, List.setIfInBounds_toArray, List.set_cons_zero, List.set_cons_succ]
          refine wpAnyH_ready (rs := [9]) (by kernel_rfl) (by simp) ?_
          refine AllReadyH.cons rfl (fun K hK => ?_) AllReadyH.nil
          go_simp
          go_at_call 15
          refine (HSP.out _ (rpB HPP.out HBW.out (Nat.le_refl _)) (rpB HQQ.out HBW.out (Nat.le_refl _))).mono ?_
          rintro e vf2 ⟨rfl, hb⟩
          replace HBW := Lib.hid (belS HBW.out hb)
          refine hK.out _ _ (HSof.out _ HBW.out) (fun hHeld => ?_)
          clear hK K hb
          try simp only [Act.put, List.getElem_toArray, List.getElem_cons_zero, List.getElem_cons_succ, List.setIfInBounds_toArray, List.set_cons_zero, List.set_cons_succ]
          refine wpAnyH_take (i := 10) (v := ?_) rfl (by kernel_rfl) (by kernel_rfl) (by kernel_rfl) (fun _ _ _ h => h) (Or.inl ⟨by rfl, ?_⟩) (by assumption) ?_
          rotate_left
          · intro w hSw; (try dsimp only at hSw); obtain ⟨⟨a0, a1, a2, a3, a4, a5⟩, ⟨b0, b1, b2, b3, b4, b5⟩, ⟨c0, c1, c2, c3, c4⟩⟩ := hSw; go_simp; with_reducible rfl
          try simp only [Act.put, List.getElem_toArray, List.getElem_cons_zero, List.getElem_cons_succ, List.setIfInBounds_toArray, List.set_cons_zero, List.set_cons_succ]
          refine wpAnyH_take (i := 11) (v := ?_) rfl (by kernel_rfl) (by kernel_rfl) (by kernel_rfl) (fun _ _ _ h => h) (Or.inl ⟨by rfl, ?_⟩) (by assumption) ?_
          rotate_left
          · intro w hSw; (try dsimp only at hSw); obtain ⟨⟨a0, a1, a2, a3, a4, a5⟩, ⟨b0, b1, b2, b3, b4, b5⟩, ⟨c0, c1, c2, c3, c4⟩⟩ := hSw; go_simp; with_reducible rfl
          try simp only [Act.put, List.getElem_toArray, List.getElem_cons_zero, List.getElem_cons_succ, List.setIfInBounds_toArray, List.set_cons_zero, List.set_cons_succ]
          refine wpAnyH_done (by kernel_rfl) ?_ _
          have hb := HBW.out
          clear HBW HSof hHeld
          replace Vb_p := Lib.hid (Vb_p.out.below hb)
          replace Vb_q := Lib.hid (Vb_q.out.below hb)
          replace Vb_r := Lib.hid (Vb_r.out.below hb)
          replace HPP := Lib.hid (rpB HPP.out hb (Nat.le_refl _))
          replace HQQ := Lib.hid (rpB HQQ.out hb (Nat.le_refl _))
          replace HB := Lib.hid (belS HB.out hb)
          clear hb
          go_wp2_with fail
          go_ret
          exact ⟨rfl, HB.out⟩
        case true =>
          obtain ⟨e2, k1, k2, k3, k4⟩ := HOKW.out ⟨by first | rfl | trivial, hly2⟩ h3.out (by first | rfl | trivial)
          clear HBAD HFUL HOKW HFAI HOF
          injection e2 with q0 q1 q2 q3 q4
          subst q0; subst q1; subst q2; subst q3; subst q4
          have HUN := Lib.hid (fun W (h2 : rPart 0 W [.string ⟨kd2.toArray⟩, .bool on2, .bool br2, .slice cb y2.length cd, .int .i64 cnt2, .slice lb z2.length ld] (⟨⟨kd2, on2, br2, y2, cnt2⟩, z2⟩ : PartD)) => implUnwrap_any (.agg #[.string ⟨kd2.toArray⟩, .bool on2, .bool br2, .slice cb y2.length cd, .int .i64 cnt2, .slice lb z2.length ld]) (⟨⟨kd2, on2, br2, y2, cnt2⟩, z2⟩ : PartD) W (⟨_, rfl, h2⟩ : ValAt rPart 0 W (.agg #[.string ⟨kd2.toArray⟩, .bool on2, .bool br2, .slice cb y2.length cd, .int .i64 cnt2, .slice lb z2.length ld]) (⟨⟨kd2, on2, br2, y2, cnt2⟩, z2⟩ : PartD)) HSMW.out HKW.out)
          rw [k4, k3] at HUN
          unfold GivesOPB at HUN
          have HFQ := Lib.hid (fun W (h2 : rPart 0 W [.string ⟨kd2.toArray⟩, .bool on2, .bool br2, .slice cb y2.length cd, .int .i64 cnt2, .slice lb z2.length ld] (⟨⟨kd2, on2, br2, y2, cnt2⟩, z2⟩ : PartD)) => implFaceOf_any (.agg #[.string ⟨kd2.toArray⟩, .bool on2, .bool br2, .slice cb y2.length cd, .int .i64 cnt2, .slice lb z2.length ld]) (⟨⟨kd2, on2, br2, y2, cnt2⟩, z2⟩ : PartD) W (⟨_, rfl, h2⟩ : ValAt rPart 0 W (.agg #[.string ⟨kd2.toArray⟩, .bool on2, .bool br2, .slice cb y2.length cd, .int .i64 cnt2, .slice lb z2.length ld]) (⟨⟨kd2, on2, br2, y2, cnt2⟩, z2⟩ : PartD)))
          rw [k2] at HFQ
          have HIQ := Lib.hid (fun W (h2 : rPart 0 W [.string ⟨kd2.toArray⟩, .bool on2, .bool br2, .slice cb y2.length cd, .int .i64 cnt2, .slice lb z2.length ld] (⟨⟨kd2, on2, br2, y2, cnt2⟩, z2⟩ : PartD)) => implIsPart_any (.agg #[.string ⟨kd2.toArray⟩, .bool on2, .bool br2, .slice cb y2.length cd, .int .i64 cnt2, .slice lb z2.length ld]) (⟨⟨kd2, on2, br2, y2, cnt2⟩, z2⟩ : PartD) W (⟨_, rfl, h2⟩ : ValAt rPart 0 W (.agg #[.string ⟨kd2.toArray⟩, .bool on2, .bool br2, .slice cb y2.length cd, .int .i64 cnt2, .slice lb z2.length ld]) (⟨⟨kd2, on2, br2, y2, cnt2⟩, z2⟩ : PartD)) HKW.out)
          rw [k1] at HIQ
          clear k1 k2 k3 k4
          have B_p := Vb_p.out
          have p_0 := Vb_p.out.cell 0 (by simp)
          have p_1 := Vb_p.out.cell 1 (by simp)
          have p_2 := Vb_p.out.cell 2 (by simp)
          have p_3 := Vb_p.out.cell 3 (by simp)
          have p_4 := Vb_p.out.cell 4 (by simp)
          have p_5 := Vb_p.out.cell 5 (by simp)
          simp only [List.getElem_cons_zero, List.getElem_cons_succ] at p_0 p_1 p_2 p_3 p_4 p_5
          have p_l := Vb_p.out.lt
          clear B_p
          have B_q := Vb_q.out
          have q_0 := Vb_q.out.cell 0 (by simp)
          have q_1 := Vb_q.out.cell 1 (by simp)
          have q_2 := Vb_q.out.cell 2 (by simp)
          have q_3 := Vb_q.out.cell 3 (by simp)
          have q_4 := Vb_q.out.cell 4 (by simp)
          have q_5 := Vb_q.out.cell 5 (by simp)
          simp only [List.getElem_cons_zero, List.getElem_cons_succ] at q_0 q_1 q_2 q_3 q_4 q_5
          have q_l := Vb_q.out.lt
          clear B_q
          have B_r := Vb_r.out
          have r_0 := Vb_r.out.cell 0 (by simp)
          have r_1 := Vb_r.out.cell 1 (by simp)
          have r_2 := Vb_r.out.cell 2 (by simp)
          have r_3 := Vb_r.out.cell 3 (by simp)
          have r_4 := Vb_r.out.cell 4 (by simp)
          simp only [List.getElem_cons_zero, List.getElem_cons_succ] at r_0 r_1 r_2 r_3 r_4
          have r_l := Vb_r.out.lt
          clear B_r
          go_wp2_with fail
          clear p_0 p_1 p_2 p_3 p_4 p_5 p_l q_0 q_1 q_2 q_3 q_4 q_5 q_l r_0 r_1 r_2 r_3 r_4 r_l
          refine (HUN.out _ HQQ.out).mono ?_
          rintro e w13 ⟨_, rfl, ⟨u3, u5, rfl, ho3, ho5⟩, hb⟩
          replace Vb_p := Lib.hid (Vb_p.out.below hb)
          replace Vb_q := Lib.hid (Vb_q.out.below hb)
          replace Vb_r := Lib.hid (Vb_r.out.below hb)
          replace HPP := Lib.hid (rpB HPP.out hb (Nat.le_refl _))
          replace HQQ := Lib.hid (rpB HQQ.out hb (Nat.le_refl _))
          replace HB := Lib.hid (belS HB.out hb)
          clear hb
          simp only at ho3 ho5
          obtain ⟨ce, cf, rfl⟩ := slice_of ho3
          obtain ⟨le, lf, rfl⟩ := slice_of ho5
          have HUU := Lib.hid (show rPart 0 _ [.string ⟨kd.toArray⟩, .bool on, .bool br, .slice ce y.length cf, .int .i64 cnt, .slice le z.length lf] (⟨⟨kd, on, br, y, cnt⟩, z⟩ : PartD) from goodPart.mono (oPart_r ⟨_, _, rfl, ho3, ho5⟩ HSM.out) (Nat.zero_le _))
          clear ho3 ho5
          go_upto_region 15 with fail
          have hbn := Bx.new (w13) [.string ⟨kd.toArray⟩, .bool on, .bool br, .slice ce y.length cf, .int .i64 cnt, .slice le z.length lf] 29
          have hbb := bx_box (w13) (.cells #[.string ⟨kd.toArray⟩, .bool on, .bool br, .slice ce y.length cf, .int .i64 cnt, .slice le z.length lf] 29)
          have Vb_u := Lib.hid hbn
          clear hbn
          replace Vb_p := Lib.hid (Vb_p.out.below hbb)
          replace Vb_q := Lib.hid (Vb_q.out.below hbb)
          replace Vb_r := Lib.hid (Vb_r.out.below hbb)
          replace HPP := Lib.hid (rpB HPP.out hbb (Nat.le_refl _))
          replace HQQ := Lib.hid (rpB HQQ.out hbb (Nat.le_refl _))
          replace HUU := Lib.hid (rpB HUU.out hbb (Nat.le_refl _))
          replace HB := Lib.hid (belS HB.out hbb)
          clear hbb
          generalize (w13).alloc (.cells #[.string ⟨kd.toArray⟩, .bool on, .bool br, .slice ce y.length cf, .int .i64 cnt, .slice le z.length lf] 29) = w15 at *
          have HSU := Lib.hid (fun W (h : rPart 0 W [.string ⟨kd.toArray⟩, .bool on, .bool br, .slice ce y.length cf, .int .i64 cnt, .slice le z.length lf] (⟨⟨kd, on, br, y, cnt⟩, z⟩ : PartD)) (h2 : rPart 0 W [.string ⟨kd.toArray⟩, .bool on, .bool br, .slice ca y.length cc, .int .i64 cnt, .slice la z.length lc] (⟨⟨kd, on, br, y, cnt⟩, z⟩ : PartD)) => implSamePart_any (.agg #[.string ⟨kd.toArray⟩, .bool on, .bool br, .slice ce y.length cf, .int .i64 cnt, .slice le z.length lf]) (.agg #[.string ⟨kd.toArray⟩, .bool on, .bool br, .slice ca y.length cc, .int .i64 cnt, .slice la z.length lc]) (⟨⟨kd, on, br, y, cnt⟩, z⟩ : PartD) (⟨⟨kd, on, br, y, cnt⟩, z⟩ : PartD) W (⟨_, rfl, h⟩ : ValAt rPart 0 W (.agg #[.string ⟨kd.toArray⟩, .bool on, .bool br, .slice ce y.length cf, .int .i64 cnt, .slice le z.length lf]) (⟨⟨kd, on, br, y, cnt⟩, z⟩ : PartD)) (⟨_, rfl, h2⟩ : ValAt rPart 0 W (.agg #[.string ⟨kd.toArray⟩, .bool on, .bool br, .slice ca y.length cc, .int .i64 cnt, .slice la z.length lc]) (⟨⟨kd, on, br, y, cnt⟩, z⟩ : PartD)))
          rw [show decide ((⟨⟨kd, on, br, y, cnt⟩, z⟩ : PartD) = (⟨⟨kd, on, br, y, cnt⟩, z⟩ : PartD)) = true from decide_eq_true rfl] at HSU
          have B_q := Vb_q.out
          have q_0 := Vb_q.out.cell 0 (by simp)
          have q_1 := Vb_q.out.cell 1 (by simp)
          have q_2 := Vb_q.out.cell 2 (by simp)
          have q_3 := Vb_q.out.cell 3 (by simp)
          have q_4 := Vb_q.out.cell 4 (by simp)
          have q_5 := Vb_q.out.cell 5 (by simp)
          simp only [List.getElem_cons_zero, List.getElem_cons_succ] at q_0 q_1 q_2 q_3 q_4 q_5
          have q_l := Vb_q.out.lt
          clear B_q
          have B_r := Vb_r.out
          have r_0 := Vb_r.out.cell 0 (by simp)
          have r_1 := Vb_r.out.cell 1 (by simp)
          have r_2 := Vb_r.out.cell 2 (by simp)
          have r_3 := Vb_r.out.cell 3 (by simp)
          have r_4 := Vb_r.out.cell 4 (by simp)
          simp only [List.getElem_cons_zero, List.getElem_cons_succ] at r_0 r_1 r_2 r_3 r_4
          have r_l := Vb_r.out.lt
          clear B_r
          go_wp2_with fail
          clear q_0 q_1 q_2 q_3 q_4 q_5 q_l r_0 r_1 r_2 r_3 r_4 r_l
          refine (HFQ.out _ HQQ.out).mono ?_
          rintro e w16 ⟨rfl, hb⟩
          replace Vb_p := Lib.hid (Vb_p.out.below hb)
          replace Vb_q := Lib.hid (Vb_q.out.below hb)
          replace Vb_r := Lib.hid (Vb_r.out.below hb)
          replace Vb_u := Lib.hid (Vb_u.out.below hb)
          replace HPP := Lib.hid (rpB HPP.out hb (Nat.le_refl _))
          replace HQQ := Lib.hid (rpB HQQ.out hb (Nat.le_refl _))
          replace HUU := Lib.hid (rpB HUU.out hb (Nat.le_refl _))
          replace HB := Lib.hid (belS HB.out hb)
          clear hb
          have B_q := Vb_q.out
          have q_0 := Vb_q.out.cell 0 (by simp)
          have q_1 := Vb_q.out.cell 1 (by simp)
          have q_2 := Vb_q.out.cell 2 (by simp)
          have q_3 := Vb_q.out.cell 3 (by simp)
          have q_4 := Vb_q.out.cell 4 (by simp)
          have q_5 := Vb_q.out.cell 5 (by simp)
          simp only [List.getElem_cons_zero, List.getElem_cons_succ] at q_0 q_1 q_2 q_3 q_4 q_5
          have q_l := Vb_q.out.lt
          clear B_q
          go_wp2_with fail
          clear q_0 q_1 q_2 q_3 q_4 q_5 q_l
          refine (HIQ.out _ HQQ.out).mono ?_
          rintro e w17 ⟨rfl, hb⟩
          replace Vb_p := Lib.hid (Vb_p.out.below hb)
          replace Vb_q := Lib.hid (Vb_q.out.below hb)
          replace Vb_r := Lib.hid (Vb_r.out.below hb)
          replace Vb_u := Lib.hid (Vb_u.out.below hb)
          replace HPP := Lib.hid (rpB HPP.out hb (Nat.le_refl _))
          replace HQQ := Lib.hid (rpB HQQ.out hb (Nat.le_refl _))
          replace HUU := Lib.hid (rpB HUU.out hb (Nat.le_refl _))
          replace HB := Lib.hid (belS HB.out hb)
          clear hb
          have B_u := Vb_u.out
          have u_0 := Vb_u.out.cell 0 (by simp)
          have u_1 := Vb_u.out.cell 1 (by simp)
          have u_2 := Vb_u.out.cell 2 (by simp)
          have u_3 := Vb_u.out.cell 3 (by simp)
          have u_4 := Vb_u.out.cell 4 (by simp)
          have u_5 := Vb_u.out.cell 5 (by simp)
          simp only [List.getElem_cons_zero, List.getElem_cons_succ] at u_0 u_1 u_2 u_3 u_4 u_5
          have u_l := Vb_u.out.lt
          clear B_u
          have B_p := Vb_p.out
          have p_0 := Vb_p.out.cell 0 (by simp)
          have p_1 := Vb_p.out.cell 1 (by simp)
          have p_2 := Vb_p.out.cell 2 (by simp)
          have p_3 := Vb_p.out.cell 3 (by simp)
          have p_4 := Vb_p.out.cell 4 (by simp)
          have p_5 := Vb_p.out.cell 5 (by simp)
          simp only [List.getElem_cons_zero, List.getElem_cons_succ] at p_0 p_1 p_2 p_3 p_4 p_5
          have p_l := Vb_p.out.lt
          clear B_p
          go_wp2_with fail
          clear u_0 u_1 u_2 u_3 u_4 u_5 u_l p_0 p_1 p_2 p_3 p_4 p_5 p_l
          refine (HSU.out _ HUU.out HPP.out).mono ?_
          rintro e w18 ⟨rfl, hb⟩
          replace Vb_p := Lib.hid (Vb_p.out.below hb)
          replace Vb_q := Lib.hid (Vb_q.out.below hb)
          replace Vb_r := Lib.hid (Vb_r.out.below hb)
          replace Vb_u := Lib.hid (Vb_u.out.below hb)
          replace HPP := Lib.hid (rpB HPP.out hb (Nat.le_refl _))
          replace HQQ := Lib.hid (rpB HQQ.out hb (Nat.le_refl _))
          replace HUU := Lib.hid (rpB HUU.out hb (Nat.le_refl _))
          replace HB := Lib.hid (belS HB.out hb)
          clear hb
          go_wp2_with fail
          go_ret
          exact ⟨rfl, HB.out⟩
set_option maxRecDepth 100000 in
theorem fnWrapped_lifted (os : Os) (started : os.Started) (H : Type) (enc : TypeId × Value → H) :
    ReturnsInHanded {} Try.checked os 3 .any (Rows.fnWrappedSpec.pre6 enc Try.prog Try.f3 Rows.fnWrappedRow.domain false) (Rows.fnWrappedSpec.post enc Try.prog Try.f3 false true false false) := by
  refine returnsInHanded_of_change (C := Try.checked) ownK started (by kernel_rfl) Try.func3
    (ChangeSpec.witness6 (enc := enc) (C := Try.checked) false ⟨#[], #[.slice none 0 0], []⟩ 8 (by kernel_rfl) (by kernel_rfl) (by kernel_rfl) (by kernel_rfl)) ?_
  intro W base args ds gs before hval0 hW _ _
  have hval : ∀ (j : Nat) t v, Try.f3.params[j]? = some t → args[j]? = some v → Value.okWide Try.prog W .any base t v := hval0
  have hW' := hW
  obtain ⟨p, q, hA0, _, rfl, _, _⟩ := hW
  have hA : DataW.TrodAll enc Try.prog W 0 (fun _ => true) true Try.f3.params.toList args.toList ds p := hA0
  rw [Try.params3] at hA hval
  obtain ⟨v0, vs0, d0, ds0, p0, q0, hargs, rfl, rfl, h0, r0⟩ := trodAll_cons hA
  obtain ⟨rfl, rfl, rfl⟩ := trodAll_nil r0
  obtain rfl : args = #[v0] := by cases args; simp_all
  obtain ⟨l0, w0⟩ := open_byteRow Try.underlying22 Try.underlying5 (by kernel_rfl) (hval 0 22 v0 rfl rfl) h0
  clear hA0 hval0
  refine (fnWrapped_any v0 l0 W w0).mono fun e W1 ⟨he, hb⟩ => ?_
  subst he
  exact ⟨_, rfl, law_post laidK rfl (by kernel_rfl) Try.underlying4 (by kernel_rfl) (fun ds h => by match ds, h with | [_], _ => rfl) hW' hb⟩
theorem fnWrapped_closed : joinedFacts Try.prog 3 Try.f3 Rows.fnWrappedSpec Rows.fnWrappedRow = true := by unfold joinedFacts; rw [mayEnter_k, liftsFinal_k, make_k]; kernel_rfl
theorem fnWrapped_holds : Rows.FnWrappedSaid :=
  OpenClaim.holds_of_wide 3 Try.f3 rfl rfl rfl rfl rfl rfl rfl ⟨rfl, rfl, rfl, rfl, rfl⟩ rfl rfl rfl rfl rfl (by kernel_rfl) Try.func3 fnWrapped_closed
    (of_decide_eq_true (by kernel_rfl)) (by unfold Func.isWrapper; first | (rw [if_pos (by decide +kernel)]; kernel_rfl) | (rw [if_neg (by decide +kernel)]; exact ⟨rfl, rfl⟩))
    (fun os started H enc _ => fnWrapped_lifted os started H enc)
end Go.Proofs.Ytaihdjdaamglnaa
