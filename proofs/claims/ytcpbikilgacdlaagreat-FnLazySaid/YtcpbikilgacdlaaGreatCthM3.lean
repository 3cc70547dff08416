/- Valid cores have few cells, and short keys. -/
import Derived.Test.YtcpbikilgacdlaaGreatCthM2
import Derived.Test.YtcpbikilgacdlaaGreatCthM1
import Derived.Deep.CutRange
import Derived.Test.YtcpbikilgacdlaaGreatCthM0
import Derived.Recover
import Derived.Defers
import Derived.StillTailTactics
import Derived.Shelf.Spec.SlicesInsert
import Derived.Lib.Overlaps
import Derived.Laws.CopyRow
import Derived.Lib.AppendZerosOnto
import Derived.Laws.NewBlocks
namespace Go.Proofs.YtcpbikilgacdlaaGreat
set_option linter.unusedVariables false
set_option linter.unusedSimpArgs false
open Go.RowKit
theorem Bag.partAt {w : World} {N b : Nat} {v : Value} {l : List UInt8} {bs : List (Nat × List Value)} {rs : List Held} {wx : World} {u5 u3 : Value} {n : Nat} {x : PartD} (h : Bag w N b v l bs rs wx) (h5 : hPL w u5 x.fLayers ∈ rs) (h3 : hPC w u3 x.fCore.fCells ∈ rs) (hk : okPt n x) (hn : n ≤ 100) (W : World) (hg : wx.grownBy W (some b)) :
  rPart 0 W (cPartV x.fCore.fKind x.fCore.fOn x.fCore.fBroken u3 x.fCore.fCount u5) x :=
 goodPart.mono (oPart_r (B := w.heap.size) ⟨u3, u5, rfl, (hPC w u3 x.fCore.fCells).keep (h.row _ h3) hg (fun g e ho => by injection e with e; have := (h.geR _ h3 g ho).2; omega), (hPL w u5 x.fLayers).keep (h.row _ h5) hg (fun g e ho => by injection e with e; have := (h.geR _ h5 g ho).2; omega)⟩ (okPt_small hk hn)) (Nat.zero_le _)
theorem Bag.put4 {w : World} {N b : Nat} {v : Value} {l : List UInt8} {bs : List (Nat × List Value)} {rs : List Held} {wx : World} {B : Nat} {c0 c1 c2 c3 : Value} (h : Bag w N b v l bs rs wx) (i : Nat) (hi : bs[i]? = some (B, [c0, c1, c2, c3])) (u0 u1 u2 u3 : Value) :
  Bag w N b v l (bs.set i (B, [u0, u1, u2, u3])) rs ((((wx.setCell ⟨B, 0, none⟩ u0).setCell ⟨B, 1, none⟩ u1).setCell ⟨B, 2, none⟩ u2).setCell ⟨B, 3, none⟩ u3) := by
 have hlt : i < bs.length := (List.getElem?_eq_some_iff.1 hi).1
 have a0 := h.set i hi (j := 0) (by simp) u0
 have a1 := a0.set i (B := B) (cs := [u0, c1, c2, c3]) (by simp [hlt]) (j := 1) (by simp) u1
 have a2 := a1.set i (B := B) (cs := [u0, u1, c2, c3]) (by simp [hlt]) (j := 2) (by simp) u2
 have a3 := a2.set i (B := B) (cs := [u0, u1, u2, c3]) (by simp [hlt]) (j := 3) (by simp) u3
 simpa using a3
set_option maxRecDepth 100000 in
set_option maxHeartbeats 6400000 in
theorem l4Call_any (b : Nat) (v : Value) (l : List UInt8) (kd : List UInt8) (on br : Bool) (ca la : Option Addr) (cc lc : Nat) (y : List CellD) (z : List LayerD) (cnt : Int) (w : World) (hC : Cur w b v l) (HV : ∀ W, w.grownBy W (some b) → rPart 0 W [.string ⟨kd.toArray⟩, .bool on, .bool br, .slice ca y.length cc, .int .i64 cnt, .slice la z.length lc] (⟨⟨kd, on, br, y, cnt⟩, z⟩ : PartD)) :
  Calls Tryz.prog 84 #[.pointer (some ⟨b, 0, none⟩), .agg #[.string ⟨kd.toArray⟩, .bool on, .bool br, .slice ca y.length cc, .int .i64 cnt, .slice la z.length lc]] w fun e w' => DrawnCall b v l w e w' := by
 have HVH := Lib.hid HV
 have BG := Lib.hid (((bag_start hC).var [.string ⟨kd.toArray⟩, .bool on, .bool br, .slice ca y.length cc, .int .i64 cnt, .slice la z.length lc] 37).var [.string ⟨#[]⟩, .string ⟨#[]⟩, .int .i64 0, .string ⟨#[]⟩] 43)
 rw [show (w.alloc (.cells [.string ⟨kd.toArray⟩, .bool on, .bool br, .slice ca y.length cc, .int .i64 cnt, .slice la z.length lc].toArray 37)).heap.size = w.heap.size + 1 by simp] at BG
 clear hC HV
 go_enter Tryz.func84, Tryz.ntmps84
 go_wp2_with fail
 generalize (w.alloc (.cells #[.string ⟨kd.toArray⟩, .bool on, .bool br, .slice ca y.length cc, .int .i64 cnt, .slice la z.length lc] 37)).alloc (.cells #[.string ⟨#[]⟩, .string ⟨#[]⟩, .int .i64 0, .string ⟨#[]⟩] 43) = w0 at *
 refine (l3AnyCall_any b v l _ BG.out.cur).mono ?_
 rintro e w1 ⟨⟨mm, kk, nn, tt⟩, rfl, hok, hg, hC⟩
 replace BG := Lib.hid (BG.out.draw hg hC)
 have HOK := Lib.hid hok
 clear hg hC hok
 replace BG := Lib.hid (BG.out.var [.string ⟨mm.toArray⟩, .string ⟨kk.toArray⟩, .int .i64 nn, .string ⟨tt.toArray⟩] 43)
 unfold vCall
 simp only
 go_wp2_with fail
 generalize w1.alloc (.cells #[.string ⟨mm.toArray⟩, .string ⟨kk.toArray⟩, .int .i64 nn, .string ⟨tt.toArray⟩] 43) = w2 at *
 generalize w1.heap.size = XB at *
 go_loopw [6] (fun iv wr => ∃ (i : Nat) (mm kk : List UInt8) (nn : Int) (tt : List UInt8), iv = .int .i64 i ∧ i ≤ 4 ∧ okCl (⟨mm, kk, nn, tt⟩ : CallD) ∧ Bag w w.heap.size b v l [(XB, [.string ⟨mm.toArray⟩, .string ⟨kk.toArray⟩, .int .i64 nn, .string ⟨tt.toArray⟩]), (w.heap.size + 1, [.string ⟨#[]⟩, .string ⟨#[]⟩, .int .i64 0, .string ⟨#[]⟩]), (w.heap.size, [.string ⟨kd.toArray⟩, .bool on, .bool br, .slice ca y.length cc, .int .i64 cnt, .slice la z.length lc])] [] wr) (fun iv _ => 4 - (intOf iv).toNat)
 case atStart => exact ⟨0, mm, kk, nn, tt, rfl, by omega, HOK.out, BG.out⟩
 case round =>
  clear BG HOK
  obtain ⟨i, mm, kk, nn, tt, rfl, hi, hok, hbg⟩ := hrel
  have BG := Lib.hid hbg
  have HOK := Lib.hid hok
  clear hbg hok
  by_cases hlt : i < 4
  ·skip
   have hic : (i : Int) < 4 := by omega
   go_wp2_with fail
   have HSof := Lib.hid (fun W (h : Bx W (w.heap.size) [.string ⟨kd.toArray⟩, .bool on, .bool br, .slice ca y.length cc, .int .i64 cnt, .slice la z.length lc]) (h2 : Bx W XB [.string ⟨mm.toArray⟩, .string ⟨kk.toArray⟩, .int .i64 nn, .string ⟨tt.toArray⟩]) => (show (six W (w.heap.size) (.string ⟨kd.toArray⟩) (.bool on) (.bool br) (.slice ca y.length cc) (.int .i64 cnt) (.slice la z.length lc) ∧ W.cell? ⟨XB, 0, none⟩ = some (.string ⟨mm.toArray⟩)) from ⟨bx_six h, h2.cell 0 (by simp)⟩))
   refine wp_region_held_drew (S := fun w' => (six w' (w.heap.size) (.string ⟨kd.toArray⟩) (.bool on) (.bool br) (.slice ca y.length cc) (.int .i64 cnt) (.slice la z.length lc) ∧ w'.cell? ⟨XB, 0, none⟩ = some (.string ⟨mm.toArray⟩))) (by kernel_rfl) ?_ (fun hHeld => ?_)
   ·exact HSof.out _ (BG.out.drew.box (w.heap.size, [.string ⟨kd.toArray⟩, .bool on, .bool br, .slice ca y.length cc, .int .i64 cnt, .slice la z.length lc]) (by simp)) (BG.out.drew.box (XB, [.string ⟨mm.toArray⟩, .string ⟨kk.toArray⟩, .int .i64 nn, .string ⟨tt.toArray⟩]) (by simp))
   replace BG := Lib.hid BG.out.drew
   generalize wr.drew = v0 at *
   refine wpAnyH_take (i := 0) (v := ?_) rfl (by kernel_rfl) (by kernel_rfl) (by kernel_rfl) (fun _ _ _ h => h) (Or.inl ⟨by rfl, ?_⟩) (by assumption) ?_
   rotate_left
   ·intro w hSw; (try dsimp only at hSw); obtain ⟨⟨s0, s1, s2, s3, s4, s5⟩, s6⟩ := hSw; go_simp; with_reducible rfl
   try simp only [Act.put, List.getElem_toArray, List.getElem_cons_zero, List.getElem_cons_succ, List.setIfInBounds_toArray, List.set_cons_zero, List.set_cons_succ]
   refine wpAnyH_take (i := 1) (v := ?_) rfl (by kernel_rfl) (by kernel_rfl) (by kernel_rfl) (fun _ _ _ h => h) (Or.inl ⟨by rfl, ?_⟩) (by assumption) ?_
   rotate_left
   ·intro w hSw; (try dsimp only at hSw); obtain ⟨⟨s0, s1, s2, s3, s4, s5⟩, s6⟩ := hSw; go_simp; with_reducible rfl
   try simp only [Act.put, List.getElem_toArray, List.getElem_cons_zero, List.getElem_cons_succ, List.setIfInBounds_toArray, List.set_cons_zero, List.set_cons_succ]
   refine wpAnyH_take (i := 2) (v := ?_) rfl (by kernel_rfl) (by kernel_rfl) (by kernel_rfl) (fun _ _ _ h => h) (Or.inl ⟨by rfl, ?_⟩) (by assumption) ?_
   rotate_left
   ·intro w hSw; (try dsimp only at hSw); obtain ⟨⟨s0, s1, s2, s3, s4, s5⟩, s6⟩ := hSw; go_simp; with_reducible rfl
   try simp only [Act.put, List.getElem_toArray, List.getElem_cons_zero, List.getElem_cons_succ, List.setIfInBounds_toArray, List.set_cons_zero, List.set_cons_succ]
   refine wpAnyH_take (i := 3) (v := ?_) rfl (by kernel_rfl) (by kernel_rfl) (by kernel_rfl) (fun _ _ _ h => h) (Or.inl ⟨by rfl, ?_⟩) (by assumption) ?_
   rotate_left
   ·intro w hSw; (try dsimp only at hSw); obtain ⟨⟨s0, s1, s2, s3, s4, s5⟩, s6⟩ := hSw; go_simp; with_reducible rfl
   try simp only [Act.put, List.getElem_toArray, List.getElem_cons_zero, List.getElem_cons_succ, List.setIfInBounds_toArray, List.set_cons_zero, List.set_cons_succ]
   refine wpAnyH_take (i := 5) (v := ?_) rfl (by kernel_rfl) (by kernel_rfl) (by kernel_rfl) (fun _ _ _ h => h) (Or.inl ⟨by rfl, ?_⟩) (by assumption) ?_
   rotate_left
   ·intro w hSw; (try dsimp only at hSw); obtain ⟨⟨s0, s1, s2, s3, s4, s5⟩, s6⟩ := hSw; go_simp; with_reducible rfl
   try simp only [Act.put, List.getElem_toArray, List.getElem_cons_zero, List.getElem_cons_succ, List.setIfInBounds_toArray, List.set_cons_zero, List.set_cons_succ]
   refine wpAnyH_take (i := 6) (v := ?_) rfl (by kernel_rfl) (by kernel_rfl) (by kernel_rfl) (fun _ _ _ h => h) (Or.inl ⟨by rfl, ?_⟩) (by assumption) ?_
   rotate_left
   ·intro w hSw; (try dsimp only at hSw); obtain ⟨⟨s0, s1, s2, s3, s4, s5⟩, s6⟩ := hSw; go_simp; with_reducible rfl
   try simp only [Act.put, List.getElem_toArray, List.getElem_cons_zero, List.getElem_cons_succ, List.setIfInBounds_toArray, List.set_cons_zero, List.set_cons_succ]
   refine wpAnyH_ready (rs := [4]) (by kernel_rfl) (by simp) ?_
   refine AllReadyH.cons rfl (fun K hK => ?_) AllReadyH.nil
   go_simp
   go_at_call 62
   refine (specFaceOf_any _ (⟨⟨kd, on, br, y, cnt⟩, z⟩ : PartD) _ ⟨_, rfl, HVH.out _ BG.out.grown⟩).mono ?_
   rintro e v1 ⟨rfl, hb⟩
   replace BG := Lib.hid (BG.out.below hb)
   clear hb
   refine hK.out _ _ (HSof.out _ (BG.out.box (w.heap.size, [.string ⟨kd.toArray⟩, .bool on, .bool br, .slice ca y.length cc, .int .i64 cnt, .slice la z.length lc]) (by simp)) (BG.out.box (XB, [.string ⟨mm.toArray⟩, .string ⟨kk.toArray⟩, .int .i64 nn, .string ⟨tt.toArray⟩]) (by simp))) (fun hHeld => ?_)
   clear hK K
   try simp only [Act.put, List.getElem_toArray, List.getElem_cons_zero, List.getElem_cons_succ, List.setIfInBounds_toArray, List.set_cons_zero, List.set_cons_succ]
   generalize faceP (⟨⟨kd, on, br, y, cnt⟩, z⟩ : PartD) = fc at *
   refine wpAnyH_ready (rs := [7]) (by kernel_rfl) (by simp) ?_
   refine AllReadyH.cons rfl (fun K hK => ?_) AllReadyH.nil
   go_simp
   go_at_call 63
   refine (specWant_any ⟨mm.toArray⟩ _).mono ?_
   rintro e v2 ⟨rfl, hb⟩
   simp only [List.toList_toArray]
   replace BG := Lib.hid (BG.out.below hb)
   clear hb
   refine hK.out _ _ (HSof.out _ (BG.out.box (w.heap.size, [.string ⟨kd.toArray⟩, .bool on, .bool br, .slice ca y.length cc, .int .i64 cnt, .slice la z.length lc]) (by simp)) (BG.out.box (XB, [.string ⟨mm.toArray⟩, .string ⟨kk.toArray⟩, .int .i64 nn, .string ⟨tt.toArray⟩]) (by simp))) (fun hHeld => ?_)
   clear hK K
   try simp only [Act.put, List.getElem_toArray, List.getElem_cons_zero, List.getElem_cons_succ, List.setIfInBounds_toArray, List.set_cons_zero, List.set_cons_succ]
   refine wpAnyH_ready (rs := [8]) (by kernel_rfl) (by simp) ?_
   refine AllReadyH.cons rfl (fun K hK => ?_) AllReadyH.nil
   go_simp
   go_at_call 61
   refine (specOffers_any fc (wantF mm) _).mono ?_
   rintro e v3 ⟨rfl, rfl⟩
   refine hK.out _ _ (HSof.out _ (BG.out.box (w.heap.size, [.string ⟨kd.toArray⟩, .bool on, .bool br, .slice ca y.length cc, .int .i64 cnt, .slice la z.length lc]) (by simp)) (BG.out.box (XB, [.string ⟨mm.toArray⟩, .string ⟨kk.toArray⟩, .int .i64 nn, .string ⟨tt.toArray⟩]) (by simp))) (fun hHeld => ?_)
   clear hK K
   try simp only [Act.put, List.getElem_toArray, List.getElem_cons_zero, List.getElem_cons_succ, List.setIfInBounds_toArray, List.set_cons_zero, List.set_cons_succ]
   generalize offersF fc (wantF mm) = of at *
   refine wpAnyH_take (i := 9) (v := ?_) rfl (by kernel_rfl) (by kernel_rfl) (by kernel_rfl) (fun _ _ _ h => h) (Or.inl ⟨by rfl, ?_⟩) (by assumption) ?_
   rotate_left
   ·intro w hSw; (try dsimp only at hSw); obtain ⟨⟨s0, s1, s2, s3, s4, s5⟩, s6⟩ := hSw; go_simp; with_reducible rfl
   try simp only [Act.put, List.getElem_toArray, List.getElem_cons_zero, List.getElem_cons_succ, List.setIfInBounds_toArray, List.set_cons_zero, List.set_cons_succ]
   refine wpAnyH_take (i := 10) (v := ?_) rfl (by kernel_rfl) (by kernel_rfl) (by kernel_rfl) (fun _ _ _ h => h) (Or.inl ⟨by rfl, ?_⟩) (by assumption) ?_
   rotate_left
   ·intro w hSw; (try dsimp only at hSw); obtain ⟨⟨s0, s1, s2, s3, s4, s5⟩, s6⟩ := hSw; go_simp; with_reducible rfl
   try simp only [Act.put, List.getElem_toArray, List.getElem_cons_zero, List.getElem_cons_succ, List.setIfInBounds_toArray, List.set_cons_zero, List.set_cons_succ]
   refine wpAnyH_done (by kernel_rfl) ?_ _
   clear hHeld HSof
   cases of
   case true =>
    skip
    have B_x := Lib.hid (BG.out.box (XB, [.string ⟨mm.toArray⟩, .string ⟨kk.toArray⟩, .int .i64 nn, .string ⟨tt.toArray⟩]) (by simp))
    have x0 := B_x.out.cell 0 (by simp)
    have x1 := B_x.out.cell 1 (by simp)
    have x2 := B_x.out.cell 2 (by simp)
    have x3 := B_x.out.cell 3 (by simp)
    simp only [List.getElem_cons_zero, List.getElem_cons_succ] at x0 x1 x2 x3
    have l_x := B_x.out.lt
    have B_r := Lib.hid (BG.out.box (w.heap.size + 1, [.string ⟨#[]⟩, .string ⟨#[]⟩, .int .i64 0, .string ⟨#[]⟩]) (by simp))
    have r0 := B_r.out.cell 0 (by simp)
    have r1 := B_r.out.cell 1 (by simp)
    have r2 := B_r.out.cell 2 (by simp)
    have r3 := B_r.out.cell 3 (by simp)
    simp only [List.getElem_cons_zero, List.getElem_cons_succ] at r0 r1 r2 r3
    have fr0 := B_r.out.froz 0 (by simp)
    have fr1 := B_r.out.froz 1 (by simp)
    have fr2 := B_r.out.froz 2 (by simp)
    have fr3 := B_r.out.froz 3 (by simp)
    have l_r := B_r.out.lt
    have nxr : ¬ XB = w.heap.size + 1 := by have := BG.out.dis; simp only [List.pairwise_cons, List.mem_cons, List.not_mem_nil, or_false, forall_eq_or_imp, forall_eq] at this; exact this.1.1
    have nrx : ¬ w.heap.size + 1 = XB := fun e => nxr e.symm
    go_wp2_with fail
    have BGf := Lib.hid (BG.out.put4 1 rfl (.string ⟨mm.toArray⟩) (.string ⟨kk.toArray⟩) (.int .i64 nn) (.string ⟨tt.toArray⟩))
    have BR := Lib.hid (BGf.out.box (w.heap.size + 1, [.string ⟨mm.toArray⟩, .string ⟨kk.toArray⟩, .int .i64 nn, .string ⟨tt.toArray⟩]) (by simp))
    clear B_x l_x x0 x1 x2 x3 
    clear B_r l_r r0 r1 r2 r3 fr0 fr1 fr2 fr3
    generalize ((((v2).setCell ⟨w.heap.size + 1, 0, none⟩ (.string ⟨mm.toArray⟩)).setCell ⟨w.heap.size + 1, 1, none⟩ (.string ⟨kk.toArray⟩)).setCell ⟨w.heap.size + 1, 2, none⟩ (.int .i64 nn)).setCell ⟨w.heap.size + 1, 3, none⟩ (.string ⟨tt.toArray⟩) = v9 at *
    have r0 := BR.out.cell 0 (by simp)
    have r1 := BR.out.cell 1 (by simp)
    have r2 := BR.out.cell 2 (by simp)
    have r3 := BR.out.cell 3 (by simp)
    simp only [List.getElem_cons_zero, List.getElem_cons_succ] at r0 r1 r2 r3
    refine bodyPost_ret (v := .agg #[.string ⟨mm.toArray⟩, .string ⟨kk.toArray⟩, .int .i64 nn, .string ⟨tt.toArray⟩]) (by simp [results, Tryz.results84, go_sem, r0, r1, r2, r3]) rfl ?_
    exact ⟨(⟨mm, kk, nn, tt⟩ : CallD), rfl, HOK.out, BGf.out.grown, BGf.out.cur⟩
   case false =>
    go_wp2_with fail
    refine (l3Call_any b v l _ BG.out.cur).mono ?_
    rintro e v3 ⟨⟨mm2, kk2, nn2, tt2⟩, rfl, hok, hg, hC⟩
    replace BG := Lib.hid (BG.out.draw hg hC)
    replace HOK := Lib.hid hok
    clear hg hC hok
    unfold vCall
    simp only
    have B_x := Lib.hid (BG.out.box (XB, [.string ⟨mm.toArray⟩, .string ⟨kk.toArray⟩, .int .i64 nn, .string ⟨tt.toArray⟩]) (by simp))
    have x0 := B_x.out.cell 0 (by simp)
    have x1 := B_x.out.cell 1 (by simp)
    have x2 := B_x.out.cell 2 (by simp)
    have x3 := B_x.out.cell 3 (by simp)
    simp only [List.getElem_cons_zero, List.getElem_cons_succ] at x0 x1 x2 x3
    have fx0 := B_x.out.froz 0 (by simp)
    have fx1 := B_x.out.froz 1 (by simp)
    have fx2 := B_x.out.froz 2 (by simp)
    have fx3 := B_x.out.froz 3 (by simp)
    have l_x := B_x.out.lt
    go_wp2_with fail
    have BGf := Lib.hid (BG.out.put4 0 rfl (.string ⟨mm2.toArray⟩) (.string ⟨kk2.toArray⟩) (.int .i64 nn2) (.string ⟨tt2.toArray⟩))
    exact ⟨⟨i + 1, mm2, kk2, nn2, tt2, by go_num, by omega, HOK.out, BGf.out⟩, by simp [intOf]; omega⟩
  ·skip
   have hic : decide ((i : Int) < 4) = false := decide_eq_false (by omega)
   go_wp2_with fail
   have HSof := Lib.hid (fun W (h : Bx W (w.heap.size) [.string ⟨kd.toArray⟩, .bool on, .bool br, .slice ca y.length cc, .int .i64 cnt, .slice la z.length lc]) (h2 : Bx W XB [.string ⟨mm.toArray⟩, .string ⟨kk.toArray⟩, .int .i64 nn, .string ⟨tt.toArray⟩]) => (show (six W (w.heap.size) (.string ⟨kd.toArray⟩) (.bool on) (.bool br) (.slice ca y.length cc) (.int .i64 cnt) (.slice la z.length lc) ∧ W.cell? ⟨XB, 0, none⟩ = some (.string ⟨mm.toArray⟩)) from ⟨bx_six h, h2.cell 0 (by simp)⟩))
   refine wp_region_held_drew (S := fun w' => (six w' (w.heap.size) (.string ⟨kd.toArray⟩) (.bool on) (.bool br) (.slice ca y.length cc) (.int .i64 cnt) (.slice la z.length lc) ∧ w'.cell? ⟨XB, 0, none⟩ = some (.string ⟨mm.toArray⟩))) (by kernel_rfl) ?_ (fun hHeld => ?_)
   ·exact HSof.out _ (BG.out.drew.box (w.heap.size, [.string ⟨kd.toArray⟩, .bool on, .bool br, .slice ca y.length cc, .int .i64 cnt, .slice la z.length lc]) (by simp)) (BG.out.drew.box (XB, [.string ⟨mm.toArray⟩, .string ⟨kk.toArray⟩, .int .i64 nn, .string ⟨tt.toArray⟩]) (by simp))
   replace BG := Lib.hid BG.out.drew
   generalize wr.drew = v0 at *
   refine wpAnyH_take (i := 0) (v := ?_) rfl (by kernel_rfl) (by kernel_rfl) (by kernel_rfl) (fun _ _ _ h => h) (Or.inl ⟨by rfl, ?_⟩) (by assumption) ?_
   rotate_left
   ·intro w hSw; (try dsimp only at hSw); obtain ⟨⟨s0, s1, s2, s3, s4, s5⟩, s6⟩ := hSw; go_simp; with_reducible rfl
   try simp only [Act.put, List.getElem_toArray, List.getElem_cons_zero, List.getElem_cons_succ, List.setIfInBounds_toArray, List.set_cons_zero, List.set_cons_succ]
   refine wpAnyH_take (i := 1) (v := ?_) rfl (by kernel_rfl) (by kernel_rfl) (by kernel_rfl) (fun _ _ _ h => h) (Or.inl ⟨by rfl, ?_⟩) (by assumption) ?_
   rotate_left
   ·intro w hSw; (try dsimp only at hSw); obtain ⟨⟨s0, s1, s2, s3, s4, s5⟩, s6⟩ := hSw; go_simp; with_reducible rfl
   try simp only [Act.put, List.getElem_toArray, List.getElem_cons_zero, List.getElem_cons_succ, List.setIfInBounds_toArray, List.set_cons_zero, List.set_cons_succ]
   refine wpAnyH_take (i := 2) (v := ?_) rfl (by kernel_rfl) (by kernel_rfl) (by kernel_rfl) (fun _ _ _ h => h) (Or.inl ⟨by rfl, ?_⟩) (by assumption) ?_
   rotate_left
   ·intro w hSw; (try dsimp only at hSw); obtain ⟨⟨s0, s1, s2, s3, s4, s5⟩, s6⟩ := hSw; go_simp; with_reducible rfl
   try simp only [Act.put, List.getElem_toArray, List.getElem_cons_zero, List.getElem_cons_succ, List.setIfInBounds_toArray, List.set_cons_zero, List.set_cons_succ]
   refine wpAnyH_take (i := 3) (v := undef) rfl (by kernel_rfl) (by kernel_rfl) (by kernel_rfl) (fun _ _ _ h => h) (Or.inr ⟨by rfl, rfl⟩) (by assumption) ?_
   try simp only [Act.put, List.getElem_toArray, List.getElem_cons_zero, List.getElem_cons_succ, List.setIfInBounds_toArray, List.set_cons_zero, List.set_cons_succ]
   refine wpAnyH_take (i := 5) (v := undef) rfl (by kernel_rfl) (by kernel_rfl) (by kernel_rfl) (fun _ _ _ h => h) (Or.inr ⟨by rfl, rfl⟩) (by assumption) ?_
   try simp only [Act.put, List.getElem_toArray, List.getElem_cons_zero, List.getElem_cons_succ, List.setIfInBounds_toArray, List.set_cons_zero, List.set_cons_succ]
   refine wpAnyH_take (i := 6) (v := undef) rfl (by kernel_rfl) (by kernel_rfl) (by kernel_rfl) (fun _ _ _ h => h) (Or.inr ⟨by rfl, rfl⟩) (by assumption) ?_
   try simp only [Act.put, List.getElem_toArray, List.getElem_cons_zero, List.getElem_cons_succ, List.setIfInBounds_toArray, List.set_cons_zero, List.set_cons_succ]
   refine wpAnyH_take (i := 4) (v := undef) rfl (by kernel_rfl) (by kernel_rfl) (by kernel_rfl) (fun _ _ _ h => h) (Or.inr ⟨by rfl, rfl⟩) (by assumption) ?_
   try simp only [Act.put, List.getElem_toArray, List.getElem_cons_zero, List.getElem_cons_succ, List.setIfInBounds_toArray, List.set_cons_zero, List.set_cons_succ]
   refine wpAnyH_take (i := 7) (v := undef) rfl (by kernel_rfl) (by kernel_rfl) (by kernel_rfl) (fun _ _ _ h => h) (Or.inr ⟨by rfl, rfl⟩) (by assumption) ?_
   try simp only [Act.put, List.getElem_toArray, List.getElem_cons_zero, List.getElem_cons_succ, List.setIfInBounds_toArray, List.set_cons_zero, List.set_cons_succ]
   refine wpAnyH_take (i := 8) (v := undef) rfl (by kernel_rfl) (by kernel_rfl) (by kernel_rfl) (fun _ _ _ h => h) (Or.inr ⟨by rfl, rfl⟩) (by assumption) ?_
   try simp only [Act.put, List.getElem_toArray, List.getElem_cons_zero, List.getElem_cons_succ, List.setIfInBounds_toArray, List.set_cons_zero, List.set_cons_succ]
   refine wpAnyH_take (i := 9) (v := undef) rfl (by kernel_rfl) (by kernel_rfl) (by kernel_rfl) (fun _ _ _ h => h) (Or.inr ⟨by rfl, rfl⟩) (by assumption) ?_
   try simp only [Act.put, List.getElem_toArray, List.getElem_cons_zero, List.getElem_cons_succ, List.setIfInBounds_toArray, List.set_cons_zero, List.set_cons_succ]
   refine wpAnyH_take (i := 10) (v := ?_) rfl (by kernel_rfl) (by kernel_rfl) (by kernel_rfl) (fun _ _ _ h => h) (Or.inl ⟨by rfl, ?_⟩) (by assumption) ?_
   rotate_left
   ·intro w hSw; (try dsimp only at hSw); obtain ⟨⟨s0, s1, s2, s3, s4, s5⟩, s6⟩ := hSw; go_simp; with_reducible rfl
   try simp only [Act.put, List.getElem_toArray, List.getElem_cons_zero, List.getElem_cons_succ, List.setIfInBounds_toArray, List.set_cons_zero, List.set_cons_succ]
   refine wpAnyH_done (by kernel_rfl) ?_ _
   clear hHeld HSof
   have B_x := Lib.hid (BG.out.box (XB, [.string ⟨mm.toArray⟩, .string ⟨kk.toArray⟩, .int .i64 nn, .string ⟨tt.toArray⟩]) (by simp))
   have x0 := B_x.out.cell 0 (by simp)
   have x1 := B_x.out.cell 1 (by simp)
   have x2 := B_x.out.cell 2 (by simp)
   have x3 := B_x.out.cell 3 (by simp)
   simp only [List.getElem_cons_zero, List.getElem_cons_succ] at x0 x1 x2 x3
   have l_x := B_x.out.lt
   have B_r := Lib.hid (BG.out.box (w.heap.size + 1, [.string ⟨#[]⟩, .string ⟨#[]⟩, .int .i64 0, .string ⟨#[]⟩]) (by simp))
   have r0 := B_r.out.cell 0 (by simp)
   have r1 := B_r.out.cell 1 (by simp)
   have r2 := B_r.out.cell 2 (by simp)
   have r3 := B_r.out.cell 3 (by simp)
   simp only [List.getElem_cons_zero, List.getElem_cons_succ] at r0 r1 r2 r3
   have fr0 := B_r.out.froz 0 (by simp)
   have fr1 := B_r.out.froz 1 (by simp)
   have fr2 := B_r.out.froz 2 (by simp)
   have fr3 := B_r.out.froz 3 (by simp)
   have l_r := B_r.out.lt
   have nxr : ¬ XB = w.heap.size + 1 := by have := BG.out.dis; simp only [List.pairwise_cons, List.mem_cons, List.not_mem_nil, or_false, forall_eq_or_imp, forall_eq] at this; exact this.1.1
   have nrx : ¬ w.heap.size + 1 = XB := fun e => nxr e.symm
   go_wp2_with fail
   have BGf := Lib.hid (BG.out.put4 1 rfl (.string ⟨mm.toArray⟩) (.string ⟨kk.toArray⟩) (.int .i64 nn) (.string ⟨tt.toArray⟩))
   have BR := Lib.hid (BGf.out.box (w.heap.size + 1, [.string ⟨mm.toArray⟩, .string ⟨kk.toArray⟩, .int .i64 nn, .string ⟨tt.toArray⟩]) (by simp))
   clear B_x l_x x0 x1 x2 x3 
   clear B_r l_r r0 r1 r2 r3 fr0 fr1 fr2 fr3
   generalize ((((v0).setCell ⟨w.heap.size + 1, 0, none⟩ (.string ⟨mm.toArray⟩)).setCell ⟨w.heap.size + 1, 1, none⟩ (.string ⟨kk.toArray⟩)).setCell ⟨w.heap.size + 1, 2, none⟩ (.int .i64 nn)).setCell ⟨w.heap.size + 1, 3, none⟩ (.string ⟨tt.toArray⟩) = v9 at *
   have r0 := BR.out.cell 0 (by simp)
   have r1 := BR.out.cell 1 (by simp)
   have r2 := BR.out.cell 2 (by simp)
   have r3 := BR.out.cell 3 (by simp)
   simp only [List.getElem_cons_zero, List.getElem_cons_succ] at r0 r1 r2 r3
   refine bodyPost_ret (v := .agg #[.string ⟨mm.toArray⟩, .string ⟨kk.toArray⟩, .int .i64 nn, .string ⟨tt.toArray⟩]) (by simp [results, Tryz.results84, go_sem, r0, r1, r2, r3]) rfl ?_
   exact ⟨(⟨mm, kk, nn, tt⟩ : CallD), rfl, HOK.out, BGf.out.grown, BGf.out.cur⟩
end Go.Proofs.YtcpbikilgacdlaaGreat
namespace Go.Proofs.YtcpbikilgacdlaaGreat
set_option linter.unusedVariables false
open Go.RowKit
abbrev mStart : List UInt8 := [83, 116, 97, 114, 116]
abbrev mStop : List UInt8 := [83, 116, 111, 112]
abbrev mGet : List UInt8 := [71, 101, 116]
abbrev mPut : List UInt8 := [80, 117, 116]
abbrev mTell : List UInt8 := [84, 101, 108, 108]
abbrev mHear : List UInt8 := [72, 101, 97, 114]
abbrev mLoad : List UInt8 := [76, 111, 97, 100]
abbrev mSave : List UInt8 := [83, 97, 118, 101]
abbrev mHeal : List UInt8 := [72, 101, 97, 108]
def takesK (m : List UInt8) : Bool := m == mGet || m == mPut
def takesV (m : List UInt8) : Bool := m == mPut || m == mHear
def takesT (m : List UInt8) : Bool := m == mLoad
def callB (d : CallD) : Bool := (wantF d.fMethod != 0) && (if takesK d.fMethod then nameB d.fKey else d.fKey.isEmpty) && (if takesV d.fMethod then numB d.fValue else d.fValue == 0) && (d.fText.isEmpty || takesT d.fMethod)
theorem meth_cases (m : List UInt8) : m = mStart ∨ m = mStop ∨ m = mGet ∨ m = mPut ∨ m = mTell ∨ m = mHear ∨ m = mLoad ∨ m = mSave ∨ m = mHeal ∨ (wantF m = 0 ∧ m ≠ mStart ∧ m ≠ mStop ∧ m ≠ mGet ∧ m ≠ mPut ∧ m ≠ mTell ∧ m ≠ mHear ∧ m ≠ mLoad ∧ m ≠ mSave ∧ m ≠ mHeal) := by
 by_cases h : wantF m = 0
 ·iterate 9 right
  refine ⟨h, ?_, ?_, ?_, ?_, ?_, ?_, ?_, ?_, ?_⟩ <;> (rintro rfl; exact absurd h (by decide))
 ·unfold wantF at h
  rcases findK_bd (fun k => decide (m ∈ mthN k)) 6 0 with e | ⟨j, e, hj, hm⟩
  ·exact absurd (show wantI (abOfM m) = 0 by unfold abOfM; rw [e]; rfl) h
  ·have hm := of_decide_eq_true hm
   rcases (show j = 0 ∨ j = 1 ∨ j = 2 ∨ j = 3 ∨ j = 4 ∨ j = 5 by omega) with rfl | rfl | rfl | rfl | rfl | rfl <;> simp [mthN] at hm <;> (first | (rcases hm with hm | hm <;> subst hm <;> decide) | (subst hm; decide))
set_option maxHeartbeats 800000 in
theorem takesKey_any (m : List UInt8) (w : World) : Calls Tryz.prog 89 #[.string ⟨m.toArray⟩] w fun e w' => e = .returned (.bool (takesK m)) ∧ w = w' := by
 by_cases hGet : m = mGet
 ·subst hGet
  go_enter Tryz.func89, Tryz.ntmps89
  go_wp2
  go_ret
  exact ⟨rfl, rfl⟩
 by_cases hPut : m = mPut
 ·subst hPut
  go_enter Tryz.func89, Tryz.ntmps89
  go_wp2
  go_ret
  exact ⟨rfl, rfl⟩
 have bGet : (m == [71, 101, 116]) = false := by simpa using hGet
 have bPut : (m == [80, 117, 116]) = false := by simpa using hPut
 have HR := Lib.hid (show takesK m = false by simp only [takesK, bGet, bPut] <;> rfl)
 clear hGet hPut
 go_enter Tryz.func89, Tryz.ntmps89
 go_wp2
 go_ret
 exact ⟨ret_bool HR.out.symm, rfl⟩
theorem takesKey_b (m : List UInt8) (x : Bool) (h : takesK m = x) (w : World) : Calls Tryz.prog 89 #[.string ⟨m.toArray⟩] w fun e w' => e = .returned (.bool x) ∧ w = w' := by subst h; exact takesKey_any m w
set_option maxHeartbeats 800000 in
theorem takesValue_any (m : List UInt8) (w : World) : Calls Tryz.prog 91 #[.string ⟨m.toArray⟩] w fun e w' => e = .returned (.bool (takesV m)) ∧ w = w' := by
 by_cases hPut : m = mPut
 ·subst hPut
  go_enter Tryz.func91, Tryz.ntmps91
  go_wp2
  go_ret
  exact ⟨rfl, rfl⟩
 by_cases hHear : m = mHear
 ·subst hHear
  go_enter Tryz.func91, Tryz.ntmps91
  go_wp2
  go_ret
  exact ⟨rfl, rfl⟩
 have bPut : (m == [80, 117, 116]) = false := by simpa using hPut
 have bHear : (m == [72, 101, 97, 114]) = false := by simpa using hHear
 have HR := Lib.hid (show takesV m = false by simp only [takesV, bPut, bHear] <;> rfl)
 clear hPut hHear
 go_enter Tryz.func91, Tryz.ntmps91
 go_wp2
 go_ret
 exact ⟨ret_bool HR.out.symm, rfl⟩
theorem takesValue_b (m : List UInt8) (x : Bool) (h : takesV m = x) (w : World) : Calls Tryz.prog 91 #[.string ⟨m.toArray⟩] w fun e w' => e = .returned (.bool x) ∧ w = w' := by subst h; exact takesValue_any m w
set_option maxHeartbeats 800000 in
theorem takesText_any (m : List UInt8) (w : World) : Calls Tryz.prog 93 #[.string ⟨m.toArray⟩] w fun e w' => e = .returned (.bool (takesT m)) ∧ w = w' := by
 by_cases hLoad : m = mLoad
 ·subst hLoad
  go_enter Tryz.func93, Tryz.ntmps93
  go_wp2
  go_ret
  exact ⟨rfl, rfl⟩
 have bLoad : (m == [76, 111, 97, 100]) = false := by simpa using hLoad
 have HR := Lib.hid (show takesT m = false by simp only [takesT, bLoad] <;> rfl)
 clear hLoad
 go_enter Tryz.func93, Tryz.ntmps93
 go_wp2
 go_ret
 exact ⟨ret_bool HR.out.symm, rfl⟩
theorem takesText_b (m : List UInt8) (x : Bool) (h : takesT m = x) (w : World) : Calls Tryz.prog 93 #[.string ⟨m.toArray⟩] w fun e w' => e = .returned (.bool x) ∧ w = w' := by subst h; exact takesText_any m w
set_option maxHeartbeats 800000 in
theorem implWant_any (s : ByteArray) (w : World) :
  Calls Tryz.prog 46 #[.string s] w fun e w' => e = .returned (.int .i64 (wantF s.data.toList)) ∧ Below w.heap.size w w' := by
 have HA := Lib.hid (implAbilityOfMethod_any s)
 have hb := abOfM_bd s.data.toList
 unfold wantF
 generalize abOfM s.data.toList = k at *
 rcases hb with rfl | ⟨j, rfl, hj⟩
 ·go_enter Tryz.func46, Tryz.ntmps46
  go_wp2_with fail
  refine (HA.out w).mono ?_
  rintro e w1 ⟨rfl, hb⟩
  go_wp2_with fail
  go_ret
  exact ⟨rfl, hb⟩
 ·have HP := Lib.hid (show wrap64 (2 ^ j) = wantI (j : Nat) by unfold wantI; rw [if_neg (by omega), pow_of j hj]; simp)
  go_enter Tryz.func46, Tryz.ntmps46
  go_wp2_with fail
  refine (HA.out w).mono ?_
  rintro e w1 ⟨rfl, hb⟩
  go_wp2_with fail
  go_ret
  exact ⟨ret_int HP.out, hb⟩
theorem implWant_b (m : List UInt8) (x : Int) (h : wantF m = x) (w : World) : Calls Tryz.prog 46 #[.string ⟨m.toArray⟩] w fun e w' => e = .returned (.int .i64 x) ∧ Below w.heap.size w w' := by
 subst h; exact implWant_any ⟨m.toArray⟩ w
theorem specWant_b (m : List UInt8) (x : Int) (h : wantF m = x) (w : World) : Calls Tryz.prog 63 #[.string ⟨m.toArray⟩] w fun e w' => e = .returned (.int .i64 x) ∧ Below w.heap.size w w' := by
 subst h; exact specWant_any ⟨m.toArray⟩ w
set_option maxRecDepth 100000 in
set_option maxHeartbeats 3200000 in
theorem specIsCall_Start (key : List UInt8) (v : Int) (text : List UInt8) (w : World) (hk : key.length ≤ maxLen) :
  Calls Tryz.prog 60 #[.agg #[.string ⟨#[83, 116, 97, 114, 116]⟩, .string ⟨key.toArray⟩, .int .i64 v, .string ⟨text.toArray⟩]] w fun e w' => e = .returned (.bool (callB ⟨mStart, key, v, text⟩)) ∧ Below w.heap.size w w' := by
 have HR := Lib.hid (show callB ⟨mStart, key, v, text⟩ = (key.isEmpty && (v == 0) && (text.isEmpty || false)) from rfl)
 have HW := Lib.hid (show ∀ w0, Calls Tryz.prog 63 #[.string ⟨#[83, 116, 97, 114, 116]⟩] w0 fun e w' => e = .returned (.int .i64 1) ∧ Below w0.heap.size w0 w' from fun w0 => specWant_b mStart 1 rfl w0)
 generalize callB ⟨mStart, key, v, text⟩ = res at *
 clear hk
 have HB0 := Lib.hid (show ∀ o, Below w.heap.size w (w.alloc o) from fun o => (Below.refl w.heap.size w).alloc (Nat.le_refl _) o)
 go_enter Tryz.func60, Tryz.ntmps60
 go_wp2_with fail
 refine (HW.out _).mono ?_
 rintro e w1 ⟨rfl, hb⟩
 have HB := Lib.hid ((HB0.out _).trans (hb.mono (HB0.out _).size))
 obtain ⟨hcc, _⟩ := bcell hb
 simp at hcc
 have c0 := hcc w.heap.size 0 (by omega)
 have c1 := hcc w.heap.size 1 (by omega)
 have c2 := hcc w.heap.size 2 (by omega)
 have c3 := hcc w.heap.size 3 (by omega)
 simp at c0 c1 c2 c3
 clear hb hcc
 cases key <;> cases text
 all_goals
  by_cases h0 : v = 0
  ·subst h0
   go_wp2_with fail
   go_ret
   exact ⟨ret_bool (by rw [HR.out]; rfl), HB.out⟩
  ·have hv0 : (v == 0) = false := by simpa using h0
   rw [hv0] at HR
   clear h0
   go_wp2_with fail
   go_ret
   exact ⟨ret_bool (by rw [HR.out]; rfl), HB.out⟩
set_option maxRecDepth 100000 in
set_option maxHeartbeats 3200000 in
theorem specIsCall_Stop (key : List UInt8) (v : Int) (text : List UInt8) (w : World) (hk : key.length ≤ maxLen) :
  Calls Tryz.prog 60 #[.agg #[.string ⟨#[83, 116, 111, 112]⟩, .string ⟨key.toArray⟩, .int .i64 v, .string ⟨text.toArray⟩]] w fun e w' => e = .returned (.bool (callB ⟨mStop, key, v, text⟩)) ∧ Below w.heap.size w w' := by
 have HR := Lib.hid (show callB ⟨mStop, key, v, text⟩ = (key.isEmpty && (v == 0) && (text.isEmpty || false)) from rfl)
 have HW := Lib.hid (show ∀ w0, Calls Tryz.prog 63 #[.string ⟨#[83, 116, 111, 112]⟩] w0 fun e w' => e = .returned (.int .i64 1) ∧ Below w0.heap.size w0 w' from fun w0 => specWant_b mStop 1 rfl w0)
 generalize callB ⟨mStop, key, v, text⟩ = res at *
 clear hk
 have HB0 := Lib.hid (show ∀ o, Below w.heap.size w (w.alloc o) from fun o => (Below.refl w.heap.size w).alloc (Nat.le_refl _) o)
 go_enter Tryz.func60, Tryz.ntmps60
 go_wp2_with fail
 refine (HW.out _).mono ?_
 rintro e w1 ⟨rfl, hb⟩
 have HB := Lib.hid ((HB0.out _).trans (hb.mono (HB0.out _).size))
 obtain ⟨hcc, _⟩ := bcell hb
 simp at hcc
 have c0 := hcc w.heap.size 0 (by omega)
 have c1 := hcc w.heap.size 1 (by omega)
 have c2 := hcc w.heap.size 2 (by omega)
 have c3 := hcc w.heap.size 3 (by omega)
 simp at c0 c1 c2 c3
 clear hb hcc
 cases key <;> cases text
 all_goals
  by_cases h0 : v = 0
  ·subst h0
   go_wp2_with fail
   go_ret
   exact ⟨ret_bool (by rw [HR.out]; rfl), HB.out⟩
  ·have hv0 : (v == 0) = false := by simpa using h0
   rw [hv0] at HR
   clear h0
   go_wp2_with fail
   go_ret
   exact ⟨ret_bool (by rw [HR.out]; rfl), HB.out⟩
set_option maxRecDepth 100000 in
set_option maxHeartbeats 3200000 in
theorem specIsCall_Get (key : List UInt8) (v : Int) (text : List UInt8) (w : World) (hk : key.length ≤ maxLen) :
  Calls Tryz.prog 60 #[.agg #[.string ⟨#[71, 101, 116]⟩, .string ⟨key.toArray⟩, .int .i64 v, .string ⟨text.toArray⟩]] w fun e w' => e = .returned (.bool (callB ⟨mGet, key, v, text⟩)) ∧ Below w.heap.size w w' := by
 have HR := Lib.hid (show callB ⟨mGet, key, v, text⟩ = (nameB key && (v == 0) && (text.isEmpty || false)) from rfl)
 have HW := Lib.hid (show ∀ w0, Calls Tryz.prog 63 #[.string ⟨#[71, 101, 116]⟩] w0 fun e w' => e = .returned (.int .i64 2) ∧ Below w0.heap.size w0 w' from fun w0 => specWant_b mGet 2 rfl w0)
 have HN := Lib.hid (specIsName_b key _ rfl hk)
 generalize callB ⟨mGet, key, v, text⟩ = res at *
 generalize nameB key = kn at *
 clear hk
 have HB0 := Lib.hid (show ∀ o, Below w.heap.size w (w.alloc o) from fun o => (Below.refl w.heap.size w).alloc (Nat.le_refl _) o)
 go_enter Tryz.func60, Tryz.ntmps60
 go_wp2_with fail
 refine (HW.out _).mono ?_
 rintro e w1 ⟨rfl, hb⟩
 have HB := Lib.hid ((HB0.out _).trans (hb.mono (HB0.out _).size))
 obtain ⟨hcc, _⟩ := bcell hb
 simp at hcc
 have c0 := hcc w.heap.size 0 (by omega)
 have c1 := hcc w.heap.size 1 (by omega)
 have c2 := hcc w.heap.size 2 (by omega)
 have c3 := hcc w.heap.size 3 (by omega)
 simp at c0 c1 c2 c3
 clear hb hcc
 cases kn <;> cases text
 all_goals
  by_cases h0 : v = 0
  ·subst h0
   go_wp2_with (first | (go_at_call 111; (with_reducible refine (HN.out _).mono ?_); rintro e w' ⟨rfl, rfl⟩))
   go_ret
   exact ⟨ret_bool (by rw [HR.out]; rfl), HB.out⟩
  ·have hv0 : (v == 0) = false := by simpa using h0
   rw [hv0] at HR
   clear h0
   go_wp2_with (first | (go_at_call 111; (with_reducible refine (HN.out _).mono ?_); rintro e w' ⟨rfl, rfl⟩))
   go_ret
   exact ⟨ret_bool (by rw [HR.out]; rfl), HB.out⟩
set_option maxRecDepth 100000 in
set_option maxHeartbeats 3200000 in
theorem specIsCall_Put (key : List UInt8) (v : Int) (text : List UInt8) (w : World) (hk : key.length ≤ maxLen) :
  Calls Tryz.prog 60 #[.agg #[.string ⟨#[80, 117, 116]⟩, .string ⟨key.toArray⟩, .int .i64 v, .string ⟨text.toArray⟩]] w fun e w' => e = .returned (.bool (callB ⟨mPut, key, v, text⟩)) ∧ Below w.heap.size w w' := by
 have HR := Lib.hid (show callB ⟨mPut, key, v, text⟩ = (nameB key && numB v && (text.isEmpty || false)) from rfl)
 have HW := Lib.hid (show ∀ w0, Calls Tryz.prog 63 #[.string ⟨#[80, 117, 116]⟩] w0 fun e w' => e = .returned (.int .i64 2) ∧ Below w0.heap.size w0 w' from fun w0 => specWant_b mPut 2 rfl w0)
 have HN := Lib.hid (specIsName_b key _ rfl hk)
 generalize callB ⟨mPut, key, v, text⟩ = res at *
 generalize nameB key = kn at *
 clear hk
 have HB0 := Lib.hid (show ∀ o, Below w.heap.size w (w.alloc o) from fun o => (Below.refl w.heap.size w).alloc (Nat.le_refl _) o)
 go_enter Tryz.func60, Tryz.ntmps60
 go_wp2_with fail
 refine (HW.out _).mono ?_
 rintro e w1 ⟨rfl, hb⟩
 have HB := Lib.hid ((HB0.out _).trans (hb.mono (HB0.out _).size))
 obtain ⟨hcc, _⟩ := bcell hb
 simp at hcc
 have c0 := hcc w.heap.size 0 (by omega)
 have c1 := hcc w.heap.size 1 (by omega)
 have c2 := hcc w.heap.size 2 (by omega)
 have c3 := hcc w.heap.size 3 (by omega)
 simp at c0 c1 c2 c3
 clear hb hcc
 cases kn <;> cases text
 all_goals
  by_cases h0 : v = 0
  ·subst h0
   rw [show numB 0 = true from rfl] at HR
   go_wp2_with (first | (go_at_call 111; (with_reducible refine (HN.out _).mono ?_); rintro e w' ⟨rfl, rfl⟩))
   go_ret
   exact ⟨ret_bool (by rw [HR.out]; rfl), HB.out⟩
  ·have hv0 : (v == 0) = false := by simpa using h0
   by_cases h1 : v < 0
   ·rw [show numB v = false by simp [numB]; omega] at HR
    have hv1 : decide (0 < v) = false := decide_eq_false (by omega)
    clear h0
    go_wp2_with (first | (go_at_call 111; (with_reducible refine (HN.out _).mono ?_); rintro e w' ⟨rfl, rfl⟩))
    go_ret
    exact ⟨ret_bool (by rw [HR.out]; rfl), HB.out⟩
   ·by_cases h2 : 999 < v
    ·rw [show numB v = false by simp [numB]; omega] at HR
     have hv1 : decide (0 < v) = true := decide_eq_true (by omega)
     have hv2 : decide (v ≤ 999) = false := decide_eq_false (by omega)
     clear h0
     go_wp2_with (first | (go_at_call 111; (with_reducible refine (HN.out _).mono ?_); rintro e w' ⟨rfl, rfl⟩))
     go_ret
     exact ⟨ret_bool (by rw [HR.out]; rfl), HB.out⟩
    ·rw [show numB v = true by simp [numB]; omega] at HR
     have hv1 : decide (0 < v) = true := decide_eq_true (by omega)
     have hv2 : decide (v ≤ 999) = true := decide_eq_true (by omega)
     have hv3 : 0 < v := by omega
     have hv4 : v ≤ 999 := by omega
     clear h0
     go_wp2_with (first | (go_at_call 111; (with_reducible refine (HN.out _).mono ?_); rintro e w' ⟨rfl, rfl⟩))
     go_ret
     exact ⟨ret_bool (by rw [HR.out]; rfl), HB.out⟩
set_option maxRecDepth 100000 in
set_option maxHeartbeats 3200000 in
theorem specIsCall_Tell (key : List UInt8) (v : Int) (text : List UInt8) (w : World) (hk : key.length ≤ maxLen) :
  Calls Tryz.prog 60 #[.agg #[.string ⟨#[84, 101, 108, 108]⟩, .string ⟨key.toArray⟩, .int .i64 v, .string ⟨text.toArray⟩]] w fun e w' => e = .returned (.bool (callB ⟨mTell, key, v, text⟩)) ∧ Below w.heap.size w w' := by
 have HR := Lib.hid (show callB ⟨mTell, key, v, text⟩ = (key.isEmpty && (v == 0) && (text.isEmpty || false)) from rfl)
 have HW := Lib.hid (show ∀ w0, Calls Tryz.prog 63 #[.string ⟨#[84, 101, 108, 108]⟩] w0 fun e w' => e = .returned (.int .i64 4) ∧ Below w0.heap.size w0 w' from fun w0 => specWant_b mTell 4 rfl w0)
 generalize callB ⟨mTell, key, v, text⟩ = res at *
 clear hk
 have HB0 := Lib.hid (show ∀ o, Below w.heap.size w (w.alloc o) from fun o => (Below.refl w.heap.size w).alloc (Nat.le_refl _) o)
 go_enter Tryz.func60, Tryz.ntmps60
 go_wp2_with fail
 refine (HW.out _).mono ?_
 rintro e w1 ⟨rfl, hb⟩
 have HB := Lib.hid ((HB0.out _).trans (hb.mono (HB0.out _).size))
 obtain ⟨hcc, _⟩ := bcell hb
 simp at hcc
 have c0 := hcc w.heap.size 0 (by omega)
 have c1 := hcc w.heap.size 1 (by omega)
 have c2 := hcc w.heap.size 2 (by omega)
 have c3 := hcc w.heap.size 3 (by omega)
 simp at c0 c1 c2 c3
 clear hb hcc
 cases key <;> cases text
 all_goals
  by_cases h0 : v = 0
  ·subst h0
   go_wp2_with fail
   go_ret
   exact ⟨ret_bool (by rw [HR.out]; rfl), HB.out⟩
  ·have hv0 : (v == 0) = false := by simpa using h0
   rw [hv0] at HR
   clear h0
   go_wp2_with fail
   go_ret
   exact ⟨ret_bool (by rw [HR.out]; rfl), HB.out⟩
set_option maxRecDepth 100000 in
set_option maxHeartbeats 3200000 in
theorem specIsCall_Hear (key : List UInt8) (v : Int) (text : List UInt8) (w : World) (hk : key.length ≤ maxLen) :
  Calls Tryz.prog 60 #[.agg #[.string ⟨#[72, 101, 97, 114]⟩, .string ⟨key.toArray⟩, .int .i64 v, .string ⟨text.toArray⟩]] w fun e w' => e = .returned (.bool (callB ⟨mHear, key, v, text⟩)) ∧ Below w.heap.size w w' := by
 have HR := Lib.hid (show callB ⟨mHear, key, v, text⟩ = (key.isEmpty && numB v && (text.isEmpty || false)) from rfl)
 have HW := Lib.hid (show ∀ w0, Calls Tryz.prog 63 #[.string ⟨#[72, 101, 97, 114]⟩] w0 fun e w' => e = .returned (.int .i64 8) ∧ Below w0.heap.size w0 w' from fun w0 => specWant_b mHear 8 rfl w0)
 generalize callB ⟨mHear, key, v, text⟩ = res at *
 clear hk
 have HB0 := Lib.hid (show ∀ o, Below w.heap.size w (w.alloc o) from fun o => (Below.refl w.heap.size w).alloc (Nat.le_refl _) o)
 go_enter Tryz.func60, Tryz.ntmps60
 go_wp2_with fail
 refine (HW.out _).mono ?_
 rintro e w1 ⟨rfl, hb⟩
 have HB := Lib.hid ((HB0.out _).trans (hb.mono (HB0.out _).size))
 obtain ⟨hcc, _⟩ := bcell hb
 simp at hcc
 have c0 := hcc w.heap.size 0 (by omega)
 have c1 := hcc w.heap.size 1 (by omega)
 have c2 := hcc w.heap.size 2 (by omega)
 have c3 := hcc w.heap.size 3 (by omega)
 simp at c0 c1 c2 c3
 clear hb hcc
 cases key <;> cases text
 all_goals
  by_cases h0 : v = 0
  ·subst h0
   rw [show numB 0 = true from rfl] at HR
   go_wp2_with fail
   go_ret
   exact ⟨ret_bool (by rw [HR.out]; rfl), HB.out⟩
  ·have hv0 : (v == 0) = false := by simpa using h0
   by_cases h1 : v < 0
   ·rw [show numB v = false by simp [numB]; omega] at HR
    have hv1 : decide (0 < v) = false := decide_eq_false (by omega)
    clear h0
    go_wp2_with fail
    go_ret
    exact ⟨ret_bool (by rw [HR.out]; rfl), HB.out⟩
   ·by_cases h2 : 999 < v
    ·rw [show numB v = false by simp [numB]; omega] at HR
     have hv1 : decide (0 < v) = true := decide_eq_true (by omega)
     have hv2 : decide (v ≤ 999) = false := decide_eq_false (by omega)
     clear h0
     go_wp2_with fail
     go_ret
     exact ⟨ret_bool (by rw [HR.out]; rfl), HB.out⟩
    ·rw [show numB v = true by simp [numB]; omega] at HR
     have hv1 : decide (0 < v) = true := decide_eq_true (by omega)
     have hv2 : decide (v ≤ 999) = true := decide_eq_true (by omega)
     have hv3 : 0 < v := by omega
     have hv4 : v ≤ 999 := by omega
     clear h0
     go_wp2_with fail
     go_ret
     exact ⟨ret_bool (by rw [HR.out]; rfl), HB.out⟩
set_option maxRecDepth 100000 in
set_option maxHeartbeats 3200000 in
theorem specIsCall_Load (key : List UInt8) (v : Int) (text : List UInt8) (w : World) (hk : key.length ≤ maxLen) :
  Calls Tryz.prog 60 #[.agg #[.string ⟨#[76, 111, 97, 100]⟩, .string ⟨key.toArray⟩, .int .i64 v, .string ⟨text.toArray⟩]] w fun e w' => e = .returned (.bool (callB ⟨mLoad, key, v, text⟩)) ∧ Below w.heap.size w w' := by
 have HR := Lib.hid (show callB ⟨mLoad, key, v, text⟩ = (key.isEmpty && (v == 0) && (text.isEmpty || true)) from rfl)
 have HW := Lib.hid (show ∀ w0, Calls Tryz.prog 63 #[.string ⟨#[76, 111, 97, 100]⟩] w0 fun e w' => e = .returned (.int .i64 16) ∧ Below w0.heap.size w0 w' from fun w0 => specWant_b mLoad 16 rfl w0)
 generalize callB ⟨mLoad, key, v, text⟩ = res at *
 clear hk
 have HB0 := Lib.hid (show ∀ o, Below w.heap.size w (w.alloc o) from fun o => (Below.refl w.heap.size w).alloc (Nat.le_refl _) o)
 go_enter Tryz.func60, Tryz.ntmps60
 go_wp2_with fail
 refine (HW.out _).mono ?_
 rintro e w1 ⟨rfl, hb⟩
 have HB := Lib.hid ((HB0.out _).trans (hb.mono (HB0.out _).size))
 obtain ⟨hcc, _⟩ := bcell hb
 simp at hcc
 have c0 := hcc w.heap.size 0 (by omega)
 have c1 := hcc w.heap.size 1 (by omega)
 have c2 := hcc w.heap.size 2 (by omega)
 have c3 := hcc w.heap.size 3 (by omega)
 simp at c0 c1 c2 c3
 clear hb hcc
 cases key <;> cases text
 all_goals
  by_cases h0 : v = 0
  ·subst h0
   go_wp2_with fail
   go_ret
   exact ⟨ret_bool (by rw [HR.out]; rfl), HB.out⟩
  ·have hv0 : (v == 0) = false := by simpa using h0
   rw [hv0] at HR
   clear h0
   go_wp2_with fail
   go_ret
   exact ⟨ret_bool (by rw [HR.out]; rfl), HB.out⟩
set_option maxRecDepth 100000 in
set_option maxHeartbeats 3200000 in
theorem specIsCall_Save (key : List UInt8) (v : Int) (text : List UInt8) (w : World) (hk : key.length ≤ maxLen) :
  Calls Tryz.prog 60 #[.agg #[.string ⟨#[83, 97, 118, 101]⟩, .string ⟨key.toArray⟩, .int .i64 v, .string ⟨text.toArray⟩]] w fun e w' => e = .returned (.bool (callB ⟨mSave, key, v, text⟩)) ∧ Below w.heap.size w w' := by
 have HR := Lib.hid (show callB ⟨mSave, key, v, text⟩ = (key.isEmpty && (v == 0) && (text.isEmpty || false)) from rfl)
 have HW := Lib.hid (show ∀ w0, Calls Tryz.prog 63 #[.string ⟨#[83, 97, 118, 101]⟩] w0 fun e w' => e = .returned (.int .i64 16) ∧ Below w0.heap.size w0 w' from fun w0 => specWant_b mSave 16 rfl w0)
 generalize callB ⟨mSave, key, v, text⟩ = res at *
 clear hk
 have HB0 := Lib.hid (show ∀ o, Below w.heap.size w (w.alloc o) from fun o => (Below.refl w.heap.size w).alloc (Nat.le_refl _) o)
 go_enter Tryz.func60, Tryz.ntmps60
 go_wp2_with fail
 refine (HW.out _).mono ?_
 rintro e w1 ⟨rfl, hb⟩
 have HB := Lib.hid ((HB0.out _).trans (hb.mono (HB0.out _).size))
 obtain ⟨hcc, _⟩ := bcell hb
 simp at hcc
 have c0 := hcc w.heap.size 0 (by omega)
 have c1 := hcc w.heap.size 1 (by omega)
 have c2 := hcc w.heap.size 2 (by omega)
 have c3 := hcc w.heap.size 3 (by omega)
 simp at c0 c1 c2 c3
 clear hb hcc
 cases key <;> cases text
 all_goals
  by_cases h0 : v = 0
  ·subst h0
   go_wp2_with fail
   go_ret
   exact ⟨ret_bool (by rw [HR.out]; rfl), HB.out⟩
  ·have hv0 : (v == 0) = false := by simpa using h0
   rw [hv0] at HR
   clear h0
   go_wp2_with fail
   go_ret
   exact ⟨ret_bool (by rw [HR.out]; rfl), HB.out⟩
set_option maxRecDepth 100000 in
set_option maxHeartbeats 3200000 in
theorem specIsCall_Heal (key : List UInt8) (v : Int) (text : List UInt8) (w : World) (hk : key.length ≤ maxLen) :
  Calls Tryz.prog 60 #[.agg #[.string ⟨#[72, 101, 97, 108]⟩, .string ⟨key.toArray⟩, .int .i64 v, .string ⟨text.toArray⟩]] w fun e w' => e = .returned (.bool (callB ⟨mHeal, key, v, text⟩)) ∧ Below w.heap.size w w' := by
 have HR := Lib.hid (show callB ⟨mHeal, key, v, text⟩ = (key.isEmpty && (v == 0) && (text.isEmpty || false)) from rfl)
 have HW := Lib.hid (show ∀ w0, Calls Tryz.prog 63 #[.string ⟨#[72, 101, 97, 108]⟩] w0 fun e w' => e = .returned (.int .i64 32) ∧ Below w0.heap.size w0 w' from fun w0 => specWant_b mHeal 32 rfl w0)
 generalize callB ⟨mHeal, key, v, text⟩ = res at *
 clear hk
 have HB0 := Lib.hid (show ∀ o, Below w.heap.size w (w.alloc o) from fun o => (Below.refl w.heap.size w).alloc (Nat.le_refl _) o)
 go_enter Tryz.func60, Tryz.ntmps60
 go_wp2_with fail
 refine (HW.out _).mono ?_
 rintro e w1 ⟨rfl, hb⟩
 have HB := Lib.hid ((HB0.out _).trans (hb.mono (HB0.out _).size))
 obtain ⟨hcc, _⟩ := bcell hb
 simp at hcc
 have c0 := hcc w.heap.size 0 (by omega)
 have c1 := hcc w.heap.size 1 (by omega)
 have c2 := hcc w.heap.size 2 (by omega)
 have c3 := hcc w.heap.size 3 (by omega)
 simp at c0 c1 c2 c3
 clear hb hcc
 cases key <;> cases text
 all_goals
  by_cases h0 : v = 0
  ·subst h0
   go_wp2_with fail
   go_ret
   exact ⟨ret_bool (by rw [HR.out]; rfl), HB.out⟩
  ·have hv0 : (v == 0) = false := by simpa using h0
   rw [hv0] at HR
   clear h0
   go_wp2_with fail
   go_ret
   exact ⟨ret_bool (by rw [HR.out]; rfl), HB.out⟩
set_option maxRecDepth 100000 in
set_option maxHeartbeats 1600000 in
theorem specIsCall_any (d : CallD) (w : World) (hk : d.fKey.length ≤ maxLen) :
  Calls Tryz.prog 60 #[vCall d] w fun e w' => e = .returned (.bool (callB d)) ∧ Below w.heap.size w w' := by
 obtain ⟨m, key, v, text⟩ := d
 unfold vCall
 simp only at *
 rcases meth_cases m with rfl | rfl | rfl | rfl | rfl | rfl | rfl | rfl | rfl | ⟨hw, hStart, hStop, hGet, hPut, hTell, hHear, hLoad, hSave, hHeal⟩
 ·exact specIsCall_Start key v text w hk
 ·exact specIsCall_Stop key v text w hk
 ·exact specIsCall_Get key v text w hk
 ·exact specIsCall_Put key v text w hk
 ·exact specIsCall_Tell key v text w hk
 ·exact specIsCall_Hear key v text w hk
 ·exact specIsCall_Load key v text w hk
 ·exact specIsCall_Save key v text w hk
 ·exact specIsCall_Heal key v text w hk
 ·have HR := Lib.hid (show callB ⟨m, key, v, text⟩ = false by unfold callB; simp only; rw [hw]; rfl)
  have bGet : (m == [71, 101, 116]) = false := by simpa using hGet
  have bPut : (m == [80, 117, 116]) = false := by simpa using hPut
  have bHear : (m == [72, 101, 97, 114]) = false := by simpa using hHear
  have bLoad : (m == [76, 111, 97, 100]) = false := by simpa using hLoad
  have HW := Lib.hid (specWant_b m 0 hw)
  have HB0 := Lib.hid (show ∀ o, Below w.heap.size w (w.alloc o) from fun o => (Below.refl w.heap.size w).alloc (Nat.le_refl _) o)
  generalize callB ⟨m, key, v, text⟩ = res at *
  clear hw hk hStart hStop hGet hPut hTell hHear hLoad hSave hHeal
  go_enter Tryz.func60, Tryz.ntmps60
  go_wp2_with fail
  refine (HW.out _).mono ?_
  rintro e w1 ⟨rfl, hb⟩
  have HB := Lib.hid ((HB0.out _).trans (hb.mono (HB0.out _).size))
  clear hb
  go_wp2_with fail
  go_ret
  exact ⟨ret_bool HR.out.symm, HB.out⟩
end Go.Proofs.YtcpbikilgacdlaaGreat
namespace Go.Proofs.YtcpbikilgacdlaaGreat
set_option linter.unusedVariables false
set_option linter.unusedSimpArgs false
open Go.RowKit
abbrev rCl (w : World) (u : Value) (x : List CallD) : Held := hRow cCall 43 4 w.heap.size u x
def GivesPL (w : World) (e : Ending) (w' : World) : Prop := ∃ (x : PartD) (cv lv xv : Value) (xs : List CallD), e = .returned (.tuple #[.agg (cPartV x.fCore.fKind x.fCore.fOn x.fCore.fBroken cv x.fCore.fCount lv).toArray, xv]) ∧ OwnsF cCell 139 2 w' w.heap.size cv x.fCore.fCells ∧ OwnsF cLayer 86 2 w' w.heap.size lv x.fLayers ∧ OwnsF cCall 43 4 w' w.heap.size xv xs ∧ okPt 3 x ∧ xs.length ≤ 6 ∧ (∀ y ∈ xs, okCl y ∧ callB y = true) ∧ Below w.heap.size w w'
set_option maxRecDepth 100000 in
set_option maxHeartbeats 6400000 in
theorem drawPart_any (v : Value) (l : List UInt8) (w : World) (hR : RowAt w v (Lib.byteCells l)) :
  Calls Tryz.prog 54 #[v] w fun e w' => GivesPL w e w' := by
 have hcode := Lib.hid (bag_code hR)
 obtain ⟨B1, HB0⟩ := bx_start1 w [.string ⟨#[]⟩, .bool false, .bool false, .slice none 0 0, .int .i64 0, .slice none 0 0] 37
 have HR := Lib.hid (RowAt.below hR HB0 (Nat.le_refl _))
 have B1 := Lib.hid B1
 have HB0 := Lib.hid HB0
 have HN := Lib.hid (l1New_any v l _ HR.out)
 clear hR
 go_enter Tryz.func54, Tryz.ntmps54
 go_wp2_with fail
 generalize w.alloc (.cells #[.string ⟨#[]⟩, .bool false, .bool false, .slice none 0 0, .int .i64 0, .slice none 0 0] 37) = w0 at *
 refine HN.out.mono ?_
 rintro e w1 ⟨b, rfl, hb, hB, hC⟩
 have BG := Lib.hid (bag_new (bs := [(w.heap.size, [.string ⟨#[]⟩, .bool false, .bool false, .slice none 0 0, .int .i64 0, .slice none 0 0])]) HB0.out (by intro p hp; simp only [List.mem_cons, List.not_mem_nil, or_false] at hp; subst hp; exact ⟨B1.out, Nat.le_refl _⟩) (by simp) hb hB hC hcode.out)
 have hbw : w.heap.size ≤ b := by have := B1.out.lt; omega
 clear hB hC hb HB0 HN HR B1 hcode
 go_wp2_with fail
 refine (l4Draw_any b v l _ BG.out.cur).mono ?_
 rintro e w2 ⟨⟨⟨kd, on, br, y, cnt⟩, z⟩, cv, lv, rfl, ho3, ho5, hok, hg, hC⟩
 simp only at ho3 ho5
 obtain ⟨ca, cc, rfl⟩ := slice_of ho3
 obtain ⟨la, lc, rfl⟩ := slice_of ho5
 have HOK := Lib.hid hok
 replace BG := Lib.hid (BG.out.drawn2 hg hC ho3 ho5)
 clear ho3 ho5 hok hg hC
 replace BG := Lib.hid (BG.out.var [.string ⟨kd.toArray⟩, .bool on, .bool br, .slice ca y.length cc, .int .i64 cnt, .slice la z.length lc] 37)
 go_upto_region 3 with fail
 generalize w2.alloc (.cells #[.string ⟨kd.toArray⟩, .bool on, .bool br, .slice ca y.length cc, .int .i64 cnt, .slice la z.length lc] 37) = w3 at *
 generalize w2.heap.size = P at *
 have HO := Lib.hid (ownsF_new cCall 43 4 w3)
 replace BG := Lib.hid (BG.out.made (bx_box w3 (.cells #[] 43)) (rCl w (.slice (some ⟨w3.heap.size, 0, none⟩) 0 0) []) (ownsF_base HO.out BG.out.size) (fun g e => (World.ownsRow.lt HO.out g e).1))
 clear HO
 go_wp2_with fail
 generalize w3.alloc (.cells #[] 43) = w4 at *
 generalize w3.heap.size = B1 at *
 refine (l1Below_any b v l _ _ BG.out.cur (by omega) (by omega)).mono ?_
 rintro e w5 ⟨n, rfl, ⟨n0, n1, n2⟩, hg, hC⟩
 have n3 := n2 (by omega)
 replace BG := Lib.hid (BG.out.draw hg hC)
 clear hg hC n1 n2
 go_wp2_with fail
 go_loopw [6, 7, 8] (fun uv nv _ wr => ∃ (u : Value) (x : List CallD) (n : Int), uv = u ∧ nv = .int .i64 n ∧ 0 ≤ n ∧ (x.length : Int) + n ≤ 6 ∧ (∀ c ∈ x, okCl c ∧ callB c = true) ∧ Bag w w.heap.size b v l [(P, [.string ⟨kd.toArray⟩, .bool on, .bool br, .slice ca y.length cc, .int .i64 cnt, .slice la z.length lc]), (w.heap.size, [.string ⟨#[]⟩, .bool false, .bool false, .slice none 0 0, .int .i64 0, .slice none 0 0])] [rCl w u x, hPL w (.slice la z.length lc) z, hPC w (.slice ca y.length cc) y] wr) (fun _ nv _ _ => (intOf nv).toNat)
 case atStart => exact ⟨_, [], n, rfl, rfl, n0, by simp; omega, by simp, BG.out⟩
 case round =>
  clear BG
  obtain ⟨u, x, n, rfl, rfl, hn0, hn4, hx, hbg⟩ := hrel
  have BG := Lib.hid hbg
  have HX := Lib.hid hx
  clear hbg hx
  by_cases hp : 0 < n
  ·skip
   have B_p := Lib.hid (BG.out.box (P, [.string ⟨kd.toArray⟩, .bool on, .bool br, .slice ca y.length cc, .int .i64 cnt, .slice la z.length lc]) (by simp))
   have p0 := B_p.out.cell 0 (by simp)
   have p1 := B_p.out.cell 1 (by simp)
   have p2 := B_p.out.cell 2 (by simp)
   have p3 := B_p.out.cell 3 (by simp)
   have p4 := B_p.out.cell 4 (by simp)
   have p5 := B_p.out.cell 5 (by simp)
   simp only [List.getElem_cons_zero, List.getElem_cons_succ] at p0 p1 p2 p3 p4 p5
   have l_p := B_p.out.lt
   go_wp2_with fail
   clear B_p l_p p0 p1 p2 p3 p4 p5 
   refine (l4Call_any b v l kd on br ca la cc lc y z cnt _ BG.out.cur (fun W hg => Bag.partAt (n := 3) (x := (⟨⟨kd, on, br, y, cnt⟩, z⟩ : PartD)) BG.out (by simp) (by simp) HOK.out (by decide) W hg)).mono ?_
   rintro e w6 ⟨⟨mm, kk, nn, tt⟩, rfl, hok, hg, hC⟩
   replace BG := Lib.hid (BG.out.draw hg hC)
   have HOX := Lib.hid hok
   clear hg hC hok
   unfold vCall
   simp only
   have HIC := Lib.hid (fun W => specIsCall_any (⟨mm, kk, nn, tt⟩ : CallD) W (Nat.le_trans HOX.out.2.1 (by decide)))
   unfold vCall at HIC
   simp only at HIC
   generalize hcb : callB (⟨mm, kk, nn, tt⟩ : CallD) = cb at *
   have HCB := Lib.hid hcb
   clear hcb
   have BGx := Lib.hid (BG.out.var [.string ⟨mm.toArray⟩, .string ⟨kk.toArray⟩, .int .i64 nn, .string ⟨tt.toArray⟩] 43)
   go_upto_region 8 with fail
   generalize w6.alloc (.cells #[.string ⟨mm.toArray⟩, .string ⟨kk.toArray⟩, .int .i64 nn, .string ⟨tt.toArray⟩] 43) = w7 at *
   generalize w6.heap.size = XB at *
   replace BG := BGx
   clear BGx
   have B_x := Lib.hid (BG.out.box (XB, [.string ⟨mm.toArray⟩, .string ⟨kk.toArray⟩, .int .i64 nn, .string ⟨tt.toArray⟩]) (by simp))
   have x0 := B_x.out.cell 0 (by simp)
   have x1 := B_x.out.cell 1 (by simp)
   have x2 := B_x.out.cell 2 (by simp)
   have x3 := B_x.out.cell 3 (by simp)
   simp only [List.getElem_cons_zero, List.getElem_cons_succ] at x0 x1 x2 x3
   have l_x := B_x.out.lt
   go_wp2_with fail
   clear B_x l_x x0 x1 x2 x3 
   refine (HIC.out _).mono ?_
   rintro e w8 ⟨rfl, hb⟩
   replace BG := Lib.hid (BG.out.below hb)
   clear hb HIC
   cases cb
   case false =>
    have BN := Lib.hid (BG.out.less (bs' := [(P, [.string ⟨kd.toArray⟩, .bool on, .bool br, .slice ca y.length cc, .int .i64 cnt, .slice la z.length lc]), (w.heap.size, [.string ⟨#[]⟩, .bool false, .bool false, .slice none 0 0, .int .i64 0, .slice none 0 0])]) (rs' := [rCl w u6 x, hPL w (.slice la z.length lc) z, hPC w (.slice ca y.length cc) y]) (.cons _ (.refl _)) (.refl _))
    go_wp2_with fail
    exact ⟨⟨_, x, n - 1, rfl, by go_num, by omega, by omega, HX.out, BN.out⟩, by simp [intOf]; omega⟩
   case true =>
    have B_x := Lib.hid (BG.out.box (XB, [.string ⟨mm.toArray⟩, .string ⟨kk.toArray⟩, .int .i64 nn, .string ⟨tt.toArray⟩]) (by simp))
    have x0 := B_x.out.cell 0 (by simp)
    have x1 := B_x.out.cell 1 (by simp)
    have x2 := B_x.out.cell 2 (by simp)
    have x3 := B_x.out.cell 3 (by simp)
    simp only [List.getElem_cons_zero, List.getElem_cons_succ] at x0 x1 x2 x3
    have l_x := B_x.out.lt
    have HX2 := Lib.hid (show ∀ c ∈ x ++ [(⟨mm, kk, nn, tt⟩ : CallD)], okCl c ∧ callB c = true from fun c hc => by
     rcases List.mem_append.1 hc with h | h
     ·exact HX.out c h
     ·rw [List.mem_singleton.1 h]; exact ⟨HOX.out, HCB.out⟩)
    have HRW := Lib.hid (show OwnsF cCall 43 4 w8 w.heap.size u6 x from BG.out.row _ (List.mem_cons_self ..))
    have hsz := BG.out.size
    have BP := Lib.hid (BG.out.past (.cells #[.string ⟨mm.toArray⟩, .string ⟨kk.toArray⟩, .int .i64 nn, .string ⟨tt.toArray⟩] 43))
    go_wp2_with (at_builtin; refine append_flatN cCall_len cCall_one infoCall rfl (by decide) (by decide) Tryz.underlying54 rfl _ _ rfl w.heap.size u6 x (⟨mm, kk, nn, tt⟩ : CallD) (w8.alloc (.cells #[.string ⟨mm.toArray⟩, .string ⟨kk.toArray⟩, .int .i64 nn, .string ⟨tt.toArray⟩] 43)) w8.heap.size rfl (ownsF_alloc HRW.out _) rfl (call_new w8 (⟨mm, kk, nn, tt⟩ : CallD) _ rfl) (by omega) (by simp; omega) ?_; intro v' w9 ho hgr hne; have BN := Lib.hid (BP.out.app 0 rfl hgr ho hne); clear ho hgr hne)
    have BM := Lib.hid (BN.out.less (bs' := [(P, [.string ⟨kd.toArray⟩, .bool on, .bool br, .slice ca y.length cc, .int .i64 cnt, .slice la z.length lc]), (w.heap.size, [.string ⟨#[]⟩, .bool false, .bool false, .slice none 0 0, .int .i64 0, .slice none 0 0])]) (rs' := [rCl w _ (x ++ [(⟨mm, kk, nn, tt⟩ : CallD)]), hPL w (.slice la z.length lc) z, hPC w (.slice ca y.length cc) y]) (.cons _ (.refl _)) (.refl _))
    exact ⟨⟨_, x ++ [(⟨mm, kk, nn, tt⟩ : CallD)], n - 1, rfl, by go_num, by omega, by simp; omega, HX2.out, BM.out⟩, by simp [intOf]; omega⟩
  ·skip
   have B_p := Lib.hid (BG.out.box (P, [.string ⟨kd.toArray⟩, .bool on, .bool br, .slice ca y.length cc, .int .i64 cnt, .slice la z.length lc]) (by simp))
   have p0 := B_p.out.cell 0 (by simp)
   have p1 := B_p.out.cell 1 (by simp)
   have p2 := B_p.out.cell 2 (by simp)
   have p3 := B_p.out.cell 3 (by simp)
   have p4 := B_p.out.cell 4 (by simp)
   have p5 := B_p.out.cell 5 (by simp)
   simp only [List.getElem_cons_zero, List.getElem_cons_succ] at p0 p1 p2 p3 p4 p5
   have l_p := B_p.out.lt
   have B_r := Lib.hid (BG.out.box (w.heap.size, [.string ⟨#[]⟩, .bool false, .bool false, .slice none 0 0, .int .i64 0, .slice none 0 0]) (by simp))
   have r0 := B_r.out.cell 0 (by simp)
   have r1 := B_r.out.cell 1 (by simp)
   have r2 := B_r.out.cell 2 (by simp)
   have r3 := B_r.out.cell 3 (by simp)
   have r4 := B_r.out.cell 4 (by simp)
   have r5 := B_r.out.cell 5 (by simp)
   simp only [List.getElem_cons_zero, List.getElem_cons_succ] at r0 r1 r2 r3 r4 r5
   have fr0 := B_r.out.froz 0 (by simp)
   have fr1 := B_r.out.froz 1 (by simp)
   have fr2 := B_r.out.froz 2 (by simp)
   have fr3 := B_r.out.froz 3 (by simp)
   have fr4 := B_r.out.froz 4 (by simp)
   have fr5 := B_r.out.froz 5 (by simp)
   have l_r := B_r.out.lt
   have nPR : ¬ P = w.heap.size := by have := BG.out.dis; simp only [List.pairwise_cons, List.mem_cons, List.not_mem_nil, or_false, forall_eq] at this; exact this.1
   have nRP : ¬ w.heap.size = P := fun e => nPR e.symm
   go_wp2_with fail
   have BGf := Lib.hid (BG.out.put6 1 rfl (.string ⟨kd.toArray⟩) (.bool on) (.bool br) (.slice ca y.length cc) (.int .i64 cnt) (.slice la z.length lc))
   simp only [List.set_cons_zero, List.set_cons_succ] at BGf
   clear B_p l_p p0 p1 p2 p3 p4 p5 
   clear B_r l_r r0 r1 r2 r3 r4 r5 fr0 fr1 fr2 fr3 fr4 fr5
   generalize ((((((wr).setCell ⟨w.heap.size, 0, none⟩ (.string ⟨kd.toArray⟩)).setCell ⟨w.heap.size, 1, none⟩ (.bool on)).setCell ⟨w.heap.size, 2, none⟩ (.bool br)).setCell ⟨w.heap.size, 3, none⟩ (.slice ca y.length cc)).setCell ⟨w.heap.size, 4, none⟩ (.int .i64 cnt)).setCell ⟨w.heap.size, 5, none⟩ (.slice la z.length lc) = v9 at *
   have BR := Lib.hid (BGf.out.box (w.heap.size, [.string ⟨kd.toArray⟩, .bool on, .bool br, .slice ca y.length cc, .int .i64 cnt, .slice la z.length lc]) (by simp))
   have r0 := BR.out.cell 0 (by simp)
   have r1 := BR.out.cell 1 (by simp)
   have r2 := BR.out.cell 2 (by simp)
   have r3 := BR.out.cell 3 (by simp)
   have r4 := BR.out.cell 4 (by simp)
   have r5 := BR.out.cell 5 (by simp)
   simp only [List.getElem_cons_zero, List.getElem_cons_succ] at r0 r1 r2 r3 r4 r5
   refine bodyPost_ret (v := .tuple #[.agg #[.string ⟨kd.toArray⟩, .bool on, .bool br, .slice ca y.length cc, .int .i64 cnt, .slice la z.length lc], u6]) (by simp [results, Tryz.results54, go_sem, r0, r1, r2, r3, r4, r5]) rfl ?_
   exact ⟨(⟨⟨kd, on, br, y, cnt⟩, z⟩ : PartD), .slice ca y.length cc, .slice la z.length lc, _, x, rfl, BGf.out.row (hPC w (.slice ca y.length cc) y) (by simp), BGf.out.row (hPL w (.slice la z.length lc) z) (by simp), BGf.out.row (rCl w u6 x) (by simp), HOK.out, by omega, HX.out, BGf.out.bel hbw⟩
end Go.Proofs.YtcpbikilgacdlaaGreat
namespace Go.Proofs.YtcpbikilgacdlaaGreat
set_option linter.unusedVariables false
open Go.RowKit
structure Kept2 (w w' : World) (r1 r2 : Option Nat) : Prop where
 os : w'.os = w.os
 tape : w'.tape = w.tape
 output : w'.output = w.output
 size : w.heap.size ≤ w'.heap.size
 block : ∀ k, k < w.heap.size → some k ≠ r1 → some k ≠ r2 → w'.heap[k]? = w.heap[k]?
 tail : ∀ k o, k < w.heap.size → r1 = some k → r2 ≠ some k → 5 ≤ o → w'.cell? ⟨k, o, none⟩ = w.cell? ⟨k, o, none⟩ ∧ w'.frozen? ⟨k, o, none⟩ = w.frozen? ⟨k, o, none⟩
theorem Kept2.refl (w : World) (r1 r2 : Option Nat) : Kept2 w w r1 r2 := ⟨rfl, rfl, rfl, Nat.le_refl _, fun _ _ _ _ => rfl, fun _ _ _ _ _ _ => ⟨rfl, rfl⟩⟩
theorem Kept2.below {w w' w1 : World} {r1 r2 : Option Nat} (h : Kept2 w w1 r1 r2) (hb : Below w1.heap.size w1 w') : Kept2 w w' r1 r2 :=
 ⟨hb.os.trans h.os, hb.tape.trans h.tape, hb.output.trans h.output, Nat.le_trans h.size hb.size, fun k hk h1 h2 => (hb.block k (Nat.lt_of_lt_of_le hk h.size)).trans (h.block k hk h1 h2),
  fun k o hk h1 h2 ho => ⟨(hb.cell (p := ⟨k, o, none⟩) (Nat.lt_of_lt_of_le hk h.size)).trans (h.tail k o hk h1 h2 ho).1, (hb.frozen (p := ⟨k, o, none⟩) (Nat.lt_of_lt_of_le hk h.size)).trans (h.tail k o hk h1 h2 ho).2⟩⟩
theorem Kept2.of_below {w w' : World} {r1 r2 : Option Nat} (hb : Below w.heap.size w w') : Kept2 w w' r1 r2 := (Kept2.refl w r1 r2).below hb
theorem Kept2.toBelow {w w' : World} {r1 r2 : Option Nat} {N : Nat} (h : Kept2 w w' r1 r2) (hN : N ≤ w.heap.size) (h1 : ∀ k, r1 = some k → N ≤ k) (h2 : ∀ k, r2 = some k → N ≤ k) : Below N w w' :=
 ⟨h.os, h.tape, h.output, h.size, fun k hk => h.block k (by omega) (fun e => by have := h1 k e.symm; omega) (fun e => by have := h2 k e.symm; omega)⟩
theorem Kept2.set {w w1 : World} {r1 r2 : Option Nat} (h : Kept2 w w1 r1 r2) {p : Addr} (u : Value) (hp : w.heap.size ≤ p.block ∨ (r1 = some p.block ∧ p.off < 5) ∨ r2 = some p.block) : Kept2 w (w1.setCell p u) r1 r2 :=
 ⟨h.os, h.tape, h.output, by simpa using h.size, fun k hk h1 h2 => by
  rw [Below.heap_setCell w1 p u k (fun e => by
   rcases hp with hp | hp | hp
   ·omega
   ·exact h1 (by rw [hp.1, e])
   ·exact h2 (by rw [hp, e]))]
  exact h.block k hk h1 h2, fun k o hk h1 h2 ho => by
  have hne : p ≠ (⟨k, o, none⟩ : Addr) := fun e => by
   subst e
   rcases hp with hp | hp | hp
   ·simp only at hp; omega
   ·have := hp.2; simp only at this; omega
   ·exact h2 hp
  exact ⟨(World.cell?_setCell_other _ _ _ _ hne).trans (h.tail k o hk h1 h2 ho).1, by simpa using (h.tail k o hk h1 h2 ho).2⟩⟩
theorem Kept2.alloc {w w1 : World} {r1 r2 : Option Nat} (h : Kept2 w w1 r1 r2) (o : Obj) : Kept2 w (w1.alloc o) r1 r2 := h.below ((Below.refl _ _).alloc (Nat.le_refl _) o)
theorem Kept2.drew {w w1 : World} {r1 r2 : Option Nat} (h : Kept2 w w1 r1 r2) : Kept2 w w1.drew r1 r2 := h.below ((Below.refl _ _).drew)
theorem Kept2.ahead {w w0 w1 : World} {r1 r2 : Option Nat} (hb : Below w.heap.size w w0) (h : Kept2 w0 w1 r1 r2) : Kept2 w w1 r1 r2 :=
 ⟨h.os.trans hb.os, h.tape.trans hb.tape, h.output.trans hb.output, Nat.le_trans hb.size h.size, fun k hk h1 h2 => (h.block k (Nat.lt_of_lt_of_le hk hb.size) h1 h2).trans (hb.block k hk),
  fun k o hk h1 h2 ho => ⟨(h.tail k o (Nat.lt_of_lt_of_le hk hb.size) h1 h2 ho).1.trans (hb.cell (p := ⟨k, o, none⟩) hk), (h.tail k o (Nat.lt_of_lt_of_le hk hb.size) h1 h2 ho).2.trans (hb.frozen (p := ⟨k, o, none⟩) hk)⟩⟩
theorem Kept2.cell {w w' : World} {r1 r2 : Option Nat} (h : Kept2 w w' r1 r2) {p : Addr} (hp : p.block < w.heap.size) (h1 : some p.block ≠ r1) (h2 : some p.block ≠ r2) : w'.cell? p = w.cell? p := World.cell?_of_block (h.block _ hp h1 h2)
theorem Kept2.frozen {w w' : World} {r1 r2 : Option Nat} (h : Kept2 w w' r1 r2) {p : Addr} (hp : p.block < w.heap.size) (h1 : some p.block ≠ r1) (h2 : some p.block ≠ r2) : w'.frozen? p = w.frozen? p := World.frozen?_of_block (h.block _ hp h1 h2)
structure CoreBox (w : World) (b : Nat) (cv : Value) (d : CoreD) : Prop where
 c0 : w.cell? ⟨b, 0, none⟩ = some (.string ⟨d.fKind.toArray⟩)
 c1 : w.cell? ⟨b, 1, none⟩ = some (.bool d.fOn)
 c2 : w.cell? ⟨b, 2, none⟩ = some (.bool d.fBroken)
 c3 : w.cell? ⟨b, 3, none⟩ = some cv
 c4 : w.cell? ⟨b, 4, none⟩ = some (.int .i64 d.fCount)
 z1 : w.frozen? ⟨b, 1, none⟩ = false
 z2 : w.frozen? ⟨b, 2, none⟩ = false
 z3 : w.frozen? ⟨b, 3, none⟩ = false
 z4 : w.frozen? ⟨b, 4, none⟩ = false
theorem CoreBox.lt {w : World} {b : Nat} {cv : Value} {d : CoreD} (h : CoreBox w b cv d) : b < w.heap.size := World.block_lt_of_cell? w _ h.c0
theorem CoreBox.keep {w w' : World} {b : Nat} {cv : Value} {d : CoreD} (h : CoreBox w b cv d) (hb : w'.heap[b]? = w.heap[b]?) : CoreBox w' b cv d := by
 have hc : ∀ o, w'.cell? ⟨b, o, none⟩ = w.cell? ⟨b, o, none⟩ := fun o => World.cell?_of_block hb
 have hf : ∀ o, w'.frozen? ⟨b, o, none⟩ = w.frozen? ⟨b, o, none⟩ := fun o => World.frozen?_of_block hb
 exact ⟨(hc 0).trans h.c0, (hc 1).trans h.c1, (hc 2).trans h.c2, (hc 3).trans h.c3, (hc 4).trans h.c4, (hf 1).trans h.z1, (hf 2).trans h.z2, (hf 3).trans h.z3, (hf 4).trans h.z4⟩
theorem frz_set (w : World) (p q : Addr) (u : Value) : (w.setCell p u).frozen? q = w.frozen? q := by simp
theorem CoreBox.s1 {w : World} {b : Nat} {cv : Value} {k : List UInt8} {on0 br : Bool} {l : List CellD} {n : Int} (h : CoreBox w b cv ⟨k, on0, br, l, n⟩) (on : Bool) : CoreBox (w.setCell ⟨b, 1, none⟩ (.bool on)) b cv ⟨k, on, br, l, n⟩ := by
 obtain ⟨c0, c1, c2, c3, c4, z1, z2, z3, z4⟩ := h
 exact ⟨(cell_set_ne (by decide)).trans c0, cell_set_at (by rw [c1]; rfl), (cell_set_ne (by decide)).trans c2, (cell_set_ne (by decide)).trans c3, (cell_set_ne (by decide)).trans c4, (frz_set _ _ _ _).trans z1, (frz_set _ _ _ _).trans z2, (frz_set _ _ _ _).trans z3, (frz_set _ _ _ _).trans z4⟩
theorem CoreBox.s2 {w : World} {b : Nat} {cv : Value} {k : List UInt8} {on br0 : Bool} {l : List CellD} {n : Int} (h : CoreBox w b cv ⟨k, on, br0, l, n⟩) (br : Bool) : CoreBox (w.setCell ⟨b, 2, none⟩ (.bool br)) b cv ⟨k, on, br, l, n⟩ := by
 obtain ⟨c0, c1, c2, c3, c4, z1, z2, z3, z4⟩ := h
 exact ⟨(cell_set_ne (by decide)).trans c0, (cell_set_ne (by decide)).trans c1, cell_set_at (by rw [c2]; rfl), (cell_set_ne (by decide)).trans c3, (cell_set_ne (by decide)).trans c4, (frz_set _ _ _ _).trans z1, (frz_set _ _ _ _).trans z2, (frz_set _ _ _ _).trans z3, (frz_set _ _ _ _).trans z4⟩
theorem CoreBox.s3 {w : World} {b : Nat} {cv0 : Value} {k : List UInt8} {on br : Bool} {l0 : List CellD} {n : Int} (h : CoreBox w b cv0 ⟨k, on, br, l0, n⟩) (cv : Value) (l : List CellD) : CoreBox (w.setCell ⟨b, 3, none⟩ cv) b cv ⟨k, on, br, l, n⟩ := by
 obtain ⟨c0, c1, c2, c3, c4, z1, z2, z3, z4⟩ := h
 exact ⟨(cell_set_ne (by decide)).trans c0, (cell_set_ne (by decide)).trans c1, (cell_set_ne (by decide)).trans c2, cell_set_at (by rw [c3]; rfl), (cell_set_ne (by decide)).trans c4, (frz_set _ _ _ _).trans z1, (frz_set _ _ _ _).trans z2, (frz_set _ _ _ _).trans z3, (frz_set _ _ _ _).trans z4⟩
theorem CoreBox.s4 {w : World} {b : Nat} {cv : Value} {k : List UInt8} {on br : Bool} {l : List CellD} {n0 : Int} (h : CoreBox w b cv ⟨k, on, br, l, n0⟩) (n : Int) : CoreBox (w.setCell ⟨b, 4, none⟩ (.int .i64 n)) b cv ⟨k, on, br, l, n⟩ := by
 obtain ⟨c0, c1, c2, c3, c4, z1, z2, z3, z4⟩ := h
 exact ⟨(cell_set_ne (by decide)).trans c0, (cell_set_ne (by decide)).trans c1, (cell_set_ne (by decide)).trans c2, (cell_set_ne (by decide)).trans c3, cell_set_at (by rw [c4]; rfl), (frz_set _ _ _ _).trans z1, (frz_set _ _ _ _).trans z2, (frz_set _ _ _ _).trans z3, (frz_set _ _ _ _).trans z4⟩
theorem CoreBox.al {w : World} {b : Nat} {cv : Value} {d : CoreD} (h : CoreBox w b cv d) (o : Obj) : CoreBox (w.alloc o) b cv d := h.keep (((Below.refl w.heap.size w).alloc (Nat.le_refl _) o).block b h.lt)
theorem CoreBox.dr {w : World} {b : Nat} {cv : Value} {d : CoreD} (h : CoreBox w b cv d) : CoreBox w.drew b cv d := h.keep rfl
theorem CoreBox.so {w : World} {b : Nat} {cv : Value} {d : CoreD} (h : CoreBox w b cv d) (p : Addr) (u : Value) (hp : b ≠ p.block) : CoreBox (w.setCell p u) b cv d := h.keep (Below.heap_setCell w p u b hp)
structure CoreSt (N b : Nat) (cv : Value) (d : CoreD) (w : World) : Prop where
 box : CoreBox w b cv d
 own : OwnsF cCell 139 2 w N cv d.fCells
 ne : cv.ownBlock ≠ some b
 ge : N ≤ b
theorem CoreSt.below {N b : Nat} {cv : Value} {d : CoreD} {w w' : World} (h : CoreSt N b cv d w) (hb : Below w.heap.size w w') : CoreSt N b cv d w' :=
 ⟨h.box.keep (hb.block b h.box.lt), ownsF_below h.own hb (Nat.le_refl _), h.ne, h.ge⟩
theorem CoreSt.base {N N' b : Nat} {cv : Value} {d : CoreD} {w : World} (h : CoreSt N b cv d w) (hN : N' ≤ N) : CoreSt N' b cv d w :=
 ⟨h.box, ownsF_base h.own hN, h.ne, Nat.le_trans hN h.ge⟩
def Does (N b : Nat) (cv : Value) (out : CoreD × ReplyD) (w : World) (e : Ending) (w' : World) : Prop :=
 e = .returned (vReply out.2) ∧ ∃ cv', CoreSt N b cv' out.1 w' ∧ Kept2 w w' (some b) cv.ownBlock
theorem st_turned {N b : Nat} {cv : Value} {d d' : CoreD} {w w' : World} (h : CoreSt N b cv d w) (hb : CoreBox w' b cv d') (hc : d'.fCells = d.fCells) (hk : Kept2 w w' (some b) none) :
  CoreSt N b cv d' w' ∧ Kept2 w w' (some b) cv.ownBlock := by
 refine ⟨⟨hb, ?_, h.ne, h.ge⟩, ⟨hk.os, hk.tape, hk.output, hk.size, fun k hk1 h1 _ => hk.block k hk1 h1 (by simp), fun k o hk1 h1 _ ho => hk.tail k o hk1 h1 (by simp) ho⟩⟩
 rw [hc]
 refine World.ownsRow.kept h.own (row := some b) ⟨hk.os, hk.tape, hk.output, hk.size, fun k hk1 h1 => hk.block k hk1 h1 (by simp)⟩ ?_
 exact Or.inr h.ne
end Go.Proofs.YtcpbikilgacdlaaGreat
namespace Go.Proofs.YtcpbikilgacdlaaGreat
set_option linter.unusedVariables false
set_option linter.unusedSimpArgs false
open Go.RowKit
theorem past_cell {b : Nat} (W : World) (o : Obj) (k : Nat) (h : b < W.heap.size) : (W.alloc o).cell? ⟨b, k, none⟩ = W.cell? ⟨b, k, none⟩ := ((Below.refl W.heap.size W).alloc (Nat.le_refl _) o).cell (p := ⟨b, k, none⟩) h
theorem past_frozen {b : Nat} (W : World) (o : Obj) (k : Nat) (h : b < W.heap.size) : (W.alloc o).frozen? ⟨b, k, none⟩ = W.frozen? ⟨b, k, none⟩ := ((Below.refl W.heap.size W).alloc (Nat.le_refl _) o).frozen (p := ⟨b, k, none⟩) h
theorem Kept2.trans1 {a w w' : World} {b : Nat} (h : Kept2 a w (some b) none) (k : Kept2 w w' (some b) none) : Kept2 a w' (some b) none :=
 ⟨k.os.trans h.os, k.tape.trans h.tape, k.output.trans h.output, Nat.le_trans h.size k.size, fun i hi h1 h2 => (k.block i (Nat.lt_of_lt_of_le hi h.size) h1 h2).trans (h.block i hi h1 h2),
  fun i o hi h1 h2 ho => ⟨(k.tail i o (Nat.lt_of_lt_of_le hi h.size) h1 h2 ho).1.trans (h.tail i o hi h1 h2 ho).1, (k.tail i o (Nat.lt_of_lt_of_le hi h.size) h1 h2 ho).2.trans (h.tail i o hi h1 h2 ho).2⟩⟩
theorem does_of {N b : Nat} {cv : Value} {d d' : CoreD} {r : ReplyD} {out : CoreD × ReplyD} {w w' : World} {e : Ending} (h : CoreSt N b cv d w) (hb : CoreBox w' b cv d') (hc : d'.fCells = d.fCells) (hk : Kept2 w w' (some b) none) (ho : out = (d', r)) (he : e = .returned (vReply r)) : Does N b cv out w e w' := by
 subst ho; exact ⟨he, cv, st_turned h hb hc hk⟩
set_option maxHeartbeats 800000 in
theorem countUp_c (b : Nat) (cv : Value) (d : CoreD) (w : World) (h : CoreBox w b cv d) (hr : -9223372036854775808 ≤ d.fCount) :
  Calls Tryz.prog 196 #[.pointer (some ⟨b, 0, none⟩)] w fun e w' => e = .returned (.tuple #[]) ∧ CoreBox w' b cv { d with fCount := upI d.fCount } ∧ Kept2 w w' (some b) none := by
 obtain ⟨c0, c1, c2, c3, c4, z1, z2, z3, z4⟩ := h
 obtain ⟨kd, on, br, l, cnt⟩ := d
 simp only at *
 by_cases hn : cnt < 999
 ·have hu : upI cnt = cnt + 1 := if_pos hn
  have hw : wrap64 (cnt + 1) = cnt + 1 := by unfold wrap64; omega
  go_enter Tryz.func196, Tryz.ntmps196
  go_wp2
  go_end0
  refine ⟨rfl, ?_, (Kept2.refl _ _ _).set _ (Or.inr (Or.inl ⟨rfl, by simp⟩))⟩
  rw [hu]; exact CoreBox.s4 ⟨c0, c1, c2, c3, c4, z1, z2, z3, z4⟩ _
 ·have hu : upI cnt = cnt := if_neg hn
  go_enter Tryz.func196, Tryz.ntmps196
  go_wp2
  go_end0
  exact ⟨rfl, ⟨c0, c1, c2, c3, c4, z1, z2, z3, z4⟩, Kept2.refl _ _ _⟩
set_option maxHeartbeats 1600000 in
theorem start_c (N b : Nat) (cv : Value) (d : CoreD) (w : World) (h : CoreSt N b cv d w) (hr : -9223372036854775808 ≤ d.fCount) :
  Calls Tryz.prog 194 #[.agg #[.pointer (some ⟨b, 0, none⟩)]] w fun e w' => Does N b cv (startD d) w e w' := by
 have HS := Lib.hid h
 have HB := Lib.hid h.box
 have hl0 := h.box.lt
 obtain ⟨c0, c1, c2, c3, c4, z1, z2, z3, z4⟩ := h.box
 clear h
 obtain ⟨kd, on, br, l, cnt⟩ := d
 simp only at *
 have hl1 : b < w.heap.size + 1 := by omega
 have hl2 : b < w.heap.size + 1 + 1 := by omega
 have hn0 : ¬ b = w.heap.size := by omega
 have hn1 : ¬ b = w.heap.size + 1 := by omega
 have hm0 : ¬ w.heap.size = b := by omega
 have hm1 : ¬ w.heap.size + 1 = b := by omega
 have hap := @past_cell b
 have haf := @past_frozen b
 cases br with
 | true =>
  go_enter Tryz.func194, Tryz.ntmps194
  go_wp2_with fail
  refine bodyPost_ret (v := vReply (rC 3)) (by simp [results, Tryz.results194, go_sem, vReply, rC, rV, rT]) rfl ?_
  refine does_of (d' := ⟨kd, on, true, l, cnt⟩) (r := rC 3) HS.out ?_ rfl ?_ (rfl) rfl
  ·skip
   repeat (first | with_reducible exact HB.out | with_reducible refine CoreBox.al ?_ _ | with_reducible refine CoreBox.s1 (on0 := on) ?_ _ | with_reducible refine CoreBox.s2 (br0 := br) ?_ _ | with_reducible refine CoreBox.s4 (n0 := cnt) ?_ _ | with_reducible refine CoreBox.so ?_ _ _ ?_)
   all_goals (simp; try omega)
  ·skip
   repeat (first | with_reducible exact Kept2.refl _ _ _ | with_reducible refine Kept2.alloc ?_ _ | with_reducible refine Kept2.set ?_ _ ?_ | with_reducible refine Kept2.drew ?_)
   all_goals (first | exact Or.inr (Or.inl ⟨rfl, by simp⟩) | (left; simp; try omega))
 | false =>
  cases on with
  | true =>
   go_enter Tryz.func194, Tryz.ntmps194
   go_wp2_with fail
   refine bodyPost_ret (v := vReply (rC 3)) (by simp [results, Tryz.results194, go_sem, vReply, rC, rV, rT]) rfl ?_
   refine does_of (d' := ⟨kd, false, true, l, cnt⟩) (r := rC 3) HS.out ?_ rfl ?_ (rfl) rfl
   ·skip
    repeat (first | with_reducible exact HB.out | with_reducible refine CoreBox.al ?_ _ | with_reducible refine CoreBox.s1 (on0 := true) ?_ _ | with_reducible refine CoreBox.s2 (br0 := false) ?_ _ | with_reducible refine CoreBox.s4 (n0 := cnt) ?_ _ | with_reducible refine CoreBox.so ?_ _ _ ?_)
    all_goals (simp; try omega)
   ·skip
    repeat (first | with_reducible exact Kept2.refl _ _ _ | with_reducible refine Kept2.alloc ?_ _ | with_reducible refine Kept2.set ?_ _ ?_ | with_reducible refine Kept2.drew ?_)
    all_goals (first | exact Or.inr (Or.inl ⟨rfl, by simp⟩) | (left; simp; try omega))
  | false =>
   go_enter Tryz.func194, Tryz.ntmps194
   go_wp2_with fail
   refine (countUp_c b cv ⟨kd, true, false, l, cnt⟩ _ ?_ hr).mono ?_
   ·skip
    repeat (first | with_reducible exact HB.out | with_reducible refine CoreBox.al ?_ _ | with_reducible refine CoreBox.s1 (on0 := false) ?_ _ | with_reducible refine CoreBox.s2 (br0 := false) ?_ _ | with_reducible refine CoreBox.s4 (n0 := cnt) ?_ _ | with_reducible refine CoreBox.so ?_ _ _ ?_)
    all_goals (simp; try omega)
   rintro e w1 ⟨rfl, hbx, hk⟩
   simp only at hbx
   have HK := Lib.hid hk
   have HBX := Lib.hid hbx
   have g0 : w1.cell? ⟨w.heap.size, 0, none⟩ = some (.pointer (some ⟨b, 0, none⟩)) := (hk.cell (p := ⟨w.heap.size, 0, none⟩) (by simp; try omega) (by simpa using hm0) (by simp)).trans (by simp [go_sem, hm0, hm1])
   have r0 : w1.cell? ⟨w.heap.size + 1, 0, none⟩ = some (.int .i64 0) := (hk.cell (p := ⟨w.heap.size + 1, 0, none⟩) (by simp; try omega) (by simpa using hm1) (by simp)).trans (by simp [go_sem, hm0, hm1])
   have r1 : w1.cell? ⟨w.heap.size + 1, 1, none⟩ = some (.int .i64 0) := (hk.cell (p := ⟨w.heap.size + 1, 1, none⟩) (by simp; try omega) (by simpa using hm1) (by simp)).trans (by simp [go_sem, hm0, hm1])
   have r2 : w1.cell? ⟨w.heap.size + 1, 2, none⟩ = some (.string ⟨#[]⟩) := (hk.cell (p := ⟨w.heap.size + 1, 2, none⟩) (by simp; try omega) (by simpa using hm1) (by simp)).trans (by simp [go_sem, hm0, hm1])
   have r3 : w1.cell? ⟨w.heap.size + 1, 3, none⟩ = some (.int .i64 0) := (hk.cell (p := ⟨w.heap.size + 1, 3, none⟩) (by simp; try omega) (by simpa using hm1) (by simp)).trans (by simp [go_sem, hm0, hm1])
   have r4 : w1.cell? ⟨w.heap.size + 1, 4, none⟩ = some (.int .i64 0) := (hk.cell (p := ⟨w.heap.size + 1, 4, none⟩) (by simp; try omega) (by simpa using hm1) (by simp)).trans (by simp [go_sem, hm0, hm1])
   have q0 : ∀ o, w1.frozen? ⟨w.heap.size + 1, o, none⟩ = false := fun o => (hk.frozen (p := ⟨w.heap.size + 1, o, none⟩) (by simp; try omega) (by simpa using hm1) (by simp)).trans (by simp [go_sem])
   have hsz : w.heap.size + 1 + 1 ≤ w1.heap.size := by simpa using hk.size
   obtain ⟨d0, d1, d2, d3, d4, y1, y2, y3, y4⟩ := hbx
   clear hk
   simp only at d0 d1 d2 d3 d4
   clear c0 c1 c2 c3 c4 z1 z2 z3 z4
   go_wp2_with fail
   refine bodyPost_ret (v := vReply (rC 0)) (by simp [results, Tryz.results194, go_sem, vReply, rC, rV, rT, cell_set_at, cell_set_ne, r0, r1, r2, r3, r4]) rfl ?_
   refine does_of (d' := ⟨kd, true, false, l, upI cnt⟩) (r := rC 0) HS.out ?_ rfl ?_ (rfl) rfl
   ·skip
    repeat (first | with_reducible exact HBX.out | with_reducible refine CoreBox.al ?_ _ | with_reducible refine CoreBox.s1 (on0 := true) ?_ _ | with_reducible refine CoreBox.s2 (br0 := false) ?_ _ | with_reducible refine CoreBox.s4 (n0 := cnt) ?_ _ | with_reducible refine CoreBox.so ?_ _ _ ?_)
    all_goals (simp; try omega)
   ·skip
    repeat (first | with_reducible refine Kept2.set ?_ _ ?_ | with_reducible refine Kept2.alloc ?_ _)
    refine Kept2.trans1 ?_ HK.out
    repeat (first | with_reducible exact Kept2.refl _ _ _ | with_reducible refine Kept2.alloc ?_ _ | with_reducible refine Kept2.set ?_ _ ?_ | with_reducible refine Kept2.drew ?_)
    all_goals (first | exact Or.inr (Or.inl ⟨rfl, by simp⟩) | (left; simp; try omega))
set_option maxHeartbeats 1600000 in
theorem stop_c (N b : Nat) (cv : Value) (d : CoreD) (w : World) (h : CoreSt N b cv d w) (hr : -9223372036854775808 ≤ d.fCount) :
  Calls Tryz.prog 195 #[.agg #[.pointer (some ⟨b, 0, none⟩)]] w fun e w' => Does N b cv (stopD d) w e w' := by
 have HS := Lib.hid h
 have HB := Lib.hid h.box
 have hl0 := h.box.lt
 obtain ⟨c0, c1, c2, c3, c4, z1, z2, z3, z4⟩ := h.box
 clear h
 obtain ⟨kd, on, br, l, cnt⟩ := d
 simp only at *
 have hl1 : b < w.heap.size + 1 := by omega
 have hl2 : b < w.heap.size + 1 + 1 := by omega
 have hn0 : ¬ b = w.heap.size := by omega
 have hn1 : ¬ b = w.heap.size + 1 := by omega
 have hm0 : ¬ w.heap.size = b := by omega
 have hm1 : ¬ w.heap.size + 1 = b := by omega
 have hap := @past_cell b
 have haf := @past_frozen b
 cases br with
 | true =>
  go_enter Tryz.func195, Tryz.ntmps195
  go_wp2_with fail
  refine bodyPost_ret (v := vReply (rC 3)) (by simp [results, Tryz.results195, go_sem, vReply, rC, rV, rT]) rfl ?_
  refine does_of (d' := ⟨kd, on, true, l, cnt⟩) (r := rC 3) HS.out ?_ rfl ?_ (rfl) rfl
  ·skip
   repeat (first | with_reducible exact HB.out | with_reducible refine CoreBox.al ?_ _ | with_reducible refine CoreBox.s1 (on0 := on) ?_ _ | with_reducible refine CoreBox.s2 (br0 := br) ?_ _ | with_reducible refine CoreBox.s4 (n0 := cnt) ?_ _ | with_reducible refine CoreBox.so ?_ _ _ ?_)
   all_goals (simp; try omega)
  ·skip
   repeat (first | with_reducible exact Kept2.refl _ _ _ | with_reducible refine Kept2.alloc ?_ _ | with_reducible refine Kept2.set ?_ _ ?_ | with_reducible refine Kept2.drew ?_)
   all_goals (first | exact Or.inr (Or.inl ⟨rfl, by simp⟩) | (left; simp; try omega))
 | false =>
  cases on with
  | true =>
   go_enter Tryz.func195, Tryz.ntmps195
   go_wp2_with fail
   refine bodyPost_ret (v := vReply (rC 0)) (by simp [results, Tryz.results195, go_sem, vReply, rC, rV, rT]) rfl ?_
   refine does_of (d' := ⟨kd, false, false, l, cnt⟩) (r := rC 0) HS.out ?_ rfl ?_ (rfl) rfl
   ·skip
    repeat (first | with_reducible exact HB.out | with_reducible refine CoreBox.al ?_ _ | with_reducible refine CoreBox.s1 (on0 := true) ?_ _ | with_reducible refine CoreBox.s2 (br0 := false) ?_ _ | with_reducible refine CoreBox.s4 (n0 := cnt) ?_ _ | with_reducible refine CoreBox.so ?_ _ _ ?_)
    all_goals (simp; try omega)
   ·skip
    repeat (first | with_reducible exact Kept2.refl _ _ _ | with_reducible refine Kept2.alloc ?_ _ | with_reducible refine Kept2.set ?_ _ ?_ | with_reducible refine Kept2.drew ?_)
    all_goals (first | exact Or.inr (Or.inl ⟨rfl, by simp⟩) | (left; simp; try omega))
  | false =>
   go_enter Tryz.func195, Tryz.ntmps195
   go_wp2_with fail
   refine bodyPost_ret (v := vReply (rC 2)) (by simp [results, Tryz.results195, go_sem, vReply, rC, rV, rT]) rfl ?_
   refine does_of (d' := ⟨kd, false, false, l, cnt⟩) (r := rC 2) HS.out ?_ rfl ?_ (rfl) rfl
   ·skip
    repeat (first | with_reducible exact HB.out | with_reducible refine CoreBox.al ?_ _ | with_reducible refine CoreBox.s1 (on0 := false) ?_ _ | with_reducible refine CoreBox.s2 (br0 := false) ?_ _ | with_reducible refine CoreBox.s4 (n0 := cnt) ?_ _ | with_reducible refine CoreBox.so ?_ _ _ ?_)
    all_goals (simp; try omega)
   ·skip
    repeat (first | with_reducible exact Kept2.refl _ _ _ | with_reducible refine Kept2.alloc ?_ _ | with_reducible refine Kept2.set ?_ _ ?_ | with_reducible refine Kept2.drew ?_)
    all_goals (first | exact Or.inr (Or.inl ⟨rfl, by simp⟩) | (left; simp; try omega))
set_option maxHeartbeats 1600000 in
theorem tell_c (N b : Nat) (cv : Value) (d : CoreD) (w : World) (h : CoreSt N b cv d w) (hr : -9223372036854775808 ≤ d.fCount) :
  Calls Tryz.prog 206 #[.agg #[.pointer (some ⟨b, 0, none⟩)]] w fun e w' => Does N b cv (tellD d) w e w' := by
 have HS := Lib.hid h
 have HB := Lib.hid h.box
 have hl0 := h.box.lt
 obtain ⟨c0, c1, c2, c3, c4, z1, z2, z3, z4⟩ := h.box
 clear h
 obtain ⟨kd, on, br, l, cnt⟩ := d
 simp only at *
 have hl1 : b < w.heap.size + 1 := by omega
 have hl2 : b < w.heap.size + 1 + 1 := by omega
 have hn0 : ¬ b = w.heap.size := by omega
 have hn1 : ¬ b = w.heap.size + 1 := by omega
 have hm0 : ¬ w.heap.size = b := by omega
 have hm1 : ¬ w.heap.size + 1 = b := by omega
 have hap := @past_cell b
 have haf := @past_frozen b
 go_enter Tryz.func206, Tryz.ntmps206
 go_wp2_with fail
 refine bodyPost_ret (v := vReply (rV cnt)) (by simp [results, Tryz.results206, go_sem, vReply, rC, rV, rT]) rfl ?_
 refine does_of (d' := ⟨kd, on, br, l, cnt⟩) (r := rV cnt) HS.out ?_ rfl ?_ (rfl) rfl
 ·skip
  repeat (first | with_reducible exact HB.out | with_reducible refine CoreBox.al ?_ _ | with_reducible refine CoreBox.s1 (on0 := on) ?_ _ | with_reducible refine CoreBox.s2 (br0 := br) ?_ _ | with_reducible refine CoreBox.s4 (n0 := cnt) ?_ _ | with_reducible refine CoreBox.so ?_ _ _ ?_)
  all_goals (simp; try omega)
 ·skip
  repeat (first | with_reducible exact Kept2.refl _ _ _ | with_reducible refine Kept2.alloc ?_ _ | with_reducible refine Kept2.set ?_ _ ?_ | with_reducible refine Kept2.drew ?_)
  all_goals (first | exact Or.inr (Or.inl ⟨rfl, by simp⟩) | (left; simp; try omega))
set_option maxHeartbeats 1600000 in
theorem heal_c (N b : Nat) (cv : Value) (d : CoreD) (w : World) (h : CoreSt N b cv d w) (hr : -9223372036854775808 ≤ d.fCount) :
  Calls Tryz.prog 228 #[.agg #[.pointer (some ⟨b, 0, none⟩)]] w fun e w' => Does N b cv (healD d) w e w' := by
 have HS := Lib.hid h
 have HB := Lib.hid h.box
 have hl0 := h.box.lt
 obtain ⟨c0, c1, c2, c3, c4, z1, z2, z3, z4⟩ := h.box
 clear h
 obtain ⟨kd, on, br, l, cnt⟩ := d
 simp only at *
 have hl1 : b < w.heap.size + 1 := by omega
 have hl2 : b < w.heap.size + 1 + 1 := by omega
 have hn0 : ¬ b = w.heap.size := by omega
 have hn1 : ¬ b = w.heap.size + 1 := by omega
 have hm0 : ¬ w.heap.size = b := by omega
 have hm1 : ¬ w.heap.size + 1 = b := by omega
 have hap := @past_cell b
 have haf := @past_frozen b
 go_enter Tryz.func228, Tryz.ntmps228
 go_wp2_with fail
 refine bodyPost_ret (v := vReply (rC 0)) (by simp [results, Tryz.results228, go_sem, vReply, rC, rV, rT]) rfl ?_
 refine does_of (d' := ⟨kd, false, false, l, cnt⟩) (r := rC 0) HS.out ?_ rfl ?_ (rfl) rfl
 ·skip
  repeat (first | with_reducible exact HB.out | with_reducible refine CoreBox.al ?_ _ | with_reducible refine CoreBox.s1 (on0 := on) ?_ _ | with_reducible refine CoreBox.s2 (br0 := br) ?_ _ | with_reducible refine CoreBox.s4 (n0 := cnt) ?_ _ | with_reducible refine CoreBox.so ?_ _ _ ?_)
  all_goals (simp; try omega)
 ·skip
  repeat (first | with_reducible exact Kept2.refl _ _ _ | with_reducible refine Kept2.alloc ?_ _ | with_reducible refine Kept2.set ?_ _ ?_ | with_reducible refine Kept2.drew ?_)
  all_goals (first | exact Or.inr (Or.inl ⟨rfl, by simp⟩) | (left; simp; try omega))
set_option maxHeartbeats 1600000 in
theorem hear_c (N b : Nat) (cv : Value) (d : CoreD) (n : Int) (w : World) (h : CoreSt N b cv d w) (hr : -9223372036854775808 ≤ d.fCount) :
  Calls Tryz.prog 207 #[.agg #[.pointer (some ⟨b, 0, none⟩)], .int .i64 n] w fun e w' => Does N b cv (hearD d n) w e w' := by
 have HS := Lib.hid h
 have HB := Lib.hid h.box
 have hl0 := h.box.lt
 obtain ⟨c0, c1, c2, c3, c4, z1, z2, z3, z4⟩ := h.box
 clear h
 obtain ⟨kd, on, br, l, cnt⟩ := d
 simp only at *
 have hl1 : b < w.heap.size + 1 := by omega
 have hl2 : b < w.heap.size + 1 + 1 := by omega
 have hn0 : ¬ b = w.heap.size := by omega
 have hn1 : ¬ b = w.heap.size + 1 := by omega
 have hm0 : ¬ w.heap.size = b := by omega
 have hm1 : ¬ w.heap.size + 1 = b := by omega
 have hap := @past_cell b
 have haf := @past_frozen b
 cases br with
 | true =>
  go_enter Tryz.func207, Tryz.ntmps207
  go_wp2_with fail
  refine bodyPost_ret (v := vReply (rC 3)) (by simp [results, Tryz.results207, go_sem, vReply, rC, rV, rT]) rfl ?_
  refine does_of (d' := ⟨kd, on, true, l, cnt⟩) (r := rC 3) HS.out ?_ rfl ?_ (rfl) rfl
  ·skip
   repeat (first | with_reducible exact HB.out | with_reducible refine CoreBox.al ?_ _ | with_reducible refine CoreBox.s1 (on0 := on) ?_ _ | with_reducible refine CoreBox.s2 (br0 := br) ?_ _ | with_reducible refine CoreBox.s4 (n0 := cnt) ?_ _ | with_reducible refine CoreBox.so ?_ _ _ ?_)
   all_goals (simp; try omega)
  ·skip
   repeat (first | with_reducible exact Kept2.refl _ _ _ | with_reducible refine Kept2.alloc ?_ _ | with_reducible refine Kept2.set ?_ _ ?_ | with_reducible refine Kept2.drew ?_)
   all_goals (first | exact Or.inr (Or.inl ⟨rfl, by simp⟩) | (left; simp; try omega))
 | false =>
  by_cases hz0 : n = 0
  ·subst hz0
   go_enter Tryz.func207, Tryz.ntmps207
   go_wp2_with fail
   refine (countUp_c b cv ⟨kd, on, false, l, cnt⟩ _ ?_ hr).mono ?_
   ·skip
    repeat (first | with_reducible exact HB.out | with_reducible refine CoreBox.al ?_ _ | with_reducible refine CoreBox.s1 (on0 := on) ?_ _ | with_reducible refine CoreBox.s2 (br0 := false) ?_ _ | with_reducible refine CoreBox.s4 (n0 := cnt) ?_ _ | with_reducible refine CoreBox.so ?_ _ _ ?_)
    all_goals (simp; try omega)
   rintro e w1 ⟨rfl, hbx, hk⟩
   simp only at hbx
   have HK := Lib.hid hk
   have HBX := Lib.hid hbx
   have g0 : w1.cell? ⟨w.heap.size, 0, none⟩ = some (.pointer (some ⟨b, 0, none⟩)) := (hk.cell (p := ⟨w.heap.size, 0, none⟩) (by simp; try omega) (by simpa using hm0) (by simp)).trans (by simp [go_sem, hm0, hm1])
   have r0 : w1.cell? ⟨w.heap.size + 1, 0, none⟩ = some (.int .i64 0) := (hk.cell (p := ⟨w.heap.size + 1, 0, none⟩) (by simp; try omega) (by simpa using hm1) (by simp)).trans (by simp [go_sem, hm0, hm1])
   have r1 : w1.cell? ⟨w.heap.size + 1, 1, none⟩ = some (.int .i64 0) := (hk.cell (p := ⟨w.heap.size + 1, 1, none⟩) (by simp; try omega) (by simpa using hm1) (by simp)).trans (by simp [go_sem, hm0, hm1])
   have r2 : w1.cell? ⟨w.heap.size + 1, 2, none⟩ = some (.string ⟨#[]⟩) := (hk.cell (p := ⟨w.heap.size + 1, 2, none⟩) (by simp; try omega) (by simpa using hm1) (by simp)).trans (by simp [go_sem, hm0, hm1])
   have r3 : w1.cell? ⟨w.heap.size + 1, 3, none⟩ = some (.int .i64 0) := (hk.cell (p := ⟨w.heap.size + 1, 3, none⟩) (by simp; try omega) (by simpa using hm1) (by simp)).trans (by simp [go_sem, hm0, hm1])
   have r4 : w1.cell? ⟨w.heap.size + 1, 4, none⟩ = some (.int .i64 0) := (hk.cell (p := ⟨w.heap.size + 1, 4, none⟩) (by simp; try omega) (by simpa using hm1) (by simp)).trans (by simp [go_sem, hm0, hm1])
   have q0 : ∀ o, w1.frozen? ⟨w.heap.size + 1, o, none⟩ = false := fun o => (hk.frozen (p := ⟨w.heap.size + 1, o, none⟩) (by simp; try omega) (by simpa using hm1) (by simp)).trans (by simp [go_sem])
   have hsz : w.heap.size + 1 + 1 ≤ w1.heap.size := by simpa using hk.size
   obtain ⟨d0, d1, d2, d3, d4, y1, y2, y3, y4⟩ := hbx
   clear hk
   simp only at d0 d1 d2 d3 d4
   clear c0 c1 c2 c3 c4 z1 z2 z3 z4
   go_wp2_with fail
   refine bodyPost_ret (v := vReply (rV (upI cnt))) (by simp [results, Tryz.results207, go_sem, vReply, rC, rV, rT, cell_set_at, cell_set_ne, r0, r1, r2, r3, r4]) rfl ?_
   refine does_of (d' := ⟨kd, false, false, l, upI cnt⟩) (r := rV (upI cnt)) HS.out ?_ rfl ?_ (rfl) rfl
   ·skip
    repeat (first | with_reducible exact HBX.out | with_reducible refine CoreBox.al ?_ _ | with_reducible refine CoreBox.s1 (on0 := on) ?_ _ | with_reducible refine CoreBox.s2 (br0 := false) ?_ _ | with_reducible refine CoreBox.s4 (n0 := cnt) ?_ _ | with_reducible refine CoreBox.so ?_ _ _ ?_)
    all_goals (simp; try omega)
   ·skip
    repeat (first | with_reducible refine Kept2.set ?_ _ ?_ | with_reducible refine Kept2.alloc ?_ _)
    refine Kept2.trans1 ?_ HK.out
    repeat (first | with_reducible exact Kept2.refl _ _ _ | with_reducible refine Kept2.alloc ?_ _ | with_reducible refine Kept2.set ?_ _ ?_ | with_reducible refine Kept2.drew ?_)
    all_goals (first | exact Or.inr (Or.inl ⟨rfl, by simp⟩) | (left; simp; try omega))
  ·by_cases hz1 : n = 1
   ·subst hz1
    go_enter Tryz.func207, Tryz.ntmps207
    go_wp2_with fail
    refine (countUp_c b cv ⟨kd, on, false, l, cnt⟩ _ ?_ hr).mono ?_
    ·skip
     repeat (first | with_reducible exact HB.out | with_reducible refine CoreBox.al ?_ _ | with_reducible refine CoreBox.s1 (on0 := on) ?_ _ | with_reducible refine CoreBox.s2 (br0 := false) ?_ _ | with_reducible refine CoreBox.s4 (n0 := cnt) ?_ _ | with_reducible refine CoreBox.so ?_ _ _ ?_)
     all_goals (simp; try omega)
    rintro e w1 ⟨rfl, hbx, hk⟩
    simp only at hbx
    have HK := Lib.hid hk
    have HBX := Lib.hid hbx
    have g0 : w1.cell? ⟨w.heap.size, 0, none⟩ = some (.pointer (some ⟨b, 0, none⟩)) := (hk.cell (p := ⟨w.heap.size, 0, none⟩) (by simp; try omega) (by simpa using hm0) (by simp)).trans (by simp [go_sem, hm0, hm1])
    have r0 : w1.cell? ⟨w.heap.size + 1, 0, none⟩ = some (.int .i64 0) := (hk.cell (p := ⟨w.heap.size + 1, 0, none⟩) (by simp; try omega) (by simpa using hm1) (by simp)).trans (by simp [go_sem, hm0, hm1])
    have r1 : w1.cell? ⟨w.heap.size + 1, 1, none⟩ = some (.int .i64 0) := (hk.cell (p := ⟨w.heap.size + 1, 1, none⟩) (by simp; try omega) (by simpa using hm1) (by simp)).trans (by simp [go_sem, hm0, hm1])
    have r2 : w1.cell? ⟨w.heap.size + 1, 2, none⟩ = some (.string ⟨#[]⟩) := (hk.cell (p := ⟨w.heap.size + 1, 2, none⟩) (by simp; try omega) (by simpa using hm1) (by simp)).trans (by simp [go_sem, hm0, hm1])
    have r3 : w1.cell? ⟨w.heap.size + 1, 3, none⟩ = some (.int .i64 0) := (hk.cell (p := ⟨w.heap.size + 1, 3, none⟩) (by simp; try omega) (by simpa using hm1) (by simp)).trans (by simp [go_sem, hm0, hm1])
    have r4 : w1.cell? ⟨w.heap.size + 1, 4, none⟩ = some (.int .i64 0) := (hk.cell (p := ⟨w.heap.size + 1, 4, none⟩) (by simp; try omega) (by simpa using hm1) (by simp)).trans (by simp [go_sem, hm0, hm1])
    have q0 : ∀ o, w1.frozen? ⟨w.heap.size + 1, o, none⟩ = false := fun o => (hk.frozen (p := ⟨w.heap.size + 1, o, none⟩) (by simp; try omega) (by simpa using hm1) (by simp)).trans (by simp [go_sem])
    have hsz : w.heap.size + 1 + 1 ≤ w1.heap.size := by simpa using hk.size
    obtain ⟨d0, d1, d2, d3, d4, y1, y2, y3, y4⟩ := hbx
    clear hk
    simp only at d0 d1 d2 d3 d4
    clear c0 c1 c2 c3 c4 z1 z2 z3 z4
    go_wp2_with fail
    refine bodyPost_ret (v := vReply (rV (upI cnt))) (by simp [results, Tryz.results207, go_sem, vReply, rC, rV, rT, cell_set_at, cell_set_ne, r0, r1, r2, r3, r4]) rfl ?_
    refine does_of (d' := ⟨kd, true, false, l, upI cnt⟩) (r := rV (upI cnt)) HS.out ?_ rfl ?_ (rfl) rfl
    ·skip
     repeat (first | with_reducible exact HBX.out | with_reducible refine CoreBox.al ?_ _ | with_reducible refine CoreBox.s1 (on0 := on) ?_ _ | with_reducible refine CoreBox.s2 (br0 := false) ?_ _ | with_reducible refine CoreBox.s4 (n0 := cnt) ?_ _ | with_reducible refine CoreBox.so ?_ _ _ ?_)
     all_goals (simp; try omega)
    ·skip
     repeat (first | with_reducible refine Kept2.set ?_ _ ?_ | with_reducible refine Kept2.alloc ?_ _)
     refine Kept2.trans1 ?_ HK.out
     repeat (first | with_reducible exact Kept2.refl _ _ _ | with_reducible refine Kept2.alloc ?_ _ | with_reducible refine Kept2.set ?_ _ ?_ | with_reducible refine Kept2.drew ?_)
     all_goals (first | exact Or.inr (Or.inl ⟨rfl, by simp⟩) | (left; simp; try omega))
   ·have HE := Lib.hid (show hearD ⟨kd, on, false, l, cnt⟩ n = (⟨kd, on, false, l, upI cnt⟩, rV (upI cnt)) by unfold hearD; simp only [Bool.false_eq_true, if_false, if_neg hz0, if_neg hz1])
    go_enter Tryz.func207, Tryz.ntmps207
    go_wp2_with fail
    refine (countUp_c b cv ⟨kd, on, false, l, cnt⟩ _ ?_ hr).mono ?_
    ·skip
     repeat (first | with_reducible exact HB.out | with_reducible refine CoreBox.al ?_ _ | with_reducible refine CoreBox.s1 (on0 := on) ?_ _ | with_reducible refine CoreBox.s2 (br0 := false) ?_ _ | with_reducible refine CoreBox.s4 (n0 := cnt) ?_ _ | with_reducible refine CoreBox.so ?_ _ _ ?_)
     all_goals (simp; try omega)
    rintro e w1 ⟨rfl, hbx, hk⟩
    simp only at hbx
    have HK := Lib.hid hk
    have HBX := Lib.hid hbx
    have g0 : w1.cell? ⟨w.heap.size, 0, none⟩ = some (.pointer (some ⟨b, 0, none⟩)) := (hk.cell (p := ⟨w.heap.size, 0, none⟩) (by simp; try omega) (by simpa using hm0) (by simp)).trans (by simp [go_sem, hm0, hm1])
    have r0 : w1.cell? ⟨w.heap.size + 1, 0, none⟩ = some (.int .i64 0) := (hk.cell (p := ⟨w.heap.size + 1, 0, none⟩) (by simp; try omega) (by simpa using hm1) (by simp)).trans (by simp [go_sem, hm0, hm1])
    have r1 : w1.cell? ⟨w.heap.size + 1, 1, none⟩ = some (.int .i64 0) := (hk.cell (p := ⟨w.heap.size + 1, 1, none⟩) (by simp; try omega) (by simpa using hm1) (by simp)).trans (by simp [go_sem, hm0, hm1])
    have r2 : w1.cell? ⟨w.heap.size + 1, 2, none⟩ = some (.string ⟨#[]⟩) := (hk.cell (p := ⟨w.heap.size + 1, 2, none⟩) (by simp; try omega) (by simpa using hm1) (by simp)).trans (by simp [go_sem, hm0, hm1])
    have r3 : w1.cell? ⟨w.heap.size + 1, 3, none⟩ = some (.int .i64 0) := (hk.cell (p := ⟨w.heap.size + 1, 3, none⟩) (by simp; try omega) (by simpa using hm1) (by simp)).trans (by simp [go_sem, hm0, hm1])
    have r4 : w1.cell? ⟨w.heap.size + 1, 4, none⟩ = some (.int .i64 0) := (hk.cell (p := ⟨w.heap.size + 1, 4, none⟩) (by simp; try omega) (by simpa using hm1) (by simp)).trans (by simp [go_sem, hm0, hm1])
    have q0 : ∀ o, w1.frozen? ⟨w.heap.size + 1, o, none⟩ = false := fun o => (hk.frozen (p := ⟨w.heap.size + 1, o, none⟩) (by simp; try omega) (by simpa using hm1) (by simp)).trans (by simp [go_sem])
    have hsz : w.heap.size + 1 + 1 ≤ w1.heap.size := by simpa using hk.size
    obtain ⟨d0, d1, d2, d3, d4, y1, y2, y3, y4⟩ := hbx
    clear hk
    simp only at d0 d1 d2 d3 d4
    clear c0 c1 c2 c3 c4 z1 z2 z3 z4
    go_wp2_with fail
    refine bodyPost_ret (v := vReply (rV (upI cnt))) (by simp [results, Tryz.results207, go_sem, vReply, rC, rV, rT, cell_set_at, cell_set_ne, r0, r1, r2, r3, r4]) rfl ?_
    refine does_of (d' := ⟨kd, on, false, l, upI cnt⟩) (r := rV (upI cnt)) HS.out ?_ rfl ?_ (HE.out) rfl
    ·skip
     repeat (first | with_reducible exact HBX.out | with_reducible refine CoreBox.al ?_ _ | with_reducible refine CoreBox.s1 (on0 := on) ?_ _ | with_reducible refine CoreBox.s2 (br0 := false) ?_ _ | with_reducible refine CoreBox.s4 (n0 := cnt) ?_ _ | with_reducible refine CoreBox.so ?_ _ _ ?_)
     all_goals (simp; try omega)
    ·skip
     repeat (first | with_reducible refine Kept2.set ?_ _ ?_ | with_reducible refine Kept2.alloc ?_ _)
     refine Kept2.trans1 ?_ HK.out
     repeat (first | with_reducible exact Kept2.refl _ _ _ | with_reducible refine Kept2.alloc ?_ _ | with_reducible refine Kept2.set ?_ _ ?_ | with_reducible refine Kept2.drew ?_)
     all_goals (first | exact Or.inr (Or.inl ⟨rfl, by simp⟩) | (left; simp; try omega))
theorem kindOff_any (l : List UInt8) (k : Nat) (hk : k < 6) : kindOff l (2 ^ k) = hasI (kfI (kindI l)) k := by
 cases h : decide (0 ≤ kindI l) with
 | true => exact kindOff_has l h k hk
 | false =>
  have h1 : kindI l < 0 := by simpa using h
  have h2 : kfI (kindI l) = 0 := by unfold kfI; rw [if_pos h1]
  unfold kindOff
  rw [h, Bool.false_and, h2]
  rcases (show k = 0 ∨ k = 1 ∨ k = 2 ∨ k = 3 ∨ k = 4 ∨ k = 5 by omega) with rfl | rfl | rfl | rfl | rfl | rfl <;> rfl
set_option maxHeartbeats 800000 in
theorem idle_c (b : Nat) (cv : Value) (d : CoreD) (w : World) (h : CoreBox w b cv d) :
  Calls Tryz.prog 199 #[.pointer (some ⟨b, 0, none⟩)] w fun e w' => e = .returned (.int .i64 (idleI d)) ∧ w = w' := by
 obtain ⟨c0, c1, c2, c3, c4, z1, z2, z3, z4⟩ := h
 obtain ⟨kd, on, br, l, cnt⟩ := d
 simp only at *
 have HK := Lib.hid (fun w => kindOffers_b kd 1 _ (kindOff_any kd 0 (by decide)) w)
 have HI := Lib.hid (show ∀ x, hasI (kfI (kindI kd)) 0 = x → idleI ⟨kd, on, br, l, cnt⟩ = if br = true then 3 else if (!on && x) = true then 2 else 0 from fun x hx => by unfold idleI coreF; rw [hx])
 generalize idleI ⟨kd, on, br, l, cnt⟩ = r at *
 generalize hx : hasI (kfI (kindI kd)) 0 = x at *
 have HR := Lib.hid (HI.out x rfl)
 clear HI hx
 cases br with
 | true =>
  go_enter Tryz.func199, Tryz.ntmps199
  go_wp2_with fail
  go_ret
  exact ⟨ret_int HR.out.symm, rfl⟩
 | false =>
  cases on with
  | true =>
   go_enter Tryz.func199, Tryz.ntmps199
   go_wp2_with fail
   go_ret
   exact ⟨ret_int (HR.out.trans (by simp)).symm, rfl⟩
  | false =>
   cases x <;>
    (go_enter Tryz.func199, Tryz.ntmps199
     go_wp2_with (first | (go_at_call 131; (with_reducible refine (HK.out _).mono ?_); rintro e w' ⟨rfl, rfl⟩))
     go_ret
     exact ⟨ret_int (HR.out.trans (by simp)).symm, rfl⟩)
set_option maxHeartbeats 1600000 in
theorem find_c (v : Value) (l : List CellD) (key : List UInt8) (w : World) (hx : FlatAt cCell 2 w v l) :
  Calls Tryz.prog 200 #[v, .string ⟨key.toArray⟩] w fun e w' => e = .returned (.tuple #[.int .i64 (plc l key), .bool (fnd l key)]) ∧ Below w.heap.size w w' := by
 obtain ⟨a, c, rfl, hl⟩ := flatAt_len hx
 have HX := Lib.hid hx
 clear hx
 unfold maxLen at hl
 go_enter Tryz.func200, Tryz.ntmps200
 go_wp2_with fail
 go_loopw [6, 7, 10] (fun _ _ i wr => ∃ k : Nat, k ≤ l.length ∧ i = .int .i64 k ∧ (∀ j (h : j < l.length), j < k → (l[j]).fKey < key) ∧ Below w.heap.size w wr) (fun _ _ i _ => l.length - (intOf i).toNat)
 case atStart => exact ⟨0, Nat.zero_le _, rfl, by intro j h hj; omega, Below.refl _ _⟩
 case round =>
  obtain ⟨k, hk, rfl, hok, hb⟩ := hrel
  have HO := Lib.hid hok
  have HB := Lib.hid hb
  have HXr := Lib.hid (FlatAt.below HX.out hb (Nat.le_refl _))
  clear hok hb
  by_cases hlt : k < l.length
  ·obtain ⟨b, o, rfl, hbl, hd⟩ := flatAt_cell cCell_len HXr.out k hlt (by decide)
   have d0 := hd 0 (by decide)
   have d1 := hd 1 (by decide)
   clear hd
   have HBB := Lib.hid (show ∀ o1, Below w.heap.size w (wr.alloc o1) from fun o1 => HB.out.alloc HB.out.size _)
   cases hx : Op.bytesLess (l[k]).fKey key with
   | true =>
    have HN := Lib.hid (show ∀ j (h : j < l.length), j < k + 1 → (l[j]).fKey < key from fun j h hj => by
     rcases Nat.lt_or_ge j k with h1 | h1
     ·exact HO.out j h h1
     ·have : j = k := by omega
      subst this; rw [bytes_lt2] at hx; simpa using hx)
    generalize l[k] = p at *
    obtain ⟨a0, a1⟩ := p
    simp only [cCell, List.getElem?_cons_zero, List.getElem?_cons_succ, Nat.add_zero] at d0 d1
    go_wp2_with fail
    exact ⟨⟨k + 1, by omega, by go_num, HN.out, HBB.out _⟩, by simp [intOf]; omega⟩
   | false =>
    have hp : plc l key = k := plc_eq l key k hk HO.out fun h => by rw [bytes_lt2] at hx; simpa using hx
    have HF := Lib.hid (show fnd l key = (decide ((l[k]).fKey = key)) from by have := (fnd_at l key (by omega)).1; simpa only [hp] using this)
    have HP := Lib.hid hp
    clear hp
    cases heq : ((l[k]).fKey == key) with
    | true =>
     have HR := Lib.hid (show fnd l key = true by rw [HF.out]; simpa using heq)
     clear HF
     generalize l[k] = p at *
     obtain ⟨a0, a1⟩ := p
     simp only [cCell, List.getElem?_cons_zero, List.getElem?_cons_succ, Nat.add_zero] at d0 d1
     go_wp2_with fail
     go_quiet (fail)
     go_wp2_with fail
     go_ret2
     rw [HP.out, HR.out]
     exact ⟨rfl, below_drewN (HBB.out _) _⟩
    | false =>
     have HR := Lib.hid (show fnd l key = false by rw [HF.out]; simpa using heq)
     clear HF
     generalize l[k] = p at *
     obtain ⟨a0, a1⟩ := p
     simp only [cCell, List.getElem?_cons_zero, List.getElem?_cons_succ, Nat.add_zero] at d0 d1
     go_wp2_with fail
     go_quiet (fail)
     go_wp2_with fail
     go_ret2
     rw [HP.out, HR.out]
     exact ⟨rfl, below_drewN (HBB.out _) _⟩
  ·have hp : plc l key = l.length := plc_eq l key l.length (Nat.le_refl _) (fun j h hj => HO.out j h (by omega)) (fun h => absurd h (by omega))
   have HF := Lib.hid (fnd_end l key hp)
   have HP := Lib.hid hp
   clear hp
   go_wp2_with fail
   go_ret2
   rw [HP.out, HF.out]
   exact ⟨rfl, HB.out⟩
theorem idleI_cases (d : CoreD) : idleI d = 0 ∨ idleI d = 2 ∨ idleI d = 3 := by
 unfold idleI; split
 ·exact Or.inr (Or.inr rfl)
 ·split
  ·exact Or.inr (Or.inl rfl)
  ·exact Or.inl rfl
set_option maxHeartbeats 1600000 in
theorem get_c (N b : Nat) (cv : Value) (d : CoreD) (key : List UInt8) (w : World) (h : CoreSt N b cv d w) (hm : d.fCells.length ≤ 4194304) :
  Calls Tryz.prog 197 #[.agg #[.pointer (some ⟨b, 0, none⟩)], .string ⟨key.toArray⟩] w fun e w' => Does N b cv (getD1 d key) w e w' := by
 have HS := Lib.hid h
 have HB := Lib.hid h.box
 have hl0 := h.box.lt
 have HX := Lib.hid (ownsF_at h.own hm)
 obtain ⟨c0, c1, c2, c3, c4, z1, z2, z3, z4⟩ := h.box
 clear h
 have HD := Lib.hid (fun w' (hw : Below w.heap.size w w') => show CoreBox w' b cv d ∧ Kept2 w w' (some b) none from ⟨HB.out.keep (hw.block b hl0), Kept2.of_below hw⟩)
 have HI := Lib.hid (fun w' (hw : Below w.heap.size w w') => idle_c b cv d w' (HD.out w' hw).1)
 have HF := Lib.hid (fun w' (hw : Below w.heap.size w w') => find_c cv d.fCells key w' (HX.out.below hw (Nat.le_refl _)))
 have HG := Lib.hid (show getD1 d key = if idleI d = 0 then (if fnd d.fCells key = true then (d, rV (valAt d.fCells key)) else (d, rC 4)) else (d, rC (idleI d)) from rfl)
 have hic := idleI_cases d
 have HA := Lib.hid (show fnd d.fCells key = true → ∃ (h : plc d.fCells key < d.fCells.length), valAt d.fCells key = (d.fCells[plc d.fCells key]).fValue from fun h => ⟨fnd_lt h, (fnd_at _ _ (fnd_lt h)).2⟩)
 generalize getD1 d key = out at *
 generalize idleI d = code at *
 generalize fnd d.fCells key = f at *
 generalize plc d.fCells key = p at *
 generalize valAt d.fCells key = vl at *
 obtain ⟨kd, on, br, l, cnt⟩ := d
 simp only at *
 have hl1 : b < w.heap.size + 1 := by omega
 have hl2 : b < w.heap.size + 1 + 1 := by omega
 have hn0 : ¬ b = w.heap.size := by omega
 have hn1 : ¬ b = w.heap.size + 1 := by omega
 have hap := @past_cell b
 have HB2 := Lib.hid (show ∀ o1 o2, Below w.heap.size w ((w.alloc o1).alloc o2) from fun o1 o2 => ((Below.refl _ _).alloc (Nat.le_refl _) _).alloc (by simp) _)
 by_cases hc : code = 0
 ·subst hc
  go_enter Tryz.func197, Tryz.ntmps197
  go_wp2_with fail
  refine (HI.out _ (HB2.out _ _)).mono ?_
  rintro e w1 ⟨rfl, rfl⟩
  go_wp2_with fail
  refine (HF.out _ (HB2.out _ _)).mono ?_
  rintro e w1 ⟨rfl, hb⟩
  have HB3 := Lib.hid ((HB2.out _ _).trans (hb.mono (HB2.out _ _).size))
  have HX1 := Lib.hid (HX.out.below HB3.out (Nat.le_refl _))
  obtain ⟨hcc, hff⟩ := bcell hb
  simp at hcc hff
  have hsz := hb.size
  simp at hsz
  clear hb
  cases f with
  | true =>
   obtain ⟨hp, hv⟩ := HA.out rfl
   obtain ⟨va, vc, rfl, _⟩ := flatAt_len HX1.out
   obtain ⟨g, o, rfl, hgl, hd⟩ := flatAt_cell cCell_len HX1.out p hp (by decide)
   have e1 := hd 1 (by decide)
   have HV := Lib.hid hv
   clear hd hv
   generalize l[p] = q at *
   obtain ⟨q0, q1⟩ := q
   simp only [cCell, List.getElem?_cons_zero, List.getElem?_cons_succ, Nat.add_zero] at e1
   have hp0 : (0 : Int) ≤ (p : Int) := by omega
   have hp1 : (p : Int) < (l.length : Int) := by omega
   go_wp2_with fail
   refine bodyPost_ret (v := vReply (rV q1)) (by simp [results, Tryz.results197, go_sem, vReply, rC, rV, rT, cell_set_at, cell_set_ne, hcc]) rfl ?_
   refine does_of (d' := ⟨kd, on, br, l, cnt⟩) (r := rV q1) HS.out ?_ rfl ?_ (by rw [HG.out, HV.out]; rfl) rfl
   ·exact (HD.out _ (by repeat (first | with_reducible exact HB3.out | with_reducible refine Below.setCell ?_ (by simp; try omega) _)) ).1
   ·exact (HD.out _ (by repeat (first | with_reducible exact HB3.out | with_reducible refine Below.setCell ?_ (by simp; try omega) _)) ).2
  | false =>
   go_wp2_with fail
   refine bodyPost_ret (v := vReply (rC 4)) (by simp [results, Tryz.results197, go_sem, vReply, rC, rV, rT, cell_set_at, cell_set_ne, hcc]) rfl ?_
   refine does_of (d' := ⟨kd, on, br, l, cnt⟩) (r := rC 4) HS.out ?_ rfl ?_ (by rw [HG.out]; rfl) rfl
   ·exact (HD.out _ (by repeat (first | with_reducible exact HB3.out | with_reducible refine Below.setCell ?_ (by simp; try omega) _)) ).1
   ·exact (HD.out _ (by repeat (first | with_reducible exact HB3.out | with_reducible refine Below.setCell ?_ (by simp; try omega) _)) ).2
 ·have hcn : (code != 0) = true := by simpa using hc
  go_enter Tryz.func197, Tryz.ntmps197
  go_wp2_with fail
  refine (HI.out _ (HB2.out _ _)).mono ?_
  rintro e w1 ⟨rfl, rfl⟩
  go_wp2_with fail
  refine bodyPost_ret (v := vReply (rC code)) (by simp [results, Tryz.results197, go_sem, vReply, rC, rV, rT]) rfl ?_
  refine does_of (d' := ⟨kd, on, br, l, cnt⟩) (r := rC code) HS.out ?_ rfl ?_ (by rw [HG.out, if_neg hc]) rfl
  ·exact (HD.out _ (HB2.out _ _)).1
  ·exact (HD.out _ (HB2.out _ _)).2
end Go.Proofs.YtcpbikilgacdlaaGreat
namespace Go.Proofs.YtcpbikilgacdlaaGreat
set_option linter.unusedVariables false
open Go.RowKit
theorem method_1_Start (b : Nat) : ∀ (fuel : Nat) (w : World), (method (fuel + 1) 174 (.agg #[.pointer (some ⟨b, 0, none⟩), .pointer (some ⟨b, 0, none⟩)]) "Start").run Tryz.prog w = .ok (194, .agg #[.pointer (some ⟨b, 0, none⟩)]) w := by intro fuel w; kernel_rfl
theorem nilAhead_1_Start (b : Nat) : ∀ (fuel : Nat) (w : World), (nilAhead (fuel + 1) 174 (.agg #[.pointer (some ⟨b, 0, none⟩), .pointer (some ⟨b, 0, none⟩)]) "Start").run Tryz.prog w = .ok (some false) w := by intro fuel w; kernel_rfl
theorem method_1_Stop (b : Nat) : ∀ (fuel : Nat) (w : World), (method (fuel + 1) 174 (.agg #[.pointer (some ⟨b, 0, none⟩), .pointer (some ⟨b, 0, none⟩)]) "Stop").run Tryz.prog w = .ok (195, .agg #[.pointer (some ⟨b, 0, none⟩)]) w := by intro fuel w; kernel_rfl
theorem nilAhead_1_Stop (b : Nat) : ∀ (fuel : Nat) (w : World), (nilAhead (fuel + 1) 174 (.agg #[.pointer (some ⟨b, 0, none⟩), .pointer (some ⟨b, 0, none⟩)]) "Stop").run Tryz.prog w = .ok (some false) w := by intro fuel w; kernel_rfl
theorem method_2_Get (b : Nat) : ∀ (fuel : Nat) (w : World), (method (fuel + 1) 177 (.agg #[.pointer (some ⟨b, 0, none⟩), .pointer (some ⟨b, 0, none⟩)]) "Get").run Tryz.prog w = .ok (197, .agg #[.pointer (some ⟨b, 0, none⟩)]) w := by intro fuel w; kernel_rfl
theorem nilAhead_2_Get (b : Nat) : ∀ (fuel : Nat) (w : World), (nilAhead (fuel + 1) 177 (.agg #[.pointer (some ⟨b, 0, none⟩), .pointer (some ⟨b, 0, none⟩)]) "Get").run Tryz.prog w = .ok (some false) w := by intro fuel w; kernel_rfl
theorem method_2_Put (b : Nat) : ∀ (fuel : Nat) (w : World), (method (fuel + 1) 177 (.agg #[.pointer (some ⟨b, 0, none⟩), .pointer (some ⟨b, 0, none⟩)]) "Put").run Tryz.prog w = .ok (198, .agg #[.pointer (some ⟨b, 0, none⟩)]) w := by intro fuel w; kernel_rfl
theorem nilAhead_2_Put (b : Nat) : ∀ (fuel : Nat) (w : World), (nilAhead (fuel + 1) 177 (.agg #[.pointer (some ⟨b, 0, none⟩), .pointer (some ⟨b, 0, none⟩)]) "Put").run Tryz.prog w = .ok (some false) w := by intro fuel w; kernel_rfl
theorem method_3_Start (b : Nat) : ∀ (fuel : Nat) (w : World), (method (fuel + 1) 180 (.agg #[.pointer (some ⟨b, 0, none⟩), .pointer (some ⟨b, 0, none⟩), .pointer (some ⟨b, 0, none⟩)]) "Start").run Tryz.prog w = .ok (194, .agg #[.pointer (some ⟨b, 0, none⟩)]) w := by intro fuel w; kernel_rfl
theorem nilAhead_3_Start (b : Nat) : ∀ (fuel : Nat) (w : World), (nilAhead (fuel + 1) 180 (.agg #[.pointer (some ⟨b, 0, none⟩), .pointer (some ⟨b, 0, none⟩), .pointer (some ⟨b, 0, none⟩)]) "Start").run Tryz.prog w = .ok (some false) w := by intro fuel w; kernel_rfl
theorem method_3_Stop (b : Nat) : ∀ (fuel : Nat) (w : World), (method (fuel + 1) 180 (.agg #[.pointer (some ⟨b, 0, none⟩), .pointer (some ⟨b, 0, none⟩), .pointer (some ⟨b, 0, none⟩)]) "Stop").run Tryz.prog w = .ok (195, .agg #[.pointer (some ⟨b, 0, none⟩)]) w := by intro fuel w; kernel_rfl
theorem nilAhead_3_Stop (b : Nat) : ∀ (fuel : Nat) (w : World), (nilAhead (fuel + 1) 180 (.agg #[.pointer (some ⟨b, 0, none⟩), .pointer (some ⟨b, 0, none⟩), .pointer (some ⟨b, 0, none⟩)]) "Stop").run Tryz.prog w = .ok (some false) w := by intro fuel w; kernel_rfl
theorem method_3_Tell (b : Nat) : ∀ (fuel : Nat) (w : World), (method (fuel + 1) 180 (.agg #[.pointer (some ⟨b, 0, none⟩), .pointer (some ⟨b, 0, none⟩), .pointer (some ⟨b, 0, none⟩)]) "Tell").run Tryz.prog w = .ok (206, .agg #[.pointer (some ⟨b, 0, none⟩)]) w := by intro fuel w; kernel_rfl
theorem nilAhead_3_Tell (b : Nat) : ∀ (fuel : Nat) (w : World), (nilAhead (fuel + 1) 180 (.agg #[.pointer (some ⟨b, 0, none⟩), .pointer (some ⟨b, 0, none⟩), .pointer (some ⟨b, 0, none⟩)]) "Tell").run Tryz.prog w = .ok (some false) w := by intro fuel w; kernel_rfl
theorem method_4_Start (b : Nat) : ∀ (fuel : Nat) (w : World), (method (fuel + 1) 182 (.agg #[.pointer (some ⟨b, 0, none⟩), .pointer (some ⟨b, 0, none⟩), .pointer (some ⟨b, 0, none⟩)]) "Start").run Tryz.prog w = .ok (194, .agg #[.pointer (some ⟨b, 0, none⟩)]) w := by intro fuel w; kernel_rfl
theorem nilAhead_4_Start (b : Nat) : ∀ (fuel : Nat) (w : World), (nilAhead (fuel + 1) 182 (.agg #[.pointer (some ⟨b, 0, none⟩), .pointer (some ⟨b, 0, none⟩), .pointer (some ⟨b, 0, none⟩)]) "Start").run Tryz.prog w = .ok (some false) w := by intro fuel w; kernel_rfl
theorem method_4_Stop (b : Nat) : ∀ (fuel : Nat) (w : World), (method (fuel + 1) 182 (.agg #[.pointer (some ⟨b, 0, none⟩), .pointer (some ⟨b, 0, none⟩), .pointer (some ⟨b, 0, none⟩)]) "Stop").run Tryz.prog w = .ok (195, .agg #[.pointer (some ⟨b, 0, none⟩)]) w := by intro fuel w; kernel_rfl
theorem nilAhead_4_Stop (b : Nat) : ∀ (fuel : Nat) (w : World), (nilAhead (fuel + 1) 182 (.agg #[.pointer (some ⟨b, 0, none⟩), .pointer (some ⟨b, 0, none⟩), .pointer (some ⟨b, 0, none⟩)]) "Stop").run Tryz.prog w = .ok (some false) w := by intro fuel w; kernel_rfl
theorem method_4_Get (b : Nat) : ∀ (fuel : Nat) (w : World), (method (fuel + 1) 182 (.agg #[.pointer (some ⟨b, 0, none⟩), .pointer (some ⟨b, 0, none⟩), .pointer (some ⟨b, 0, none⟩)]) "Get").run Tryz.prog w = .ok (197, .agg #[.pointer (some ⟨b, 0, none⟩)]) w := by intro fuel w; kernel_rfl
theorem nilAhead_4_Get (b : Nat) : ∀ (fuel : Nat) (w : World), (nilAhead (fuel + 1) 182 (.agg #[.pointer (some ⟨b, 0, none⟩), .pointer (some ⟨b, 0, none⟩), .pointer (some ⟨b, 0, none⟩)]) "Get").run Tryz.prog w = .ok (some false) w := by intro fuel w; kernel_rfl
theorem method_4_Put (b : Nat) : ∀ (fuel : Nat) (w : World), (method (fuel + 1) 182 (.agg #[.pointer (some ⟨b, 0, none⟩), .pointer (some ⟨b, 0, none⟩), .pointer (some ⟨b, 0, none⟩)]) "Put").run Tryz.prog w = .ok (198, .agg #[.pointer (some ⟨b, 0, none⟩)]) w := by intro fuel w; kernel_rfl
theorem nilAhead_4_Put (b : Nat) : ∀ (fuel : Nat) (w : World), (nilAhead (fuel + 1) 182 (.agg #[.pointer (some ⟨b, 0, none⟩), .pointer (some ⟨b, 0, none⟩), .pointer (some ⟨b, 0, none⟩)]) "Put").run Tryz.prog w = .ok (some false) w := by intro fuel w; kernel_rfl
theorem method_5_Start (b : Nat) : ∀ (fuel : Nat) (w : World), (method (fuel + 1) 185 (.agg #[.pointer (some ⟨b, 0, none⟩), .pointer (some ⟨b, 0, none⟩), .pointer (some ⟨b, 0, none⟩)]) "Start").run Tryz.prog w = .ok (194, .agg #[.pointer (some ⟨b, 0, none⟩)]) w := by intro fuel w; kernel_rfl
theorem nilAhead_5_Start (b : Nat) : ∀ (fuel : Nat) (w : World), (nilAhead (fuel + 1) 185 (.agg #[.pointer (some ⟨b, 0, none⟩), .pointer (some ⟨b, 0, none⟩), .pointer (some ⟨b, 0, none⟩)]) "Start").run Tryz.prog w = .ok (some false) w := by intro fuel w; kernel_rfl
theorem method_5_Stop (b : Nat) : ∀ (fuel : Nat) (w : World), (method (fuel + 1) 185 (.agg #[.pointer (some ⟨b, 0, none⟩), .pointer (some ⟨b, 0, none⟩), .pointer (some ⟨b, 0, none⟩)]) "Stop").run Tryz.prog w = .ok (195, .agg #[.pointer (some ⟨b, 0, none⟩)]) w := by intro fuel w; kernel_rfl
theorem nilAhead_5_Stop (b : Nat) : ∀ (fuel : Nat) (w : World), (nilAhead (fuel + 1) 185 (.agg #[.pointer (some ⟨b, 0, none⟩), .pointer (some ⟨b, 0, none⟩), .pointer (some ⟨b, 0, none⟩)]) "Stop").run Tryz.prog w = .ok (some false) w := by intro fuel w; kernel_rfl
theorem method_5_Hear (b : Nat) : ∀ (fuel : Nat) (w : World), (method (fuel + 1) 185 (.agg #[.pointer (some ⟨b, 0, none⟩), .pointer (some ⟨b, 0, none⟩), .pointer (some ⟨b, 0, none⟩)]) "Hear").run Tryz.prog w = .ok (207, .agg #[.pointer (some ⟨b, 0, none⟩)]) w := by intro fuel w; kernel_rfl
theorem nilAhead_5_Hear (b : Nat) : ∀ (fuel : Nat) (w : World), (nilAhead (fuel + 1) 185 (.agg #[.pointer (some ⟨b, 0, none⟩), .pointer (some ⟨b, 0, none⟩), .pointer (some ⟨b, 0, none⟩)]) "Hear").run Tryz.prog w = .ok (some false) w := by intro fuel w; kernel_rfl
theorem method_6_Start (b : Nat) : ∀ (fuel : Nat) (w : World), (method (fuel + 1) 188 (.agg #[.pointer (some ⟨b, 0, none⟩), .pointer (some ⟨b, 0, none⟩), .pointer (some ⟨b, 0, none⟩), .pointer (some ⟨b, 0, none⟩)]) "Start").run Tryz.prog w = .ok (194, .agg #[.pointer (some ⟨b, 0, none⟩)]) w := by intro fuel w; kernel_rfl
theorem nilAhead_6_Start (b : Nat) : ∀ (fuel : Nat) (w : World), (nilAhead (fuel + 1) 188 (.agg #[.pointer (some ⟨b, 0, none⟩), .pointer (some ⟨b, 0, none⟩), .pointer (some ⟨b, 0, none⟩), .pointer (some ⟨b, 0, none⟩)]) "Start").run Tryz.prog w = .ok (some false) w := by intro fuel w; kernel_rfl
theorem method_6_Stop (b : Nat) : ∀ (fuel : Nat) (w : World), (method (fuel + 1) 188 (.agg #[.pointer (some ⟨b, 0, none⟩), .pointer (some ⟨b, 0, none⟩), .pointer (some ⟨b, 0, none⟩), .pointer (some ⟨b, 0, none⟩)]) "Stop").run Tryz.prog w = .ok (195, .agg #[.pointer (some ⟨b, 0, none⟩)]) w := by intro fuel w; kernel_rfl
theorem nilAhead_6_Stop (b : Nat) : ∀ (fuel : Nat) (w : World), (nilAhead (fuel + 1) 188 (.agg #[.pointer (some ⟨b, 0, none⟩), .pointer (some ⟨b, 0, none⟩), .pointer (some ⟨b, 0, none⟩), .pointer (some ⟨b, 0, none⟩)]) "Stop").run Tryz.prog w = .ok (some false) w := by intro fuel w; kernel_rfl
theorem method_6_Get (b : Nat) : ∀ (fuel : Nat) (w : World), (method (fuel + 1) 188 (.agg #[.pointer (some ⟨b, 0, none⟩), .pointer (some ⟨b, 0, none⟩), .pointer (some ⟨b, 0, none⟩), .pointer (some ⟨b, 0, none⟩)]) "Get").run Tryz.prog w = .ok (197, .agg #[.pointer (some ⟨b, 0, none⟩)]) w := by intro fuel w; kernel_rfl
theorem nilAhead_6_Get (b : Nat) : ∀ (fuel : Nat) (w : World), (nilAhead (fuel + 1) 188 (.agg #[.pointer (some ⟨b, 0, none⟩), .pointer (some ⟨b, 0, none⟩), .pointer (some ⟨b, 0, none⟩), .pointer (some ⟨b, 0, none⟩)]) "Get").run Tryz.prog w = .ok (some false) w := by intro fuel w; kernel_rfl
theorem method_6_Put (b : Nat) : ∀ (fuel : Nat) (w : World), (method (fuel + 1) 188 (.agg #[.pointer (some ⟨b, 0, none⟩), .pointer (some ⟨b, 0, none⟩), .pointer (some ⟨b, 0, none⟩), .pointer (some ⟨b, 0, none⟩)]) "Put").run Tryz.prog w = .ok (198, .agg #[.pointer (some ⟨b, 0, none⟩)]) w := by intro fuel w; kernel_rfl
theorem nilAhead_6_Put (b : Nat) : ∀ (fuel : Nat) (w : World), (nilAhead (fuel + 1) 188 (.agg #[.pointer (some ⟨b, 0, none⟩), .pointer (some ⟨b, 0, none⟩), .pointer (some ⟨b, 0, none⟩), .pointer (some ⟨b, 0, none⟩)]) "Put").run Tryz.prog w = .ok (some false) w := by intro fuel w; kernel_rfl
theorem method_6_Load (b : Nat) : ∀ (fuel : Nat) (w : World), (method (fuel + 1) 188 (.agg #[.pointer (some ⟨b, 0, none⟩), .pointer (some ⟨b, 0, none⟩), .pointer (some ⟨b, 0, none⟩), .pointer (some ⟨b, 0, none⟩)]) "Load").run Tryz.prog w = .ok (208, .agg #[.pointer (some ⟨b, 0, none⟩)]) w := by intro fuel w; kernel_rfl
theorem nilAhead_6_Load (b : Nat) : ∀ (fuel : Nat) (w : World), (nilAhead (fuel + 1) 188 (.agg #[.pointer (some ⟨b, 0, none⟩), .pointer (some ⟨b, 0, none⟩), .pointer (some ⟨b, 0, none⟩), .pointer (some ⟨b, 0, none⟩)]) "Load").run Tryz.prog w = .ok (some false) w := by intro fuel w; kernel_rfl
theorem method_6_Save (b : Nat) : ∀ (fuel : Nat) (w : World), (method (fuel + 1) 188 (.agg #[.pointer (some ⟨b, 0, none⟩), .pointer (some ⟨b, 0, none⟩), .pointer (some ⟨b, 0, none⟩), .pointer (some ⟨b, 0, none⟩)]) "Save").run Tryz.prog w = .ok (209, .agg #[.pointer (some ⟨b, 0, none⟩)]) w := by intro fuel w; kernel_rfl
theorem nilAhead_6_Save (b : Nat) : ∀ (fuel : Nat) (w : World), (nilAhead (fuel + 1) 188 (.agg #[.pointer (some ⟨b, 0, none⟩), .pointer (some ⟨b, 0, none⟩), .pointer (some ⟨b, 0, none⟩), .pointer (some ⟨b, 0, none⟩)]) "Save").run Tryz.prog w = .ok (some false) w := by intro fuel w; kernel_rfl
theorem method_7_Start (b : Nat) : ∀ (fuel : Nat) (w : World), (method (fuel + 1) 191 (.agg #[.pointer (some ⟨b, 0, none⟩), .pointer (some ⟨b, 0, none⟩), .pointer (some ⟨b, 0, none⟩), .pointer (some ⟨b, 0, none⟩), .pointer (some ⟨b, 0, none⟩), .pointer (some ⟨b, 0, none⟩), .pointer (some ⟨b, 0, none⟩)]) "Start").run Tryz.prog w = .ok (194, .agg #[.pointer (some ⟨b, 0, none⟩)]) w := by intro fuel w; kernel_rfl
theorem nilAhead_7_Start (b : Nat) : ∀ (fuel : Nat) (w : World), (nilAhead (fuel + 1) 191 (.agg #[.pointer (some ⟨b, 0, none⟩), .pointer (some ⟨b, 0, none⟩), .pointer (some ⟨b, 0, none⟩), .pointer (some ⟨b, 0, none⟩), .pointer (some ⟨b, 0, none⟩), .pointer (some ⟨b, 0, none⟩), .pointer (some ⟨b, 0, none⟩)]) "Start").run Tryz.prog w = .ok (some false) w := by intro fuel w; kernel_rfl
theorem method_7_Stop (b : Nat) : ∀ (fuel : Nat) (w : World), (method (fuel + 1) 191 (.agg #[.pointer (some ⟨b, 0, none⟩), .pointer (some ⟨b, 0, none⟩), .pointer (some ⟨b, 0, none⟩), .pointer (some ⟨b, 0, none⟩), .pointer (some ⟨b, 0, none⟩), .pointer (some ⟨b, 0, none⟩), .pointer (some ⟨b, 0, none⟩)]) "Stop").run Tryz.prog w = .ok (195, .agg #[.pointer (some ⟨b, 0, none⟩)]) w := by intro fuel w; kernel_rfl
theorem nilAhead_7_Stop (b : Nat) : ∀ (fuel : Nat) (w : World), (nilAhead (fuel + 1) 191 (.agg #[.pointer (some ⟨b, 0, none⟩), .pointer (some ⟨b, 0, none⟩), .pointer (some ⟨b, 0, none⟩), .pointer (some ⟨b, 0, none⟩), .pointer (some ⟨b, 0, none⟩), .pointer (some ⟨b, 0, none⟩), .pointer (some ⟨b, 0, none⟩)]) "Stop").run Tryz.prog w = .ok (some false) w := by intro fuel w; kernel_rfl
theorem method_7_Get (b : Nat) : ∀ (fuel : Nat) (w : World), (method (fuel + 1) 191 (.agg #[.pointer (some ⟨b, 0, none⟩), .pointer (some ⟨b, 0, none⟩), .pointer (some ⟨b, 0, none⟩), .pointer (some ⟨b, 0, none⟩), .pointer (some ⟨b, 0, none⟩), .pointer (some ⟨b, 0, none⟩), .pointer (some ⟨b, 0, none⟩)]) "Get").run Tryz.prog w = .ok (197, .agg #[.pointer (some ⟨b, 0, none⟩)]) w := by intro fuel w; kernel_rfl
theorem nilAhead_7_Get (b : Nat) : ∀ (fuel : Nat) (w : World), (nilAhead (fuel + 1) 191 (.agg #[.pointer (some ⟨b, 0, none⟩), .pointer (some ⟨b, 0, none⟩), .pointer (some ⟨b, 0, none⟩), .pointer (some ⟨b, 0, none⟩), .pointer (some ⟨b, 0, none⟩), .pointer (some ⟨b, 0, none⟩), .pointer (some ⟨b, 0, none⟩)]) "Get").run Tryz.prog w = .ok (some false) w := by intro fuel w; kernel_rfl
theorem method_7_Put (b : Nat) : ∀ (fuel : Nat) (w : World), (method (fuel + 1) 191 (.agg #[.pointer (some ⟨b, 0, none⟩), .pointer (some ⟨b, 0, none⟩), .pointer (some ⟨b, 0, none⟩), .pointer (some ⟨b, 0, none⟩), .pointer (some ⟨b, 0, none⟩), .pointer (some ⟨b, 0, none⟩), .pointer (some ⟨b, 0, none⟩)]) "Put").run Tryz.prog w = .ok (198, .agg #[.pointer (some ⟨b, 0, none⟩)]) w := by intro fuel w; kernel_rfl
theorem nilAhead_7_Put (b : Nat) : ∀ (fuel : Nat) (w : World), (nilAhead (fuel + 1) 191 (.agg #[.pointer (some ⟨b, 0, none⟩), .pointer (some ⟨b, 0, none⟩), .pointer (some ⟨b, 0, none⟩), .pointer (some ⟨b, 0, none⟩), .pointer (some ⟨b, 0, none⟩), .pointer (some ⟨b, 0, none⟩), .pointer (some ⟨b, 0, none⟩)]) "Put").run Tryz.prog w = .ok (some false) w := by intro fuel w; kernel_rfl
theorem method_7_Tell (b : Nat) : ∀ (fuel : Nat) (w : World), (method (fuel + 1) 191 (.agg #[.pointer (some ⟨b, 0, none⟩), .pointer (some ⟨b, 0, none⟩), .pointer (some ⟨b, 0, none⟩), .pointer (some ⟨b, 0, none⟩), .pointer (some ⟨b, 0, none⟩), .pointer (some ⟨b, 0, none⟩), .pointer (some ⟨b, 0, none⟩)]) "Tell").run Tryz.prog w = .ok (206, .agg #[.pointer (some ⟨b, 0, none⟩)]) w := by intro fuel w; kernel_rfl
theorem nilAhead_7_Tell (b : Nat) : ∀ (fuel : Nat) (w : World), (nilAhead (fuel + 1) 191 (.agg #[.pointer (some ⟨b, 0, none⟩), .pointer (some ⟨b, 0, none⟩), .pointer (some ⟨b, 0, none⟩), .pointer (some ⟨b, 0, none⟩), .pointer (some ⟨b, 0, none⟩), .pointer (some ⟨b, 0, none⟩), .pointer (some ⟨b, 0, none⟩)]) "Tell").run Tryz.prog w = .ok (some false) w := by intro fuel w; kernel_rfl
theorem method_7_Hear (b : Nat) : ∀ (fuel : Nat) (w : World), (method (fuel + 1) 191 (.agg #[.pointer (some ⟨b, 0, none⟩), .pointer (some ⟨b, 0, none⟩), .pointer (some ⟨b, 0, none⟩), .pointer (some ⟨b, 0, none⟩), .pointer (some ⟨b, 0, none⟩), .pointer (some ⟨b, 0, none⟩), .pointer (some ⟨b, 0, none⟩)]) "Hear").run Tryz.prog w = .ok (207, .agg #[.pointer (some ⟨b, 0, none⟩)]) w := by intro fuel w; kernel_rfl
theorem nilAhead_7_Hear (b : Nat) : ∀ (fuel : Nat) (w : World), (nilAhead (fuel + 1) 191 (.agg #[.pointer (some ⟨b, 0, none⟩), .pointer (some ⟨b, 0, none⟩), .pointer (some ⟨b, 0, none⟩), .pointer (some ⟨b, 0, none⟩), .pointer (some ⟨b, 0, none⟩), .pointer (some ⟨b, 0, none⟩), .pointer (some ⟨b, 0, none⟩)]) "Hear").run Tryz.prog w = .ok (some false) w := by intro fuel w; kernel_rfl
theorem method_7_Load (b : Nat) : ∀ (fuel : Nat) (w : World), (method (fuel + 1) 191 (.agg #[.pointer (some ⟨b, 0, none⟩), .pointer (some ⟨b, 0, none⟩), .pointer (some ⟨b, 0, none⟩), .pointer (some ⟨b, 0, none⟩), .pointer (some ⟨b, 0, none⟩), .pointer (some ⟨b, 0, none⟩), .pointer (some ⟨b, 0, none⟩)]) "Load").run Tryz.prog w = .ok (208, .agg #[.pointer (some ⟨b, 0, none⟩)]) w := by intro fuel w; kernel_rfl
theorem nilAhead_7_Load (b : Nat) : ∀ (fuel : Nat) (w : World), (nilAhead (fuel + 1) 191 (.agg #[.pointer (some ⟨b, 0, none⟩), .pointer (some ⟨b, 0, none⟩), .pointer (some ⟨b, 0, none⟩), .pointer (some ⟨b, 0, none⟩), .pointer (some ⟨b, 0, none⟩), .pointer (some ⟨b, 0, none⟩), .pointer (some ⟨b, 0, none⟩)]) "Load").run Tryz.prog w = .ok (some false) w := by intro fuel w; kernel_rfl
theorem method_7_Save (b : Nat) : ∀ (fuel : Nat) (w : World), (method (fuel + 1) 191 (.agg #[.pointer (some ⟨b, 0, none⟩), .pointer (some ⟨b, 0, none⟩), .pointer (some ⟨b, 0, none⟩), .pointer (some ⟨b, 0, none⟩), .pointer (some ⟨b, 0, none⟩), .pointer (some ⟨b, 0, none⟩), .pointer (some ⟨b, 0, none⟩)]) "Save").run Tryz.prog w = .ok (209, .agg #[.pointer (some ⟨b, 0, none⟩)]) w := by intro fuel w; kernel_rfl
theorem nilAhead_7_Save (b : Nat) : ∀ (fuel : Nat) (w : World), (nilAhead (fuel + 1) 191 (.agg #[.pointer (some ⟨b, 0, none⟩), .pointer (some ⟨b, 0, none⟩), .pointer (some ⟨b, 0, none⟩), .pointer (some ⟨b, 0, none⟩), .pointer (some ⟨b, 0, none⟩), .pointer (some ⟨b, 0, none⟩), .pointer (some ⟨b, 0, none⟩)]) "Save").run Tryz.prog w = .ok (some false) w := by intro fuel w; kernel_rfl
theorem method_7_Heal (b : Nat) : ∀ (fuel : Nat) (w : World), (method (fuel + 1) 191 (.agg #[.pointer (some ⟨b, 0, none⟩), .pointer (some ⟨b, 0, none⟩), .pointer (some ⟨b, 0, none⟩), .pointer (some ⟨b, 0, none⟩), .pointer (some ⟨b, 0, none⟩), .pointer (some ⟨b, 0, none⟩), .pointer (some ⟨b, 0, none⟩)]) "Heal").run Tryz.prog w = .ok (228, .agg #[.pointer (some ⟨b, 0, none⟩)]) w := by intro fuel w; kernel_rfl
theorem nilAhead_7_Heal (b : Nat) : ∀ (fuel : Nat) (w : World), (nilAhead (fuel + 1) 191 (.agg #[.pointer (some ⟨b, 0, none⟩), .pointer (some ⟨b, 0, none⟩), .pointer (some ⟨b, 0, none⟩), .pointer (some ⟨b, 0, none⟩), .pointer (some ⟨b, 0, none⟩), .pointer (some ⟨b, 0, none⟩), .pointer (some ⟨b, 0, none⟩)]) "Heal").run Tryz.prog w = .ok (some false) w := by intro fuel w; kernel_rfl
structure Pre (N b : Nat) (cv : Value) (d : CoreD) (x : CallD) (mx : Int) (w : World) : Prop where
 st : CoreSt N b cv d w
 hN : N ≤ w.heap.size
 hr : -9223372036854775808 ≤ d.fCount
 hm : d.fCells.length ≤ 4194304
 hs : ∀ c ∈ d.fCells, c.fKey.length ≤ maxLen
 hk : x.fKey.length ≤ maxLen
 ht : x.fText.length ≤ 1048576
 hM : w.cell? ⟨0, 0, none⟩ = some (.int .i64 mx)
theorem Pre.below {N b : Nat} {cv : Value} {d : CoreD} {x : CallD} {mx : Int} {w w' : World} (h : Pre N b cv d x mx w) (hb : Below w.heap.size w w') : Pre N b cv d x mx w' :=
 ⟨h.st.below hb, Nat.le_trans h.hN hb.size, h.hr, h.hm, h.hs, h.hk, h.ht, (hb.cell (p := ⟨0, 0, none⟩) (World.block_lt_of_cell? w _ h.hM)).trans h.hM⟩
theorem row_ne {w : World} {N n : Nat} {t : TypeId} {c : Array Value} {k : Nat × Nat} {cv : Value} {l : List CellD} (ho : OwnsF cCell 139 2 w N cv l) (hg : w.heap[n]? = some (.cells c t k)) (ht : t ≠ 139) : cv.ownBlock ≠ some n := by
 intro e
 rcases ho.2 with ⟨rfl, _⟩ | ⟨g, cap, cur, rfl, _, hg2, _⟩
 ·simp [Value.ownBlock] at e
 ·simp [Value.ownBlock] at e
  subst e
  rw [hg] at hg2
  injection hg2 with hg2
  injection hg2 with _ h2 _
  exact ht h2
def Fin (N b : Nat) (cv : Value) (d : CoreD) (n : Nat) (w w1 : World) : Prop := (∃ cv', CoreSt N b cv' d w1 ∧ cv'.ownBlock ≠ some n) ∧ b ≠ n ∧ w.heap.size ≤ n ∧ Kept2 w w1 (some b) cv.ownBlock
theorem fin_set {N b : Nat} {cv : Value} {d : CoreD} {n : Nat} {w w1 : World} (h : Fin N b cv d n w w1) (o : Nat) (u : Value) : Fin N b cv d n w (w1.setCell ⟨n, o, none⟩ u) := by
 obtain ⟨⟨cv', hs, hn⟩, hb, hl, hk⟩ := h
 refine ⟨⟨cv', ⟨hs.box.so _ _ hb, ?_, hs.ne, hs.ge⟩, hn⟩, hb, hl, hk.set _ (Or.inl hl)⟩
 refine World.ownsRow.kept hs.own (row := some n) ⟨rfl, rfl, rfl, by simp, fun i hi hne => Below.heap_setCell w1 _ u i (fun e => hne (by rw [e]))⟩ (Or.inr hn)
theorem fin_does {N b : Nat} {cv : Value} {out : CoreD × ReplyD} {n : Nat} {w w1 : World} (h : Fin N b cv out.1 n w w1) : Does N b cv out w (.returned (vReply out.2)) w1 := by
 obtain ⟨⟨cv', hs, _⟩, _, _, hk⟩ := h
 exact ⟨rfl, cv', hs, hk⟩
def GivesCells (s : List UInt8) (w : World) (e : Ending) (w' : World) : Prop := ∃ v, e = .returned (.tuple #[v, .bool (prsB s)]) ∧ OwnsF cCell 139 2 w' w.heap.size v (prsC s) ∧ Below w.heap.size w w'
theorem rdCs_len (s : List UInt8) : (rdCs s).length ≤ s.length + 1 := by
 unfold rdCs
 split
 ·simp
 ·have := splitL_len s [44]; simpa using this
theorem rdCs_key (s : List UInt8) : ∀ d ∈ rdCs s, d.fKey.length ≤ s.length := by
 intro d hd
 unfold rdCs at hd
 split at hd
 ·simp at hd
 ·obtain ⟨p, hp, rfl⟩ := List.mem_map.1 hd
  have h1 := split_part s 44 p hp
  have h2 := (cut_len p [61]).1
  unfold rdC; simp only; omega
theorem ret_pairV {v : Value} {c d : Bool} (h : c = d) : Ending.returned (.tuple #[v, .bool c]) = .returned (.tuple #[v, .bool d]) := by rw [h]
set_option maxRecDepth 100000 in
set_option maxHeartbeats 1600000 in
theorem implParseCells_any (s : ByteArray) (m : Int) (w : World) (hm : w.cell? ⟨0, 0, none⟩ = some (.int .i64 m)) (hs : s.size ≤ 1048576) :
  Calls Tryz.prog 210 #[.string s] w fun e w' => GivesCells s.data.toList w e w' := by
 have HR := Lib.hid (implReadCells_any s m w hm hs)
 have HLN := Lib.hid (show (rdCs s.data.toList).length ≤ 1048577 by have := rdCs_len s.data.toList; rw [size_list] at this; omega)
 have HK := Lib.hid (show ∀ d ∈ rdCs s.data.toList, d.fKey.length ≤ maxLen from fun d hd => by have := rdCs_key _ d hd; rw [size_list] at this; unfold maxLen; omega)
 have HP := Lib.hid (show prsB s.data.toList = (cellsB (rdCs s.data.toList) && decide (fmtC (rdCs s.data.toList) = s.data.toList)) from rfl)
 have HY := Lib.hid (@prsC_yes s.data.toList)
 have HN := Lib.hid (@prsC_no s.data.toList)
 unfold GivesCells
 generalize prsC s.data.toList = z at *
 generalize prsB s.data.toList = y at *
 generalize rdCs s.data.toList = l at *
 clear hm
 cases hc : cellsB l with
 | false =>
  have HYF := Lib.hid (show y = false by rw [HP.out, hc]; rfl)
  have HZ := Lib.hid (HN.out HYF.out)
  go_enter Tryz.func210, Tryz.ntmps210
  go_wp2_with fail
  refine HR.out.mono ?_
  rintro e w1 ⟨u, rfl, ho, hb⟩
  have HB := Lib.hid hb
  have HIC := Lib.hid (implIsCells_any u l w1 (ownsF_at ho (by have := HLN.out; omega)) HK.out)
  rw [hc] at HIC
  clear ho hb hc
  go_wp2_with fail
  refine HIC.out.mono ?_
  rintro e w2 ⟨rfl, hb⟩
  have HB2 := Lib.hid (HB.out.trans (hb.mono HB.out.size))
  clear hb
  go_wp2_with fail
  go_ret2
  exact ⟨_, ret_pairV HYF.out.symm, by rw [HZ.out]; exact ownsF_base (ownsF_new cCell 139 2 w2) HB2.out.size, HB2.out.alloc HB2.out.size _⟩
 | true =>
  cases hf : decide (fmtC l = s.data.toList) with
  | false =>
   have HYF := Lib.hid (show y = false by rw [HP.out, hc, hf]; rfl)
   have HZ := Lib.hid (HN.out HYF.out)
   have hne : (fmtC l == s.toList) = false := by rw [Lib.toList_data]; simpa using hf
   have hne2 : (fmtC l != s.toList) = true := by rw [bne, hne]; rfl
   clear hf
   go_enter Tryz.func210, Tryz.ntmps210
   go_wp2_with fail
   refine HR.out.mono ?_
   rintro e w1 ⟨u, rfl, ho, hb⟩
   have HB := Lib.hid hb
   have HU := Lib.hid (ownsF_at ho (by have := HLN.out; omega))
   have HIC := Lib.hid (implIsCells_any u l w1 HU.out HK.out)
   rw [hc] at HIC
   clear ho hb hc
   go_wp2_with fail
   refine HIC.out.mono ?_
   rintro e w2 ⟨rfl, hb⟩
   have HB2 := Lib.hid (HB.out.trans (hb.mono HB.out.size))
   have HFC := Lib.hid (implFormatCells_any u l w2 (HU.out.below hb (Nat.le_refl _)) HK.out)
   clear hb
   go_wp2_with fail
   refine HFC.out.mono ?_
   rintro e w3 ⟨rfl, hb⟩
   have HB3 := Lib.hid (HB2.out.trans (hb.mono HB2.out.size))
   clear hb
   go_wp2_with fail
   go_ret2
   exact ⟨_, ret_pairV HYF.out.symm, by rw [HZ.out]; exact ownsF_base (ownsF_new cCell 139 2 w3) HB3.out.size, HB3.out.alloc HB3.out.size _⟩
  | true =>
   have HYF := Lib.hid (show y = true by rw [HP.out, hc, hf]; rfl)
   have HZ := Lib.hid (HY.out HYF.out)
   have hne : (fmtC l == s.toList) = true := by rw [Lib.toList_data]; simpa using hf
   have hne2 : (fmtC l != s.toList) = false := by rw [bne, hne]; rfl
   clear hf
   go_enter Tryz.func210, Tryz.ntmps210
   go_wp2_with fail
   refine HR.out.mono ?_
   rintro e w1 ⟨u, rfl, ho, hb⟩
   have HB := Lib.hid hb
   have HO := Lib.hid ho
   have HU := Lib.hid (ownsF_at ho (by have := HLN.out; omega))
   have HIC := Lib.hid (implIsCells_any u l w1 HU.out HK.out)
   rw [hc] at HIC
   clear ho hb hc
   go_wp2_with fail
   refine HIC.out.mono ?_
   rintro e w2 ⟨rfl, hb⟩
   have HB2 := Lib.hid (HB.out.trans (hb.mono HB.out.size))
   have HO2 := Lib.hid (ownsF_below HO.out hb (Nat.le_refl _))
   have HFC := Lib.hid (implFormatCells_any u l w2 (HU.out.below hb (Nat.le_refl _)) HK.out)
   clear hb
   go_wp2_with fail
   refine HFC.out.mono ?_
   rintro e w3 ⟨rfl, hb⟩
   have HB3 := Lib.hid (HB2.out.trans (hb.mono HB2.out.size))
   have HO3 := Lib.hid (ownsF_below HO2.out hb (Nat.le_refl _))
   clear hb
   go_wp2_with fail
   go_ret2
   exact ⟨_, ret_pairV HYF.out.symm, by rw [HZ.out]; exact HO3.out, HB3.out⟩
end Go.Proofs.YtcpbikilgacdlaaGreat
namespace Go.Proofs.YtcpbikilgacdlaaGreat
set_option linter.unusedVariables false
set_option linter.unusedSimpArgs false
open Go.RowKit
set_option maxHeartbeats 1600000 in
theorem save_c (N b : Nat) (cv : Value) (d : CoreD) (w : World) (h : CoreSt N b cv d w) (hm : d.fCells.length ≤ 4194304) (hs : ∀ c ∈ d.fCells, c.fKey.length ≤ maxLen) :
  Calls Tryz.prog 209 #[.agg #[.pointer (some ⟨b, 0, none⟩)]] w fun e w' => Does N b cv (saveD d) w e w' := by
 have HS := Lib.hid h
 have HB := Lib.hid h.box
 have hl0 := h.box.lt
 have HX := Lib.hid (ownsF_at h.own hm)
 obtain ⟨c0, c1, c2, c3, c4, z1, z2, z3, z4⟩ := h.box
 clear h
 have HD := Lib.hid (fun w' (hw : Below w.heap.size w w') => show CoreBox w' b cv d ∧ Kept2 w w' (some b) none from ⟨HB.out.keep (hw.block b hl0), Kept2.of_below hw⟩)
 have HF := Lib.hid (fun w' (hw : Below w.heap.size w w') => implFormatCells_any cv d.fCells w' (HX.out.below hw (Nat.le_refl _)) hs)
 obtain ⟨kd, on, br, l, cnt⟩ := d
 simp only at *
 have hl1 : b < w.heap.size + 1 := by omega
 have hl2 : b < w.heap.size + 1 + 1 := by omega
 have hn0 : ¬ b = w.heap.size := by omega
 have hn1 : ¬ b = w.heap.size + 1 := by omega
 have hap := @past_cell b
 have HB2 := Lib.hid (show ∀ o1 o2, Below w.heap.size w ((w.alloc o1).alloc o2) from fun o1 o2 => ((Below.refl _ _).alloc (Nat.le_refl _) _).alloc (by simp) _)
 cases br with
 | true =>
  go_enter Tryz.func209, Tryz.ntmps209
  go_wp2_with fail
  refine bodyPost_ret (v := vReply (rC 3)) (by simp [results, Tryz.results209, go_sem, vReply, rC, rV, rT]) rfl ?_
  exact does_of (d' := ⟨kd, on, true, l, cnt⟩) (r := rC 3) HS.out (HD.out _ (HB2.out _ _)).1 rfl (HD.out _ (HB2.out _ _)).2 rfl rfl
 | false =>
  have HE := Lib.hid (show saveD ⟨kd, on, false, l, cnt⟩ = (⟨kd, on, false, l, cnt⟩, rT (fmtC l)) from rfl)
  generalize fmtC l = t at *
  go_enter Tryz.func209, Tryz.ntmps209
  go_wp2_with fail
  refine (HF.out _ (HB2.out _ _)).mono ?_
  rintro e w1 ⟨rfl, hb⟩
  have HB3 := Lib.hid ((HB2.out _ _).trans (hb.mono (HB2.out _ _).size))
  obtain ⟨hcc, hff⟩ := bcell hb
  simp at hcc hff
  have hsz := hb.size
  simp at hsz
  clear hb
  go_wp2_with fail
  refine bodyPost_ret (v := vReply (rT t)) (by simp [results, Tryz.results209, go_sem, vReply, rC, rV, rT, cell_set_at, cell_set_ne, hcc]) rfl ?_
  refine does_of (d' := ⟨kd, on, false, l, cnt⟩) (r := rT t) HS.out ?_ rfl ?_ HE.out rfl
  ·exact (HD.out _ (by repeat (first | with_reducible exact HB3.out | with_reducible refine Below.setCell ?_ (by simp; try omega) _)) ).1
  ·exact (HD.out _ (by repeat (first | with_reducible exact HB3.out | with_reducible refine Below.setCell ?_ (by simp; try omega) _)) ).2
set_option maxHeartbeats 1600000 in
theorem load_c (N b : Nat) (cv : Value) (d : CoreD) (t : List UInt8) (m : Int) (w : World) (h : CoreSt N b cv d w) (hN : N ≤ w.heap.size) (hM : w.cell? ⟨0, 0, none⟩ = some (.int .i64 m)) (ht : t.length ≤ 1048576) :
  Calls Tryz.prog 208 #[.agg #[.pointer (some ⟨b, 0, none⟩)], .string ⟨t.toArray⟩] w fun e w' => Does N b cv (loadD d t) w e w' := by
 have HS := Lib.hid h
 have HB := Lib.hid h.box
 have hl0 := h.box.lt
 have hge := h.ge
 obtain ⟨c0, c1, c2, c3, c4, z1, z2, z3, z4⟩ := h.box
 clear h
 have HD := Lib.hid (fun w' (hw : Below w.heap.size w w') => show CoreBox w' b cv d ∧ Kept2 w w' (some b) none from ⟨HB.out.keep (hw.block b hl0), Kept2.of_below hw⟩)
 have hML := World.block_lt_of_cell? w _ hM
 simp only at hML
 have HF := Lib.hid (fun w' (hw : Below w.heap.size w w') => implParseCells_any ⟨t.toArray⟩ m w' ((hw.cell (p := ⟨0, 0, none⟩) hML).trans hM) (by rw [← size_list]; simpa using ht))
 clear hM
 unfold GivesCells at HF
 simp only [List.toList_toArray] at HF
 have HE := Lib.hid (show d.fBroken = false → loadD d t = if prsB t = true then ({ d with fCells := prsC t }, rV (prsC t).length) else (d, rC 6) from fun h => by unfold loadD; rw [h]; rfl)
 have hE3 := Lib.hid (show d.fBroken = true → loadD d t = (d, rC 3) from fun h => by unfold loadD; rw [h]; rfl)
 generalize loadD d t = out at *
 generalize prsB t = q at *
 generalize prsC t = l2 at *
 obtain ⟨kd, on, br, l, cnt⟩ := d
 simp only at *
 have hl1 : b < w.heap.size + 1 := by omega
 have hl2 : b < w.heap.size + 1 + 1 := by omega
 have hn0 : ¬ b = w.heap.size := by omega
 have hn1 : ¬ b = w.heap.size + 1 := by omega
 have hm0 : ¬ w.heap.size = b := by omega
 have hm1 : ¬ w.heap.size + 1 = b := by omega
 have hap := @past_cell b
 have haf := @past_frozen b
 have HB2 := Lib.hid (show ∀ o1 o2, Below w.heap.size w ((w.alloc o1).alloc o2) from fun o1 o2 => ((Below.refl _ _).alloc (Nat.le_refl _) _).alloc (by simp) _)
 cases br with
 | true =>
  go_enter Tryz.func208, Tryz.ntmps208
  go_wp2_with fail
  refine bodyPost_ret (v := vReply (rC 3)) (by simp [results, Tryz.results208, go_sem, vReply, rC, rV, rT]) rfl ?_
  exact does_of (d' := ⟨kd, on, true, l, cnt⟩) (r := rC 3) HS.out (HD.out _ (HB2.out _ _)).1 rfl (HD.out _ (HB2.out _ _)).2 (hE3.out (by first | rfl | trivial)) rfl
 | false =>
  have HE1 := Lib.hid (HE.out (by first | rfl | trivial))
  clear HE hE3
  go_enter Tryz.func208, Tryz.ntmps208
  go_wp2_with fail
  refine (HF.out _ (HB2.out _ _)).mono ?_
  rintro e w1 ⟨v, rfl, ho, hb⟩
  have HO := Lib.hid (show OwnsF cCell 139 2 w1 (w.heap.size + 1 + 1) v l2 from by simpa using ho)
  have HB3 := Lib.hid ((HB2.out _ _).trans (hb.mono (HB2.out _ _).size))
  obtain ⟨hcc, hff⟩ := bcell hb
  simp at hcc hff
  have hsz := hb.size
  simp at hsz
  clear hb ho
  cases q with
  | true =>
   have hvl : ∃ va vc, v = .slice va l2.length vc := by
    rcases HO.out.2 with ⟨rfl, hn⟩ | ⟨g, cap, cur, rfl, _⟩
    ·exact ⟨none, 0, by rw [hn]⟩
    ·exact ⟨_, _, rfl⟩
   obtain ⟨va, vc, rfl⟩ := hvl
   go_wp2_with fail
   refine bodyPost_ret (v := vReply (rV l2.length)) (by simp [results, Tryz.results208, go_sem, vReply, rC, rV, rT, cell_set_at, cell_set_ne, hcc]) rfl ?_
   rw [HE1.out]
   refine ⟨rfl, .slice va l2.length vc, ⟨?_, ?_, ?_, hge⟩, ?_⟩
   ·show CoreBox _ b _ ⟨kd, on, false, l2, cnt⟩
    repeat (first | with_reducible refine CoreBox.s3 (cv0 := cv) (l0 := l) ?_ _ _ | with_reducible refine CoreBox.so ?_ _ _ (by simp; try omega))
    exact (HD.out _ HB3.out).1
   ·refine ownsF_base (B := w.heap.size + 1 + 1) ?_ (by omega)
    repeat (with_reducible refine ownsF_set ?_ (by simp; try omega))
    exact HO.out
   ·intro e
    have := (World.ownsRow.lt HO.out b e).1
    omega
   ·have k0 := Kept2.of_below (r1 := some b) (r2 := Value.ownBlock cv) HB3.out
    repeat (with_reducible refine Kept2.set ?_ _ ?_)
    ·exact k0
    all_goals (first | exact Or.inr (Or.inl ⟨rfl, by simp⟩) | (left; simp; try omega))
  | false =>
   go_wp2_with fail
   refine bodyPost_ret (v := vReply (rC 6)) (by simp [results, Tryz.results208, go_sem, vReply, rC, rV, rT, cell_set_at, cell_set_ne, hcc]) rfl ?_
   refine does_of (d' := ⟨kd, on, false, l, cnt⟩) (r := rC 6) HS.out ?_ rfl ?_ (by rw [HE1.out]; rfl) rfl
   ·exact (HD.out _ (by repeat (first | with_reducible exact HB3.out | with_reducible refine Below.setCell ?_ (by simp; try omega) _)) ).1
   ·exact (HD.out _ (by repeat (first | with_reducible exact HB3.out | with_reducible refine Below.setCell ?_ (by simp; try omega) _)) ).2
structure Boxes (nx np nr : Nat) (x : CallD) (pt : Value) (w : World) : Prop where
 x0 : w.cell? ⟨nx, 0, none⟩ = some (.string ⟨x.fMethod.toArray⟩)
 p0 : w.cell? ⟨np, 0, none⟩ = some pt
 r : ∀ o, o < 5 → (w.cell? ⟨nr, o, none⟩).isSome = true
 z : ∀ o, w.frozen? ⟨nr, o, none⟩ = false
theorem Boxes.below {nx np nr : Nat} {x : CallD} {pt : Value} {w w' : World} (h : Boxes nx np nr x pt w) (hb : Below w.heap.size w w') : Boxes nx np nr x pt w' := by
 have hr : nr < w.heap.size := by
  obtain ⟨v, hv⟩ := Option.isSome_iff_exists.1 (h.r 0 (by decide))
  exact World.block_lt_of_cell? w _ hv
 exact ⟨(hb.cell (p := ⟨nx, 0, none⟩) (World.block_lt_of_cell? w _ h.x0)).trans h.x0, (hb.cell (p := ⟨np, 0, none⟩) (World.block_lt_of_cell? w _ h.p0)).trans h.p0,
  fun o ho => by rw [hb.cell (p := ⟨nr, o, none⟩) hr]; exact h.r o ho, fun o => (hb.frozen (p := ⟨nr, o, none⟩) hr).trans (h.z o)⟩
def put5 (w : World) (n : Nat) (r : ReplyD) : World := ((((w.setCell ⟨n, 0, none⟩ (.int .i64 r.fCode)).setCell ⟨n, 1, none⟩ (.int .i64 r.fValue)).setCell ⟨n, 2, none⟩ (.string ⟨r.fText.toArray⟩)).setCell ⟨n, 3, none⟩ (.int .i64 r.fWant)).setCell ⟨n, 4, none⟩ (.int .i64 r.fHad)
theorem catch_idle (a1 a2 a3 : Value) (w : World) :
  CallsD Tryz.prog 152 #[a1, a2, a3] .returning w fun e u' w' => e = .returned (.tuple #[]) ∧ u' = .returning ∧ w' = w := by
 refine callsD_of_wpS Tryz.func152 rfl fun c₀ cs hu => ?_
 apply wpS_seq
 apply wpS_region
 simp [wpOpsS, go_sem, recoverD, hu, Tryz.ntmps152, Exit.thenS]
 refine wpS_cond (t := false) (by simp [Act.eval, Array.replicate]) ?_
 simp only [Bool.false_eq_true, if_false]
 refine wpS_of_wp (wp_skip ?_)
 cases c₀
 simp_all [bodyPostS, results, Tryz.results152]
end Go.Proofs.YtcpbikilgacdlaaGreat
namespace Go.Proofs.YtcpbikilgacdlaaGreat
set_option linter.unusedVariables false
open Go.RowKit
def doV (d : CoreD) (x : CallD) : CoreD × ReplyD := if offersF (coreF d) (wantF x.fMethod) = true then mthD d x else (d, ⟨1, 0, [], wantF x.fMethod, coreF d⟩)
def doD (d : CoreD) (x : CallD) : CoreD × ReplyD := if (coreB d && callB x) = true then doV d x else (d, rC 7)
def PutOk (N b : Nat) (cv : Value) (d : CoreD) (x : CallD) : Prop := ∀ w, CoreSt N b cv d w → Calls Tryz.prog 198 #[.agg #[.pointer (some ⟨b, 0, none⟩)], .string ⟨x.fKey.toArray⟩, .int .i64 x.fValue] w fun e w' => Does N b cv (putD d x.fKey x.fValue) w e w'
theorem coreB_kind {d : CoreD} (h : coreB d = true) : ∃ j, j < 8 ∧ d.fKind = kindN j ∧ coreF d = kfN j := by
 simp only [coreB, Bool.and_eq_true, decide_eq_true_iff] at h
 have h0 := h.1.1.1.1.1
 rcases kindI_bd d.fKind with h1 | ⟨j, h1, h2, h3⟩
 ·omega
 ·refine ⟨j, h2, h3.symm, ?_⟩
  unfold coreF kfI
  rw [h1, if_neg (by omega)]; simp
end Go.Proofs.YtcpbikilgacdlaaGreat
namespace Go.Proofs.YtcpbikilgacdlaaGreat
set_option linter.unusedVariables false
set_option linter.unusedSimpArgs false
open Go.RowKit
theorem mthD_kind (d : CoreD) (x : CallD) : (mthD d x).1.fKind = d.fKind := by
 unfold mthD startD stopD getD1 putD tellD hearD loadD saveD healD
 repeat' split
 all_goals rfl
theorem doD_kind (d : CoreD) (x : CallD) : (doD d x).1.fKind = d.fKind := by
 unfold doD doV
 repeat' split
 all_goals first | rfl | exact mthD_kind d x
theorem coreB_iff (d : CoreD) : coreB d = true ↔ (0 ≤ kindI d.fKind ∧ cellsB d.fCells = true ∧ (d.fCells.length = 0 ∨ hasI (coreF d) 1 = true) ∧ ((d.fOn = false ∧ d.fBroken = false) ∨ hasI (coreF d) 0 = true) ∧ numB d.fCount = true ∧ ¬ (d.fOn = true ∧ d.fBroken = true)) := by
 unfold coreB
 simp only [Bool.and_eq_true, Bool.or_eq_true, decide_eq_true_eq, Bool.not_eq_true', Bool.or_eq_false_iff, Bool.and_eq_false_iff]
 constructor
 ·rintro ⟨⟨⟨⟨⟨h1, h2⟩, h3⟩, h4⟩, h5⟩, h6⟩
  refine ⟨h1, h2, h3, h4, h5, ?_⟩
  rintro ⟨k1, k2⟩
  rcases h6 with h6 | h6
  ·rw [k1] at h6; cases h6
  ·rw [k2] at h6; cases h6
 ·rintro ⟨h1, h2, h3, h4, h5, h6⟩
  refine ⟨⟨⟨⟨⟨h1, h2⟩, h3⟩, h4⟩, h5⟩, ?_⟩
  cases h : d.fOn
  ·exact Or.inl rfl
  ·right
   cases h' : d.fBroken
   ·rfl
   ·exact absurd ⟨h, h'⟩ h6
theorem kf_hear : ∀ j : _root_.Fin 8, offersF (kfN j) 8 = true → hasI (kfN j) 0 = true := by decide +kernel
theorem kf_save : ∀ j : _root_.Fin 8, offersF (kfN j) 16 = true → hasI (kfN j) 1 = true := by decide +kernel
theorem off_run {f : Int} (hf : isF f = true) (h : offersF f 1 = true) : hasI f 0 = true := by rw [← off_has hf 0 (by omega)]; exact h
theorem off_keep {f : Int} (hf : isF f = true) (h : offersF f 2 = true) : hasI f 1 = true := by rw [← off_has hf 1 (by omega)]; exact h
theorem core_hear {d : CoreD} (h : coreB d = true) (ho : offersF (coreF d) 8 = true) : hasI (coreF d) 0 = true := by
 obtain ⟨j, hj, _, e⟩ := coreB_kind h
 rw [e] at ho ⊢; exact kf_hear ⟨j, hj⟩ ho
theorem core_save {d : CoreD} (h : coreB d = true) (ho : offersF (coreF d) 16 = true) : hasI (coreF d) 1 = true := by
 obtain ⟨j, hj, _, e⟩ := coreB_kind h
 rw [e] at ho ⊢; exact kf_save ⟨j, hj⟩ ho
theorem callB_meth {x : CallD} (h : callB x = true) : (x.fMethod = mStart ∧ wantF x.fMethod = 1) ∨ (x.fMethod = mStop ∧ wantF x.fMethod = 1) ∨ (x.fMethod = mGet ∧ wantF x.fMethod = 2) ∨ (x.fMethod = mPut ∧ wantF x.fMethod = 2) ∨ (x.fMethod = mTell ∧ wantF x.fMethod = 4) ∨
  (x.fMethod = mHear ∧ wantF x.fMethod = 8) ∨ (x.fMethod = mLoad ∧ wantF x.fMethod = 16) ∨ (x.fMethod = mSave ∧ wantF x.fMethod = 16) ∨ (x.fMethod = mHeal ∧ wantF x.fMethod = 32) := by
 have h0 := h
 simp only [callB, Bool.and_eq_true, bne_iff_ne, ne_eq] at h
 have hw := h.1.1.1
 rcases meth_cases x.fMethod with hm | hm | hm | hm | hm | hm | hm | hm | hm | hm
 case inr.inr.inr.inr.inr.inr.inr.inr.inr => exact absurd hm.1 hw
 all_goals rw [hm]; simp +decide
theorem callB_put {x : CallD} (h : callB x = true) (hm : x.fMethod = mPut) : nameB x.fKey = true ∧ numB x.fValue = true := by
 simp only [callB, Bool.and_eq_true, hm] at h
 have h1 := h.1.1.2
 have h2 := h.1.2
 simp +decide at h1 h2
 exact ⟨h1, h2⟩
theorem doD_good {d : CoreD} {x : CallD} (h1 : coreB d = true) (h2 : callB x = true) (h3 : offersF (coreF d) (wantF x.fMethod) = true) : doD d x = mthD d x := by
 unfold doD doV; rw [h1, h2, Bool.and_self, if_pos rfl, if_pos h3]
theorem doD_fail {d : CoreD} {x : CallD} (h1 : coreB d = true) (h2 : callB x = true) (h3 : offersF (coreF d) (wantF x.fMethod) = false) : doD d x = (d, ⟨1, 0, [], wantF x.fMethod, coreF d⟩) := by
 unfold doD doV; rw [h1, h2, Bool.and_self, if_pos rfl, if_neg (by rw [h3]; simp)]
theorem doD_bad {d : CoreD} {x : CallD} (h : coreB d = false ∨ callB x = false) : doD d x = (d, rC 7) := by
 unfold doD; rw [if_neg]; rcases h with h | h <;> rw [h] <;> simp
theorem mthD_Start {d : CoreD} {x : CallD} (h : x.fMethod = mStart) : mthD d x = startD d := if_pos h
theorem mthD_Stop {d : CoreD} {x : CallD} (h : x.fMethod = mStop) : mthD d x = stopD d := by unfold mthD; rw [h]; rfl
theorem mthD_Get {d : CoreD} {x : CallD} (h : x.fMethod = mGet) : mthD d x = getD1 d x.fKey := by unfold mthD; rw [h]; rfl
theorem mthD_Put {d : CoreD} {x : CallD} (h : x.fMethod = mPut) : mthD d x = putD d x.fKey x.fValue := by unfold mthD; rw [h]; rfl
theorem mthD_Tell {d : CoreD} {x : CallD} (h : x.fMethod = mTell) : mthD d x = tellD d := by unfold mthD; rw [h]; rfl
theorem mthD_Hear {d : CoreD} {x : CallD} (h : x.fMethod = mHear) : mthD d x = hearD d x.fValue := by unfold mthD; rw [h]; rfl
theorem mthD_Load {d : CoreD} {x : CallD} (h : x.fMethod = mLoad) : mthD d x = loadD d x.fText := by unfold mthD; rw [h]; rfl
theorem mthD_Save {d : CoreD} {x : CallD} (h : x.fMethod = mSave) : mthD d x = saveD d := by unfold mthD; rw [h]; rfl
theorem mthD_Heal {d : CoreD} {x : CallD} (h : x.fMethod = mHeal) : mthD d x = healD d := by unfold mthD; rw [h]; rfl
theorem coreF_face (d : CoreD) : isF (coreF d) = true := kfI_face _
theorem mthD_core {d : CoreD} {x : CallD} (h1 : coreB d = true) (h2 : callB x = true) (h3 : offersF (coreF d) (wantF x.fMethod) = true) : coreB (mthD d x).1 = true := by
 have h := (coreB_iff d).1 h1
 obtain ⟨hk, hc, hl, ho, hn, hb⟩ := h
 have hrun := off_run (coreF_face d)
 have hkeep := off_keep (coreF_face d)
 have hhear := core_hear h1
 have hsave := core_save h1
 rw [coreB_iff]
 rcases callB_meth h2 with ⟨hm, hw⟩ | ⟨hm, hw⟩ | ⟨hm, hw⟩ | ⟨hm, hw⟩ | ⟨hm, hw⟩ | ⟨hm, hw⟩ | ⟨hm, hw⟩ | ⟨hm, hw⟩ | ⟨hm, hw⟩ <;> rw [hw] at h3
 ·rw [mthD_Start hm]; unfold startD
  repeat' split
  ·exact ⟨hk, hc, hl, ho, hn, hb⟩
  ·exact ⟨hk, hc, hl, Or.inr (hrun h3), hn, by simp⟩
  ·rename_i k1 k2
   exact ⟨hk, hc, hl, Or.inr (hrun h3), upI_num hn, by simpa using k1⟩
 ·rw [mthD_Stop hm]; unfold stopD
  repeat' split
  ·exact ⟨hk, hc, hl, ho, hn, hb⟩
  ·exact ⟨hk, hc, hl, Or.inr (hrun h3), hn, by simp⟩
  ·exact ⟨hk, hc, hl, ho, hn, hb⟩
 ·rw [mthD_Get hm]; unfold getD1
  repeat' split
  all_goals exact ⟨hk, hc, hl, ho, hn, hb⟩
 ·rw [mthD_Put hm]; unfold putD
  have hp := callB_put h2 hm
  repeat' split
  ·rename_i k1 k2
   exact ⟨hk, putC_cells hc hp.1 hp.2 k2, Or.inr (hkeep h3), ho, upI_num hn, hb⟩
  all_goals exact ⟨hk, hc, hl, ho, hn, hb⟩
 ·rw [mthD_Tell hm]; exact ⟨hk, hc, hl, ho, hn, hb⟩
 ·rw [mthD_Hear hm]; unfold hearD
  split
  ·exact ⟨hk, hc, hl, ho, hn, hb⟩
  ·rename_i k1
   exact ⟨hk, hc, hl, Or.inr (hhear h3), upI_num hn, fun h => k1 h.2⟩
 ·rw [mthD_Load hm]; unfold loadD
  repeat' split
  ·exact ⟨hk, hc, hl, ho, hn, hb⟩
  ·rename_i k1 k2
   exact ⟨hk, (prsC_fmt k2).1, Or.inr (hsave h3), ho, hn, hb⟩
  ·exact ⟨hk, hc, hl, ho, hn, hb⟩
 ·rw [mthD_Save hm]; unfold saveD
  split <;> exact ⟨hk, hc, hl, ho, hn, hb⟩
 ·rw [mthD_Heal hm]; exact ⟨hk, hc, hl, Or.inl ⟨rfl, rfl⟩, hn, by simp [healD]⟩
theorem doD_core {d : CoreD} (x : CallD) (h1 : coreB d = true) : coreB (doD d x).1 = true := by
 cases h2 : callB x with
 | false => rw [doD_bad (Or.inr h2)]; exact h1
 | true =>
  cases h3 : offersF (coreF d) (wantF x.fMethod) with
  | false => rw [doD_fail h1 h2 h3]; exact h1
  | true => rw [doD_good h1 h2 h3]; exact mthD_core h1 h2 h3
theorem mthD_code (d : CoreD) (x : CallD) : (mthD d x).2.fCode ≠ 1 ∧ (mthD d x).2.fCode ≠ 7 := by
 unfold mthD startD stopD getD1 putD tellD hearD loadD saveD healD idleI
 repeat' split
 all_goals simp [rC, rV, rT]
abbrev nCounts : List UInt8 := [99, 111, 117, 110, 116, 115]
abbrev nLazy : List UInt8 := [108, 97, 122, 121]
abbrev nReads : List UInt8 := [114, 101, 97, 100, 115]
abbrev nHears : List UInt8 := [104, 101, 97, 114, 115]
abbrev nHeals : List UInt8 := [104, 101, 97, 108, 115]
abbrev nTwice : List UInt8 := [116, 119, 105, 99, 101]
def keptB (m : List UInt8) : Bool := m == mGet || m == mPut
def cX (m : List UInt8) : CallD := ⟨m, [], 0, []⟩
def updL (p : PartD) (n : Nat) : PartD := ⟨p.fCore, p.fLayers.set n ⟨(p.fLayers.getD n default).fName, upI (p.fLayers.getD n default).fCount⟩⟩
def cntL (p : PartD) (n : Nat) : Int := (p.fLayers.getD n default).fCount
def nmL (p : PartD) (n : Nat) : List UInt8 := (p.fLayers.getD n default).fName
def twR (r : ReplyD) : ReplyD := if r.fCode = 0 then { r with fValue := if 2 * r.fValue < 999 then 2 * r.fValue else 999 } else r
def lyDo : Nat → PartD → CallD → PartD × ReplyD
 | 0, p, x => (⟨(doD p.fCore x).1, p.fLayers⟩, (doD p.fCore x).2)
 | n + 1, p, x =>
  if nmL p n = nCounts ∧ x.fMethod = mTell then (p, ⟨0, cntL p n, [], 0, 0⟩)
  else if nmL p n = nCounts ∧ keptB x.fMethod = true then (updL (lyDo n p x).1 n, (lyDo n p x).2)
  else if nmL p n = nLazy ∧ keptB x.fMethod = true then (if (lyDo n p x).2.fCode = 2 then lyDo n (lyDo n (lyDo n p x).1 (cX mStart)).1 x else lyDo n p x)
  else if nmL p n = nReads ∧ x.fMethod = mPut then (p, rC 6)
  else if nmL p n = nHears ∧ x.fMethod = mHear then (if 1 < x.fValue then (updL p n, ⟨0, cntL (updL p n) n, [], 0, 0⟩) else lyDo n (updL p n) (cX (if x.fValue = 0 then mStop else mStart)))
  else if nmL p n = nHeals ∧ x.fMethod = mHeal then lyDo n (lyDo n p (cX mStop)).1 (cX mStart)
  else if nmL p n = nTwice ∧ x.fMethod = mTell then ((lyDo n p x).1, twR (lyDo n p x).2)
  else lyDo n p x
theorem nmL_upd (p : PartD) (n m : Nat) : nmL (updL p n) m = nmL p m := by
 unfold nmL updL
 simp only [List.getD_eq_getElem?_getD, List.getElem?_set]
 split
 ·rename_i h; subst h
  split
  ·rfl
  ·rename_i h; rw [List.getElem?_eq_none (by omega)]
 ·rfl
theorem names_upd (p : PartD) (n : Nat) : (updL p n).fLayers.map (·.fName) = p.fLayers.map (·.fName) := by
 refine List.ext_getElem (by simp [updL]) fun i h1 h2 => ?_
 simp only [List.getElem_map]
 have h3 : i < p.fLayers.length := by simpa using h2
 have h4 : i < (updL p n).fLayers.length := by simpa [updL] using h3
 have e1 : nmL (updL p n) i = ((updL p n).fLayers[i]).fName := by unfold nmL; rw [List.getD_eq_getElem?_getD, List.getElem?_eq_getElem h4]; rfl
 have e2 : nmL p i = (p.fLayers[i]).fName := by unfold nmL; rw [List.getD_eq_getElem?_getD, List.getElem?_eq_getElem h3]; rfl
 rw [← e1, ← e2, nmL_upd]
theorem nmL_map {p q : PartD} (h : q.fLayers.map (·.fName) = p.fLayers.map (·.fName)) (n : Nat) : nmL q n = nmL p n := by
 unfold nmL
 have e : ∀ r : PartD, (r.fLayers.getD n default).fName = (r.fLayers.map (·.fName)).getD n (default : LayerD).fName := fun r => by
  rw [List.getD_eq_getElem?_getD, List.getD_eq_getElem?_getD, List.getElem?_map]
  cases r.fLayers[n]? <;> rfl
 rw [e, e, h]
theorem lyDo_names : ∀ (n : Nat) (p : PartD) (x : CallD), (lyDo n p x).1.fLayers.map (·.fName) = p.fLayers.map (·.fName) ∧ (lyDo n p x).1.fCore.fKind = p.fCore.fKind := by
 intro n
 induction n with
 | zero => intro p x; exact ⟨rfl, doD_kind _ _⟩
 | succ n ih =>
  intro p x
  unfold lyDo
  split
  ·exact ⟨rfl, rfl⟩
  split
  ·exact ⟨(names_upd _ _).trans (ih p x).1, (ih p x).2⟩
  split
  ·split
   ·exact ⟨(ih _ _).1.trans ((ih _ _).1.trans (ih _ _).1), (ih _ _).2.trans ((ih _ _).2.trans (ih _ _).2)⟩
   ·exact ih p x
  split
  ·exact ⟨rfl, rfl⟩
  split
  ·split
   ·exact ⟨names_upd _ _, rfl⟩
   ·exact ⟨(ih _ _).1.trans (names_upd _ _), (ih _ _).2⟩
  split
  ·exact ⟨(ih _ _).1.trans (ih _ _).1, (ih _ _).2.trans (ih _ _).2⟩
  split
  ·exact ih p x
  ·exact ih p x
theorem lyDo_len (n : Nat) (p : PartD) (x : CallD) : (lyDo n p x).1.fLayers.length = p.fLayers.length := by
 have := congrArg List.length (lyDo_names n p x).1; simpa using this
theorem faceN_map {p q : PartD} (h : q.fLayers.map (·.fName) = p.fLayers.map (·.fName)) (hk : q.fCore.fKind = p.fCore.fKind) (n : Nat) : faceN q n = faceN p n := by
 cases n with
 | zero => show kfI (kindI q.fCore.fKind) = kfI (kindI p.fCore.fKind); rw [hk]
 | succ n => exact congrArg (fun s => giveI (layI s)) (nmL_map h n)
theorem upI_numL {c : Int} (h : numB c = true) : numB (upI c) = true := by
 simp only [numB, Bool.and_eq_true, decide_eq_true_iff] at h ⊢
 unfold upI; split <;> omega
theorem part_of {p q : PartD} (hp : partB p = true) (hc : coreB q.fCore = true) (hk : q.fCore.fKind = p.fCore.fKind) (hn : q.fLayers.map (·.fName) = p.fLayers.map (·.fName))
  (hcnt : ∀ i, i < p.fLayers.length → cntB (p.fLayers.getD i default) = true → cntB (q.fLayers.getD i default) = true) : partB q = true := by
 have hl : q.fLayers.length = p.fLayers.length := by have := congrArg List.length hn; simpa using this
 have h3 := partB_len hp
 unfold partB
 rw [Bool.and_eq_true, Bool.and_eq_true]
 refine ⟨⟨hc, decide_eq_true (by omega)⟩, ?_⟩
 unfold layTo
 rw [List.all_eq_true]
 intro i hi
 rw [List.mem_range, hl] at hi
 have h4 := partB_lay hp i hi
 unfold layOk at h4 ⊢
 have e : (q.fLayers.getD i default).fName = (p.fLayers.getD i default).fName := nmL_map hn i
 rw [faceN_map hn hk, e]
 simp only [Bool.and_eq_true] at h4 ⊢
 exact ⟨h4.1, hcnt i hi h4.2⟩
theorem upd_getD (p : PartD) (n i : Nat) (hn : n < p.fLayers.length) : (updL p n).fLayers.getD i default = if i = n then ⟨nmL p n, upI (cntL p n)⟩ else p.fLayers.getD i default := by
 unfold updL nmL cntL
 simp only [List.getD_eq_getElem?_getD, List.getElem?_set]
 by_cases h : n = i
 ·subst h; simp [hn]
 ·rw [if_neg h, if_neg (fun e => h e.symm)]
theorem upd_part {p : PartD} (hp : partB p = true) (n : Nat) (hn : n < p.fLayers.length) (hc : countedB (nmL p n) = true) : partB (updL p n) = true := by
 refine part_of hp (show coreB p.fCore = true from partB_core hp) rfl (names_upd p n) fun i hi h => ?_
 rw [upd_getD p n i hn]
 split
 ·rename_i e; subst e
  unfold cntB at h ⊢
  rw [if_pos (show countedB (p.fLayers.getD i default).fName = true from hc)] at h
  rw [if_pos (show countedB (⟨nmL p i, upI (cntL p i)⟩ : LayerD).fName = true from hc)]
  exact upI_numL h
 ·exact h
theorem counts_counted : countedB nCounts = true := by decide
theorem hears_counted : countedB nHears = true := by decide
theorem lyDo_part : ∀ (n : Nat) (p : PartD) (x : CallD), n ≤ p.fLayers.length → partB p = true → partB (lyDo n p x).1 = true := by
 intro n
 induction n with
 | zero =>
  intro p x _ hp
  exact part_of hp (doD_core x (partB_core hp)) (doD_kind _ _) rfl fun i _ h => h
 | succ n ih =>
  intro p x hn hp
  have hn' : n ≤ p.fLayers.length := by omega
  have hL : ∀ q y, (lyDo n q y).1.fLayers.length = q.fLayers.length := fun q y => lyDo_len n q y
  unfold lyDo
  split
  ·exact hp
  split
  ·rename_i h
   refine upd_part (ih p x hn' hp) n (by rw [hL]; omega) ?_
   rw [nmL_map (lyDo_names n p x).1, h.1]; exact counts_counted
  split
  ·split
   ·exact ih _ _ (by rw [hL, hL]; exact hn') (ih _ _ (by rw [hL]; exact hn') (ih p x hn' hp))
   ·exact ih p x hn' hp
  split
  ·exact hp
  split
  ·rename_i h
   have hu : partB (updL p n) = true := upd_part hp n (by omega) (by rw [h.1]; exact hears_counted)
   split
   ·exact hu
   ·exact ih _ _ (by have := congrArg List.length (names_upd p n); simp at this; omega) hu
  split
  ·exact ih _ _ (by rw [hL]; exact hn') (ih _ _ hn' hp)
  split
  ·exact ih p x hn' hp
  ·exact ih p x hn' hp
theorem updL_comm (p : PartD) (n m : Nat) (h : n ≠ m) : updL (updL p n) m = updL (updL p m) n := by
 have e : ∀ (q : PartD) (i j : Nat), i ≠ j → (updL q i).fLayers.getD j default = q.fLayers.getD j default := fun q i j hij => by
  unfold updL; simp only [List.getD_eq_getElem?_getD, List.getElem?_set_ne hij]
 show (⟨p.fCore, (updL p n).fLayers.set m ⟨((updL p n).fLayers.getD m default).fName, upI ((updL p n).fLayers.getD m default).fCount⟩⟩ : PartD) = ⟨p.fCore, (updL p m).fLayers.set n ⟨((updL p m).fLayers.getD n default).fName, upI ((updL p m).fLayers.getD n default).fCount⟩⟩
 rw [e p n m h, e p m n (fun e => h e.symm)]
 unfold updL
 simp only
 rw [List.set_comm _ _ h]
theorem cntL_upd (p : PartD) (n m : Nat) (h : m ≠ n) : cntL (updL p m) n = cntL p n := by
 unfold cntL updL; simp only [List.getD_eq_getElem?_getD, List.getElem?_set_ne h]
theorem lyDo_upd : ∀ (n : Nat) (p : PartD) (x : CallD) (m : Nat), n ≤ m → lyDo n (updL p m) x = (updL (lyDo n p x).1 m, (lyDo n p x).2) := by
 intro n
 induction n with
 | zero => intro p x m _; rfl
 | succ n ih =>
  intro p x m hm
  have h1 : ∀ q y, lyDo n (updL q m) y = (updL (lyDo n q y).1 m, (lyDo n q y).2) := fun q y => ih q y m (by omega)
  have hne : m ≠ n := by omega
  have hc : ∀ q, updL (updL q m) n = updL (updL q n) m := fun q => updL_comm q m n hne
  unfold lyDo
  rw [nmL_upd]
  split
  ·rw [cntL_upd p n m hne]
  split
  ·rw [h1]; simp only; rw [hc]
  split
  ·rw [h1]; simp only
   split
   ·rw [h1]; simp only; rw [h1]
   ·rfl
  split
  ·rfl
  split
  ·rw [hc]
   split
   ·rw [cntL_upd _ n m hne]
   ·exact h1 _ _
  split
  ·rw [h1]; simp only; exact h1 _ _
  split
  ·rw [h1]
  ·exact h1 p x
theorem keptB_tell : keptB mTell = false := by decide
theorem lyDo_tell : ∀ (n : Nat) (p : PartD) (x : CallD), x.fMethod = mTell → n ≤ p.fLayers.length → partB p = true → 0 ≤ (lyDo n p x).2.fValue ∧ (lyDo n p x).2.fValue ≤ 999 := by
 intro n
 induction n with
 | zero =>
  intro p x hx _ hp
  have hc := partB_core hp
  have hcnt : 0 ≤ p.fCore.fCount ∧ p.fCore.fCount ≤ 999 := by
   simp only [coreB, Bool.and_eq_true] at hc; simpa [numB] using hc.1.2
  show 0 ≤ (doD p.fCore x).2.fValue ∧ (doD p.fCore x).2.fValue ≤ 999
  unfold doD
  split
  ·unfold doV
   split
   ·have e : mthD p.fCore x = tellD p.fCore := by unfold mthD; rw [hx]; rfl
    rw [e]; exact hcnt
   ·show (0 : Int) ≤ 0 ∧ (0 : Int) ≤ 999
    decide
  ·show (0 : Int) ≤ 0 ∧ (0 : Int) ≤ 999
   decide
 | succ n ih =>
  intro p x hx hn hp
  have h1 := ih p x hx (by omega) hp
  have hk : ¬ keptB x.fMethod = true := by rw [hx, keptB_tell]; decide
  unfold lyDo
  split
  ·have h2 := partB_lay hp n (by omega)
   unfold layOk at h2
   simp only [Bool.and_eq_true] at h2
   have h3 := h2.2
   unfold cntB at h3
   show 0 ≤ cntL p n ∧ cntL p n ≤ 999
   unfold cntL
   split at h3
   ·simpa [numB] using h3
   ·have : (p.fLayers.getD n default).fCount = 0 := by simpa using h3
    omega
  rw [if_neg (fun h => hk h.2), if_neg (fun h => hk h.2), if_neg (fun h => by rw [hx] at h; exact absurd h.2 (by decide)), if_neg (fun h => by rw [hx] at h; exact absurd h.2 (by decide)), if_neg (fun h => by rw [hx] at h; exact absurd h.2 (by decide))]
  split
  ·unfold twR
   simp only
   split
   ·simp only; split <;> omega
   ·exact h1
  ·exact h1
end Go.Proofs.YtcpbikilgacdlaaGreat
namespace Go.Proofs.YtcpbikilgacdlaaGreat
set_option linter.unusedVariables false
open Go.RowKit
structure KeptT (N b : Nat) (w w' : World) : Prop where
 os : w'.os = w.os
 tape : w'.tape = w.tape
 output : w'.output = w.output
 size : w.heap.size ≤ w'.heap.size
 low : ∀ k, k < N → w'.heap[k]? = w.heap[k]?
 typed : ∀ k c T, w.heap[k]? = some (.cells c T (0, 0)) → k ≠ b → 139 ≠ T → 86 ≠ T → w'.heap[k]? = w.heap[k]?
theorem KeptT.refl (N b : Nat) (w : World) : KeptT N b w w := ⟨rfl, rfl, rfl, Nat.le_refl _, fun _ _ => rfl, fun _ _ _ _ _ _ _ => rfl⟩
theorem KeptT.trans {N b : Nat} {w w1 w2 : World} (h : KeptT N b w w1) (k : KeptT N b w1 w2) : KeptT N b w w2 :=
 ⟨k.os.trans h.os, k.tape.trans h.tape, k.output.trans h.output, Nat.le_trans h.size k.size, fun i hi => (k.low i hi).trans (h.low i hi), fun i c T h1 h2 h3 h4 => (k.typed i c T ((h.typed i c T h1 h2 h3 h4).trans h1) h2 h3 h4).trans (h.typed i c T h1 h2 h3 h4)⟩
theorem heap_lt {w : World} {k : Nat} {o : Obj} (h : w.heap[k]? = some o) : k < w.heap.size := (Array.getElem?_eq_some_iff.1 h).1
theorem KeptT.of_below {N b : Nat} {w w' : World} (hb : Below w.heap.size w w') (hN : N ≤ w.heap.size) : KeptT N b w w' :=
 ⟨hb.os, hb.tape, hb.output, hb.size, fun k hk => hb.block k (by omega), fun k c T h _ _ _ => hb.block k (heap_lt h)⟩
theorem KeptT.below {N b : Nat} {w w1 w' : World} (h : KeptT N b w w1) (hb : Below w1.heap.size w1 w') (hN : N ≤ w.heap.size) : KeptT N b w w' := h.trans (KeptT.of_below hb (Nat.le_trans hN h.size))
theorem KeptT.ahead {N b : Nat} {w w0 w1 : World} (hb : Below w.heap.size w w0) (hN : N ≤ w.heap.size) (h : KeptT N b w0 w1) : KeptT N b w w1 := (KeptT.of_below hb hN).trans h
theorem KeptT.setNew {N b : Nat} {w w1 : World} (h : KeptT N b w w1) (hN : N ≤ w.heap.size) (g o : Nat) (u : Value) (hg : w.heap.size ≤ g) : KeptT N b w (w1.setCell ⟨g, o, none⟩ u) :=
 ⟨h.os, h.tape, h.output, by simpa using h.size, fun k hk => by
  rw [Below.heap_setCell w1 ⟨g, o, none⟩ u k (fun e => by have e : k = g := e; omega)]; exact h.low k hk, fun k c T h1 h2 h3 h4 => by
  have := heap_lt h1
  rw [Below.heap_setCell w1 ⟨g, o, none⟩ u k (fun e => by have e : k = g := e; omega)]; exact h.typed k c T h1 h2 h3 h4⟩
theorem KeptT.toBelow {N b : Nat} {w w' : World} (h : KeptT N b w w') : Below N w w' := ⟨h.os, h.tape, h.output, h.size, h.low⟩
theorem ownsF_block {α : Type} {f : α → List Value} {E k : Nat} {w w' : World} {B : Nat} {v : Value} {l : List α} (h : OwnsF f E k w B v l) (hw : ∀ g, v.ownBlock = some g → w'.heap[g]? = w.heap[g]?) : OwnsF f E k w' B v l := by
 refine ⟨h.1, ?_⟩
 rcases h.2 with ⟨rfl, hn⟩ | ⟨g, cap, cur, rfl, hb, hg, rest⟩
 ·exact Or.inl ⟨rfl, hn⟩
 ·exact Or.inr ⟨g, cap, cur, rfl, hb, (hw g rfl).trans hg, rest⟩
structure PSt (N b : Nat) (lv cv : Value) (p : PartD) (w : World) : Prop where
 core : CoreSt N b cv p.fCore w
 c5 : w.cell? ⟨b, 5, none⟩ = some lv
 own : OwnsF cLayer 86 2 w N lv p.fLayers
 ne : lv.ownBlock ≠ some b
theorem PSt.apart {N b : Nat} {lv cv : Value} {p : PartD} {w : World} (h : PSt N b lv cv p w) : ∀ g, lv.ownBlock = some g → cv.ownBlock ≠ some g := by
 intro g e e2
 rcases rows_apart h.own h.core.own (by decide) with h1 | h1
 ·rw [h1] at e; cases e
 ·exact h1 (by rw [e, e2])
theorem PSt.below {N b : Nat} {lv cv : Value} {p : PartD} {w w' : World} (h : PSt N b lv cv p w) (hb : Below w.heap.size w w') : PSt N b lv cv p w' :=
 ⟨h.core.below hb, (hb.cell (p := ⟨b, 5, none⟩) h.core.box.lt).trans h.c5, ownsF_below h.own hb (Nat.le_refl _), h.ne⟩
theorem PSt.coreDone {N b : Nat} {lv cv cv' : Value} {p : PartD} {d : CoreD} {w w' : World} (h : PSt N b lv cv p w) (hs : CoreSt N b cv' d w') (hk : Kept2 w w' (some b) cv.ownBlock) : PSt N b lv cv' ⟨d, p.fLayers⟩ w' ∧ KeptT N b w w' := by
 refine ⟨⟨hs, (hk.tail b 5 h.core.box.lt rfl (h.core.ne) (by decide)).1.trans h.c5, ownsF_block h.own fun g e => ?_, h.ne⟩, ⟨hk.os, hk.tape, hk.output, hk.size, fun k h1 => hk.block k (by have := h.core.ge; have := h.core.box.lt; omega) (fun e => by injection e with e; have := h.core.ge; omega) (fun e => by have := (World.ownsRow.lt h.core.own k e.symm).1; omega), fun k c T h1 h2 h3 h4 => hk.block k (heap_lt h1) (fun e => h2 (by injection e)) (fun e => row_ne h.core.own h1 (fun e => h3 e.symm) e.symm)⟩⟩
 have hlt := (World.ownsRow.lt h.own g e).2
 exact hk.block g hlt (fun e2 => by injection e2 with e2; subst e2; exact h.ne e) (fun e2 => h.apart g e e2.symm)
structure Loc (w : World) (n : Nat) (T : TypeId) (cs : List Value) : Prop where
 bx : Bx w n cs
 ty : ∃ c, w.heap[n]? = some (.cells c T (0, 0))
theorem Loc.new (w : World) (cs : List Value) (T : TypeId) : Loc (w.alloc (.cells cs.toArray T)) w.heap.size T cs := ⟨Bx.new w cs T, _, heap_alloc_new w _⟩
theorem Loc.below {w w' : World} {n : Nat} {T : TypeId} {cs : List Value} (h : Loc w n T cs) (hb : Below w.heap.size w w') : Loc w' n T cs := ⟨h.bx.below hb, by obtain ⟨c, hc⟩ := h.ty; exact ⟨c, (hb.block n h.bx.lt).trans hc⟩⟩
theorem Loc.past {w : World} {n : Nat} {T : TypeId} {cs : List Value} (h : Loc w n T cs) (o : Obj) : Loc (w.alloc o) n T cs := h.below (bx_box _ _)
theorem Loc.other {w : World} {n g : Nat} {T : TypeId} {cs : List Value} (h : Loc w n T cs) (hne : n ≠ g) (o : Nat) (u : Value) : Loc (w.setCell ⟨g, o, none⟩ u) n T cs :=
 ⟨h.bx.other hne o u, by obtain ⟨c, hc⟩ := h.ty; exact ⟨c, (Below.heap_setCell w ⟨g, o, none⟩ u n (fun e => hne e)).trans hc⟩⟩
theorem Loc.set {w : World} {n : Nat} {T : TypeId} {cs : List Value} (h : Loc w n T cs) (j : Nat) (hj : j < cs.length) (u : Value) : Loc (w.setCell ⟨n, j, none⟩ u) n T (cs.set j u) :=
 ⟨h.bx.set j hj u, by obtain ⟨c, hc⟩ := h.ty; exact ⟨_, heap_setCell_same w n j c T u hc⟩⟩
theorem row_neT {α : Type} {f : α → List Value} {E k : Nat} {w : World} {N n : Nat} {v : Value} {l : List α} {T : TypeId} {cs : List Value} (h : OwnsF f E k w N v l) (hL : Loc w n T cs) (hne : E ≠ T) : v.ownBlock ≠ some n := by
 intro e
 rcases h.2 with ⟨rfl, _⟩ | ⟨g, cap, cur, rfl, _, hg, _⟩
 ·simp [Value.ownBlock] at e
 ·have e2 : g = n := by simpa [Value.ownBlock] using e
  subst e2
  obtain ⟨c, hc⟩ := hL.ty
  rw [hg] at hc
  injection hc with hc; injection hc with h1 h2 h3; exact hne h2
theorem Loc.stays {w w' : World} {N n b : Nat} {T : TypeId} {cs : List Value} (h : Loc w n T cs) (hk : KeptT N b w w') (h1 : n ≠ b) (hC : 139 ≠ T) (hL : 86 ≠ T) : Loc w' n T cs := by
 obtain ⟨c, hc⟩ := h.ty
 have e := hk.typed n c T hc h1 hC hL
 exact ⟨⟨Nat.lt_of_lt_of_le h.bx.lt hk.size, fun j hj => (World.cell?_of_block e).trans (h.bx.cell j hj), fun j hj => (World.frozen?_of_block e).trans (h.bx.froz j hj)⟩, c, e.trans hc⟩
structure Ready (mx : Int) (N b : Nat) (lv cv : Value) (k0 : List UInt8) (nms : List (List UInt8)) (p : PartD) (w : World) : Prop where
 st : PSt N b lv cv p w
 hN : N ≤ w.heap.size
 ok : partB p = true
 kind : p.fCore.fKind = k0
 names : p.fLayers.map (·.fName) = nms
 gN : 0 < N
 hM : w.cell? ⟨0, 0, none⟩ = some (.int .i64 mx)
theorem Ready.below {mx : Int} {N b : Nat} {lv cv : Value} {k0 : List UInt8} {nms : List (List UInt8)} {p : PartD} {w w' : World} (h : Ready mx N b lv cv k0 nms p w) (hb : Below w.heap.size w w') : Ready mx N b lv cv k0 nms p w' :=
 ⟨h.st.below hb, Nat.le_trans h.hN hb.size, h.ok, h.kind, h.names, h.gN, (hb.cell (p := ⟨0, 0, none⟩) (Nat.lt_of_lt_of_le h.gN h.hN)).trans h.hM⟩
theorem Ready.next {mx : Int} {N b : Nat} {lv cv cv' : Value} {k0 : List UInt8} {nms : List (List UInt8)} {p q : PartD} {w w' : World} (h : Ready mx N b lv cv k0 nms p w) (hs : PSt N b lv cv' q w') (hk : KeptT N b w w') (ho : partB q = true) (h1 : q.fCore.fKind = p.fCore.fKind) (h2 : q.fLayers.map (·.fName) = p.fLayers.map (·.fName)) : Ready mx N b lv cv' k0 nms q w' := by
 refine ⟨hs, Nat.le_trans h.hN hk.size, ho, h1.trans h.kind, h2.trans h.names, h.gN, ?_⟩
 have hb := hk.toBelow
 exact (hb.cell (p := ⟨0, 0, none⟩) h.gN).trans h.hM
def Does4 (N b : Nat) (lv : Value) (out : PartD × ReplyD) (w : World) (e : Ending) (w' : World) : Prop :=
 e = .returned (vReply out.2) ∧ ∃ cv', PSt N b lv cv' out.1 w' ∧ KeptT N b w w'
def MthOk (mx : Int) (N b : Nat) (lv : Value) (k0 : List UInt8) (nms : List (List UInt8)) (n : Nat) (Fs : List FuncId) (T : TypeId) (V : Value) (nm : String) (args : Array Value) (x : CallD) : Prop :=
 ∃ (F : FuncId) (rcv : Value), F ∈ Fs ∧ (∀ (fuel : Nat) (w : World), (method (fuel + n + 1) T V nm).run Tryz.prog w = .ok (F, rcv) w) ∧ (∀ (fuel : Nat) (w : World), (nilAhead (fuel + n + 1) T V nm).run Tryz.prog w = .ok (some false) w) ∧
  ∀ (p : PartD) (cv : Value) (w : World), Ready mx N b lv cv k0 nms p w → Calls Tryz.prog F (#[rcv] ++ args) w fun e w' => Does4 N b lv (lyDo n p x) w e w'
end Go.Proofs.YtcpbikilgacdlaaGreat
namespace Go.Proofs.YtcpbikilgacdlaaGreat
set_option linter.unusedVariables false
set_option linter.unusedSimpArgs false
open Go.RowKit
theorem flat_set2 {α : Type} {f : α → List Value} (hk : ∀ y, (f y).length = 2) (x : List α) (j : Nat) (hj : j < x.length) (z : α) (u : Value) (hz : f z = (f x[j]).set 1 u) : (x.flatMap f).set (j * 2 + 1) u = (x.set j z).flatMap f := by
 refine List.ext_getElem? fun m => ?_
 have hm : m / 2 * 2 + m % 2 = m := by omega
 have hr : m % 2 < 2 := Nat.mod_lt _ (by decide)
 by_cases hq : m / 2 < x.length
 ·have e1 := flat_get f 2 hk x (m / 2) hq (m % 2) hr
  have e2 := flat_get f 2 hk (x.set j z) (m / 2) (by simpa using hq) (m % 2) hr
  rw [hm] at e1 e2
  rw [e2, List.getElem?_set]
  by_cases hjm : j * 2 + 1 = m
  ·subst hjm
   have hjj : (j * 2 + 1) / 2 = j := by omega
   have hjr : (j * 2 + 1) % 2 = 1 := by omega
   have hlen := flat_len f 2 hk x
   simp only [hjj, hjr, List.getElem_set_self, if_true]
   rw [if_pos (by rw [hlen]; omega), hz, List.getElem?_set]
   simp [hk]
  ·rw [if_neg hjm, e1, List.getElem_set]
   split
   ·rename_i hjq
    have hmr : m % 2 = 0 := by omega
    rw [hz, hmr, List.getElem?_set_ne (by decide)]
    subst hjq; rfl
   ·rfl
 ·have hlen := flat_len f 2 hk x
  have hlen2 := flat_len f 2 hk (x.set j z)
  rw [List.getElem?_eq_none (by rw [List.length_set, hlen]; omega), List.getElem?_eq_none (by rw [hlen2, List.length_set]; omega)]
theorem PSt.lay {N b g m cap : Nat} {cv : Value} {p : PartD} {w : World} (h : PSt N b (.slice (some ⟨g, 0, none⟩) m cap) cv p w) (i : Nat) (hi : i < p.fLayers.length) :
  w.cell? ⟨g, i * 2, none⟩ = some (.string ⟨(nmL p i).toArray⟩) ∧ w.cell? ⟨g, i * 2 + 1, none⟩ = some (.int .i64 (cntL p i)) ∧ w.frozen? ⟨g, i * 2 + 1, none⟩ = false ∧ g < w.heap.size ∧ g ≠ b ∧ m = p.fLayers.length ∧ N ≤ g := by
 have hl := h.own.1
 have hm : m = p.fLayers.length := by
  rcases h.own.2 with ⟨e, hn⟩ | ⟨g2, cap2, cur, e, _⟩
  ·injection e with e1; cases e1
  ·injection e
 subst hm
 have e : p.fLayers.getD i default = p.fLayers[i] := by rw [List.getD_eq_getElem?_getD, List.getElem?_eq_getElem hi]; rfl
 have f0 := flat_get cLayer 2 cLayer_len p.fLayers i hi 0 (by decide)
 have f1 := flat_get cLayer 2 cLayer_len p.fLayers i hi 1 (by decide)
 refine ⟨?_, ?_, World.ownsRow.frozenAt h.own _, (World.ownsRow.lt h.own g rfl).2, fun e => h.ne (by rw [e]; rfl), rfl, (World.ownsRow.lt h.own g rfl).1⟩
 ·rw [World.ownsRow.cellAt h.own (i * 2) (by omega)]
  rw [Nat.add_zero] at f0; rw [f0]; unfold nmL; rw [e]; rfl
 ·rw [World.ownsRow.cellAt h.own (i * 2 + 1) (by omega), f1]; unfold cntL; rw [e]; rfl
theorem PSt.cnt {N b g m cap : Nat} {cv : Value} {p : PartD} {w : World} (h : PSt N b (.slice (some ⟨g, 0, none⟩) m cap) cv p w) (i : Nat) (hi : i < p.fLayers.length) :
  PSt N b (.slice (some ⟨g, 0, none⟩) m cap) cv (updL p i) (w.setCell ⟨g, i * 2 + 1, none⟩ (.int .i64 (upI (cntL p i)))) ∧ KeptT N b w (w.setCell ⟨g, i * 2 + 1, none⟩ (.int .i64 (upI (cntL p i)))) := by
 obtain ⟨_, _, _, hgl, hgb, hm, hNg⟩ := h.lay i hi
 subst hm
 have hs := World.ownsRow.stored h.own (i * 2 + 1) (.int .i64 (upI (cntL p i)))
 have hap := h.apart g rfl
 have hblk : ∀ k, k ≠ g → (w.setCell ⟨g, i * 2 + 1, none⟩ (.int .i64 (upI (cntL p i)))).heap[k]? = w.heap[k]? := fun k hk => Below.heap_setCell w ⟨g, i * 2 + 1, none⟩ _ k (fun e => hk e)
 refine ⟨⟨⟨h.core.box.keep (hblk b (fun e => hgb e.symm)), ownsF_block h.core.own fun k e => hblk k (fun e2 => hap (by rw [e, e2])), h.core.ne, h.core.ge⟩, (World.cell?_of_block (hblk b (fun e => hgb e.symm))).trans h.c5, ?_, h.ne⟩,
  ⟨rfl, rfl, rfl, by simp, fun k hk => hblk k (by omega), fun k c T h1 h2 h3 h4 => hblk k (fun e => ?_)⟩⟩
 ·unfold OwnsF updL
  simp only [List.length_set]
  have e : p.fLayers.getD i default = p.fLayers[i] := by rw [List.getD_eq_getElem?_getD, List.getElem?_eq_getElem hi]; rfl
  rw [← flat_set2 cLayer_len p.fLayers i hi ⟨(p.fLayers.getD i default).fName, upI (p.fLayers.getD i default).fCount⟩ (.int .i64 (upI (cntL p i))) (by rw [e]; unfold cntL; rw [e]; rfl)]
  exact hs.1
 ·subst e
  rcases h.own.2 with ⟨e, hn⟩ | ⟨g2, cap2, cur, e, _, hg2, _⟩
  ·injection e with e1; cases e1
  ·injection e with e1 _ _; injection e1 with e1; injection e1 with e1 _ _; subst e1
   rw [hg2] at h1; injection h1 with h1; injection h1 with _ e3 _; exact h4 e3
theorem cnt_range {p : PartD} (h : partB p = true) (i : Nat) (hi : i < p.fLayers.length) : 0 ≤ cntL p i ∧ cntL p i ≤ 999 := by
 have h1 := partB_lay h i hi
 unfold layOk at h1
 simp only [Bool.and_eq_true] at h1
 have h2 := h1.2
 unfold cntB at h2
 unfold cntL
 split at h2
 ·simpa [numB] using h2
 ·have : (p.fLayers.getD i default).fCount = 0 := by simpa using h2
  omega
set_option maxRecDepth 100000 in
set_option maxHeartbeats 1600000 in
theorem countCall_c (N b g m cap i : Nat) (cv : Value) (p : PartD) (w : World) (h : PSt N b (.slice (some ⟨g, 0, none⟩) m cap) cv p w) (hN : N ≤ w.heap.size) (hi : i < p.fLayers.length) (hr : 0 ≤ cntL p i ∧ cntL p i ≤ 999) :
  Calls Tryz.prog 229 #[.agg #[.pointer (some ⟨g, i * 2, none⟩)]] w fun e w' => e = .returned (.tuple #[]) ∧ PSt N b (.slice (some ⟨g, 0, none⟩) m cap) cv (updL p i) w' ∧ KeptT N b w w' := by
 obtain ⟨_, d1, z1, hgl, _, hm0, _⟩ := h.lay i hi
 clear hm0
 have HC := Lib.hid (h.cnt i hi)
 have HK := Lib.hid h
 have hNs := Lib.hid hN
 obtain ⟨r0, r1⟩ := hr
 clear h hN
 by_cases hn : cntL p i < 999
 ·have hu : upI (cntL p i) = cntL p i + 1 := if_pos hn
  have hw : IntKind.i64.wrap (cntL p i + 1) = cntL p i + 1 := by rw [IntKind.wrap_i64]; omega
  rw [hu] at HC
  generalize cntL p i = c at *
  go_enter Tryz.func229, Tryz.ntmps229
  go_wp2_with fail
  go_end0
  exact ⟨rfl, HC.out.1.below (bx_box _ _), HC.out.2.below (bx_box _ _) hNs.out⟩
 ·have hu : upI (cntL p i) = cntL p i := if_neg hn
  have he : updL p i = p := by
   unfold updL
   obtain ⟨pc, pl⟩ := p
   simp only at hi ⊢
   unfold cntL at hu
   simp only at hu
   rw [hu]
   congr 1
   rw [List.getD_eq_getElem?_getD, List.getElem?_eq_getElem hi]
   exact List.set_getElem_self hi
  rw [he]
  generalize cntL p i = c at *
  go_enter Tryz.func229, Tryz.ntmps229
  go_wp2_with fail
  go_end0
  exact ⟨rfl, HK.out.below (bx_box _ _), KeptT.of_below (bx_box _ _) hNs.out⟩
theorem PSt.setL {N b n : Nat} {lv cv : Value} {p : PartD} {w : World} {T : TypeId} {cs : List Value} (h : PSt N b lv cv p w) (hL : Loc w n T cs) (hne : n ≠ b) (hC : 139 ≠ T) (hY : 86 ≠ T) (j : Nat) (u : Value) : PSt N b lv cv p (w.setCell ⟨n, j, none⟩ u) := by
 have hblk : ∀ k, k ≠ n → (w.setCell ⟨n, j, none⟩ u).heap[k]? = w.heap[k]? := fun k hk => Below.heap_setCell w ⟨n, j, none⟩ _ k (fun e => hk e)
 exact ⟨⟨h.core.box.keep (hblk b (fun e => hne e.symm)), ownsF_block h.core.own fun k e => hblk k (fun e2 => row_neT h.core.own hL hC (by rw [e, e2])), h.core.ne, h.core.ge⟩, (World.cell?_of_block (hblk b (fun e => hne e.symm))).trans h.c5, ownsF_block h.own fun k e => hblk k (fun e2 => row_neT h.own hL hY (by rw [e, e2])), h.ne⟩
theorem done5 {N b n : Nat} {lv cv : Value} {q : PartD} {w w1 : World} {c0 c1 c2 c3 c4 : Value} (r : ReplyD) (h : PSt N b lv cv q w1) (hk : KeptT N b w w1) (hL : Loc w1 n 39 [c0, c1, c2, c3, c4]) (hne : n ≠ b) (hn : w.heap.size ≤ n) (hN : N ≤ w.heap.size) (u0 u1 u2 u3 u4 : Value) :
  Does4 N b lv (q, r) w (.returned (vReply r)) (((((w1.setCell ⟨n, 0, none⟩ u0).setCell ⟨n, 1, none⟩ u1).setCell ⟨n, 2, none⟩ u2).setCell ⟨n, 3, none⟩ u3).setCell ⟨n, 4, none⟩ u4) := by
 have a0 := h.setL hL hne (by decide) (by decide) 0 u0
 have L0 := hL.set 0 (by simp) u0
 have a1 := a0.setL L0 hne (by decide) (by decide) 1 u1
 have L1 := L0.set 1 (by simp) u1
 have a2 := a1.setL L1 hne (by decide) (by decide) 2 u2
 have L2 := L1.set 2 (by simp) u2
 have a3 := a2.setL L2 hne (by decide) (by decide) 3 u3
 have L3 := L2.set 3 (by simp) u3
 have a4 := a3.setL L3 hne (by decide) (by decide) 4 u4
 exact ⟨rfl, cv, a4, ((((hk.setNew hN n 0 u0 hn).setNew hN n 1 u1 hn).setNew hN n 2 u2 hn).setNew hN n 3 u3 hn).setNew hN n 4 u4 hn⟩
theorem Ready.len {mx : Int} {N b : Nat} {lv cv : Value} {k0 : List UInt8} {nms : List (List UInt8)} {p : PartD} {w : World} (h : Ready mx N b lv cv k0 nms p w) : p.fLayers.length = nms.length := by
 have := congrArg List.length h.names; simpa using this
theorem Ready.nm {mx : Int} {N b : Nat} {lv cv : Value} {k0 : List UInt8} {nms : List (List UInt8)} {p : PartD} {w : World} (h : Ready mx N b lv cv k0 nms p w) (n : Nat) : nmL p n = nms.getD n [] := by
 rw [← h.names]
 unfold nmL
 rw [List.getD_eq_getElem?_getD, List.getD_eq_getElem?_getD, List.getElem?_map]
 cases p.fLayers[n]? <;> rfl
abbrev FsStart : List FuncId := [194]
abbrev FsStop : List FuncId := [195]
abbrev FsGet : List FuncId := [197, 232, 235]
abbrev FsPut : List FuncId := [198, 233, 236, 237]
abbrev FsTell : List FuncId := [206, 234, 240]
end Go.Proofs.YtcpbikilgacdlaaGreat
namespace Go.Proofs.YtcpbikilgacdlaaGreat
set_option linter.unusedVariables false
open Go.RowKit
set_option maxRecDepth 100000 in
set_option maxHeartbeats 3200000 in
theorem implIsCall_Start (key : List UInt8) (v : Int) (text : List UInt8) (w : World) (hk : key.length ≤ maxLen) :
  Calls Tryz.prog 44 #[.agg #[.string ⟨#[83, 116, 97, 114, 116]⟩, .string ⟨key.toArray⟩, .int .i64 v, .string ⟨text.toArray⟩]] w fun e w' => e = .returned (.bool (callB ⟨mStart, key, v, text⟩)) ∧ Below w.heap.size w w' := by
 have HR := Lib.hid (show callB ⟨mStart, key, v, text⟩ = (key.isEmpty && (v == 0) && (text.isEmpty || false)) from rfl)
 have HW := Lib.hid (show ∀ w0, Calls Tryz.prog 46 #[.string ⟨#[83, 116, 97, 114, 116]⟩] w0 fun e w' => e = .returned (.int .i64 1) ∧ Below w0.heap.size w0 w' from fun w0 => implWant_b mStart 1 rfl w0)
 have HTK := Lib.hid (show ∀ w0, Calls Tryz.prog 89 #[.string ⟨#[83, 116, 97, 114, 116]⟩] w0 fun e w' => e = .returned (.bool false) ∧ w0 = w' from takesKey_b mStart _ rfl)
 have HTV := Lib.hid (show ∀ w0, Calls Tryz.prog 91 #[.string ⟨#[83, 116, 97, 114, 116]⟩] w0 fun e w' => e = .returned (.bool false) ∧ w0 = w' from takesValue_b mStart _ rfl)
 have HTT := Lib.hid (show ∀ w0, Calls Tryz.prog 93 #[.string ⟨#[83, 116, 97, 114, 116]⟩] w0 fun e w' => e = .returned (.bool false) ∧ w0 = w' from takesText_b mStart _ rfl)
 generalize callB ⟨mStart, key, v, text⟩ = res at *
 clear hk
 have HB0 := Lib.hid (show ∀ o, Below w.heap.size w (w.alloc o) from fun o => (Below.refl w.heap.size w).alloc (Nat.le_refl _) o)
 go_enter Tryz.func44, Tryz.ntmps44
 go_wp2_with fail
 refine (HW.out _).mono ?_
 rintro e w1 ⟨rfl, hb⟩
 have HB := Lib.hid ((HB0.out _).trans (hb.mono (HB0.out _).size))
 obtain ⟨hcc, _⟩ := bcell hb
 simp at hcc
 have c0 := hcc w.heap.size 0 (by omega)
 have c1 := hcc w.heap.size 1 (by omega)
 have c2 := hcc w.heap.size 2 (by omega)
 have c3 := hcc w.heap.size 3 (by omega)
 simp at c0 c1 c2 c3
 clear hb hcc
 cases key <;> cases text
 all_goals
  by_cases h0 : v = 0
  ·subst h0
   go_wp2_with (first | (go_at_call 89; (with_reducible refine (HTK.out _).mono ?_); rintro e w' ⟨rfl, rfl⟩) | (go_at_call 91; (with_reducible refine (HTV.out _).mono ?_); rintro e w' ⟨rfl, rfl⟩) | (go_at_call 93; (with_reducible refine (HTT.out _).mono ?_); rintro e w' ⟨rfl, rfl⟩))
   go_ret
   exact ⟨ret_bool (by rw [HR.out]; rfl), HB.out⟩
  ·have hv0 : (v == 0) = false := by simpa using h0
   rw [hv0] at HR
   clear h0
   go_wp2_with (first | (go_at_call 89; (with_reducible refine (HTK.out _).mono ?_); rintro e w' ⟨rfl, rfl⟩) | (go_at_call 91; (with_reducible refine (HTV.out _).mono ?_); rintro e w' ⟨rfl, rfl⟩) | (go_at_call 93; (with_reducible refine (HTT.out _).mono ?_); rintro e w' ⟨rfl, rfl⟩))
   go_ret
   exact ⟨ret_bool (by rw [HR.out]; rfl), HB.out⟩
set_option maxRecDepth 100000 in
set_option maxHeartbeats 3200000 in
theorem implIsCall_Stop (key : List UInt8) (v : Int) (text : List UInt8) (w : World) (hk : key.length ≤ maxLen) :
  Calls Tryz.prog 44 #[.agg #[.string ⟨#[83, 116, 111, 112]⟩, .string ⟨key.toArray⟩, .int .i64 v, .string ⟨text.toArray⟩]] w fun e w' => e = .returned (.bool (callB ⟨mStop, key, v, text⟩)) ∧ Below w.heap.size w w' := by
 have HR := Lib.hid (show callB ⟨mStop, key, v, text⟩ = (key.isEmpty && (v == 0) && (text.isEmpty || false)) from rfl)
 have HW := Lib.hid (show ∀ w0, Calls Tryz.prog 46 #[.string ⟨#[83, 116, 111, 112]⟩] w0 fun e w' => e = .returned (.int .i64 1) ∧ Below w0.heap.size w0 w' from fun w0 => implWant_b mStop 1 rfl w0)
 have HTK := Lib.hid (show ∀ w0, Calls Tryz.prog 89 #[.string ⟨#[83, 116, 111, 112]⟩] w0 fun e w' => e = .returned (.bool false) ∧ w0 = w' from takesKey_b mStop _ rfl)
 have HTV := Lib.hid (show ∀ w0, Calls Tryz.prog 91 #[.string ⟨#[83, 116, 111, 112]⟩] w0 fun e w' => e = .returned (.bool false) ∧ w0 = w' from takesValue_b mStop _ rfl)
 have HTT := Lib.hid (show ∀ w0, Calls Tryz.prog 93 #[.string ⟨#[83, 116, 111, 112]⟩] w0 fun e w' => e = .returned (.bool false) ∧ w0 = w' from takesText_b mStop _ rfl)
 generalize callB ⟨mStop, key, v, text⟩ = res at *
 clear hk
 have HB0 := Lib.hid (show ∀ o, Below w.heap.size w (w.alloc o) from fun o => (Below.refl w.heap.size w).alloc (Nat.le_refl _) o)
 go_enter Tryz.func44, Tryz.ntmps44
 go_wp2_with fail
 refine (HW.out _).mono ?_
 rintro e w1 ⟨rfl, hb⟩
 have HB := Lib.hid ((HB0.out _).trans (hb.mono (HB0.out _).size))
 obtain ⟨hcc, _⟩ := bcell hb
 simp at hcc
 have c0 := hcc w.heap.size 0 (by omega)
 have c1 := hcc w.heap.size 1 (by omega)
 have c2 := hcc w.heap.size 2 (by omega)
 have c3 := hcc w.heap.size 3 (by omega)
 simp at c0 c1 c2 c3
 clear hb hcc
 cases key <;> cases text
 all_goals
  by_cases h0 : v = 0
  ·subst h0
   go_wp2_with (first | (go_at_call 89; (with_reducible refine (HTK.out _).mono ?_); rintro e w' ⟨rfl, rfl⟩) | (go_at_call 91; (with_reducible refine (HTV.out _).mono ?_); rintro e w' ⟨rfl, rfl⟩) | (go_at_call 93; (with_reducible refine (HTT.out _).mono ?_); rintro e w' ⟨rfl, rfl⟩))
   go_ret
   exact ⟨ret_bool (by rw [HR.out]; rfl), HB.out⟩
  ·have hv0 : (v == 0) = false := by simpa using h0
   rw [hv0] at HR
   clear h0
   go_wp2_with (first | (go_at_call 89; (with_reducible refine (HTK.out _).mono ?_); rintro e w' ⟨rfl, rfl⟩) | (go_at_call 91; (with_reducible refine (HTV.out _).mono ?_); rintro e w' ⟨rfl, rfl⟩) | (go_at_call 93; (with_reducible refine (HTT.out _).mono ?_); rintro e w' ⟨rfl, rfl⟩))
   go_ret
   exact ⟨ret_bool (by rw [HR.out]; rfl), HB.out⟩
set_option maxRecDepth 100000 in
set_option maxHeartbeats 3200000 in
theorem implIsCall_Get (key : List UInt8) (v : Int) (text : List UInt8) (w : World) (hk : key.length ≤ maxLen) :
  Calls Tryz.prog 44 #[.agg #[.string ⟨#[71, 101, 116]⟩, .string ⟨key.toArray⟩, .int .i64 v, .string ⟨text.toArray⟩]] w fun e w' => e = .returned (.bool (callB ⟨mGet, key, v, text⟩)) ∧ Below w.heap.size w w' := by
 have HR := Lib.hid (show callB ⟨mGet, key, v, text⟩ = (nameB key && (v == 0) && (text.isEmpty || false)) from rfl)
 have HW := Lib.hid (show ∀ w0, Calls Tryz.prog 46 #[.string ⟨#[71, 101, 116]⟩] w0 fun e w' => e = .returned (.int .i64 2) ∧ Below w0.heap.size w0 w' from fun w0 => implWant_b mGet 2 rfl w0)
 have HN := Lib.hid (implIsName_b key _ rfl hk)
 have HTK := Lib.hid (show ∀ w0, Calls Tryz.prog 89 #[.string ⟨#[71, 101, 116]⟩] w0 fun e w' => e = .returned (.bool true) ∧ w0 = w' from takesKey_b mGet _ rfl)
 have HTV := Lib.hid (show ∀ w0, Calls Tryz.prog 91 #[.string ⟨#[71, 101, 116]⟩] w0 fun e w' => e = .returned (.bool false) ∧ w0 = w' from takesValue_b mGet _ rfl)
 have HTT := Lib.hid (show ∀ w0, Calls Tryz.prog 93 #[.string ⟨#[71, 101, 116]⟩] w0 fun e w' => e = .returned (.bool false) ∧ w0 = w' from takesText_b mGet _ rfl)
 generalize callB ⟨mGet, key, v, text⟩ = res at *
 generalize nameB key = kn at *
 clear hk
 have HB0 := Lib.hid (show ∀ o, Below w.heap.size w (w.alloc o) from fun o => (Below.refl w.heap.size w).alloc (Nat.le_refl _) o)
 go_enter Tryz.func44, Tryz.ntmps44
 go_wp2_with fail
 refine (HW.out _).mono ?_
 rintro e w1 ⟨rfl, hb⟩
 have HB := Lib.hid ((HB0.out _).trans (hb.mono (HB0.out _).size))
 obtain ⟨hcc, _⟩ := bcell hb
 simp at hcc
 have c0 := hcc w.heap.size 0 (by omega)
 have c1 := hcc w.heap.size 1 (by omega)
 have c2 := hcc w.heap.size 2 (by omega)
 have c3 := hcc w.heap.size 3 (by omega)
 simp at c0 c1 c2 c3
 clear hb hcc
 cases kn <;> cases text
 all_goals
  by_cases h0 : v = 0
  ·subst h0
   go_wp2_with (first | (go_at_call 90; (with_reducible refine (HN.out _).mono ?_); rintro e w' ⟨rfl, rfl⟩) | (go_at_call 89; (with_reducible refine (HTK.out _).mono ?_); rintro e w' ⟨rfl, rfl⟩) | (go_at_call 91; (with_reducible refine (HTV.out _).mono ?_); rintro e w' ⟨rfl, rfl⟩) | (go_at_call 93; (with_reducible refine (HTT.out _).mono ?_); rintro e w' ⟨rfl, rfl⟩))
   go_ret
   exact ⟨ret_bool (by rw [HR.out]; rfl), HB.out⟩
  ·have hv0 : (v == 0) = false := by simpa using h0
   rw [hv0] at HR
   clear h0
   go_wp2_with (first | (go_at_call 90; (with_reducible refine (HN.out _).mono ?_); rintro e w' ⟨rfl, rfl⟩) | (go_at_call 89; (with_reducible refine (HTK.out _).mono ?_); rintro e w' ⟨rfl, rfl⟩) | (go_at_call 91; (with_reducible refine (HTV.out _).mono ?_); rintro e w' ⟨rfl, rfl⟩) | (go_at_call 93; (with_reducible refine (HTT.out _).mono ?_); rintro e w' ⟨rfl, rfl⟩))
   go_ret
   exact ⟨ret_bool (by rw [HR.out]; rfl), HB.out⟩
set_option maxRecDepth 100000 in
set_option maxHeartbeats 3200000 in
theorem implIsCall_Put (key : List UInt8) (v : Int) (text : List UInt8) (w : World) (hk : key.length ≤ maxLen) :
  Calls Tryz.prog 44 #[.agg #[.string ⟨#[80, 117, 116]⟩, .string ⟨key.toArray⟩, .int .i64 v, .string ⟨text.toArray⟩]] w fun e w' => e = .returned (.bool (callB ⟨mPut, key, v, text⟩)) ∧ Below w.heap.size w w' := by
 have HR := Lib.hid (show callB ⟨mPut, key, v, text⟩ = (nameB key && numB v && (text.isEmpty || false)) from rfl)
 have HW := Lib.hid (show ∀ w0, Calls Tryz.prog 46 #[.string ⟨#[80, 117, 116]⟩] w0 fun e w' => e = .returned (.int .i64 2) ∧ Below w0.heap.size w0 w' from fun w0 => implWant_b mPut 2 rfl w0)
 have HN := Lib.hid (implIsName_b key _ rfl hk)
 have HTK := Lib.hid (show ∀ w0, Calls Tryz.prog 89 #[.string ⟨#[80, 117, 116]⟩] w0 fun e w' => e = .returned (.bool true) ∧ w0 = w' from takesKey_b mPut _ rfl)
 have HTV := Lib.hid (show ∀ w0, Calls Tryz.prog 91 #[.string ⟨#[80, 117, 116]⟩] w0 fun e w' => e = .returned (.bool true) ∧ w0 = w' from takesValue_b mPut _ rfl)
 have HTT := Lib.hid (show ∀ w0, Calls Tryz.prog 93 #[.string ⟨#[80, 117, 116]⟩] w0 fun e w' => e = .returned (.bool false) ∧ w0 = w' from takesText_b mPut _ rfl)
 have HNU := Lib.hid (isNumber_b v _ rfl)
 generalize callB ⟨mPut, key, v, text⟩ = res at *
 generalize nameB key = kn at *
 generalize numB v = vn at *
 clear hk
 have HB0 := Lib.hid (show ∀ o, Below w.heap.size w (w.alloc o) from fun o => (Below.refl w.heap.size w).alloc (Nat.le_refl _) o)
 go_enter Tryz.func44, Tryz.ntmps44
 go_wp2_with fail
 refine (HW.out _).mono ?_
 rintro e w1 ⟨rfl, hb⟩
 have HB := Lib.hid ((HB0.out _).trans (hb.mono (HB0.out _).size))
 obtain ⟨hcc, _⟩ := bcell hb
 simp at hcc
 have c0 := hcc w.heap.size 0 (by omega)
 have c1 := hcc w.heap.size 1 (by omega)
 have c2 := hcc w.heap.size 2 (by omega)
 have c3 := hcc w.heap.size 3 (by omega)
 simp at c0 c1 c2 c3
 clear hb hcc
 cases kn <;> cases text <;> cases vn
 all_goals
  go_wp2_with (first | (go_at_call 90; (with_reducible refine (HN.out _).mono ?_); rintro e w' ⟨rfl, rfl⟩) | (go_at_call 89; (with_reducible refine (HTK.out _).mono ?_); rintro e w' ⟨rfl, rfl⟩) | (go_at_call 91; (with_reducible refine (HTV.out _).mono ?_); rintro e w' ⟨rfl, rfl⟩) | (go_at_call 93; (with_reducible refine (HTT.out _).mono ?_); rintro e w' ⟨rfl, rfl⟩) | (go_at_call 92; (with_reducible refine (HNU.out _).mono ?_); rintro e w' ⟨rfl, rfl⟩))
  go_ret
  exact ⟨ret_bool (by rw [HR.out]; rfl), HB.out⟩
set_option maxRecDepth 100000 in
set_option maxHeartbeats 3200000 in
theorem implIsCall_Tell (key : List UInt8) (v : Int) (text : List UInt8) (w : World) (hk : key.length ≤ maxLen) :
  Calls Tryz.prog 44 #[.agg #[.string ⟨#[84, 101, 108, 108]⟩, .string ⟨key.toArray⟩, .int .i64 v, .string ⟨text.toArray⟩]] w fun e w' => e = .returned (.bool (callB ⟨mTell, key, v, text⟩)) ∧ Below w.heap.size w w' := by
 have HR := Lib.hid (show callB ⟨mTell, key, v, text⟩ = (key.isEmpty && (v == 0) && (text.isEmpty || false)) from rfl)
 have HW := Lib.hid (show ∀ w0, Calls Tryz.prog 46 #[.string ⟨#[84, 101, 108, 108]⟩] w0 fun e w' => e = .returned (.int .i64 4) ∧ Below w0.heap.size w0 w' from fun w0 => implWant_b mTell 4 rfl w0)
 have HTK := Lib.hid (show ∀ w0, Calls Tryz.prog 89 #[.string ⟨#[84, 101, 108, 108]⟩] w0 fun e w' => e = .returned (.bool false) ∧ w0 = w' from takesKey_b mTell _ rfl)
 have HTV := Lib.hid (show ∀ w0, Calls Tryz.prog 91 #[.string ⟨#[84, 101, 108, 108]⟩] w0 fun e w' => e = .returned (.bool false) ∧ w0 = w' from takesValue_b mTell _ rfl)
 have HTT := Lib.hid (show ∀ w0, Calls Tryz.prog 93 #[.string ⟨#[84, 101, 108, 108]⟩] w0 fun e w' => e = .returned (.bool false) ∧ w0 = w' from takesText_b mTell _ rfl)
 generalize callB ⟨mTell, key, v, text⟩ = res at *
 clear hk
 have HB0 := Lib.hid (show ∀ o, Below w.heap.size w (w.alloc o) from fun o => (Below.refl w.heap.size w).alloc (Nat.le_refl _) o)
 go_enter Tryz.func44, Tryz.ntmps44
 go_wp2_with fail
 refine (HW.out _).mono ?_
 rintro e w1 ⟨rfl, hb⟩
 have HB := Lib.hid ((HB0.out _).trans (hb.mono (HB0.out _).size))
 obtain ⟨hcc, _⟩ := bcell hb
 simp at hcc
 have c0 := hcc w.heap.size 0 (by omega)
 have c1 := hcc w.heap.size 1 (by omega)
 have c2 := hcc w.heap.size 2 (by omega)
 have c3 := hcc w.heap.size 3 (by omega)
 simp at c0 c1 c2 c3
 clear hb hcc
 cases key <;> cases text
 all_goals
  by_cases h0 : v = 0
  ·subst h0
   go_wp2_with (first | (go_at_call 89; (with_reducible refine (HTK.out _).mono ?_); rintro e w' ⟨rfl, rfl⟩) | (go_at_call 91; (with_reducible refine (HTV.out _).mono ?_); rintro e w' ⟨rfl, rfl⟩) | (go_at_call 93; (with_reducible refine (HTT.out _).mono ?_); rintro e w' ⟨rfl, rfl⟩))
   go_ret
   exact ⟨ret_bool (by rw [HR.out]; rfl), HB.out⟩
  ·have hv0 : (v == 0) = false := by simpa using h0
   rw [hv0] at HR
   clear h0
   go_wp2_with (first | (go_at_call 89; (with_reducible refine (HTK.out _).mono ?_); rintro e w' ⟨rfl, rfl⟩) | (go_at_call 91; (with_reducible refine (HTV.out _).mono ?_); rintro e w' ⟨rfl, rfl⟩) | (go_at_call 93; (with_reducible refine (HTT.out _).mono ?_); rintro e w' ⟨rfl, rfl⟩))
   go_ret
   exact ⟨ret_bool (by rw [HR.out]; rfl), HB.out⟩
set_option maxRecDepth 100000 in
set_option maxHeartbeats 3200000 in
theorem implIsCall_Hear (key : List UInt8) (v : Int) (text : List UInt8) (w : World) (hk : key.length ≤ maxLen) :
  Calls Tryz.prog 44 #[.agg #[.string ⟨#[72, 101, 97, 114]⟩, .string ⟨key.toArray⟩, .int .i64 v, .string ⟨text.toArray⟩]] w fun e w' => e = .returned (.bool (callB ⟨mHear, key, v, text⟩)) ∧ Below w.heap.size w w' := by
 have HR := Lib.hid (show callB ⟨mHear, key, v, text⟩ = (key.isEmpty && numB v && (text.isEmpty || false)) from rfl)
 have HW := Lib.hid (show ∀ w0, Calls Tryz.prog 46 #[.string ⟨#[72, 101, 97, 114]⟩] w0 fun e w' => e = .returned (.int .i64 8) ∧ Below w0.heap.size w0 w' from fun w0 => implWant_b mHear 8 rfl w0)
 have HTK := Lib.hid (show ∀ w0, Calls Tryz.prog 89 #[.string ⟨#[72, 101, 97, 114]⟩] w0 fun e w' => e = .returned (.bool false) ∧ w0 = w' from takesKey_b mHear _ rfl)
 have HTV := Lib.hid (show ∀ w0, Calls Tryz.prog 91 #[.string ⟨#[72, 101, 97, 114]⟩] w0 fun e w' => e = .returned (.bool true) ∧ w0 = w' from takesValue_b mHear _ rfl)
 have HTT := Lib.hid (show ∀ w0, Calls Tryz.prog 93 #[.string ⟨#[72, 101, 97, 114]⟩] w0 fun e w' => e = .returned (.bool false) ∧ w0 = w' from takesText_b mHear _ rfl)
 have HNU := Lib.hid (isNumber_b v _ rfl)
 generalize callB ⟨mHear, key, v, text⟩ = res at *
 generalize numB v = vn at *
 clear hk
 have HB0 := Lib.hid (show ∀ o, Below w.heap.size w (w.alloc o) from fun o => (Below.refl w.heap.size w).alloc (Nat.le_refl _) o)
 go_enter Tryz.func44, Tryz.ntmps44
 go_wp2_with fail
 refine (HW.out _).mono ?_
 rintro e w1 ⟨rfl, hb⟩
 have HB := Lib.hid ((HB0.out _).trans (hb.mono (HB0.out _).size))
 obtain ⟨hcc, _⟩ := bcell hb
 simp at hcc
 have c0 := hcc w.heap.size 0 (by omega)
 have c1 := hcc w.heap.size 1 (by omega)
 have c2 := hcc w.heap.size 2 (by omega)
 have c3 := hcc w.heap.size 3 (by omega)
 simp at c0 c1 c2 c3
 clear hb hcc
 cases key <;> cases text <;> cases vn
 all_goals
  go_wp2_with (first | (go_at_call 89; (with_reducible refine (HTK.out _).mono ?_); rintro e w' ⟨rfl, rfl⟩) | (go_at_call 91; (with_reducible refine (HTV.out _).mono ?_); rintro e w' ⟨rfl, rfl⟩) | (go_at_call 93; (with_reducible refine (HTT.out _).mono ?_); rintro e w' ⟨rfl, rfl⟩) | (go_at_call 92; (with_reducible refine (HNU.out _).mono ?_); rintro e w' ⟨rfl, rfl⟩))
  go_ret
  exact ⟨ret_bool (by rw [HR.out]; rfl), HB.out⟩
set_option maxRecDepth 100000 in
set_option maxHeartbeats 3200000 in
theorem implIsCall_Load (key : List UInt8) (v : Int) (text : List UInt8) (w : World) (hk : key.length ≤ maxLen) :
  Calls Tryz.prog 44 #[.agg #[.string ⟨#[76, 111, 97, 100]⟩, .string ⟨key.toArray⟩, .int .i64 v, .string ⟨text.toArray⟩]] w fun e w' => e = .returned (.bool (callB ⟨mLoad, key, v, text⟩)) ∧ Below w.heap.size w w' := by
 have HR := Lib.hid (show callB ⟨mLoad, key, v, text⟩ = (key.isEmpty && (v == 0) && (text.isEmpty || true)) from rfl)
 have HW := Lib.hid (show ∀ w0, Calls Tryz.prog 46 #[.string ⟨#[76, 111, 97, 100]⟩] w0 fun e w' => e = .returned (.int .i64 16) ∧ Below w0.heap.size w0 w' from fun w0 => implWant_b mLoad 16 rfl w0)
 have HTK := Lib.hid (show ∀ w0, Calls Tryz.prog 89 #[.string ⟨#[76, 111, 97, 100]⟩] w0 fun e w' => e = .returned (.bool false) ∧ w0 = w' from takesKey_b mLoad _ rfl)
 have HTV := Lib.hid (show ∀ w0, Calls Tryz.prog 91 #[.string ⟨#[76, 111, 97, 100]⟩] w0 fun e w' => e = .returned (.bool false) ∧ w0 = w' from takesValue_b mLoad _ rfl)
 have HTT := Lib.hid (show ∀ w0, Calls Tryz.prog 93 #[.string ⟨#[76, 111, 97, 100]⟩] w0 fun e w' => e = .returned (.bool true) ∧ w0 = w' from takesText_b mLoad _ rfl)
 generalize callB ⟨mLoad, key, v, text⟩ = res at *
 clear hk
 have HB0 := Lib.hid (show ∀ o, Below w.heap.size w (w.alloc o) from fun o => (Below.refl w.heap.size w).alloc (Nat.le_refl _) o)
 go_enter Tryz.func44, Tryz.ntmps44
 go_wp2_with fail
 refine (HW.out _).mono ?_
 rintro e w1 ⟨rfl, hb⟩
 have HB := Lib.hid ((HB0.out _).trans (hb.mono (HB0.out _).size))
 obtain ⟨hcc, _⟩ := bcell hb
 simp at hcc
 have c0 := hcc w.heap.size 0 (by omega)
 have c1 := hcc w.heap.size 1 (by omega)
 have c2 := hcc w.heap.size 2 (by omega)
 have c3 := hcc w.heap.size 3 (by omega)
 simp at c0 c1 c2 c3
 clear hb hcc
 cases key <;> cases text
 all_goals
  by_cases h0 : v = 0
  ·subst h0
   go_wp2_with (first | (go_at_call 89; (with_reducible refine (HTK.out _).mono ?_); rintro e w' ⟨rfl, rfl⟩) | (go_at_call 91; (with_reducible refine (HTV.out _).mono ?_); rintro e w' ⟨rfl, rfl⟩) | (go_at_call 93; (with_reducible refine (HTT.out _).mono ?_); rintro e w' ⟨rfl, rfl⟩))
   go_ret
   exact ⟨ret_bool (by rw [HR.out]; rfl), HB.out⟩
  ·have hv0 : (v == 0) = false := by simpa using h0
   rw [hv0] at HR
   clear h0
   go_wp2_with (first | (go_at_call 89; (with_reducible refine (HTK.out _).mono ?_); rintro e w' ⟨rfl, rfl⟩) | (go_at_call 91; (with_reducible refine (HTV.out _).mono ?_); rintro e w' ⟨rfl, rfl⟩) | (go_at_call 93; (with_reducible refine (HTT.out _).mono ?_); rintro e w' ⟨rfl, rfl⟩))
   go_ret
   exact ⟨ret_bool (by rw [HR.out]; rfl), HB.out⟩
set_option maxRecDepth 100000 in
set_option maxHeartbeats 3200000 in
theorem implIsCall_Save (key : List UInt8) (v : Int) (text : List UInt8) (w : World) (hk : key.length ≤ maxLen) :
  Calls Tryz.prog 44 #[.agg #[.string ⟨#[83, 97, 118, 101]⟩, .string ⟨key.toArray⟩, .int .i64 v, .string ⟨text.toArray⟩]] w fun e w' => e = .returned (.bool (callB ⟨mSave, key, v, text⟩)) ∧ Below w.heap.size w w' := by
 have HR := Lib.hid (show callB ⟨mSave, key, v, text⟩ = (key.isEmpty && (v == 0) && (text.isEmpty || false)) from rfl)
 have HW := Lib.hid (show ∀ w0, Calls Tryz.prog 46 #[.string ⟨#[83, 97, 118, 101]⟩] w0 fun e w' => e = .returned (.int .i64 16) ∧ Below w0.heap.size w0 w' from fun w0 => implWant_b mSave 16 rfl w0)
 have HTK := Lib.hid (show ∀ w0, Calls Tryz.prog 89 #[.string ⟨#[83, 97, 118, 101]⟩] w0 fun e w' => e = .returned (.bool false) ∧ w0 = w' from takesKey_b mSave _ rfl)
 have HTV := Lib.hid (show ∀ w0, Calls Tryz.prog 91 #[.string ⟨#[83, 97, 118, 101]⟩] w0 fun e w' => e = .returned (.bool false) ∧ w0 = w' from takesValue_b mSave _ rfl)
 have HTT := Lib.hid (show ∀ w0, Calls Tryz.prog 93 #[.string ⟨#[83, 97, 118, 101]⟩] w0 fun e w' => e = .returned (.bool false) ∧ w0 = w' from takesText_b mSave _ rfl)
 generalize callB ⟨mSave, key, v, text⟩ = res at *
 clear hk
 have HB0 := Lib.hid (show ∀ o, Below w.heap.size w (w.alloc o) from fun o => (Below.refl w.heap.size w).alloc (Nat.le_refl _) o)
 go_enter Tryz.func44, Tryz.ntmps44
 go_wp2_with fail
 refine (HW.out _).mono ?_
 rintro e w1 ⟨rfl, hb⟩
 have HB := Lib.hid ((HB0.out _).trans (hb.mono (HB0.out _).size))
 obtain ⟨hcc, _⟩ := bcell hb
 simp at hcc
 have c0 := hcc w.heap.size 0 (by omega)
 have c1 := hcc w.heap.size 1 (by omega)
 have c2 := hcc w.heap.size 2 (by omega)
 have c3 := hcc w.heap.size 3 (by omega)
 simp at c0 c1 c2 c3
 clear hb hcc
 cases key <;> cases text
 all_goals
  by_cases h0 : v = 0
  ·subst h0
   go_wp2_with (first | (go_at_call 89; (with_reducible refine (HTK.out _).mono ?_); rintro e w' ⟨rfl, rfl⟩) | (go_at_call 91; (with_reducible refine (HTV.out _).mono ?_); rintro e w' ⟨rfl, rfl⟩) | (go_at_call 93; (with_reducible refine (HTT.out _).mono ?_); rintro e w' ⟨rfl, rfl⟩))
   go_ret
   exact ⟨ret_bool (by rw [HR.out]; rfl), HB.out⟩
  ·have hv0 : (v == 0) = false := by simpa using h0
   rw [hv0] at HR
   clear h0
   go_wp2_with (first | (go_at_call 89; (with_reducible refine (HTK.out _).mono ?_); rintro e w' ⟨rfl, rfl⟩) | (go_at_call 91; (with_reducible refine (HTV.out _).mono ?_); rintro e w' ⟨rfl, rfl⟩) | (go_at_call 93; (with_reducible refine (HTT.out _).mono ?_); rintro e w' ⟨rfl, rfl⟩))
   go_ret
   exact ⟨ret_bool (by rw [HR.out]; rfl), HB.out⟩
set_option maxRecDepth 100000 in
set_option maxHeartbeats 3200000 in
theorem implIsCall_Heal (key : List UInt8) (v : Int) (text : List UInt8) (w : World) (hk : key.length ≤ maxLen) :
  Calls Tryz.prog 44 #[.agg #[.string ⟨#[72, 101, 97, 108]⟩, .string ⟨key.toArray⟩, .int .i64 v, .string ⟨text.toArray⟩]] w fun e w' => e = .returned (.bool (callB ⟨mHeal, key, v, text⟩)) ∧ Below w.heap.size w w' := by
 have HR := Lib.hid (show callB ⟨mHeal, key, v, text⟩ = (key.isEmpty && (v == 0) && (text.isEmpty || false)) from rfl)
 have HW := Lib.hid (show ∀ w0, Calls Tryz.prog 46 #[.string ⟨#[72, 101, 97, 108]⟩] w0 fun e w' => e = .returned (.int .i64 32) ∧ Below w0.heap.size w0 w' from fun w0 => implWant_b mHeal 32 rfl w0)
 have HTK := Lib.hid (show ∀ w0, Calls Tryz.prog 89 #[.string ⟨#[72, 101, 97, 108]⟩] w0 fun e w' => e = .returned (.bool false) ∧ w0 = w' from takesKey_b mHeal _ rfl)
 have HTV := Lib.hid (show ∀ w0, Calls Tryz.prog 91 #[.string ⟨#[72, 101, 97, 108]⟩] w0 fun e w' => e = .returned (.bool false) ∧ w0 = w' from takesValue_b mHeal _ rfl)
 have HTT := Lib.hid (show ∀ w0, Calls Tryz.prog 93 #[.string ⟨#[72, 101, 97, 108]⟩] w0 fun e w' => e = .returned (.bool false) ∧ w0 = w' from takesText_b mHeal _ rfl)
 generalize callB ⟨mHeal, key, v, text⟩ = res at *
 clear hk
 have HB0 := Lib.hid (show ∀ o, Below w.heap.size w (w.alloc o) from fun o => (Below.refl w.heap.size w).alloc (Nat.le_refl _) o)
 go_enter Tryz.func44, Tryz.ntmps44
 go_wp2_with fail
 refine (HW.out _).mono ?_
 rintro e w1 ⟨rfl, hb⟩
 have HB := Lib.hid ((HB0.out _).trans (hb.mono (HB0.out _).size))
 obtain ⟨hcc, _⟩ := bcell hb
 simp at hcc
 have c0 := hcc w.heap.size 0 (by omega)
 have c1 := hcc w.heap.size 1 (by omega)
 have c2 := hcc w.heap.size 2 (by omega)
 have c3 := hcc w.heap.size 3 (by omega)
 simp at c0 c1 c2 c3
 clear hb hcc
 cases key <;> cases text
 all_goals
  by_cases h0 : v = 0
  ·subst h0
   go_wp2_with (first | (go_at_call 89; (with_reducible refine (HTK.out _).mono ?_); rintro e w' ⟨rfl, rfl⟩) | (go_at_call 91; (with_reducible refine (HTV.out _).mono ?_); rintro e w' ⟨rfl, rfl⟩) | (go_at_call 93; (with_reducible refine (HTT.out _).mono ?_); rintro e w' ⟨rfl, rfl⟩))
   go_ret
   exact ⟨ret_bool (by rw [HR.out]; rfl), HB.out⟩
  ·have hv0 : (v == 0) = false := by simpa using h0
   rw [hv0] at HR
   clear h0
   go_wp2_with (first | (go_at_call 89; (with_reducible refine (HTK.out _).mono ?_); rintro e w' ⟨rfl, rfl⟩) | (go_at_call 91; (with_reducible refine (HTV.out _).mono ?_); rintro e w' ⟨rfl, rfl⟩) | (go_at_call 93; (with_reducible refine (HTT.out _).mono ?_); rintro e w' ⟨rfl, rfl⟩))
   go_ret
   exact ⟨ret_bool (by rw [HR.out]; rfl), HB.out⟩
set_option maxRecDepth 100000 in
set_option maxHeartbeats 1600000 in
theorem implIsCall_any (d : CallD) (w : World) (hk : d.fKey.length ≤ maxLen) :
  Calls Tryz.prog 44 #[vCall d] w fun e w' => e = .returned (.bool (callB d)) ∧ Below w.heap.size w w' := by
 obtain ⟨m, key, v, text⟩ := d
 unfold vCall
 simp only at *
 rcases meth_cases m with rfl | rfl | rfl | rfl | rfl | rfl | rfl | rfl | rfl | ⟨hw, hStart, hStop, hGet, hPut, hTell, hHear, hLoad, hSave, hHeal⟩
 ·exact implIsCall_Start key v text w hk
 ·exact implIsCall_Stop key v text w hk
 ·exact implIsCall_Get key v text w hk
 ·exact implIsCall_Put key v text w hk
 ·exact implIsCall_Tell key v text w hk
 ·exact implIsCall_Hear key v text w hk
 ·exact implIsCall_Load key v text w hk
 ·exact implIsCall_Save key v text w hk
 ·exact implIsCall_Heal key v text w hk
 ·have HR := Lib.hid (show callB ⟨m, key, v, text⟩ = false by unfold callB; simp only; rw [hw]; rfl)
  have bGet : (m == [71, 101, 116]) = false := by simpa using hGet
  have bPut : (m == [80, 117, 116]) = false := by simpa using hPut
  have bHear : (m == [72, 101, 97, 114]) = false := by simpa using hHear
  have bLoad : (m == [76, 111, 97, 100]) = false := by simpa using hLoad
  have HW := Lib.hid (implWant_b m 0 hw)
  have HB0 := Lib.hid (show ∀ o, Below w.heap.size w (w.alloc o) from fun o => (Below.refl w.heap.size w).alloc (Nat.le_refl _) o)
  generalize callB ⟨m, key, v, text⟩ = res at *
  clear hw hk hStart hStop hGet hPut hTell hHear hLoad hSave hHeal
  go_enter Tryz.func44, Tryz.ntmps44
  go_wp2_with fail
  refine (HW.out _).mono ?_
  rintro e w1 ⟨rfl, hb⟩
  have HB := Lib.hid ((HB0.out _).trans (hb.mono (HB0.out _).size))
  clear hb
  go_wp2_with fail
  go_ret
  exact ⟨ret_bool HR.out.symm, HB.out⟩
end Go.Proofs.YtcpbikilgacdlaaGreat
namespace Go.Proofs.YtcpbikilgacdlaaGreat
set_option linter.unusedVariables false
set_option linter.unusedSimpArgs false
open Go.RowKit
theorem implIsCall_b (d : CallD) (q : Bool) (hq : callB d = q) (w : World) (hk : d.fKey.length ≤ maxLen) :
  Calls Tryz.prog 44 #[vCall d] w fun e w' => e = .returned (.bool q) ∧ Below w.heap.size w w' := by subst hq; exact implIsCall_any d w hk
theorem run_copy_row2 {P : Program} (w : World) (dT sT ty elem : TypeId) (g o dLen dCap : Nat) (a : Addr) (sLen sCap n : Nat) (cur : Array Value) (t : TypeId) (cs : List Value)
  (hu : P.underlying dT = some (.slice elem)) (hs : (P.info? elem).map (·.size) = some 2) (hg : w.heap[g]? = some (.cells cur t (0, 0))) (hn : Nat.min sLen dLen = n) (hcl : cs.length = n * 2)
  (hsrc : ∀ j v, cs[j]? = some v → w.cell? (a.add j) = some v) (hfit : o + cs.length ≤ cur.size) (h1 : ∀ v ∈ cs, v.oneCell' = true) :
  (Builtin.copy_ #[dT, sT] ty #[.slice (some ⟨g, o, none⟩) dLen dCap, .slice (some a) sLen sCap]).run P w = .ok (goInt n) (w.setRow g (cur.toList.take o ++ cs ++ cur.toList.drop (o + cs.length)).toArray) := by
 have hl := run_loadCells_list (P := P) w a cs hsrc
 rw [hcl] at hl
 have hst := run_storeCells_at P g o t cs 0 cur w hg (by simpa using hfit) h1
 cases hq : P.info? elem with
 | none => simp [hq] at hs
 | some i =>
  have hi : i.size = 2 := by simpa [hq] using hs
  simp [Builtin.copy_, run_underlying hu, Builtin.lenOf, Builtin.firstCells, sizeOf, typeInfo, hq, hi, hn, hl, hst]
theorem size_cell : (Tryz.prog.info? 139).map (·.size) = some 2 := by kernel_rfl
theorem sizeOf_cell (w : World) : (Go.sizeOf 139).run Tryz.prog w = .ok 2 w := by kernel_rfl
set_option maxHeartbeats 1600000 in
theorem ins_end (N : Nat) (v : Value) (l : List CellD) (x : CellD) (vb : Nat) (w : World) (hO : OwnsF cCell 139 2 w N v l) (hl : l.length ≤ 1000) (hN : N ≤ w.heap.size) (hc : ∀ j, j < 2 → w.cell? ⟨vb, j, none⟩ = (cCell x)[j]?) :
  Calls Tryz.prog 201 #[v, .int .i64 l.length, .slice (some ⟨vb, 0, none⟩) 1 1] w fun e w' => ∃ v', e = .returned v' ∧ OwnsF cCell 139 2 w' N v' (l ++ [x]) ∧ w.grownBy w' v.ownBlock := by
 have HO := Lib.hid hO
 have HC := Lib.hid hc
 have hv : ∃ a c, v = .slice a l.length c ∧ l.length ≤ c := by
  rcases hO.2 with ⟨rfl, hn⟩ | ⟨g, cap, cur, rfl, _, _, hc, _⟩
  ·exact ⟨none, 0, by rw [hn], by omega⟩
  ·exact ⟨_, _, rfl, hc⟩
 obtain ⟨a, c, rfl, hcap⟩ := hv
 clear hO hc
 generalize hn : l.length = n at *
 have HN := Lib.hid hn
 clear hn
 go_enter Tryz.func201, Tryz.ntmps201
 go_wp2_with (at_builtin; refine append_cell rfl _ _ rfl N _ l x _ vb (by rfl) HO.out (by rfl) HC.out (by have := HN.out; omega) hN ?_; intro v' w' ho hgr)
 all_goals
  go_ret
  exact ⟨_, rfl, ho, by first | exact hgr | (cases a <;> exact hgr)⟩
theorem flat_take {α : Type} (f : α → List Value) (k : Nat) (hk : ∀ x, (f x).length = k) : ∀ (l : List α) (i : Nat), (l.take i).flatMap f = (l.flatMap f).take (i * k) ∧ (l.drop i).flatMap f = (l.flatMap f).drop (i * k)
 | [], i => by simp
 | d :: r, 0 => by simp
 | d :: r, i + 1 => by
  obtain ⟨h1, h2⟩ := flat_take f k hk r i
  rw [List.take_succ_cons, List.drop_succ_cons, List.flatMap_cons, List.flatMap_cons, h1, h2, Nat.succ_mul, Nat.add_comm (i * k) k, ← hk d, List.take_append, List.drop_append]
  simp [Nat.add_sub_cancel_left]
  exact (List.take_of_length_le (by omega)).symm
theorem row_shift (cur fl cx : List Value) (i n c : Nat) (hfl : fl.length = n * 2) (hcx : cx.length = 2) (hcur : cur.take (n * 2) = fl) (hi : i < n) (hc : cur.length = c * 2) (hn : n + 1 ≤ c) (row1 : List Value)
  (h1 : row1 = cur.take ((i + 1) * 2) ++ fl.drop (i * 2) ++ cur.drop ((i + 1) * 2 + (fl.drop (i * 2)).length)) :
  (row1.take (i * 2) ++ cx ++ row1.drop (i * 2 + cx.length)).take ((n + 1) * 2) = fl.take (i * 2) ++ cx ++ fl.drop (i * 2) := by
 have hl1 : (cur.take ((i + 1) * 2)).length = (i + 1) * 2 := by rw [List.length_take, hc]; omega
 have e1 : row1.take (i * 2) = fl.take (i * 2) := by
  rw [h1, List.append_assoc, List.take_append_of_le_length (by rw [hl1]; omega), List.take_take, ← hcur, List.take_take]
  congr 1; omega
 have e2 : row1.drop (i * 2 + cx.length) = fl.drop (i * 2) ++ cur.drop ((i + 1) * 2 + (fl.drop (i * 2)).length) := by
  rw [h1, List.append_assoc, hcx, show i * 2 + 2 = (i + 1) * 2 by omega]
  conv => lhs; arg 1; rw [← hl1]
  rw [List.drop_left]
 rw [e1, e2, ← List.append_assoc]
 have hlen : (fl.take (i * 2) ++ cx ++ fl.drop (i * 2)).length = (n + 1) * 2 := by
  simp only [List.length_append, List.length_take, List.length_drop, hfl, hcx]; omega
 rw [← hlen, List.take_left]
set_option maxRecDepth 100000 in
set_option maxHeartbeats 1600000 in
theorem ins_shift (N g c i : Nat) (cur : Array Value) (l : List CellD) (x : CellD) (vb : Nat) (w : World) (hg : w.heap[g]? = some (.cells cur 139 (0, 0))) (hs : cur.size = c * 2) (hcur : cur.toList.take (l.length * 2) = l.flatMap cCell)
  (hi : i < l.length) (hroom : l.length + 1 ≤ c) (hc : c ≤ maxLen) (hvb : w.heap[vb]? = some (.cells #[.string ⟨x.fKey.toArray⟩, .int .i64 x.fValue] 139 (0, 0))) (hne : vb ≠ g) :
  Calls Tryz.prog 201 #[.slice (some ⟨g, 0, none⟩) l.length c, .int .i64 i, .slice (some ⟨vb, 0, none⟩) 1 1] w fun e w' => ∃ v', e = .returned v' ∧ (∀ N, N ≤ g → OwnsF cCell 139 2 w' N v' (l.take i ++ x :: l.drop i)) ∧ w.grownBy w' (some g) := by
 unfold maxLen at hc
 have hsz : cur.toList.length = c * 2 := by simpa using hs
 have hov : ∀ off lb cb, (callFunc 202 #[.slice (some ⟨vb, 0, none⟩) 1 1, .slice (some ⟨g, off, none⟩) lb cb]).run Tryz.prog w = .ok (.value (.bool false)) w := fun off lb cb => by
  rw [run_callFunc_extern Tryz.func202 (by kernel_rfl) (by kernel_rfl) (by kernel_rfl) (e := Extern.SlicesOverlaps.overlaps #[32, 32] #[4]) (by kernel_rfl),
   Lib.run_overlaps_apart w 32 4 139 Tryz.underlying32 2 sizeOf_cell ⟨vb, 0, none⟩ ⟨g, off, none⟩ 1 1 lb cb hne 139 139 2 (c * 2) (by simp [World.shape?, hvb]) (by simp [World.shape?, hg, hs]) (by omega) (by simp [World.frozen?, hvb]) (by simp [World.frozen?, hvb])]
  rfl
 have hfl : (l.flatMap cCell).length = l.length * 2 := flat_len cCell 2 cCell_len l
 have h1c : ∀ u ∈ l.flatMap cCell, u.oneCell' = true := fun u hu => by
  obtain ⟨y, _, hy⟩ := List.mem_flatMap.1 hu
  exact cCell_one y u hy
 have HL := Lib.hid (show (l.take i ++ x :: l.drop i).flatMap cCell = (l.flatMap cCell).take (i * 2) ++ cCell x ++ (l.flatMap cCell).drop (i * 2) ∧ (l.take i ++ x :: l.drop i).length = l.length + 1 from by
  refine ⟨?_, by simp; omega⟩
  rw [List.flatMap_append, List.flatMap_cons, (flat_take cCell 2 cCell_len l i).1, (flat_take cCell 2 cCell_len l i).2, List.append_assoc])
 generalize hF : l.flatMap cCell = fl at *
 generalize hn : l.length = n at *
 have hcell : ∀ j v, fl[j]? = some v → w.cell? ⟨g, j, none⟩ = some v := fun j v hj => by
  have hjl : j < fl.length := (List.getElem?_eq_some_iff.1 hj).1
  rw [cell_of_row w g j cur 139 (0, 0) hg]
  rw [← hcur, List.getElem?_take] at hj
  split at hj
  ·simpa using hj
  ·cases hj
 have hdl : (fl.drop (i * 2)).length = (n - i) * 2 := by rw [List.length_drop, hfl, Nat.sub_mul]
 obtain ⟨row1, hrow1⟩ : ∃ row1 : Array Value, row1 = (cur.toList.take ((i + 1) * 2) ++ fl.drop (i * 2) ++ cur.toList.drop ((i + 1) * 2 + (fl.drop (i * 2)).length)).toArray := ⟨_, rfl⟩
 have hcp1 : ∀ ty dc sc, (Builtin.copy_ #[32, 32] ty #[.slice (some ⟨g, (i + 1) * 2, none⟩) (n - i) dc, .slice (some ⟨g, i * 2, none⟩) (n + 1 - i) sc]).run Tryz.prog w.drew = .ok (goInt ((n - i : Nat) : Int)) (w.drew.setRow g row1) := fun ty dc sc => by
  rw [hrow1]
  exact run_copy_row2 w.drew _ _ ty 139 g ((i + 1) * 2) (n - i) dc ⟨g, i * 2, none⟩ (n + 1 - i) sc (n - i) cur 139 (fl.drop (i * 2)) Tryz.underlying32 size_cell hg (by simp only [Nat.min_def]; split <;> omega) hdl
   (fun j v hj => by rw [Addr.add_lit]; exact hcell (i * 2 + j) v (by rwa [List.getElem?_drop] at hj)) (by rw [hdl, Nat.sub_mul, hs]; omega) (fun v hv => h1c v (List.mem_of_mem_drop hv))
 have hrs : row1.size = c * 2 := by rw [hrow1]; simp only [List.size_toArray, List.length_append, List.length_take, List.length_drop, hsz, hfl]; omega
 have hg1 : (w.drew.setRow g row1).heap[g]? = some (.cells row1 139 (0, 0)) := setRow_heap w.drew g cur row1 139 (0, 0) hg
 have hvb1 : (w.drew.setRow g row1).heap[vb]? = some (.cells #[.string ⟨x.fKey.toArray⟩, .int .i64 x.fValue] 139 (0, 0)) := by
  simp only [World.setRow, Array.getElem?_modify]
  rw [if_neg (fun e => hne e.symm)]; exact hvb
 obtain ⟨row2, hrow2⟩ : ∃ row2 : Array Value, row2 = (row1.toList.take (i * 2) ++ cCell x ++ row1.toList.drop (i * 2 + (cCell x).length)).toArray := ⟨_, rfl⟩
 have hrs2 : row2.size = c * 2 := by rw [hrow2]; simp only [List.size_toArray, List.length_append, List.length_take, List.length_drop, cCell_len, Array.length_toList, hrs]; omega
 have hcp2 : ∀ ty dc, (Builtin.copy_ #[32, 32] ty #[.slice (some ⟨g, i * 2, none⟩) (n + 1 - i) dc, .slice (some ⟨vb, 0, none⟩) 1 1]).run Tryz.prog (w.drew.setRow g row1) = .ok (goInt 1) ((w.drew.setRow g row1).setRow g row2) := fun ty dc => by
  rw [hrow2]
  exact run_copy_row2 _ _ _ ty 139 g (i * 2) (n + 1 - i) dc ⟨vb, 0, none⟩ 1 1 1 row1 139 (cCell x) Tryz.underlying32 size_cell hg1 (by simp only [Nat.min_def]; split <;> omega) rfl
   (fun j v hj => by
    rw [Addr.add_lit, cell_of_row _ vb (0 + j) _ 139 (0, 0) hvb1, Nat.zero_add]
    simpa [cCell] using hj) (by rw [hrs]; simp [cCell]; omega) (fun v hv => cCell_one x v hv)
 have HR1 := Lib.hid hrow1
 have HR2 := Lib.hid hrow2
 clear hrow1 hrow2
 have hz1 : ¬ ((i : Int) = (n : Int)) := by omega
 have hw1 : IntKind.i64.wrap ((i : Int) + 1) = (i : Int) + 1 := by rw [IntKind.wrap_i64]; omega
 have hw2 : IntKind.i64.wrap ((n : Int) + 1) = (n : Int) + 1 := by rw [IntKind.wrap_i64]; omega
 have hin : i ≤ n := by omega
 have hb1 : (0 : Int) ≤ (i : Int) + 1 := by omega
 have htn : ((i : Int) + 1).toNat = i + 1 := by omega
 have hb2 : ¬ c = i + 1 := by omega
 have hb3 : (i : Int) ≤ (n : Int) + 1 := by omega
 have hb4 : ¬ c = i := by omega
 have hb5 : (i : Int) + 1 ≤ (n : Int) + 1 := by omega
 go_enter Tryz.func201, Tryz.ntmps201
 go_wp2_with (simp only [hov])
 go_region_law (refine step_copy_runI rfl _ _ 32 32 rfl _ _ (by simp [Act.eval, Act.put]) (by simp [Act.eval, Act.put]) (hcp1 _ _ _) ?_)
 go_wp2_with (at_builtin; refine wpList_copy_runI _ rfl _ _ 32 32 rfl _ _ (by rfl) (by rfl) (hcp2 _ _) ?_)
 go_ret
 refine ⟨.slice (some ⟨g, 0, none⟩) (n + 1) c, rfl, fun N hN => ?_, ⟨rfl, rfl, rfl, by simp [World.setRow], fun k hk hkn => ?_⟩⟩
 ·have hlen := HL.out.2
  unfold OwnsF
  rw [hlen]
  refine ⟨by rw [flat_len cCell 2 cCell_len, hlen], Or.inr ⟨g, c, row2, rfl, hN, setRow_heap _ g row1 row2 139 (0, 0) hg1, hroom, by unfold maxLen; omega, hrs2, ?_⟩⟩
  rw [HL.out.1, HR2.out]
  exact row_shift cur.toList fl (cCell x) i n c hfl (cCell_len x) hcur hi hsz hroom row1.toList (by rw [HR1.out])
 ·have hkg : k ≠ g := fun e => hkn (by rw [e])
  simp only [World.setRow, Array.getElem?_modify]
  rw [if_neg (fun e => hkg e.symm), if_neg (fun e => hkg e.symm)]; rfl
theorem row_grow (fl cx z : List Value) (i n : Nat) (hfl : fl.length = n * 2) (hcx : cx.length = 2) (hi : i < n) (ROW : List Value) (h0 : ROW = fl.take (i * 2) ++ z) (rowA : List Value)
  (hA : rowA = ROW.take (i * 2) ++ cx ++ ROW.drop (i * 2 + cx.length)) (rowB : List Value) (hB : rowB = rowA.take ((i + 1) * 2) ++ fl.drop (i * 2) ++ rowA.drop ((i + 1) * 2 + (fl.drop (i * 2)).length)) :
  rowB.take ((n + 1) * 2) = fl.take (i * 2) ++ cx ++ fl.drop (i * 2) := by
 have hl1 : (fl.take (i * 2)).length = i * 2 := by rw [List.length_take, hfl]; omega
 have e0 : ROW.take (i * 2) = fl.take (i * 2) := by
  rw [h0]; conv => lhs; arg 1; rw [← hl1]
  rw [List.take_left]
 have e1 : rowA.take ((i + 1) * 2) = fl.take (i * 2) ++ cx := by
  have hl2 : (fl.take (i * 2) ++ cx).length = (i + 1) * 2 := by rw [List.length_append, hl1, hcx]; omega
  rw [hA, e0, ← hl2, List.take_left]
 have hl3 : (fl.take (i * 2) ++ cx ++ fl.drop (i * 2)).length = (n + 1) * 2 := by
  simp only [List.length_append, List.length_take, List.length_drop, hfl, hcx]; omega
 rw [hB, e1, ← hl3, List.take_left]
set_option maxRecDepth 100000 in
set_option maxHeartbeats 3200000 in
theorem ins_grow (g i : Nat) (cur : Array Value) (l : List CellD) (x : CellD) (vb : Nat) (w : World) (hg : w.heap[g]? = some (.cells cur 139 (0, 0))) (hs : cur.size = l.length * 2) (hcur : cur.toList.take (l.length * 2) = l.flatMap cCell)
  (hi : i < l.length) (hl : l.length ≤ 1000) (hvb : w.heap[vb]? = some (.cells #[.string ⟨x.fKey.toArray⟩, .int .i64 x.fValue] 139 (0, 0))) :
  Calls Tryz.prog 201 #[.slice (some ⟨g, 0, none⟩) l.length l.length, .int .i64 i, .slice (some ⟨vb, 0, none⟩) 1 1] w fun e w' => ∃ v', e = .returned v' ∧ OwnsF cCell 139 2 w' w.heap.size v' (l.take i ++ x :: l.drop i) ∧ Below w.heap.size w w' := by
 obtain ⟨i0, hi0, hz0, hzs, hzb⟩ := info_parts infoCell
 have hfl : (l.flatMap cCell).length = l.length * 2 := flat_len cCell 2 cCell_len l
 have h1c : ∀ u ∈ l.flatMap cCell, u.oneCell' = true := fun u hu => by
  obtain ⟨y, _, hy⟩ := List.mem_flatMap.1 hu
  exact cCell_one y u hy
 have HL := Lib.hid (show (l.take i ++ x :: l.drop i).flatMap cCell = (l.flatMap cCell).take (i * 2) ++ cCell x ++ (l.flatMap cCell).drop (i * 2) ∧ (l.take i ++ x :: l.drop i).length = l.length + 1 from by
  refine ⟨?_, by simp; omega⟩
  rw [List.flatMap_append, List.flatMap_cons, (flat_take cCell 2 cCell_len l i).1, (flat_take cCell 2 cCell_len l i).2, List.append_assoc])
 generalize hF : l.flatMap cCell = fl at *
 generalize hn : l.length = n at *
 have hcell : ∀ j v, fl[j]? = some v → w.cell? ⟨g, j, none⟩ = some v := fun j v hj => by
  rw [cell_of_row w g j cur 139 (0, 0) hg]
  rw [← hcur, List.getElem?_take] at hj
  split at hj
  ·simpa using hj
  ·cases hj
 have hgw : g < w.heap.size := (Array.getElem?_eq_some_iff.1 hg).1
 have hvw : vb < w.heap.size := (Array.getElem?_eq_some_iff.1 hvb).1
 have hdl : (fl.drop (i * 2)).length = (n - i) * 2 := by rw [List.length_drop, hfl, Nat.sub_mul]
 have htl : (fl.take (i * 2)).length = i * 2 := by rw [List.length_take, hfl]; omega
 have hkk : (n : Int) + 1 - (i : Int) = ((n + 1 - i : Nat) : Int) := by omega
 have hik : i + (n + 1 - i) = n + 1 := by omega
 have hold : (Builtin.firstCells i0.size i (.slice (some ⟨g, 0, none⟩) i n)).run Tryz.prog w.drew = .ok (fl.take (i * 2)).toArray w.drew := by
  rw [hzs]
  exact run_firstCells_some w.drew 2 i ⟨g, 0, none⟩ i n (fl.take (i * 2)) htl (fun j v hj => by
   rw [Addr.add_lit, Nat.zero_add]
   rw [List.getElem?_take] at hj
   split at hj
   ·exact hcell j v hj
   ·cases hj)
 have hrz : ∀ ty, (Builtin.append_ #[32, 3] ty #[.slice (some ⟨g, 0, none⟩) i n, .int .i64 ((n : Int) + 1 - (i : Int))]).run Tryz.prog w =
   .ok (.slice (some ⟨w.heap.size, 0, none⟩) (n + 1) (grownCap w (n + 1) n 139)) (w.drew.alloc (.cells ((fl.take (i * 2)).toArray ++ Builtin.zeroCells (Value.agg #[.string ⟨#[]⟩, .int .i64 0]).cells (n + 1 - i) ++ Builtin.zeroCells (Value.agg #[.string ⟨#[]⟩, .int .i64 0]).cells (grownCap w (n + 1) n 139 - (n + 1))) 139)) := fun ty => by
  have h := Lib.run_append_grow_zeros w 32 3 ty 139 i0 _ .i64 .i64 Tryz.underlying32 Tryz.underlying3 hi0 hz0 (some ⟨g, 0, none⟩) i n (fl.take (i * 2)) hold (n + 1 - i) (by omega) (by omega) (by omega) (by omega) (by rw [hzb]; omega) (by rw [hzb, hik]; exact growslice_fits (by omega) (by omega))
  rw [hik] at h
  rw [hkk]
  exact h
 obtain ⟨G, hG⟩ : ∃ G, G = grownCap w (n + 1) n 139 := ⟨_, rfl⟩
 obtain ⟨zz, hzz⟩ : ∃ zz : Array Value, zz = Builtin.zeroCells (Value.agg #[.string ⟨#[]⟩, .int .i64 0]).cells (n + 1 - i) ++ Builtin.zeroCells (Value.agg #[.string ⟨#[]⟩, .int .i64 0]).cells (G - (n + 1)) := ⟨_, rfl⟩
 obtain ⟨ROW, hROW⟩ : ∃ ROW : Array Value, ROW = (fl.take (i * 2)).toArray ++ zz := ⟨_, rfl⟩
 have hGn : n + 1 ≤ G := by rw [hG]; exact grownCap_ge w _ _ _
 have hGm : G ≤ maxLen := by
  have := grownCap_le_maxLen w (n + 1) n 139 (by unfold maxLen; omega)
  rw [← hG] at this; exact this
 have hzl : zz.size = (G - i) * 2 := by rw [hzz]; simp [Builtin.zeroCells, Value.cells]; omega
 have hRl : ROW.size = G * 2 := by rw [hROW]; simp only [Array.size_append, List.size_toArray, htl, hzl]; omega
 rw [← hG, Array.append_assoc, ← hzz, ← hROW] at hrz
 have HR0 := Lib.hid (show ROW.toList = fl.take (i * 2) ++ zz.toList from by rw [hROW]; simp)
 have hRL : ROW.toList.length = G * 2 := by simpa using hRl
 clear hROW hzz hold
 obtain ⟨rowA, hrA⟩ : ∃ rowA : Array Value, rowA = (ROW.toList.take (i * 2) ++ cCell x ++ ROW.toList.drop (i * 2 + (cCell x).length)).toArray := ⟨_, rfl⟩
 have hAl : rowA.size = G * 2 := by rw [hrA]; simp only [List.size_toArray, List.length_append, List.length_take, List.length_drop, hRL, cCell_len]; omega
 have hAL : rowA.toList.length = G * 2 := by simpa using hAl
 obtain ⟨rowB, hrB⟩ : ∃ rowB : Array Value, rowB = (rowA.toList.take ((i + 1) * 2) ++ fl.drop (i * 2) ++ rowA.toList.drop ((i + 1) * 2 + (fl.drop (i * 2)).length)).toArray := ⟨_, rfl⟩
 have hBl : rowB.size = G * 2 := by rw [hrB]; simp only [List.size_toArray, List.length_append, List.length_take, List.length_drop, hAL, hfl]; omega
 obtain ⟨WA, hWA⟩ : ∃ WA, WA = (w.alloc (.cells ROW 139)).drew := ⟨_, rfl⟩
 have hgN : WA.heap[w.heap.size]? = some (.cells ROW 139 (0, 0)) := by rw [hWA]; exact heap_alloc_new w _
 have hvA : WA.heap[vb]? = some (.cells #[.string ⟨x.fKey.toArray⟩, .int .i64 x.fValue] 139 (0, 0)) := by rw [hWA]; exact (Below.heap_alloc w _ vb hvw).trans hvb
 have hgA : WA.heap[g]? = some (.cells cur 139 (0, 0)) := by rw [hWA]; exact (Below.heap_alloc w _ g hgw).trans hg
 have hcpA : ∀ ty dc, (Builtin.copy_ #[32, 32] ty #[.slice (some ⟨w.heap.size, i * 2, none⟩) (n + 1 - i) dc, .slice (some ⟨vb, 0, none⟩) 1 1]).run Tryz.prog WA = .ok (goInt 1) (WA.setRow w.heap.size rowA) := fun ty dc => by
  rw [hrA]
  exact run_copy_row2 WA _ _ ty 139 w.heap.size (i * 2) (n + 1 - i) dc ⟨vb, 0, none⟩ 1 1 1 ROW 139 (cCell x) Tryz.underlying32 size_cell hgN (by simp only [Nat.min_def]; split <;> omega) rfl
   (fun j v hj => by
    rw [Addr.add_lit, cell_of_row _ vb (0 + j) _ 139 (0, 0) hvA, Nat.zero_add]
    simpa [cCell] using hj) (by rw [hRl]; simp [cCell]; omega) (fun v hv => cCell_one x v hv)
 have hgB : (WA.setRow w.heap.size rowA).heap[w.heap.size]? = some (.cells rowA 139 (0, 0)) := setRow_heap WA w.heap.size ROW rowA 139 (0, 0) hgN
 have hgO : (WA.setRow w.heap.size rowA).heap[g]? = some (.cells cur 139 (0, 0)) := by
  simp only [World.setRow, Array.getElem?_modify]
  rw [if_neg (by omega)]; exact hgA
 have hcellB : ∀ j v, fl[j]? = some v → (WA.setRow w.heap.size rowA).drew.cell? ⟨g, j, none⟩ = some v := fun j v hj => by
  have h1 : (WA.setRow w.heap.size rowA).drew.cell? ⟨g, j, none⟩ = cur[j]? := cell_of_row (WA.setRow w.heap.size rowA) g j cur 139 (0, 0) hgO
  rw [h1, ← cell_of_row w g j cur 139 (0, 0) hg]; exact hcell j v hj
 have hcpB : ∀ ty dc sc, (Builtin.copy_ #[32, 32] ty #[.slice (some ⟨w.heap.size, (i + 1) * 2, none⟩) (n - i) dc, .slice (some ⟨g, i * 2, none⟩) (n - i) sc]).run Tryz.prog (WA.setRow w.heap.size rowA).drew = .ok (goInt ((n - i : Nat) : Int)) ((WA.setRow w.heap.size rowA).drew.setRow w.heap.size rowB) := fun ty dc sc => by
  rw [hrB]
  exact run_copy_row2 (WA.setRow w.heap.size rowA).drew _ _ ty 139 w.heap.size ((i + 1) * 2) (n - i) dc ⟨g, i * 2, none⟩ (n - i) sc (n - i) rowA 139 (fl.drop (i * 2)) Tryz.underlying32 size_cell hgB (by simp only [Nat.min_def]; split <;> omega) hdl
   (fun j v hj => by rw [Addr.add_lit]; exact hcellB (i * 2 + j) v (by rwa [List.getElem?_drop] at hj)) (by rw [hdl, Nat.sub_mul, hAl]; omega) (fun v hv => h1c v (List.mem_of_mem_drop hv))
 have HRA := Lib.hid hrA
 have HRB := Lib.hid hrB
 have HWA := Lib.hid hWA
 have hGG := Lib.hid hG
 have hrz2 : ∀ ty, (Builtin.append_ #[32, 3] ty #[.slice (some ⟨g, 0, none⟩) i n, .int .i64 ((n : Int) + 1 - (i : Int))]).run Tryz.prog w = .ok (.slice (some ⟨w.heap.size, 0, none⟩) (n + 1) G) WA := fun ty => by rw [hrz ty, hWA]; rfl
 clear hrA hrB hWA hG hrz
 have hz1 : ¬ ((i : Int) = (n : Int)) := by omega
 have hz3 : (n : Int) < (n : Int) + 1 := by omega
 have hw1 : IntKind.i64.wrap ((i : Int) + 1) = (i : Int) + 1 := by rw [IntKind.wrap_i64]; omega
 have hw2 : IntKind.i64.wrap ((n : Int) + 1) = (n : Int) + 1 := by rw [IntKind.wrap_i64]; omega
 have hw3 : IntKind.i64.wrap ((n : Int) + 1 - (i : Int)) = (n : Int) + 1 - (i : Int) := by rw [IntKind.wrap_i64]; omega
 have hb1 : (0 : Int) ≤ (i : Int) + 1 := by omega
 have htn : ((i : Int) + 1).toNat = i + 1 := by omega
 have hin : i ≤ n := by omega
 have hb3 : (i : Int) ≤ (n : Int) := by omega
 have hb5 : (i : Int) + 1 ≤ (n : Int) + 1 := by omega
 have hGi : ¬ (G = i) := by omega
 have hGim : ¬ (G = i + 1) := by omega
 have hci : ¬ (n = i) := by omega
 have hi1 : (i : Int) ≤ (n : Int) + 1 := by omega
 clear hkk hik
 go_enter Tryz.func201, Tryz.ntmps201
 go_wp2_with (first | (at_builtin; refine Lib.wpList_append_run _ rfl _ _ _ _ rfl _ _ (by rfl) (by rfl) _ _ (hrz2 _) ?_) | (refine wpList_copy_runI _ rfl _ _ 32 32 rfl _ _ (by rfl) (by rfl) (hcpA _ _) ?_))
 go_region_law (refine step_copy_runI rfl _ _ 32 32 rfl _ _ (by simp [Act.eval, Act.put]) (by simp [Act.eval, Act.put]) (hcpB _ _ _) ?_)
 go_wp2_with fail
 go_ret
 have hgF := setRow_heap (WA.setRow w.heap.size rowA).drew w.heap.size rowA rowB 139 (0, 0) hgB
 refine ⟨.slice (some ⟨w.heap.size, 0, none⟩) (n + 1) G, rfl, ?_, ?_⟩
 ·have hlen := HL.out.2
  unfold OwnsF
  rw [hlen]
  refine ⟨by rw [flat_len cCell 2 cCell_len, hlen], Or.inr ⟨w.heap.size, G, rowB, rfl, Nat.le_refl _, hgF, hGn, hGm, hBl, ?_⟩⟩
  rw [HL.out.1]
  exact row_grow fl (cCell x) zz.toList i n hfl (cCell_len x) hi ROW.toList HR0.out rowA.toList (by rw [HRA.out]) rowB.toList (by rw [HRB.out])
 ·have h0 : Below w.heap.size w WA := by rw [HWA.out]; exact ((Below.refl _ _).alloc (Nat.le_refl _) _).drew
  refine h0.trans ⟨rfl, rfl, rfl, by simp [World.setRow], fun k hk => ?_⟩
  show ((WA.setRow w.heap.size rowA).setRow w.heap.size rowB).heap[k]? = WA.heap[k]?
  simp only [World.setRow, Array.getElem?_modify]
  rw [if_neg (by omega), if_neg (by omega)]
theorem ins_c (N : Nat) (v : Value) (l : List CellD) (i : Nat) (x : CellD) (vb : Nat) (w : World) (hO : OwnsF cCell 139 2 w N v l) (hi : i ≤ l.length) (hl : l.length ≤ 1000) (hN : N ≤ w.heap.size)
  (hvb : w.heap[vb]? = some (.cells #[.string ⟨x.fKey.toArray⟩, .int .i64 x.fValue] 139 (0, 0))) (hne : v.ownBlock ≠ some vb) :
  Calls Tryz.prog 201 #[v, .int .i64 i, .slice (some ⟨vb, 0, none⟩) 1 1] w fun e w' => ∃ v', e = .returned v' ∧ OwnsF cCell 139 2 w' N v' (l.take i ++ x :: l.drop i) ∧ w.grownBy w' v.ownBlock := by
 by_cases he : i = l.length
 ·subst he
  rw [List.take_length, List.drop_length]
  refine ins_end N v l x vb w hO hl hN ?_
  intro j hj
  rw [cell_of_row w vb j _ 139 (0, 0) hvb]
  rcases (show j = 0 ∨ j = 1 by omega) with rfl | rfl <;> rfl
 ·rcases hO.2 with ⟨rfl, hn⟩ | ⟨g, c, cur, rfl, hNg, hg, hnc, hcm, hcs, hcur⟩
  ·omega
  ·have hgv : vb ≠ g := fun e => hne (by rw [e]; rfl)
   by_cases hr : l.length + 1 ≤ c
   ·refine (ins_shift N g c i cur l x vb w hg hcs hcur (by omega) hr hcm hvb hgv).mono ?_
    rintro e w' ⟨v', rfl, ho, hgr⟩
    exact ⟨v', rfl, ho N hNg, hgr⟩
   ·have hc : c = l.length := by omega
    subst hc
    refine (ins_grow g i cur l x vb w hg hcs hcur (by omega) hl hvb).mono ?_
    rintro e w' ⟨v', rfl, ho, hb⟩
    exact ⟨v', rfl, ownsF_base ho hN, ⟨hb.os, hb.tape, hb.output, hb.size, fun k hk _ => hb.block k hk⟩⟩
theorem flat_set1 (k : List UInt8) (v : Int) : ∀ (l : List CellD) (p : Nat) (h : p < l.length), (l[p]).fKey = k → (l.flatMap cCell).set (p * 2 + 1) (.int .i64 v) = (l.set p ⟨k, v⟩).flatMap cCell
 | [], p, h, _ => by simp at h
 | d :: r, 0, h, e => by
  simp only [List.getElem_cons_zero] at e
  simp [cCell, e]
 | d :: r, p + 1, h, e => by
  have ih := flat_set1 k v r p (by simpa using h) (by simpa using e)
  rw [List.set_cons_succ, List.flatMap_cons, List.flatMap_cons, ← ih, show (p + 1) * 2 + 1 = (cCell d).length + (p * 2 + 1) by rw [cCell_len]; omega, List.set_append_right _ _ (by omega)]
  simp
theorem CoreBox.cells {w : World} {b : Nat} {cv : Value} {k : List UInt8} {on br : Bool} {l : List CellD} {n : Int} (h : CoreBox w b cv ⟨k, on, br, l, n⟩) (l2 : List CellD) : CoreBox w b cv ⟨k, on, br, l2, n⟩ := ⟨h.c0, h.c1, h.c2, h.c3, h.c4, h.z1, h.z2, h.z3, h.z4⟩
theorem set_blk_cell (w : World) (p q : Addr) (u : Value) (h : q.block ≠ p.block) : (w.setCell p u).cell? q = w.cell? q := World.cell?_of_block (Below.heap_setCell w p u q.block h)
theorem st_count {N b : Nat} {cv : Value} {d d' : CoreD} {w w' : World} (h : CoreSt N b cv d w) (hb : CoreBox w' b cv d') (hc : d'.fCells = d.fCells) (hk : Kept2 w w' (some b) none) : CoreSt N b cv d' w' := (st_turned h hb hc hk).1
theorem Kept2.both {a w w' : World} {b : Nat} {r : Option Nat} (h : Kept2 a w (some b) r) (k : Kept2 w w' (some b) none) : Kept2 a w' (some b) r :=
 ⟨k.os.trans h.os, k.tape.trans h.tape, k.output.trans h.output, Nat.le_trans h.size k.size, fun i hi h1 h2 => (k.block i (Nat.lt_of_lt_of_le hi h.size) h1 (by simp)).trans (h.block i hi h1 h2),
  fun i o hi h1 h2 ho => ⟨(k.tail i o (Nat.lt_of_lt_of_le hi h.size) h1 (by simp) ho).1.trans (h.tail i o hi h1 h2 ho).1, (k.tail i o (Nat.lt_of_lt_of_le hi h.size) h1 (by simp) ho).2.trans (h.tail i o hi h1 h2 ho).2⟩⟩
theorem Kept2.grown {a w w' : World} {b : Nat} {r : Option Nat} (h : Kept2 a w (some b) r) (k : w.grownBy w' r) : Kept2 a w' (some b) r :=
 ⟨k.os.trans h.os, k.tape.trans h.tape, k.output.trans h.output, Nat.le_trans h.size k.size, fun i hi h1 h2 => (k.block i (Nat.lt_of_lt_of_le hi h.size) h2).trans (h.block i hi h1 h2),
  fun i o hi h1 h2 ho => ⟨(World.cell?_of_block (k.block i (Nat.lt_of_lt_of_le hi h.size) (fun e => h2 e.symm))).trans (h.tail i o hi h1 h2 ho).1, (World.frozen?_of_block (k.block i (Nat.lt_of_lt_of_le hi h.size) (fun e => h2 e.symm))).trans (h.tail i o hi h1 h2 ho).2⟩⟩
set_option maxRecDepth 100000 in
set_option maxHeartbeats 3200000 in
theorem put_found (N b : Nat) (cv : Value) (d : CoreD) (key : List UInt8) (n : Int) (w : World) (h : CoreSt N b cv d w) (hm : d.fCells.length ≤ 4) (hr : -9223372036854775808 ≤ d.fCount) (hi : idleI d = 0) (hf : fnd d.fCells key = true) :
  Calls Tryz.prog 198 #[.agg #[.pointer (some ⟨b, 0, none⟩)], .string ⟨key.toArray⟩, .int .i64 n] w fun e w' => Does N b cv (putD d key n) w e w' := by
 have HS := Lib.hid h
 have HB := Lib.hid h.box
 have hl0 := h.box.lt
 have HX := Lib.hid (ownsF_at h.own (by omega))
 obtain ⟨c0, c1, c2, c3, c4, z1, z2, z3, z4⟩ := h.box
 have hne := h.ne
 clear h
 have HD := Lib.hid (fun w' (hw : Below w.heap.size w w') => show CoreBox w' b cv d ∧ Kept2 w w' (some b) none from ⟨HB.out.keep (hw.block b hl0), Kept2.of_below hw⟩)
 have HI := Lib.hid (fun w' (hw : Below w.heap.size w w') => idle_c b cv d w' (HD.out w' hw).1)
 rw [hi] at HI
 have HF := Lib.hid (fun w' (hw : Below w.heap.size w w') => find_c cv d.fCells key w' (HX.out.below hw (Nat.le_refl _)))
 rw [hf] at HF
 have HG := Lib.hid (show putD d key n = ({ d with fCells := putC d.fCells key n, fCount := upI d.fCount }, rV (putC d.fCells key n).length) from by unfold putD; rw [if_pos hi, if_pos (Or.inl hf)])
 have hp := fnd_lt hf
 have hkey : (d.fCells[plc d.fCells key]).fKey = key := by have := (fnd_at d.fCells key hp).1; rw [hf] at this; simpa using this.symm
 have HP := Lib.hid (show putC d.fCells key n = d.fCells.set (plc d.fCells key) ⟨key, n⟩ from putC_found _ _ _ hf)
 have HFS := Lib.hid (flat_set1 key n d.fCells (plc d.fCells key) hp hkey)
 rw [HP.out] at HG
 simp only [List.length_set] at HG
 clear hf hi HP hkey
 generalize putD d key n = out at *
 generalize plc d.fCells key = p at *
 obtain ⟨kd, on, br, l, cnt⟩ := d
 simp only at *
 have hl1 : b < w.heap.size + 1 := by omega
 have hl2 : b < w.heap.size + 1 + 1 := by omega
 have hn0 : ¬ b = w.heap.size := by omega
 have hn1 : ¬ b = w.heap.size + 1 := by omega
 have hap := @past_cell b
 have haf := @past_frozen b
 have HB2 := Lib.hid (show ∀ o1 o2, Below w.heap.size w ((w.alloc o1).alloc o2) from fun o1 o2 => ((Below.refl _ _).alloc (Nat.le_refl _) _).alloc (by simp) _)
 obtain ⟨g, c, rfl⟩ : ∃ g c, cv = .slice (some ⟨g, 0, none⟩) l.length c := by
  rcases HS.out.own.2 with ⟨_, hn⟩ | ⟨g, cap, cur, rfl, _⟩
  ·simp only at hn; omega
  ·exact ⟨_, _, rfl⟩
 have hgb : ¬ g = b := fun e => hne (by rw [e]; rfl)
 have hgw : g < w.heap.size := (World.ownsRow.lt HS.out.own g rfl).2
 have hp0 : (0 : Int) ≤ (p : Int) := by omega
 have hp1 : (p : Int) < (l.length : Int) := by omega
 go_enter Tryz.func198, Tryz.ntmps198
 go_wp2_with fail
 refine (HI.out _ (HB2.out _ _)).mono ?_
 rintro e w1 ⟨rfl, rfl⟩
 go_wp2_with fail
 refine (HF.out _ (HB2.out _ _)).mono ?_
 rintro e w1 ⟨rfl, hb⟩
 have HB3 := Lib.hid ((HB2.out _ _).trans (hb.mono (HB2.out _ _).size))
 have HO1 := Lib.hid (show OwnsF cCell 139 2 w1 N (.slice (some ⟨g, 0, none⟩) l.length c) l from ownsF_below HS.out.own HB3.out (Nat.le_refl _))
 have ST := Lib.hid (World.ownsRow.stored HO1.out (p * 2 + 1) (.int .i64 n))
 obtain ⟨hcc, hff⟩ := bcell hb
 simp at hcc hff
 have hsz := hb.size
 simp at hsz
 have e1 : (w1.cell? ⟨g, p * 2 + 1, none⟩).isSome = true := by
  rw [World.ownsRow.cellAt HO1.out (p * 2 + 1) (by omega), List.getElem?_eq_getElem (by rw [flat_len cCell 2 cCell_len]; omega)]; rfl
 obtain ⟨ev, e1⟩ := Option.isSome_iff_exists.1 e1
 have f1 := World.ownsRow.frozenAt HO1.out (p * 2 + 1)
 clear hb
 have hz0 : ∀ o, w1.frozen? ⟨w.heap.size + 1, o, none⟩ = false := fun o => by rw [hff _ _ (by omega)]; simp [go_sem]
 go_wp2_with fail
 refine (countUp_c b (.slice (some ⟨g, 0, none⟩) l.length c) ⟨kd, on, br, l.set p ⟨key, n⟩, cnt⟩ _ (((HD.out _ HB3.out).1.so _ _ (by simpa using fun e => hgb e.symm)).cells _) hr).mono ?_
 rintro e w2 ⟨rfl, hbx, hk⟩
 have HBX := Lib.hid hbx
 have HK := Lib.hid hk
 have g0 : w2.cell? ⟨w.heap.size, 0, none⟩ = some (.pointer (some ⟨b, 0, none⟩)) := (hk.cell (p := ⟨w.heap.size, 0, none⟩) (by simp; omega) (by simp; omega) (by simp)).trans ((set_blk_cell _ _ _ _ (by simp; omega)).trans ((hcc _ _ (by omega)).trans (by simp [go_sem])))
 have r0 : w2.cell? ⟨w.heap.size + 1, 0, none⟩ = some (.int .i64 0) := (hk.cell (p := ⟨w.heap.size + 1, 0, none⟩) (by simp; omega) (by simp; omega) (by simp)).trans ((set_blk_cell _ _ _ _ (by simp; omega)).trans ((hcc _ _ (by omega)).trans (by simp [go_sem])))
 have r1 : w2.cell? ⟨w.heap.size + 1, 1, none⟩ = some (.int .i64 0) := (hk.cell (p := ⟨w.heap.size + 1, 1, none⟩) (by simp; omega) (by simp; omega) (by simp)).trans ((set_blk_cell _ _ _ _ (by simp; omega)).trans ((hcc _ _ (by omega)).trans (by simp [go_sem])))
 have r2 : w2.cell? ⟨w.heap.size + 1, 2, none⟩ = some (.string ⟨#[]⟩) := (hk.cell (p := ⟨w.heap.size + 1, 2, none⟩) (by simp; omega) (by simp; omega) (by simp)).trans ((set_blk_cell _ _ _ _ (by simp; omega)).trans ((hcc _ _ (by omega)).trans (by simp [go_sem])))
 have r3 : w2.cell? ⟨w.heap.size + 1, 3, none⟩ = some (.int .i64 0) := (hk.cell (p := ⟨w.heap.size + 1, 3, none⟩) (by simp; omega) (by simp; omega) (by simp)).trans ((set_blk_cell _ _ _ _ (by simp; omega)).trans ((hcc _ _ (by omega)).trans (by simp [go_sem])))
 have r4 : w2.cell? ⟨w.heap.size + 1, 4, none⟩ = some (.int .i64 0) := (hk.cell (p := ⟨w.heap.size + 1, 4, none⟩) (by simp; omega) (by simp; omega) (by simp)).trans ((set_blk_cell _ _ _ _ (by simp; omega)).trans ((hcc _ _ (by omega)).trans (by simp [go_sem])))
 have y0 : ∀ o, w2.frozen? ⟨w.heap.size + 1, o, none⟩ = false := fun o => (hk.frozen (p := ⟨w.heap.size + 1, o, none⟩) (by simp; omega) (by simp; omega) (by simp)).trans ((frz_set _ _ _ _).trans (hz0 o))
 have hsz2 := hk.size
 simp at hsz2
 have d3 := hbx.c3
 clear hbx hk c0 c1 c2 c3 c4 z1 z2 z3 z4
 have S1 := Lib.hid (show CoreSt N b (.slice (some ⟨g, 0, none⟩) l.length c) ⟨kd, on, br, l.set p ⟨key, n⟩, cnt⟩ (w1.setCell ⟨g, p * 2 + 1, none⟩ (.int .i64 n)) from
  ⟨((HD.out _ HB3.out).1.so _ _ (by simpa using fun e => hgb e.symm)).cells _, by have h := ST.out.1; rw [HFS.out] at h; unfold OwnsF; rw [List.length_set]; exact h, hne, HS.out.ge⟩)
 have HFN := Lib.hid (show Fin N b (.slice (some ⟨g, 0, none⟩) l.length c) ⟨kd, on, br, l.set p ⟨key, n⟩, upI cnt⟩ (w.heap.size + 1) w w2 from
  ⟨⟨_, st_count S1.out HBX.out rfl HK.out, by simp [Value.ownBlock]; omega⟩, by omega, by omega, (Kept2.set (p := ⟨g, p * 2 + 1, none⟩) (Kept2.of_below HB3.out) _ (Or.inr (Or.inr rfl))).both HK.out⟩)
 go_wp2_with fail
 refine bodyPost_ret (v := vReply (rV l.length)) (by simp [results, Tryz.results198, go_sem, vReply, rC, rV, rT, cell_set_at, cell_set_ne, r0, r1, r2, r3, r4]) rfl ?_
 rw [HG.out]
 refine fin_does (out := ((⟨kd, on, br, l.set p ⟨key, n⟩, upI cnt⟩ : CoreD), rV l.length)) (n := w.heap.size + 1) ?_
 repeat (with_reducible refine fin_set ?_ _ _)
 exact HFN.out
set_option maxRecDepth 100000 in
set_option maxHeartbeats 3200000 in
theorem put_idle (N b : Nat) (cv : Value) (d : CoreD) (key : List UInt8) (n : Int) (w : World) (h : CoreSt N b cv d w) (hr : -9223372036854775808 ≤ d.fCount) (hm : d.fCells.length ≤ 4) (hi : ¬ idleI d = 0) :
  Calls Tryz.prog 198 #[.agg #[.pointer (some ⟨b, 0, none⟩)], .string ⟨key.toArray⟩, .int .i64 n] w fun e w' => Does N b cv (putD d key n) w e w' := by
 have HS := Lib.hid h
 have HB := Lib.hid h.box
 have hl0 := h.box.lt
 have HX := Lib.hid (ownsF_at h.own (by omega))
 obtain ⟨c0, c1, c2, c3, c4, z1, z2, z3, z4⟩ := h.box
 have hne := h.ne
 clear h
 have HD := Lib.hid (fun w' (hw : Below w.heap.size w w') => show CoreBox w' b cv d ∧ Kept2 w w' (some b) none from ⟨HB.out.keep (hw.block b hl0), Kept2.of_below hw⟩)
 have HI := Lib.hid (fun w' (hw : Below w.heap.size w w') => idle_c b cv d w' (HD.out w' hw).1)
 have HF := Lib.hid (fun w' (hw : Below w.heap.size w w') => find_c cv d.fCells key w' (HX.out.below hw (Nat.le_refl _)))
 have HG := Lib.hid (show putD d key n = (d, rC (idleI d)) from by unfold putD; rw [if_neg hi])
 generalize putD d key n = out at *
 generalize idleI d = code at *
 obtain ⟨kd, on, br, l, cnt⟩ := d
 simp only at *
 have hl1 : b < w.heap.size + 1 := by omega
 have hl2 : b < w.heap.size + 1 + 1 := by omega
 have hn0 : ¬ b = w.heap.size := by omega
 have hn1 : ¬ b = w.heap.size + 1 := by omega
 have hap := @past_cell b
 have haf := @past_frozen b
 have HB2 := Lib.hid (show ∀ o1 o2, Below w.heap.size w ((w.alloc o1).alloc o2) from fun o1 o2 => ((Below.refl _ _).alloc (Nat.le_refl _) _).alloc (by simp) _)
 have hcn : (code != 0) = true := by simpa using hi
 go_enter Tryz.func198, Tryz.ntmps198
 go_wp2_with fail
 refine (HI.out _ (HB2.out _ _)).mono ?_
 rintro e w1 ⟨rfl, rfl⟩
 go_wp2_with fail
 refine bodyPost_ret (v := vReply (rC code)) (by simp [results, Tryz.results198, go_sem, vReply, rC, rV, rT]) rfl ?_
 refine does_of (d' := ⟨kd, on, br, l, cnt⟩) (r := rC code) HS.out ?_ rfl ?_ HG.out rfl
 ·exact (HD.out _ (HB2.out _ _)).1
 ·exact (HD.out _ (HB2.out _ _)).2
set_option maxRecDepth 100000 in
set_option maxHeartbeats 3200000 in
theorem put_full (N b : Nat) (cv : Value) (d : CoreD) (key : List UInt8) (n : Int) (w : World) (h : CoreSt N b cv d w) (hr : -9223372036854775808 ≤ d.fCount) (hm : d.fCells.length ≤ 4) (hi : idleI d = 0) (hf : fnd d.fCells key = false) (h4 : ¬ d.fCells.length < 4) :
  Calls Tryz.prog 198 #[.agg #[.pointer (some ⟨b, 0, none⟩)], .string ⟨key.toArray⟩, .int .i64 n] w fun e w' => Does N b cv (putD d key n) w e w' := by
 have HS := Lib.hid h
 have HB := Lib.hid h.box
 have hl0 := h.box.lt
 have HX := Lib.hid (ownsF_at h.own (by omega))
 obtain ⟨c0, c1, c2, c3, c4, z1, z2, z3, z4⟩ := h.box
 have hne := h.ne
 clear h
 have HD := Lib.hid (fun w' (hw : Below w.heap.size w w') => show CoreBox w' b cv d ∧ Kept2 w w' (some b) none from ⟨HB.out.keep (hw.block b hl0), Kept2.of_below hw⟩)
 have HI := Lib.hid (fun w' (hw : Below w.heap.size w w') => idle_c b cv d w' (HD.out w' hw).1)
 have HF := Lib.hid (fun w' (hw : Below w.heap.size w w') => find_c cv d.fCells key w' (HX.out.below hw (Nat.le_refl _)))
 rw [hi] at HI
 rw [hf] at HF
 have HG := Lib.hid (show putD d key n = (d, rC 5) from by unfold putD; rw [if_pos hi, if_neg (by rw [hf]; simpa using h4)])
 clear hf hi
 generalize putD d key n = out at *
 generalize plc d.fCells key = p at *
 obtain ⟨kd, on, br, l, cnt⟩ := d
 simp only at *
 have hl1 : b < w.heap.size + 1 := by omega
 have hl2 : b < w.heap.size + 1 + 1 := by omega
 have hn0 : ¬ b = w.heap.size := by omega
 have hn1 : ¬ b = w.heap.size + 1 := by omega
 have hap := @past_cell b
 have haf := @past_frozen b
 have HB2 := Lib.hid (show ∀ o1 o2, Below w.heap.size w ((w.alloc o1).alloc o2) from fun o1 o2 => ((Below.refl _ _).alloc (Nat.le_refl _) _).alloc (by simp) _)
 obtain ⟨ca, cc, rfl⟩ := slice_of HS.out.own
 simp only at *
 have h5 : (4 : Int) ≤ (l.length : Int) := by omega
 go_enter Tryz.func198, Tryz.ntmps198
 go_wp2_with fail
 refine (HI.out _ (HB2.out _ _)).mono ?_
 rintro e w1 ⟨rfl, rfl⟩
 go_wp2_with fail
 refine (HF.out _ (HB2.out _ _)).mono ?_
 rintro e w1 ⟨rfl, hb⟩
 have HB3 := Lib.hid ((HB2.out _ _).trans (hb.mono (HB2.out _ _).size))
 obtain ⟨hcc, hff⟩ := bcell hb
 simp at hcc hff
 have hsz := hb.size
 simp at hsz
 clear hb
 go_wp2_with fail
 refine bodyPost_ret (v := vReply (rC 5)) (by simp [results, Tryz.results198, go_sem, vReply, rC, rV, rT, cell_set_at, cell_set_ne, hcc]) rfl ?_
 refine does_of (d' := ⟨kd, on, br, l, cnt⟩) (r := rC 5) HS.out ?_ rfl ?_ HG.out rfl
 ·exact (HD.out _ (by repeat (first | with_reducible exact HB3.out | with_reducible refine Below.setCell ?_ (by simp; try omega) _)) ).1
 ·exact (HD.out _ (by repeat (first | with_reducible exact HB3.out | with_reducible refine Below.setCell ?_ (by simp; try omega) _)) ).2
theorem slice_len {α : Type} {f : α → List Value} {E k : Nat} {w : World} {B m : Nat} {v : Value} {l : List α} (h : OwnsF f E k w B v l) (hm : l.length = m) : ∃ a c, v = .slice a m c := by
 subst hm; exact slice_of h
set_option maxRecDepth 100000 in
set_option maxHeartbeats 3200000 in
theorem put_new (N b : Nat) (cv : Value) (d : CoreD) (key : List UInt8) (n : Int) (w : World) (h : CoreSt N b cv d w) (hr : -9223372036854775808 ≤ d.fCount) (h4 : d.fCells.length < 4) (hk : key.length ≤ 1048576) (hi : idleI d = 0) (hf : fnd d.fCells key = false) :
  Calls Tryz.prog 198 #[.agg #[.pointer (some ⟨b, 0, none⟩)], .string ⟨key.toArray⟩, .int .i64 n] w fun e w' => Does N b cv (putD d key n) w e w' := by
 have HS := Lib.hid h
 have HB := Lib.hid h.box
 have hl0 := h.box.lt
 have HX := Lib.hid (ownsF_at h.own (by omega))
 obtain ⟨c0, c1, c2, c3, c4, z1, z2, z3, z4⟩ := h.box
 have hne := h.ne
 clear h
 have HD := Lib.hid (fun w' (hw : Below w.heap.size w w') => show CoreBox w' b cv d ∧ Kept2 w w' (some b) none from ⟨HB.out.keep (hw.block b hl0), Kept2.of_below hw⟩)
 have HI := Lib.hid (fun w' (hw : Below w.heap.size w w') => idle_c b cv d w' (HD.out w' hw).1)
 have HF := Lib.hid (fun w' (hw : Below w.heap.size w w') => find_c cv d.fCells key w' (HX.out.below hw (Nat.le_refl _)))
 rw [hi] at HI
 rw [hf] at HF
 have HG := Lib.hid (show putD d key n = ({ d with fCells := putC d.fCells key n, fCount := upI d.fCount }, rV (putC d.fCells key n).length) from by unfold putD; rw [if_pos hi, if_pos (Or.inr h4)])
 have HP := Lib.hid (show putC d.fCells key n = d.fCells.take (plc d.fCells key) ++ ⟨key, n⟩ :: d.fCells.drop (plc d.fCells key) from putC_new _ _ _ hf)
 have hple := plc_le d.fCells key
 have HLN := Lib.hid (show (putC d.fCells key n).length = d.fCells.length + 1 from by rw [putC_len, hf]; rfl)
 clear hf hi
 generalize putD d key n = out at *
 generalize plc d.fCells key = p at *
 generalize putC d.fCells key n = l2 at *
 obtain ⟨kd, on, br, l, cnt⟩ := d
 simp only at *
 have hl1 : b < w.heap.size + 1 := by omega
 have hl2 : b < w.heap.size + 1 + 1 := by omega
 have hn0 : ¬ b = w.heap.size := by omega
 have hn1 : ¬ b = w.heap.size + 1 := by omega
 have hap := @past_cell b
 have haf := @past_frozen b
 have HB2 := Lib.hid (show ∀ o1 o2, Below w.heap.size w ((w.alloc o1).alloc o2) from fun o1 o2 => ((Below.refl _ _).alloc (Nat.le_refl _) _).alloc (by simp) _)
 obtain ⟨ca, cc, rfl⟩ := slice_of HS.out.own
 simp only at *
 have h5 : ¬ (4 : Int) ≤ (l.length : Int) := by omega
 have HCT := Lib.hid (fun W => copyText_any ⟨key.toArray⟩ W (by rw [← size_list]; simp; omega))
 have HLT := Lib.hid (show ∀ g, (Value.slice ca l.length cc).ownBlock = some g → g < w.heap.size from fun g h => (World.ownsRow.lt HS.out.own g h).2)
 have hge := HS.out.ge
 have hlen : (l.take p ++ (⟨key, n⟩ : CellD) :: l.drop p).length = l.length + 1 := by simp; omega
 go_enter Tryz.func198, Tryz.ntmps198
 go_wp2_with fail
 refine (HI.out _ (HB2.out _ _)).mono ?_
 rintro e w1 ⟨rfl, rfl⟩
 go_wp2_with fail
 refine (HF.out _ (HB2.out _ _)).mono ?_
 rintro e w1 ⟨rfl, hb⟩
 have HB3 := Lib.hid ((HB2.out _ _).trans (hb.mono (HB2.out _ _).size))
 have HO1 := Lib.hid (show OwnsF cCell 139 2 w1 N (.slice ca l.length cc) l from ownsF_below HS.out.own HB3.out (Nat.le_refl _))
 have HBX1 := Lib.hid (HD.out _ HB3.out).1
 have k3 := HBX1.out.c3
 have hsz := hb.size
 simp at hsz
 have g0 : w1.cell? ⟨w.heap.size, 0, none⟩ = some (.pointer (some ⟨b, 0, none⟩)) := (hb.cell (p := ⟨w.heap.size, 0, none⟩) (by simp; try omega)).trans (by simp [go_sem])
 have r0 : w1.cell? ⟨w.heap.size + 1, 0, none⟩ = some (.int .i64 0) := (hb.cell (p := ⟨w.heap.size + 1, 0, none⟩) (by simp)).trans (by simp [go_sem])
 have r1 : w1.cell? ⟨w.heap.size + 1, 1, none⟩ = some (.int .i64 0) := (hb.cell (p := ⟨w.heap.size + 1, 1, none⟩) (by simp)).trans (by simp [go_sem])
 have r2 : w1.cell? ⟨w.heap.size + 1, 2, none⟩ = some (.string ⟨#[]⟩) := (hb.cell (p := ⟨w.heap.size + 1, 2, none⟩) (by simp)).trans (by simp [go_sem])
 have r3 : w1.cell? ⟨w.heap.size + 1, 3, none⟩ = some (.int .i64 0) := (hb.cell (p := ⟨w.heap.size + 1, 3, none⟩) (by simp)).trans (by simp [go_sem])
 have r4 : w1.cell? ⟨w.heap.size + 1, 4, none⟩ = some (.int .i64 0) := (hb.cell (p := ⟨w.heap.size + 1, 4, none⟩) (by simp)).trans (by simp [go_sem])
 have y0 : ∀ o, w1.frozen? ⟨w.heap.size + 1, o, none⟩ = false := fun o => (hb.frozen (p := ⟨w.heap.size + 1, o, none⟩) (by simp)).trans (by simp [go_sem])
 have HR := Lib.hid (And.intro r0 (And.intro r1 (And.intro r2 (And.intro r3 r4))))
 have HY := Lib.hid y0
 have hbw : b < w1.heap.size := by omega
 clear hb c0 c1 c2 c3 c4 z1 z2 z3 z4 r0 r1 r2 r3 r4 y0
 go_wp2_with fail
 have hpn := @past_cell w.heap.size
 refine region_T (S := fun w' => w'.cell? ⟨w.heap.size, 0, none⟩ = some (.pointer (some ⟨b, 0, none⟩)) ∧ w'.cell? ⟨b, 3, none⟩ = some (.slice ca l.length cc)) (t := 16) (by kernel_rfl) ?_ (fun hHeld => ?_)
 ·exact ⟨g0, k3⟩
 refine anyT_take (i := 0) (v := ?_) rfl (by kernel_rfl) (by kernel_rfl) (by kernel_rfl) (by kernel_rfl) (by kernel_rfl) (fun _ _ _ h => h) (Or.inl ⟨by rfl, ?_⟩) (by assumption) ?_
 rotate_left
 ·intro w hSw; (try dsimp only at hSw); go_simp; with_reducible rfl
 try simp only [Act.put, List.getElem_toArray, List.getElem_cons_zero, List.getElem_cons_succ, List.setIfInBounds_toArray, List.set_cons_zero, List.set_cons_succ]
 refine anyT_take (i := 1) (v := ?_) rfl (by kernel_rfl) (by kernel_rfl) (by kernel_rfl) (by kernel_rfl) (by kernel_rfl) (fun _ _ _ h => h) (Or.inl ⟨by rfl, ?_⟩) (by assumption) ?_
 rotate_left
 ·intro w hSw; (try dsimp only at hSw); go_simp; with_reducible rfl
 try simp only [Act.put, List.getElem_toArray, List.getElem_cons_zero, List.getElem_cons_succ, List.setIfInBounds_toArray, List.set_cons_zero, List.set_cons_succ]
 refine anyT_take (i := 2) (v := ?_) rfl (by kernel_rfl) (by kernel_rfl) (by kernel_rfl) (by kernel_rfl) (by kernel_rfl) (fun _ _ _ h => h) (Or.inl ⟨by rfl, ?_⟩) (by assumption) ?_
 rotate_left
 ·intro w hSw; (try dsimp only at hSw); go_simp; with_reducible rfl
 try simp only [Act.put, List.getElem_toArray, List.getElem_cons_zero, List.getElem_cons_succ, List.setIfInBounds_toArray, List.set_cons_zero, List.set_cons_succ]
 refine anyT_take (i := 3) (v := ?_) rfl (by kernel_rfl) (by kernel_rfl) (by kernel_rfl) (by kernel_rfl) (by kernel_rfl) (fun _ _ _ h => h) (Or.inl ⟨by rfl, ?_⟩) (by assumption) ?_
 rotate_left
 ·intro w hSw; (try dsimp only at hSw); go_simp; with_reducible rfl
 try simp only [Act.put, List.getElem_toArray, List.getElem_cons_zero, List.getElem_cons_succ, List.setIfInBounds_toArray, List.set_cons_zero, List.set_cons_succ]
 refine anyT_take (i := 4) (v := ?_) rfl (by kernel_rfl) (by kernel_rfl) (by kernel_rfl) (by kernel_rfl) (by kernel_rfl) (fun _ _ _ h => h) (Or.inl ⟨by rfl, ?_⟩) (by assumption) ?_
 rotate_left
 ·intro w hSw; (try dsimp only at hSw); go_simp; with_reducible rfl
 try simp only [Act.put, List.getElem_toArray, List.getElem_cons_zero, List.getElem_cons_succ, List.setIfInBounds_toArray, List.set_cons_zero, List.set_cons_succ]
 refine anyT_take (i := 5) (v := ?_) rfl (by kernel_rfl) (by kernel_rfl) (by kernel_rfl) (by kernel_rfl) (by kernel_rfl) (fun _ _ _ h => h) (Or.inl ⟨by rfl, ?_⟩) (by assumption) ?_
 rotate_left
 ·intro w hSw; (try dsimp only at hSw); go_simp; with_reducible rfl
 try simp only [Act.put, List.getElem_toArray, List.getElem_cons_zero, List.getElem_cons_succ, List.setIfInBounds_toArray, List.set_cons_zero, List.set_cons_succ]
 refine anyT_take (i := 6) (v := ?_) rfl (by kernel_rfl) (by kernel_rfl) (by kernel_rfl) (by kernel_rfl) (by kernel_rfl) (fun _ _ _ h => h) (Or.inl ⟨by rfl, ?_⟩) (by assumption) ?_
 rotate_left
 ·intro w hSw; (try dsimp only at hSw); go_simp; with_reducible rfl
 try simp only [Act.put, List.getElem_toArray, List.getElem_cons_zero, List.getElem_cons_succ, List.setIfInBounds_toArray, List.set_cons_zero, List.set_cons_succ]
 refine anyT_take (i := 7) (v := ?_) rfl (by kernel_rfl) (by kernel_rfl) (by kernel_rfl) (by kernel_rfl) (by kernel_rfl) (fun _ _ _ h => h) (Or.inl ⟨by rfl, ?_⟩) (by assumption) ?_
 rotate_left
 ·intro w hSw; (try dsimp only at hSw); go_simp; with_reducible rfl
 try simp only [Act.put, List.getElem_toArray, List.getElem_cons_zero, List.getElem_cons_succ, List.setIfInBounds_toArray, List.set_cons_zero, List.set_cons_succ]
 refine anyT_take (i := 8) (v := ?_) rfl (by kernel_rfl) (by kernel_rfl) (by kernel_rfl) (by kernel_rfl) (by kernel_rfl) (fun _ _ _ h => h) (Or.inl ⟨by rfl, ?_⟩) (by assumption) ?_
 rotate_left
 ·intro w hSw; (try dsimp only at hSw); go_simp; with_reducible rfl
 try simp only [Act.put, List.getElem_toArray, List.getElem_cons_zero, List.getElem_cons_succ, List.setIfInBounds_toArray, List.set_cons_zero, List.set_cons_succ]
 refine anyT_take (i := 10) (v := ?_) rfl (by kernel_rfl) (by kernel_rfl) (by kernel_rfl) (by kernel_rfl) (by kernel_rfl) (fun _ _ _ h => h) (Or.inl ⟨by rfl, ?_⟩) (by assumption) ?_
 rotate_left
 ·intro w hSw; (try dsimp only at hSw); go_simp; with_reducible rfl
 try simp only [Act.put, List.getElem_toArray, List.getElem_cons_zero, List.getElem_cons_succ, List.setIfInBounds_toArray, List.set_cons_zero, List.set_cons_succ]
 refine anyT_only (i := 9) (by kernel_rfl) rfl (fun K hK => ?_)
 go_simp
 go_at_call 105; (with_reducible refine (HCT.out _).mono ?_); rintro e w2 ⟨rfl, hb1⟩; have s2 : w1.heap.size ≤ w2.heap.size := hb1.size; have g2 : w2.cell? ⟨w.heap.size, 0, none⟩ = some (.pointer (some ⟨b, 0, none⟩)) := (hb1.cell (p := ⟨w.heap.size, 0, none⟩) (show w.heap.size < w1.heap.size by omega)).trans g0; have k32 : w2.cell? ⟨b, 3, none⟩ = some (.slice ca l.length cc) := (hb1.cell (p := ⟨b, 3, none⟩) hbw).trans k3; have z32 : w2.frozen? ⟨b, 3, none⟩ = false := (hb1.frozen (p := ⟨b, 3, none⟩) hbw).trans HBX1.out.z3; have hbw2 : b < w2.heap.size := (by omega); have hnw2 : w.heap.size < w2.heap.size := (by omega)
 refine hK.out _ _ ?_ (fun hHeld => ?_)
 ·exact ⟨g2, k32⟩
 clear hK K
 try simp only [Act.put, List.getElem_toArray, List.getElem_cons_zero, List.getElem_cons_succ, List.setIfInBounds_toArray, List.set_cons_zero, List.set_cons_succ]
 refine anyT_take (i := 11) (v := ?_) rfl (by kernel_rfl) (by kernel_rfl) (by kernel_rfl) (by kernel_rfl) (by kernel_rfl) (fun _ _ _ h => h) (Or.inl ⟨by rfl, ?_⟩) (by assumption) ?_
 rotate_left
 ·intro w hSw; (try dsimp only at hSw); go_simp; with_reducible rfl
 try simp only [Act.put, List.getElem_toArray, List.getElem_cons_zero, List.getElem_cons_succ, List.setIfInBounds_toArray, List.set_cons_zero, List.set_cons_succ]
 refine anyT_only (i := 12) (by kernel_rfl) rfl (fun K hK => ?_)
 go_simp
 skip
 refine hK.out _ _ ?_ (fun hHeld => ?_)
 ·exact ⟨(past_cell w2 _ 0 hnw2).trans g2, (past_cell w2 _ 3 hbw2).trans k32⟩
 clear hK K
 try simp only [Act.put, List.getElem_toArray, List.getElem_cons_zero, List.getElem_cons_succ, List.setIfInBounds_toArray, List.set_cons_zero, List.set_cons_succ]
 refine anyT_only (i := 13) (by kernel_rfl) rfl (fun K hK => ?_)
 go_simp
 go_at_call 201; refine (ins_c N _ l p ⟨key, n⟩ w2.heap.size _ (ownsF_alloc (ownsF_below (ownsF_drew HO1.out) hb1 (Nat.le_refl _)) _) hple (by omega) (by simp; omega) (heap_alloc_new w2 _) (fun e => by have := HLT.out _ e; omega)).mono ?_; rintro e w4 ⟨v', rfl, hO4, hg2⟩; have HO4 := Lib.hid hO4; obtain ⟨va, vc, rfl⟩ := slice_len hO4 hlen; clear hO4; have s4 : w2.heap.size + 1 ≤ w4.heap.size := (by have := hg2.size; simpa using this); have b3 : w4.cell? ⟨b, 3, none⟩ = some (.slice ca l.length cc) := (hg2.cell_far ⟨b, 3, none⟩ (by simp; omega) (fun e => hne e.symm)).trans ((past_cell w2 _ 3 hbw2).trans k32); have b0 : w4.cell? ⟨w.heap.size, 0, none⟩ = some (.pointer (some ⟨b, 0, none⟩)) := (hg2.cell_far ⟨w.heap.size, 0, none⟩ (by simp; omega) (fun e => by have h9 := HLT.out _ e.symm; simp at h9)).trans ((past_cell w2 _ 0 hnw2).trans g2); have z3 : w4.frozen? ⟨b, 3, none⟩ = false := (hg2.frozen_far ⟨b, 3, none⟩ (by simp; omega) (fun e => hne e.symm)).trans ((past_frozen w2 _ 3 hbw2).trans z32)
 refine hK.out _ _ ?_ (fun hHeld => ?_)
 ·exact ⟨b0, b3⟩
 clear hK K
 try simp only [Act.put, List.getElem_toArray, List.getElem_cons_zero, List.getElem_cons_succ, List.setIfInBounds_toArray, List.set_cons_zero, List.set_cons_succ]
 refine anyT_take (i := 14) (v := ?_) rfl (by kernel_rfl) (by kernel_rfl) (by kernel_rfl) (by kernel_rfl) (by kernel_rfl) (fun _ _ _ h => h) (Or.inl ⟨by rfl, ?_⟩) (by assumption) ?_
 rotate_left
 ·intro w hSw; (try dsimp only at hSw); go_simp; with_reducible rfl
 try simp only [Act.put, List.getElem_toArray, List.getElem_cons_zero, List.getElem_cons_succ, List.setIfInBounds_toArray, List.set_cons_zero, List.set_cons_succ]
 refine anyT_take (i := 15) (v := ?_) rfl (by kernel_rfl) (by kernel_rfl) (by kernel_rfl) (by kernel_rfl) (by kernel_rfl) (fun _ _ _ h => h) (Or.inl ⟨by rfl, ?_⟩) (by assumption) ?_
 rotate_left
 ·intro w hSw; (try dsimp only at hSw); go_simp; with_reducible rfl
 try simp only [Act.put, List.getElem_toArray, List.getElem_cons_zero, List.getElem_cons_succ, List.setIfInBounds_toArray, List.set_cons_zero, List.set_cons_succ]
 refine anyT_tail (by kernel_rfl) rfl (fun K hK => ?_)
 go_simp
 refine hK.out _ _ ?_
 clear hK K
 try simp only [Act.put, List.getElem_toArray, List.getElem_cons_zero, List.getElem_cons_succ, List.setIfInBounds_toArray, List.set_cons_zero, List.set_cons_succ]
 refine anyT_done (by kernel_rfl) ?_ _
 obtain ⟨r0, r1, r2, r3, r4⟩ := HR.out
 have y0 := HY.out
 have hn1w : w.heap.size + 1 < w1.heap.size := by omega
 have hfar : ∀ o, w4.cell? ⟨w.heap.size + 1, o, none⟩ = w1.cell? ⟨w.heap.size + 1, o, none⟩ := fun o => (hg2.cell_far ⟨w.heap.size + 1, o, none⟩ (by simp; omega) (fun e => by have h9 := HLT.out _ e.symm; simp at h9; omega)).trans ((past_cell w2 _ o (by omega)).trans (hb1.cell (p := ⟨w.heap.size + 1, o, none⟩) hn1w))
 have hfrz : ∀ o, w4.frozen? ⟨w.heap.size + 1, o, none⟩ = w1.frozen? ⟨w.heap.size + 1, o, none⟩ := fun o => (hg2.frozen_far ⟨w.heap.size + 1, o, none⟩ (by simp; omega) (fun e => by have h9 := HLT.out _ e.symm; simp at h9; omega)).trans ((past_frozen w2 _ o (by omega)).trans (hb1.frozen (p := ⟨w.heap.size + 1, o, none⟩) hn1w))
 have BX4 := Lib.hid (show CoreBox w4 b (.slice ca l.length cc) ⟨kd, on, br, l, cnt⟩ from HBX1.out.keep ((hg2.block b (by simp; omega) (fun e => hne e.symm)).trans ((Below.heap_alloc w2 _ b hbw2).trans (hb1.block b hbw))))
 have HK4 := Lib.hid (show Kept2 w w4 (some b) (Value.slice ca l.length cc).ownBlock from (((Kept2.of_below HB3.out).below (show Below w1.heap.size w1 w2 from ⟨hb1.os, hb1.tape, hb1.output, hb1.size, hb1.block⟩)).alloc _).grown hg2)
 have HO5 := Lib.hid (show OwnsF cCell 139 2 w4 N (.slice va (l.length + 1) vc) l2 from by rw [HP.out]; exact HO4.out)
 have hneb : (Value.slice va (l.length + 1) vc).ownBlock ≠ some b := row_not_bool HO5.out (by rw [HLN.out]; omega) BX4.out.c1
 have hnen : (Value.slice va (l.length + 1) vc).ownBlock ≠ some (w.heap.size + 1) := row_not_int HO5.out (by rw [HLN.out]; omega) ((hfar 0).trans r0)
 have S1 := Lib.hid (show CoreSt N b (.slice va (l.length + 1) vc) ⟨kd, on, br, l2, cnt⟩ (w4.setCell ⟨b, 3, none⟩ (.slice va (l.length + 1) vc)) from
  ⟨CoreBox.s3 (cv0 := .slice ca l.length cc) (l0 := l) BX4.out _ _, World.ownsRow.kept HO5.out (row := some b) ⟨rfl, rfl, rfl, by simp, fun i hi hni => Below.heap_setCell w4 _ _ i (fun e => hni (by rw [e]))⟩ (Or.inr hneb), hneb, hge⟩)
 have KS := Lib.hid (Kept2.set (p := ⟨b, 3, none⟩) HK4.out (.slice va (l.length + 1) vc) (Or.inr (Or.inl ⟨rfl, by simp⟩)))
 have hu : ∀ o, (w4.setCell ⟨b, 3, none⟩ (.slice va (l.length + 1) vc)).cell? ⟨w.heap.size + 1, o, none⟩ = w1.cell? ⟨w.heap.size + 1, o, none⟩ := fun o => (set_blk_cell _ _ _ _ (by simp; omega)).trans (hfar o)
 have hu0 : (w4.setCell ⟨b, 3, none⟩ (.slice va (l.length + 1) vc)).cell? ⟨w.heap.size, 0, none⟩ = some (.pointer (some ⟨b, 0, none⟩)) := (set_blk_cell _ _ _ _ (by simp; omega)).trans b0
 clear hb1 hg2
 go_wp2_with fail
 refine (countUp_c b (.slice va (l.length + 1) vc) ⟨kd, on, br, l2, cnt⟩ _ S1.out.box hr).mono ?_
 rintro e w5 ⟨rfl, hbx, hk5⟩
 have HBX := Lib.hid hbx
 have HK := Lib.hid hk5
 have g5 : w5.cell? ⟨w.heap.size, 0, none⟩ = some (.pointer (some ⟨b, 0, none⟩)) := (hk5.cell (p := ⟨w.heap.size, 0, none⟩) (by simp; omega) (by simp; omega) (by simp)).trans hu0
 have t0 : w5.cell? ⟨w.heap.size + 1, 0, none⟩ = some (.int .i64 0) := (hk5.cell (p := ⟨w.heap.size + 1, 0, none⟩) (by simp; omega) (by simp; omega) (by simp)).trans ((hu 0).trans r0)
 have t1 : w5.cell? ⟨w.heap.size + 1, 1, none⟩ = some (.int .i64 0) := (hk5.cell (p := ⟨w.heap.size + 1, 1, none⟩) (by simp; omega) (by simp; omega) (by simp)).trans ((hu 1).trans r1)
 have t2 : w5.cell? ⟨w.heap.size + 1, 2, none⟩ = some (.string ⟨#[]⟩) := (hk5.cell (p := ⟨w.heap.size + 1, 2, none⟩) (by simp; omega) (by simp; omega) (by simp)).trans ((hu 2).trans r2)
 have t3 : w5.cell? ⟨w.heap.size + 1, 3, none⟩ = some (.int .i64 0) := (hk5.cell (p := ⟨w.heap.size + 1, 3, none⟩) (by simp; omega) (by simp; omega) (by simp)).trans ((hu 3).trans r3)
 have t4 : w5.cell? ⟨w.heap.size + 1, 4, none⟩ = some (.int .i64 0) := (hk5.cell (p := ⟨w.heap.size + 1, 4, none⟩) (by simp; omega) (by simp; omega) (by simp)).trans ((hu 4).trans r4)
 have y5 : ∀ o, w5.frozen? ⟨w.heap.size + 1, o, none⟩ = false := fun o => (hk5.frozen (p := ⟨w.heap.size + 1, o, none⟩) (by simp; omega) (by simp; omega) (by simp)).trans ((frz_set _ _ _ _).trans ((hfrz o).trans (y0 o)))
 have d3 := hbx.c3
 have HFN := Lib.hid (show Fin N b (.slice ca l.length cc) ⟨kd, on, br, l2, upI cnt⟩ (w.heap.size + 1) w w5 from ⟨⟨_, st_count S1.out HBX.out rfl HK.out, hnen⟩, by omega, by omega, KS.out.both HK.out⟩)
 clear hbx hk5 hu hu0 hfar hfrz b0 b3 z3
 go_wp2_with fail
 refine bodyPost_ret (v := vReply (rV (l.length + 1))) (by simp [results, Tryz.results198, go_sem, vReply, rC, rV, rT, cell_set_at, cell_set_ne, t0, t1, t2, t3, t4]) rfl ?_
 rw [HG.out, HLN.out]
 refine fin_does (out := ((⟨kd, on, br, l2, upI cnt⟩ : CoreD), rV ((l.length + 1 : Nat) : Int))) (n := w.heap.size + 1) ?_
 repeat (with_reducible refine fin_set ?_ _ _)
 exact HFN.out
theorem coreB_len {d : CoreD} (h : coreB d = true) : d.fCells.length ≤ 4 := by
 simp only [coreB, Bool.and_eq_true] at h
 exact cellsB_len h.1.1.1.1.2
theorem put_c (N b : Nat) (cv : Value) (d : CoreD) (x : CallD) (hv : coreB d = true) (hr : -9223372036854775808 ≤ d.fCount) (hk : x.fKey.length ≤ 1048576) : PutOk N b cv d x := fun w h => by
 have hm := coreB_len hv
 by_cases hi : idleI d = 0
 ·cases hf : fnd d.fCells x.fKey with
  | true => exact put_found N b cv d x.fKey x.fValue w h hm hr hi hf
  | false =>
   by_cases h4 : d.fCells.length < 4
   ·exact put_new N b cv d x.fKey x.fValue w h hr h4 hk hi hf
   ·exact put_full N b cv d x.fKey x.fValue w h hr hm hi hf h4
 ·exact put_idle N b cv d x.fKey x.fValue w h hr hm hi
end Go.Proofs.YtcpbikilgacdlaaGreat
namespace Go.Proofs.YtcpbikilgacdlaaGreat
set_option linter.unusedVariables false
open Go.RowKit
theorem core_len {d : CoreD} (h : coreB d = true) : d.fCells.length ≤ 4 := by
 have := ((coreB_iff d).1 h).2.1
 simp only [cellsB, Bool.and_eq_true, decide_eq_true_eq] at this
 exact this.1
theorem core_keys {d : CoreD} (h : coreB d = true) : ∀ c ∈ d.fCells, c.fKey.length ≤ 8 := by
 have hc := ((coreB_iff d).1 h).2.1
 simp only [cellsB, Bool.and_eq_true, decide_eq_true_eq] at hc
 intro c hm
 obtain ⟨i, hi, rfl⟩ := List.mem_iff_getElem.1 hm
 have := okTo_at d.fCells _ i hc.2 hi
 simp only [okAt, Bool.and_eq_true] at this
 rw [getD_at d.fCells i hi] at this
 exact nameB_len8 this.1.1
theorem core_cnt {d : CoreD} (h : coreB d = true) : 0 ≤ d.fCount ∧ d.fCount ≤ 999 := by
 have := ((coreB_iff d).1 h).2.2.2.2.1
 simpa only [numB, Bool.and_eq_true, decide_eq_true_eq] using this
end Go.Proofs.YtcpbikilgacdlaaGreat
