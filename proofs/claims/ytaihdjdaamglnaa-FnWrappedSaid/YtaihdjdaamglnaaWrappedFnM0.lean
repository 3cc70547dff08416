/- A draw's memory, more: a block that has come up elsewhere is joined; an element of a row is stored; a part in a variable. -/
import Derived.Test.YtaihdjdaamglnaaRecipesFnM2
import Derived.Test.YtaihdjdaamglnaaRecipesFnM1
import Derived.Test.YtaihdjdaamglnaaRecipesFnM0
import Derived.Deep.RegionHeld3
import Derived.Test.YtaihdjdaamglnaaProg
import Derived.Deep.AppendLies
/- Contracts of chapter 4: MakePart, the model's. Written by gen/ch4mk.py. -/
namespace Go.Proofs.Ytaihdjdaamglnaa
set_option linter.unusedVariables false
set_option linter.unusedSimpArgs false
open Go.RowKit
set_option maxRecDepth 100000 in
set_option maxHeartbeats 3200000 in
theorem specMake_nil (a : Option Addr) (c : Nat) (w : World) :
    Calls Try.prog 120 #[.slice a 0 c] w fun e w' => GivesOPR zeroP ⟨7, 0, [], 0, 0⟩ w e w' := by
  unfold GivesOPR zeroP vReply
  have BS := Lib.hid (bx_start2 w [.string ⟨#[]⟩, .bool false, .bool false, .slice none 0 0, .int .i64 0, .slice none 0 0] [.int .i64 0, .int .i64 0, .string ⟨#[]⟩, .int .i64 0, .int .i64 0] 29 33)
  have B2 := Lib.hid BS.out.1
  have B3 := Lib.hid BS.out.2.1
  go_enter Try.func120, Try.ntmps120
  go_wp2_with fail
  exact bodyPost_ret (v := .tuple #[.agg #[.string ⟨#[]⟩, .bool false, .bool false, .slice none 0 0, .int .i64 0, .slice none 0 0], .agg #[.int .i64 7, .int .i64 0, .string ⟨#[]⟩, .int .i64 0, .int .i64 0]]) (by simp [results, Try.results120, go_sem]) rfl ⟨_, rfl, ⟨_, _, rfl, ownsF_nil _ _ _ _ _, ownsF_nil _ _ _ _ _⟩, (bx_start2 w [.string ⟨#[]⟩, .bool false, .bool false, .slice none 0 0, .int .i64 0, .slice none 0 0] [.int .i64 7, .int .i64 0, .string ⟨#[]⟩, .int .i64 0, .int .i64 0] 29 33).2.2⟩
set_option maxRecDepth 100000 in
set_option maxHeartbeats 3200000 in
theorem specMake_bad (b o c : Nat) (k : List UInt8) (r : List (List UInt8)) (w : World) (hR : RowAt w (.slice (some ⟨b, o, none⟩) (r.length + 1) c) ((k :: r).map strV)) (hz : ∀ s ∈ k :: r, s.length ≤ 1048576) (hc : r.length + 1 ≤ c) (hm : r.length + 1 ≤ maxLen) (hk : ¬ 0 ≤ kindI k) :
    Calls Try.prog 120 #[.slice (some ⟨b, o, none⟩) (r.length + 1) c] w fun e w' => GivesOPR zeroP ⟨7, 0, [], 0, 0⟩ w e w' := by
  have d0 := rowAt_cellS hR 0 (by simp)
  simp only [List.map_cons, List.getElem_cons_zero, strV, Nat.add_zero] at d0
  have hbw : b < w.heap.size := by
    obtain ⟨b', o', e, hlt, _⟩ := rowAt_cell hR 0 (by simp)
    injection e with e; injection e with e1 e2; subst e1; exact hlt
  have HNP := Lib.hid (fun W => specNewPart_own ⟨k.toArray⟩ W (by have := hz k (List.mem_cons_self ..); simpa [ByteArray.size] using this))
  simp only [GivesNPO, vNP] at HNP
  have HR := Lib.hid hR
  have HZ := Lib.hid hz
  have HM := Lib.hid hm
  clear hR hz hm
  unfold GivesOPR zeroP vReply
  rw [show decide (0 ≤ kindI (⟨k.toArray⟩ : ByteArray).data.toList) = false from decide_eq_false hk] at HNP
  generalize nmK (⟨k.toArray⟩ : ByteArray).data.toList = nk at *
  have BS := Lib.hid (bx_start2 w [.string ⟨#[]⟩, .bool false, .bool false, .slice none 0 0, .int .i64 0, .slice none 0 0] [.int .i64 0, .int .i64 0, .string ⟨#[]⟩, .int .i64 0, .int .i64 0] 29 33)
  have HD := Lib.hid d0
  clear d0
  have d0 := (BS.out.2.2.cell (p := ⟨b, o, none⟩) hbw).trans HD.out
  go_enter Try.func120, Try.ntmps120
  go_wp2_with fail
  refine (HNP.out _).mono ?_
  rintro e w1 ⟨a1, c1, rfl, ho, hb⟩
  have HB1 := Lib.hid ((belS BS.out.2.2 hb).alloc (belS BS.out.2.2 hb).size (.cells #[.string ⟨nk.toArray⟩, .bool false, .bool false, .slice a1 0 c1, .int .i64 0, .slice none 0 0] 29))
  have B2 := Lib.hid ((BS.out.1.below hb).alloc (.cells #[.string ⟨nk.toArray⟩, .bool false, .bool false, .slice a1 0 c1, .int .i64 0, .slice none 0 0] 29))
  have B3 := Lib.hid ((BS.out.2.1.below hb).alloc (.cells #[.string ⟨nk.toArray⟩, .bool false, .bool false, .slice a1 0 c1, .int .i64 0, .slice none 0 0] 29))
  clear ho hb d0
  have r0 := B2.out.cell 0 (by simp)
  have r1 := B2.out.cell 1 (by simp)
  have r2 := B2.out.cell 2 (by simp)
  have r3 := B2.out.cell 3 (by simp)
  have r4 := B2.out.cell 4 (by simp)
  have r5 := B2.out.cell 5 (by simp)
  simp only [List.getElem_cons_zero, List.getElem_cons_succ] at r0 r1 r2 r3 r4 r5
  have z0 := B2.out.froz 0 (by simp)
  have z1 := B2.out.froz 1 (by simp)
  have z2 := B2.out.froz 2 (by simp)
  have z3 := B2.out.froz 3 (by simp)
  have z4 := B2.out.froz 4 (by simp)
  have z5 := B2.out.froz 5 (by simp)
  have s0 := B3.out.cell 0 (by simp)
  have s1 := B3.out.cell 1 (by simp)
  have s2 := B3.out.cell 2 (by simp)
  have s3 := B3.out.cell 3 (by simp)
  have s4 := B3.out.cell 4 (by simp)
  simp only [List.getElem_cons_zero, List.getElem_cons_succ] at s0 s1 s2 s3 s4
  have y0 := B3.out.froz 0 (by simp)
  have y1 := B3.out.froz 1 (by simp)
  have y2 := B3.out.froz 2 (by simp)
  have y3 := B3.out.froz 3 (by simp)
  have y4 := B3.out.froz 4 (by simp)
  go_wp2_with fail
  clear r0 r1 r2 r3 r4 r5 z0 z1 z2 z3 z4 z5 s0 s1 s2 s3 s4 y0 y1 y2 y3 y4
  have E4 := Lib.hid ((B2.out.put6 (.string ⟨#[]⟩) (.bool false) (.bool false) (.slice none 0 0) (.int .i64 0) (.slice none 0 0)).put5o (c := w.heap.size + 1) (by omega) (.int .i64 7) (.int .i64 0) (.string ⟨#[]⟩) (.int .i64 0) (.int .i64 0))
  have E5 := Lib.hid ((B3.out.put6o (c := w.heap.size) (by omega) (.string ⟨#[]⟩) (.bool false) (.bool false) (.slice none 0 0) (.int .i64 0) (.slice none 0 0)).put5 (.int .i64 7) (.int .i64 0) (.string ⟨#[]⟩) (.int .i64 0) (.int .i64 0))
  have EB := Lib.hid (below_put5 (below_put6 HB1.out w.heap.size (by omega) (.string ⟨#[]⟩) (.bool false) (.bool false) (.slice none 0 0) (.int .i64 0) (.slice none 0 0)) (w.heap.size + 1) (by omega) (.int .i64 7) (.int .i64 0) (.string ⟨#[]⟩) (.int .i64 0) (.int .i64 0))
  generalize ((((((((((((w1.alloc (.cells #[.string ⟨nk.toArray⟩, .bool false, .bool false, .slice a1 0 c1, .int .i64 0, .slice none 0 0] 29)).setCell ⟨w.heap.size, 0, none⟩ (.string ⟨#[]⟩)).setCell ⟨w.heap.size, 1, none⟩ (.bool false)).setCell ⟨w.heap.size, 2, none⟩ (.bool false)).setCell ⟨w.heap.size, 3, none⟩ (.slice none 0 0)).setCell ⟨w.heap.size, 4, none⟩ (.int .i64 0)).setCell ⟨w.heap.size, 5, none⟩ (.slice none 0 0)).setCell ⟨w.heap.size + 1, 0, none⟩ (.int .i64 7)).setCell ⟨w.heap.size + 1, 1, none⟩ (.int .i64 0)).setCell ⟨w.heap.size + 1, 2, none⟩ (.string ⟨#[]⟩)).setCell ⟨w.heap.size + 1, 3, none⟩ (.int .i64 0)).setCell ⟨w.heap.size + 1, 4, none⟩ (.int .i64 0)) = WE at *
  have r0 := E4.out.cell 0 (by simp)
  have r1 := E4.out.cell 1 (by simp)
  have r2 := E4.out.cell 2 (by simp)
  have r3 := E4.out.cell 3 (by simp)
  have r4 := E4.out.cell 4 (by simp)
  have r5 := E4.out.cell 5 (by simp)
  simp only [List.getElem_cons_zero, List.getElem_cons_succ] at r0 r1 r2 r3 r4 r5
  have s0 := E5.out.cell 0 (by simp)
  have s1 := E5.out.cell 1 (by simp)
  have s2 := E5.out.cell 2 (by simp)
  have s3 := E5.out.cell 3 (by simp)
  have s4 := E5.out.cell 4 (by simp)
  simp only [List.getElem_cons_zero, List.getElem_cons_succ] at s0 s1 s2 s3 s4
  exact bodyPost_ret (v := .tuple #[.agg #[.string ⟨#[]⟩, .bool false, .bool false, .slice none 0 0, .int .i64 0, .slice none 0 0], .agg #[.int .i64 7, .int .i64 0, .string ⟨#[]⟩, .int .i64 0, .int .i64 0]]) (by simp [results, Try.results120, go_sem, r0, r1, r2, r3, r4, r5, s0, s1, s2, s3, s4]) rfl ⟨_, rfl, ⟨_, _, rfl, ownsF_nil _ _ _ _ _, ownsF_nil _ _ _ _ _⟩, EB.out⟩
set_option maxRecDepth 100000 in
set_option maxHeartbeats 3200000 in
theorem specMake_one (b o c : Nat) (k : List UInt8) (r : List (List UInt8)) (w : World) (hR : RowAt w (.slice (some ⟨b, o, none⟩) (r.length + 1) c) ((k :: r).map strV)) (hz : ∀ s ∈ k :: r, s.length ≤ 1048576) (hc : r.length + 1 ≤ c) (hm : r.length + 1 ≤ maxLen) (h1 : c = 1) (hk : 0 ≤ kindI k) :
    Calls Try.prog 120 #[.slice (some ⟨b, o, none⟩) (r.length + 1) c] w fun e w' => GivesOPR (makeGo (newP k) r).1 (makeGo (newP k) r).2 w e w' := by
  have d0 := rowAt_cellS hR 0 (by simp)
  simp only [List.map_cons, List.getElem_cons_zero, strV, Nat.add_zero] at d0
  have hbw : b < w.heap.size := by
    obtain ⟨b', o', e, hlt, _⟩ := rowAt_cell hR 0 (by simp)
    injection e with e; injection e with e1 e2; subst e1; exact hlt
  have HNP := Lib.hid (fun W => specNewPart_own ⟨k.toArray⟩ W (by have := hz k (List.mem_cons_self ..); simpa [ByteArray.size] using this))
  simp only [GivesNPO, vNP] at HNP
  have HR := Lib.hid hR
  have HZ := Lib.hid hz
  have HM := Lib.hid hm
  clear hR hz hm
  rw [show decide (0 ≤ kindI (⟨k.toArray⟩ : ByteArray).data.toList) = true from decide_eq_true hk, show nmK (⟨k.toArray⟩ : ByteArray).data.toList = k from if_pos hk] at HNP
  subst h1
  obtain rfl : r = [] := List.eq_nil_of_length_eq_zero (by omega)
  simp only [List.length_nil, Nat.zero_add] at *
  rw [show makeGo (newP k) [] = (newP k, ⟨0, faceP (newP k), [], 0, 0⟩) from rfl]
  unfold GivesOPR vReply
  simp only
  generalize hp0 : newP k = p
  have HPK := Lib.hid hp0
  clear hp0
  generalize hfp : faceP p = fp
  have HFP := Lib.hid hfp
  clear hfp
  have BS := Lib.hid (bx_start2 w [.string ⟨#[]⟩, .bool false, .bool false, .slice none 0 0, .int .i64 0, .slice none 0 0] [.int .i64 0, .int .i64 0, .string ⟨#[]⟩, .int .i64 0, .int .i64 0] 29 33)
  have HD := Lib.hid d0
  clear d0
  have d0 := (BS.out.2.2.cell (p := ⟨b, o, none⟩) hbw).trans HD.out
  go_enter Try.func120, Try.ntmps120
  go_wp2_with fail
  refine (HNP.out _).mono ?_
  rintro e w1 ⟨a1, c1, rfl, ho, hb⟩
  have HB1 := Lib.hid ((belS BS.out.2.2 hb).alloc (belS BS.out.2.2 hb).size (.cells #[.string ⟨k.toArray⟩, .bool false, .bool false, .slice a1 0 c1, .int .i64 0, .slice none 0 0] 29))
  have h1s := hb.size
  simp at h1s
  have ST0 := Lib.hid (show MkSt w w1.heap.size p (w1.alloc (.cells #[.string ⟨k.toArray⟩, .bool false, .bool false, .slice a1 0 c1, .int .i64 0, .slice none 0 0] 29)) by rw [← HPK.out]; exact ⟨newP_small (HZ.out k (List.mem_cons_self ..)), rfl, ⟨_, Bx.new w1 [.string ⟨k.toArray⟩, .bool false, .bool false, .slice a1 0 c1, .int .i64 0, .slice none 0 0] 29, _, _, rfl, ownsF_alloc (ownsF_base ho (by simp)) _, ownsF_nil _ _ _ _ _⟩, (BS.out.1.below hb).alloc (.cells #[.string ⟨k.toArray⟩, .bool false, .bool false, .slice a1 0 c1, .int .i64 0, .slice none 0 0] 29), (BS.out.2.1.below hb).alloc (.cells #[.string ⟨k.toArray⟩, .bool false, .bool false, .slice a1 0 c1, .int .i64 0, .slice none 0 0] 29), HB1.out⟩)
  clear ho hb d0
  go_wp2_with fail
  generalize w1.alloc (.cells #[.string ⟨k.toArray⟩, .bool false, .bool false, .slice a1 0 c1, .int .i64 0, .slice none 0 0] 29) = wr at *
  have hst := ST0.out
  obtain ⟨hsm, hbare, ⟨cs, hq, hown⟩, hr2, hr3, hbw2⟩ := hst
  refine wp_loop_rounds 1 ?_
  rw [rounds_succ]
  obtain ⟨⟨a0, a1, a2, a3, a4⟩, l⟩ := p
  obtain rfl : a3 = [] := hbare
  obtain ⟨u3, u5, rfl, ho3, ho5⟩ := hown
  simp only at ho3 ho5 hq
  obtain ⟨ga, gc, rfl⟩ := slice_of ho3
  obtain ⟨ua, uc, rfl⟩ := slice_of ho5
  simp only [List.length_nil] at *
  have O3 := Lib.hid ho3
  have O5 := Lib.hid ho5
  have HSM := Lib.hid hsm
  have BQ := Lib.hid hq
  have B2 := Lib.hid hr2
  have B3 := Lib.hid hr3
  have HBr := Lib.hid hbw2
  have hlq := hq.lt
  have hls := hbw2.size
  clear hsm ho3 ho5 hq hr2 hr3 hbw2
  have HRP := Lib.hid (fun W (hb : Below wr.heap.size wr W) => (show rPart 0 W [.string ⟨a0.toArray⟩, .bool a1, .bool a2, .slice ga 0 gc, .int .i64 a4, .slice ua l.length uc] (⟨⟨a0, a1, a2, [], a4⟩, l⟩ : PartD) from goodPart.mono (oPart_r ⟨_, _, rfl, ownsF_below O3.out hb (Nat.le_refl _), ownsF_below O5.out hb (Nat.le_refl _)⟩ HSM.out) (Nat.zero_le _)))
  have HFO := Lib.hid (fun W (h : rPart 0 W [.string ⟨a0.toArray⟩, .bool a1, .bool a2, .slice ga 0 gc, .int .i64 a4, .slice ua l.length uc] (⟨⟨a0, a1, a2, [], a4⟩, l⟩ : PartD)) => (show Calls Try.prog 41 #[.agg #[.string ⟨a0.toArray⟩, .bool a1, .bool a2, .slice ga 0 gc, .int .i64 a4, .slice ua l.length uc]] W fun e w' => e = .returned (.int .i64 (faceP (⟨⟨a0, a1, a2, [], a4⟩, l⟩ : PartD))) ∧ Below W.heap.size W w' from specFaceOf_any (.agg #[.string ⟨a0.toArray⟩, .bool a1, .bool a2, .slice ga 0 gc, .int .i64 a4, .slice ua l.length uc]) (⟨⟨a0, a1, a2, [], a4⟩, l⟩ : PartD) W ⟨[.string ⟨a0.toArray⟩, .bool a1, .bool a2, .slice ga 0 gc, .int .i64 a4, .slice ua l.length uc], rfl, h⟩))
  rw [HFP.out] at HFO
  have BQd := Lib.hid (bx_dr BQ.out)
  have B2d := Lib.hid (bx_dr B2.out)
  have B3d := Lib.hid (bx_dr B3.out)
  have q0 := BQd.out.cell 0 (by simp)
  have q1 := BQd.out.cell 1 (by simp)
  have q2 := BQd.out.cell 2 (by simp)
  have q3 := BQd.out.cell 3 (by simp)
  have q4 := BQd.out.cell 4 (by simp)
  have q5 := BQd.out.cell 5 (by simp)
  simp only [List.getElem_cons_zero, List.getElem_cons_succ] at q0 q1 q2 q3 q4 q5
  go_wp2_with fail
  go_region_with (first
      | (go_at_call 41; (with_reducible refine (HFO.out _ (HRP.out _ (bel_dr (Below.refl _ _)))).mono ?_); rintro e w6 ⟨rfl, hb6⟩; have BQ6 := Lib.hid (BQd.out.below hb6); have B26 := Lib.hid (B2d.out.below hb6); have B36 := Lib.hid (B3d.out.below hb6); have q0' := BQ6.out.cell 0 (by simp); have q1' := BQ6.out.cell 1 (by simp); have q2' := BQ6.out.cell 2 (by simp); have q3' := BQ6.out.cell 3 (by simp); have q4' := BQ6.out.cell 4 (by simp); have q5' := BQ6.out.cell 5 (by simp); have r0 := B26.out.cell 0 (by simp); have z0 := B26.out.froz 0 (by simp); have r1 := B26.out.cell 1 (by simp); have z1 := B26.out.froz 1 (by simp); have r2 := B26.out.cell 2 (by simp); have z2 := B26.out.froz 2 (by simp); have r3 := B26.out.cell 3 (by simp); have z3 := B26.out.froz 3 (by simp); have r4 := B26.out.cell 4 (by simp); have z4 := B26.out.froz 4 (by simp); have r5 := B26.out.cell 5 (by simp); have z5 := B26.out.froz 5 (by simp); have s0 := B36.out.cell 0 (by simp); have y0 := B36.out.froz 0 (by simp); have s1 := B36.out.cell 1 (by simp); have y1 := B36.out.froz 1 (by simp); have s2 := B36.out.cell 2 (by simp); have y2 := B36.out.froz 2 (by simp); have s3 := B36.out.cell 3 (by simp); have y3 := B36.out.froz 3 (by simp); have s4 := B36.out.cell 4 (by simp); have y4 := B36.out.froz 4 (by simp); simp only [List.getElem_cons_zero, List.getElem_cons_succ] at q0' q1' q2' q3' q4' q5' r0 r1 r2 r3 r4 r5 s0 s1 s2 s3 s4))
  all_goals (try go_wp2_with fail)
  all_goals
    have HB6 := Lib.hid (belS (bel_dr HBr.out) hb6)
    have T3 := Lib.hid (ownsF_below (ownsF_drew O3.out) hb6 (Nat.le_refl _))
    have T5 := Lib.hid (ownsF_below (ownsF_drew O5.out) hb6 (Nat.le_refl _))
    refine bodyPost_ret (v := .tuple #[.agg #[.string ⟨a0.toArray⟩, .bool a1, .bool a2, .slice ga 0 gc, .int .i64 a4, .slice ua l.length uc], .agg #[.int .i64 0, .int .i64 fp, .string ⟨#[]⟩, .int .i64 0, .int .i64 0]]) (by simp [results, Try.results120, go_sem, cell_set_at, cell_set_ne, r0, r1, r2, r3, r4, r5, s0, s1, s2, s3, s4]) rfl ⟨_, rfl, ⟨_, _, rfl, ?_, ?_⟩, ?_⟩
    · refine ownsF_base (B := ((w.heap.size + 1) + 1)) ?_ (by omega)
      repeat (first | with_reducible exact T3.out | with_reducible refine ownsF_set ?_ (by simp; try omega) | with_reducible refine ownsF_drew ?_)
    · refine ownsF_base (B := ((w.heap.size + 1) + 1)) ?_ (by omega)
      repeat (first | with_reducible exact T5.out | with_reducible refine ownsF_set ?_ (by simp; try omega) | with_reducible refine ownsF_drew ?_)
    · repeat (first | with_reducible exact HB6.out | with_reducible refine Below.setCell ?_ (by simp; try omega) _ | with_reducible refine Below.drew ?_)
set_option maxRecDepth 100000 in
set_option maxHeartbeats 3200000 in
theorem specMake_go (b o c : Nat) (k : List UInt8) (r : List (List UInt8)) (w : World) (hR : RowAt w (.slice (some ⟨b, o, none⟩) (r.length + 1) c) ((k :: r).map strV)) (hz : ∀ s ∈ k :: r, s.length ≤ 1048576) (hc : r.length + 1 ≤ c) (hm : r.length + 1 ≤ maxLen) (h1 : ¬ (c : Int) = 1) (hk : 0 ≤ kindI k) :
    Calls Try.prog 120 #[.slice (some ⟨b, o, none⟩) (r.length + 1) c] w fun e w' => GivesOPR (makeGo (newP k) r).1 (makeGo (newP k) r).2 w e w' := by
  have d0 := rowAt_cellS hR 0 (by simp)
  simp only [List.map_cons, List.getElem_cons_zero, strV, Nat.add_zero] at d0
  have hbw : b < w.heap.size := by
    obtain ⟨b', o', e, hlt, _⟩ := rowAt_cell hR 0 (by simp)
    injection e with e; injection e with e1 e2; subst e1; exact hlt
  have HNP := Lib.hid (fun W => specNewPart_own ⟨k.toArray⟩ W (by have := hz k (List.mem_cons_self ..); simpa [ByteArray.size] using this))
  simp only [GivesNPO, vNP] at HNP
  have HR := Lib.hid hR
  have HZ := Lib.hid hz
  have HM := Lib.hid hm
  clear hR hz hm
  rw [show decide (0 ≤ kindI (⟨k.toArray⟩ : ByteArray).data.toList) = true from decide_eq_true hk, show nmK (⟨k.toArray⟩ : ByteArray).data.toList = k from if_pos hk] at HNP
  generalize hp0 : newP k = p0
  have HPK := Lib.hid hp0
  clear hp0
  generalize hres : makeGo p0 r = res
  obtain ⟨rp, t0, fp, t2, t3, t4⟩ := res
  have HRES := Lib.hid hres.symm
  clear hres
  unfold GivesOPR vReply
  simp only
  have BS := Lib.hid (bx_start2 w [.string ⟨#[]⟩, .bool false, .bool false, .slice none 0 0, .int .i64 0, .slice none 0 0] [.int .i64 0, .int .i64 0, .string ⟨#[]⟩, .int .i64 0, .int .i64 0] 29 33)
  have HD := Lib.hid d0
  clear d0
  have d0 := (BS.out.2.2.cell (p := ⟨b, o, none⟩) hbw).trans HD.out
  go_enter Try.func120, Try.ntmps120
  go_wp2_with fail
  refine (HNP.out _).mono ?_
  rintro e w1 ⟨a1, c1, rfl, ho, hb⟩
  have HB1 := Lib.hid ((belS BS.out.2.2 hb).alloc (belS BS.out.2.2 hb).size (.cells #[.string ⟨k.toArray⟩, .bool false, .bool false, .slice a1 0 c1, .int .i64 0, .slice none 0 0] 29))
  have h1s := hb.size
  simp at h1s
  have ST0 := Lib.hid (show MkSt w w1.heap.size p0 (w1.alloc (.cells #[.string ⟨k.toArray⟩, .bool false, .bool false, .slice a1 0 c1, .int .i64 0, .slice none 0 0] 29)) by rw [← HPK.out]; exact ⟨newP_small (HZ.out k (List.mem_cons_self ..)), rfl, ⟨_, Bx.new w1 [.string ⟨k.toArray⟩, .bool false, .bool false, .slice a1 0 c1, .int .i64 0, .slice none 0 0] 29, _, _, rfl, ownsF_alloc (ownsF_base ho (by simp)) _, ownsF_nil _ _ _ _ _⟩, (BS.out.1.below hb).alloc (.cells #[.string ⟨k.toArray⟩, .bool false, .bool false, .slice a1 0 c1, .int .i64 0, .slice none 0 0] 29), (BS.out.2.1.below hb).alloc (.cells #[.string ⟨k.toArray⟩, .bool false, .bool false, .slice a1 0 c1, .int .i64 0, .slice none 0 0] 29), HB1.out⟩)
  clear ho hb d0
  go_wp2_with fail
  have HRT := Lib.hid (fun W (hb : Below w.heap.size w W) => RowAt.below HR.out hb (Nat.le_refl _))
  generalize w1.alloc (.cells #[.string ⟨k.toArray⟩, .bool false, .bool false, .slice a1 0 c1, .int .i64 0, .slice none 0 0] 29) = w2 at *
  go_loopw [7, 8, 9, 29] (fun _ _ _ i wr => ∃ j : Nat, ∃ p : PartD, j ≤ r.length ∧ i = .int .i64 j ∧ (rp, (⟨t0, fp, t2, t3, t4⟩ : ReplyD)) = makeGo p (r.drop j) ∧ MkSt w w1.heap.size p wr) (fun _ _ _ i _ => r.length - (intOf i).toNat)
  case atStart => exact ⟨0, p0, Nat.zero_le _, rfl, HRES.out, ST0.out⟩
  case round =>
    obtain ⟨j, p, hj, rfl, hgo, hst⟩ := hrel
    obtain ⟨hsm, hbare, ⟨cs, hq, hown⟩, hr2, hr3, hbw2⟩ := hst
    by_cases hlt : j < r.length
    · have d1 := rowAt_cellS (HRT.out _ hbw2) (j + 1) (by simp; omega)
      simp only [List.map_cons, List.getElem_cons_succ, List.getElem_map, strV] at d1
      rw [show o + (j + 1) = o + 1 + j by omega] at d1
      have hzs := HZ.out (r[j]) (List.mem_cons_of_mem _ (List.getElem_mem hlt))
      have hdr : r.drop j = r[j] :: r.drop (j + 1) := List.drop_eq_getElem_cons hlt
      rw [hdr] at hgo
      clear hdr
      generalize r[j] = s at *
      have HW := Lib.hid (fun cs W (h : rPart 0 W cs p) => (show Calls Try.prog 113 #[.agg cs.toArray, .string ⟨s.toArray⟩] W fun e w' => GivesOPR (wrapP p s) (wrapR p s) W e w' from specWrap_any (.agg cs.toArray) p ⟨s.toArray⟩ W ⟨cs, rfl, h⟩ hsm (by rw [hbare]; intro c hc; cases hc) (by simpa [ByteArray.size] using hzs)))
      have HSM2 := Lib.hid (wrapP_small hsm s)
      have hb2 : (wrapP p s).fCore.fCells = [] := by rw [wrapP_core]; exact hbare
      have hyes : wrapI p s = 0 → (rp, (⟨t0, fp, t2, t3, t4⟩ : ReplyD)) = makeGo (wrapP p s) (r.drop (j + 1)) := fun h => hgo.trans (makeGo_on h)
      have hno : ¬ wrapI p s = 0 → (rp, (⟨t0, fp, t2, t3, t4⟩ : ReplyD)) = (zeroP, wrapR p s) := fun h => hgo.trans (makeGo_stop h)
      obtain ⟨m1, m3, m4, hrr⟩ : ∃ m1 m3 m4, wrapR p s = ⟨wrapI p s, m1, [], m3, m4⟩ := ⟨_, _, _, rfl⟩
      simp only [hrr] at HW hno
      unfold GivesOPR vReply at HW
      simp only at HW
      clear hgo hrr
      generalize wrapI p s = m0 at *
      generalize wrapP p s = p2 at *
      obtain ⟨⟨a0, a1, a2, a3, a4⟩, l⟩ := p
      obtain rfl : a3 = [] := hbare
      obtain ⟨u3, u5, rfl, ho3, ho5⟩ := hown
      simp only at ho3 ho5 hq
      obtain ⟨ga, gc, rfl⟩ := slice_of ho3
      obtain ⟨ua, uc, rfl⟩ := slice_of ho5
      simp only [List.length_nil] at *
      have O3 := Lib.hid ho3
      have O5 := Lib.hid ho5
      have HSM := Lib.hid hsm
      have BQ := Lib.hid hq
      have B2 := Lib.hid hr2
      have B3 := Lib.hid hr3
      have HBr := Lib.hid hbw2
      have hlq := hq.lt
      have hls := hbw2.size
      clear hsm ho3 ho5 hq hr2 hr3 hbw2
      have HRP := Lib.hid (goodPart.mono (oPart_r ⟨_, _, rfl, O3.out, O5.out⟩ HSM.out) (Nat.zero_le _))
      have HYES := Lib.hid hyes
      have HNO := Lib.hid hno
      have hjr : (j : Int) < (r.length : Int) := by omega
      have hml := HM.out
      unfold maxLen at hml
      clear hyes hno
      have q0 := BQ.out.cell 0 (by simp)
      have q1 := BQ.out.cell 1 (by simp)
      have q2 := BQ.out.cell 2 (by simp)
      have q3 := BQ.out.cell 3 (by simp)
      have q4 := BQ.out.cell 4 (by simp)
      have q5 := BQ.out.cell 5 (by simp)
      simp only [List.getElem_cons_zero, List.getElem_cons_succ] at q0 q1 q2 q3 q4 q5
      go_wp2_with fail
      refine (HW.out _ _ HRP.out).mono ?_
      rintro e w4 ⟨_, rfl, ho, hb⟩
      obtain ⟨⟨b0, b1, b2, b3, b4⟩, l2⟩ := p2
      obtain rfl : b3 = [] := hb2
      obtain ⟨u3, u5, rfl, ho3, ho5⟩ := ho
      simp only at ho3 ho5
      obtain ⟨ha, hc2, rfl⟩ := slice_of ho3
      obtain ⟨va, vc, rfl⟩ := slice_of ho5
      simp only [List.length_nil] at *
      have N3 := Lib.hid ho3
      have N5 := Lib.hid ho5
      have HB4 := Lib.hid (belS HBr.out hb)
      have BQ4 := Lib.hid (BQ.out.below hb)
      have B24 := Lib.hid (B2.out.below hb)
      have B34 := Lib.hid (B3.out.below hb)
      have hs4 := hb.size
      have hq4 := BQ4.out.lt
      clear hb ho3 ho5 q0 q1 q2 q3 q4 q5 BQ B2 B3
      by_cases hcd : m0 = 0
      · subst hcd
        have HG := Lib.hid (HYES.out rfl)
        clear HNO HYES
        have q0 := BQ4.out.cell 0 (by simp)
        have q1 := BQ4.out.cell 1 (by simp)
        have q2 := BQ4.out.cell 2 (by simp)
        have q3 := BQ4.out.cell 3 (by simp)
        have q4 := BQ4.out.cell 4 (by simp)
        have q5 := BQ4.out.cell 5 (by simp)
        simp only [List.getElem_cons_zero, List.getElem_cons_succ] at q0 q1 q2 q3 q4 q5
        have p0 := BQ4.out.froz 0 (by simp)
        have p1 := BQ4.out.froz 1 (by simp)
        have p2 := BQ4.out.froz 2 (by simp)
        have p3 := BQ4.out.froz 3 (by simp)
        have p4 := BQ4.out.froz 4 (by simp)
        have p5 := BQ4.out.froz 5 (by simp)
        go_wp2_with fail
        refine ⟨⟨j + 1, ⟨⟨b0, b1, b2, [], b4⟩, l2⟩, by omega, by go_num, HG.out, ?_⟩, by simp [intOf]; omega⟩
        exact ⟨HSM2.out, rfl, ⟨_, ((BQ4.out.put6 (.string ⟨b0.toArray⟩) (.bool b1) (.bool b2) (.slice ha 0 hc2) (.int .i64 b4) (.slice va l2.length vc)).alloc _).alloc _, _, _, rfl, ownsF_alloc (ownsF_alloc (ownsF_base (ownsF_put6 N3.out w1.heap.size hlq (.string ⟨b0.toArray⟩) (.bool b1) (.bool b2) (.slice ha 0 hc2) (.int .i64 b4) (.slice va l2.length vc)) (by omega)) _) _, ownsF_alloc (ownsF_alloc (ownsF_base (ownsF_put6 N5.out w1.heap.size hlq (.string ⟨b0.toArray⟩) (.bool b1) (.bool b2) (.slice ha 0 hc2) (.int .i64 b4) (.slice va l2.length vc)) (by omega)) _) _⟩,
          ((B24.out.put6o (c := w1.heap.size) (by omega) (.string ⟨b0.toArray⟩) (.bool b1) (.bool b2) (.slice ha 0 hc2) (.int .i64 b4) (.slice va l2.length vc)).alloc _).alloc _, ((B34.out.put6o (c := w1.heap.size) (by omega) (.string ⟨b0.toArray⟩) (.bool b1) (.bool b2) (.slice ha 0 hc2) (.int .i64 b4) (.slice va l2.length vc)).alloc _).alloc _,
          belS (belS (below_put6 HB4.out w1.heap.size (by omega) (.string ⟨b0.toArray⟩) (.bool b1) (.bool b2) (.slice ha 0 hc2) (.int .i64 b4) (.slice va l2.length vc)) (bx_box _ _)) (bx_box _ _)⟩
      · have HG := Lib.hid (HNO.out hcd)
        have hg := HG.out
        simp only [Prod.mk.injEq, ReplyD.mk.injEq] at hg
        obtain ⟨g1, g2, g3, g4, g5, g6⟩ := hg
        subst g1
        subst g4
        have g2 := g2.symm
        have g3 := g3.symm
        have g5 := g5.symm
        have g6 := g6.symm
        subst g2
        subst g3
        subst g5
        subst g6
        clear HNO HYES HG
        have B25 := Lib.hid ((B24.out.alloc (.cells #[.string ⟨b0.toArray⟩, .bool b1, .bool b2, .slice ha 0 hc2, .int .i64 b4, .slice va l2.length vc] 29)).alloc (.cells #[.int .i64 m0, .int .i64 m1, .string ⟨#[]⟩, .int .i64 m3, .int .i64 m4] 33))
        have B35 := Lib.hid ((B34.out.alloc (.cells #[.string ⟨b0.toArray⟩, .bool b1, .bool b2, .slice ha 0 hc2, .int .i64 b4, .slice va l2.length vc] 29)).alloc (.cells #[.int .i64 m0, .int .i64 m1, .string ⟨#[]⟩, .int .i64 m3, .int .i64 m4] 33))
        have r0 := B25.out.cell 0 (by simp)
        have r1 := B25.out.cell 1 (by simp)
        have r2 := B25.out.cell 2 (by simp)
        have r3 := B25.out.cell 3 (by simp)
        have r4 := B25.out.cell 4 (by simp)
        have r5 := B25.out.cell 5 (by simp)
        simp only [List.getElem_cons_zero, List.getElem_cons_succ] at r0 r1 r2 r3 r4 r5
        have z0 := B25.out.froz 0 (by simp)
        have z1 := B25.out.froz 1 (by simp)
        have z2 := B25.out.froz 2 (by simp)
        have z3 := B25.out.froz 3 (by simp)
        have z4 := B25.out.froz 4 (by simp)
        have z5 := B25.out.froz 5 (by simp)
        have s0 := B35.out.cell 0 (by simp)
        have s1 := B35.out.cell 1 (by simp)
        have s2 := B35.out.cell 2 (by simp)
        have s3 := B35.out.cell 3 (by simp)
        have s4 := B35.out.cell 4 (by simp)
        simp only [List.getElem_cons_zero, List.getElem_cons_succ] at s0 s1 s2 s3 s4
        have y0 := B35.out.froz 0 (by simp)
        have y1 := B35.out.froz 1 (by simp)
        have y2 := B35.out.froz 2 (by simp)
        have y3 := B35.out.froz 3 (by simp)
        have y4 := B35.out.froz 4 (by simp)
        go_wp2_with fail
        go_region
        all_goals (try go_wp2_with fail)
        all_goals
          refine bodyPost_ret (v := .tuple #[.agg #[.string ⟨#[]⟩, .bool false, .bool false, .slice none 0 0, .int .i64 0, .slice none 0 0], .agg #[.int .i64 m0, .int .i64 m1, .string ⟨#[]⟩, .int .i64 m3, .int .i64 m4]]) (by simp [results, Try.results120, go_sem, cell_set_at, cell_set_ne, r0, r1, r2, r3, r4, r5, s0, s1, s2, s3, s4]) rfl ⟨_, rfl, ⟨_, _, rfl, ownsF_nil _ _ _ _ _, ownsF_nil _ _ _ _ _⟩, ?_⟩
          repeat (first | with_reducible exact HB4.out | with_reducible refine Below.setCell ?_ (by simp; try omega) _ | with_reducible refine Below.alloc ?_ (by first | omega | (simp; omega)) _ | with_reducible refine Below.drew ?_)
    · rw [show r.drop j = [] from List.drop_eq_nil_of_le (by omega)] at hgo
      replace hgo : (rp, (⟨t0, fp, t2, t3, t4⟩ : ReplyD)) = (p, ⟨0, faceP p, [], 0, 0⟩) := hgo
      simp only [Prod.mk.injEq, ReplyD.mk.injEq] at hgo
      obtain ⟨g1, g2, g3, g4, g5, g6⟩ := hgo
      have g1 := g1.symm
      subst g1
      subst g2
      subst g4
      subst g5
      subst g6
      have HFP := Lib.hid g3.symm
      clear g3
      have hjr : ¬ (j : Int) < (r.length : Int) := by omega
      obtain ⟨⟨a0, a1, a2, a3, a4⟩, l⟩ := p
      obtain rfl : a3 = [] := hbare
      obtain ⟨u3, u5, rfl, ho3, ho5⟩ := hown
      simp only at ho3 ho5 hq
      obtain ⟨ga, gc, rfl⟩ := slice_of ho3
      obtain ⟨ua, uc, rfl⟩ := slice_of ho5
      simp only [List.length_nil] at *
      have O3 := Lib.hid ho3
      have O5 := Lib.hid ho5
      have HSM := Lib.hid hsm
      have BQ := Lib.hid hq
      have B2 := Lib.hid hr2
      have B3 := Lib.hid hr3
      have HBr := Lib.hid hbw2
      have hlq := hq.lt
      have hls := hbw2.size
      clear hsm ho3 ho5 hq hr2 hr3 hbw2
      have HRP := Lib.hid (fun W (hb : Below wr.heap.size wr W) => (show rPart 0 W [.string ⟨a0.toArray⟩, .bool a1, .bool a2, .slice ga 0 gc, .int .i64 a4, .slice ua l.length uc] (⟨⟨a0, a1, a2, [], a4⟩, l⟩ : PartD) from goodPart.mono (oPart_r ⟨_, _, rfl, ownsF_below O3.out hb (Nat.le_refl _), ownsF_below O5.out hb (Nat.le_refl _)⟩ HSM.out) (Nat.zero_le _)))
      have HFO := Lib.hid (fun W (h : rPart 0 W [.string ⟨a0.toArray⟩, .bool a1, .bool a2, .slice ga 0 gc, .int .i64 a4, .slice ua l.length uc] (⟨⟨a0, a1, a2, [], a4⟩, l⟩ : PartD)) => (show Calls Try.prog 41 #[.agg #[.string ⟨a0.toArray⟩, .bool a1, .bool a2, .slice ga 0 gc, .int .i64 a4, .slice ua l.length uc]] W fun e w' => e = .returned (.int .i64 (faceP (⟨⟨a0, a1, a2, [], a4⟩, l⟩ : PartD))) ∧ Below W.heap.size W w' from specFaceOf_any (.agg #[.string ⟨a0.toArray⟩, .bool a1, .bool a2, .slice ga 0 gc, .int .i64 a4, .slice ua l.length uc]) (⟨⟨a0, a1, a2, [], a4⟩, l⟩ : PartD) W ⟨[.string ⟨a0.toArray⟩, .bool a1, .bool a2, .slice ga 0 gc, .int .i64 a4, .slice ua l.length uc], rfl, h⟩))
      rw [HFP.out] at HFO
      have BQd := Lib.hid (bx_dr BQ.out)
      have B2d := Lib.hid (bx_dr B2.out)
      have B3d := Lib.hid (bx_dr B3.out)
      have q0 := BQd.out.cell 0 (by simp)
      have q1 := BQd.out.cell 1 (by simp)
      have q2 := BQd.out.cell 2 (by simp)
      have q3 := BQd.out.cell 3 (by simp)
      have q4 := BQd.out.cell 4 (by simp)
      have q5 := BQd.out.cell 5 (by simp)
      simp only [List.getElem_cons_zero, List.getElem_cons_succ] at q0 q1 q2 q3 q4 q5
      go_wp2_with fail
      go_region_with (first
          | (go_at_call 41; (with_reducible refine (HFO.out _ (HRP.out _ (bel_dr (Below.refl _ _)))).mono ?_); rintro e w6 ⟨rfl, hb6⟩; have BQ6 := Lib.hid (BQd.out.below hb6); have B26 := Lib.hid (B2d.out.below hb6); have B36 := Lib.hid (B3d.out.below hb6); have q0' := BQ6.out.cell 0 (by simp); have q1' := BQ6.out.cell 1 (by simp); have q2' := BQ6.out.cell 2 (by simp); have q3' := BQ6.out.cell 3 (by simp); have q4' := BQ6.out.cell 4 (by simp); have q5' := BQ6.out.cell 5 (by simp); have r0 := B26.out.cell 0 (by simp); have z0 := B26.out.froz 0 (by simp); have r1 := B26.out.cell 1 (by simp); have z1 := B26.out.froz 1 (by simp); have r2 := B26.out.cell 2 (by simp); have z2 := B26.out.froz 2 (by simp); have r3 := B26.out.cell 3 (by simp); have z3 := B26.out.froz 3 (by simp); have r4 := B26.out.cell 4 (by simp); have z4 := B26.out.froz 4 (by simp); have r5 := B26.out.cell 5 (by simp); have z5 := B26.out.froz 5 (by simp); have s0 := B36.out.cell 0 (by simp); have y0 := B36.out.froz 0 (by simp); have s1 := B36.out.cell 1 (by simp); have y1 := B36.out.froz 1 (by simp); have s2 := B36.out.cell 2 (by simp); have y2 := B36.out.froz 2 (by simp); have s3 := B36.out.cell 3 (by simp); have y3 := B36.out.froz 3 (by simp); have s4 := B36.out.cell 4 (by simp); have y4 := B36.out.froz 4 (by simp); simp only [List.getElem_cons_zero, List.getElem_cons_succ] at q0' q1' q2' q3' q4' q5' r0 r1 r2 r3 r4 r5 s0 s1 s2 s3 s4))
      all_goals (try go_wp2_with fail)
      all_goals
        have HB6 := Lib.hid (belS (bel_dr HBr.out) hb6)
        have T3 := Lib.hid (ownsF_below (ownsF_drew O3.out) hb6 (Nat.le_refl _))
        have T5 := Lib.hid (ownsF_below (ownsF_drew O5.out) hb6 (Nat.le_refl _))
        refine bodyPost_ret (v := .tuple #[.agg #[.string ⟨a0.toArray⟩, .bool a1, .bool a2, .slice ga 0 gc, .int .i64 a4, .slice ua l.length uc], .agg #[.int .i64 0, .int .i64 fp, .string ⟨#[]⟩, .int .i64 0, .int .i64 0]]) (by simp [results, Try.results120, go_sem, cell_set_at, cell_set_ne, r0, r1, r2, r3, r4, r5, s0, s1, s2, s3, s4]) rfl ⟨_, rfl, ⟨_, _, rfl, ?_, ?_⟩, ?_⟩
        · refine ownsF_base (B := ((w.heap.size + 1) + 1)) ?_ (by omega)
          repeat (first | with_reducible exact T3.out | with_reducible refine ownsF_set ?_ (by simp; try omega) | with_reducible refine ownsF_drew ?_)
        · refine ownsF_base (B := ((w.heap.size + 1) + 1)) ?_ (by omega)
          repeat (first | with_reducible exact T5.out | with_reducible refine ownsF_set ?_ (by simp; try omega) | with_reducible refine ownsF_drew ?_)
        · repeat (first | with_reducible exact HB6.out | with_reducible refine Below.setCell ?_ (by simp; try omega) _ | with_reducible refine Below.drew ?_)
theorem specMakePart_any (v : Value) (x : List (List UInt8)) (w : World) (hR : RowAt w v (x.map strV)) (hz : ∀ s ∈ x, s.length ≤ 1048576) :
    Calls Try.prog 120 #[v] w fun e w' => GivesOPR (makePR x).1 (makePR x).2 w e w' := by
  obtain ⟨a, c, rfl, hl, hcap⟩ := rowAt_cap hR
  cases x with
  | nil => exact specMake_nil a c w
  | cons k r =>
    obtain ⟨b, o, rfl, hbw, _⟩ := rowAt_cell hR 0 (by simp)
    simp only [List.length_map, List.length_cons] at hR hl hcap ⊢
    by_cases hk : 0 ≤ kindI k
    · rw [show makePR (k :: r) = makeGo (newP k) r from if_pos hk]
      by_cases h1 : c = 1
      · exact specMake_one b o c k r w hR hz hcap hl h1 hk
      · exact specMake_go b o c k r w hR hz hcap hl (by omega) hk
    · rw [show makePR (k :: r) = (zeroP, ⟨7, 0, [], 0, 0⟩) from if_neg hk]
      exact specMake_bad b o c k r w hR hz hcap hl hk
set_option maxRecDepth 100000 in
set_option maxHeartbeats 1600000 in
theorem specRecipeFace_any (v : Value) (x : List (List UInt8)) (w : World) (hR : RowAt w v (x.map strV)) (hz : ∀ s ∈ x, s.length ≤ 1048576) :
    Calls Try.prog 96 #[v] w fun e w' => e = .returned (.tuple #[.int .i64 (recI x), .bool (recB x)]) ∧ Below w.heap.size w w' := by
  have HMK := Lib.hid (specMakePart_any v x w hR hz)
  have HSM := Lib.hid (makePR_small hz)
  have HV := Lib.hid (@makePR_val x)
  unfold recI recB
  generalize makePR x = res at *
  obtain ⟨⟨⟨a0, a1, a2, a3, a4⟩, l⟩, m0, m1, m2, m3, m4⟩ := res
  unfold GivesOPR vReply at HMK
  simp only at HMK HSM ⊢
  have HFO := Lib.hid (fun cs W (h : rPart 0 W cs ⟨⟨a0, a1, a2, a3, a4⟩, l⟩) => specFaceOf_any (.agg cs.toArray) ⟨⟨a0, a1, a2, a3, a4⟩, l⟩ W ⟨cs, rfl, h⟩)
  generalize hfp : faceP ⟨⟨a0, a1, a2, a3, a4⟩, l⟩ = fp at *
  clear hfp hR hz
  by_cases hc : m0 = 0
  · subst hc
    have hv : m1 = fp := HV.out rfl
    subst hv
    simp only [if_true, decide_true]
    clear HV
    go_enter Try.func96, Try.ntmps96
    go_wp2_with fail
    refine HMK.out.mono ?_
    rintro e w1 ⟨_, rfl, ⟨u3, u5, rfl, ho3, ho5⟩, hb⟩
    simp only at ho3 ho5
    obtain ⟨ga, gc, rfl⟩ := slice_of ho3
    obtain ⟨ua, uc, rfl⟩ := slice_of ho5
    have HB1 := Lib.hid (belS (belS hb (bx_box w1 (.cells #[.string ⟨a0.toArray⟩, .bool a1, .bool a2, .slice ga a3.length gc, .int .i64 a4, .slice ua l.length uc] 29))) (bx_box _ (.cells #[.int .i64 0, .int .i64 m1, .string ⟨m2.toArray⟩, .int .i64 m3, .int .i64 m4] 33)))
    have O3 := Lib.hid (ownsF_alloc (ownsF_alloc ho3 (.cells #[.string ⟨a0.toArray⟩, .bool a1, .bool a2, .slice ga a3.length gc, .int .i64 a4, .slice ua l.length uc] 29)) (.cells #[.int .i64 0, .int .i64 m1, .string ⟨m2.toArray⟩, .int .i64 m3, .int .i64 m4] 33))
    have O5 := Lib.hid (ownsF_alloc (ownsF_alloc ho5 (.cells #[.string ⟨a0.toArray⟩, .bool a1, .bool a2, .slice ga a3.length gc, .int .i64 a4, .slice ua l.length uc] 29)) (.cells #[.int .i64 0, .int .i64 m1, .string ⟨m2.toArray⟩, .int .i64 m3, .int .i64 m4] 33))
    have HRP := Lib.hid (show rPart 0 ((w1.alloc (.cells #[.string ⟨a0.toArray⟩, .bool a1, .bool a2, .slice ga a3.length gc, .int .i64 a4, .slice ua l.length uc] 29)).alloc (.cells #[.int .i64 0, .int .i64 m1, .string ⟨m2.toArray⟩, .int .i64 m3, .int .i64 m4] 33)) [.string ⟨a0.toArray⟩, .bool a1, .bool a2, .slice ga a3.length gc, .int .i64 a4, .slice ua l.length uc] ⟨⟨a0, a1, a2, a3, a4⟩, l⟩ from goodPart.mono (oPart_r ⟨_, _, rfl, O3.out, O5.out⟩ HSM.out) (Nat.zero_le _))
    clear ho3 ho5 hb
    go_wp2_with fail
    exact bodyPost_ret (v := .tuple #[.int .i64 m1, .bool true]) (by simp [results, Try.results96, go_sem]) rfl ⟨rfl, HB1.out⟩
  · simp only [if_neg hc, decide_eq_false hc]
    clear HV
    go_enter Try.func96, Try.ntmps96
    go_wp2_with fail
    refine HMK.out.mono ?_
    rintro e w1 ⟨_, rfl, ⟨u3, u5, rfl, ho3, ho5⟩, hb⟩
    simp only at ho3 ho5
    obtain ⟨ga, gc, rfl⟩ := slice_of ho3
    obtain ⟨ua, uc, rfl⟩ := slice_of ho5
    have HB1 := Lib.hid (belS (belS hb (bx_box w1 (.cells #[.string ⟨a0.toArray⟩, .bool a1, .bool a2, .slice ga a3.length gc, .int .i64 a4, .slice ua l.length uc] 29))) (bx_box _ (.cells #[.int .i64 m0, .int .i64 m1, .string ⟨m2.toArray⟩, .int .i64 m3, .int .i64 m4] 33)))
    clear ho3 ho5 hb
    go_wp2_with fail
    exact bodyPost_ret (v := .tuple #[.int .i64 0, .bool false]) (by simp [results, Try.results96, go_sem]) rfl ⟨rfl, HB1.out⟩
end Go.Proofs.Ytaihdjdaamglnaa
/- The draws of chapter 4: names of adapters, recipes. -/
namespace Go.Proofs.Ytaihdjdaamglnaa
set_option linter.unusedVariables false
set_option linter.unusedSimpArgs false
open Go.RowKit
set_option maxRecDepth 100000 in
set_option maxHeartbeats 800000 in
theorem l4Name_any (b : Nat) (v : Value) (l : List UInt8) (w : World) (hC : Cur w b v l) :
    Calls Try.prog 42 #[.pointer (some ⟨b, 0, none⟩)] w fun e w' => DrawnStr (fun x => x.size ≤ 9) b v l w e w' := by
  have HC0 := Lib.hid hC
  clear hC
  go_enter Try.func42, Try.ntmps42
  go_wp2_with fail
  refine (l1Once_any b v l _ w HC0.out (by omega) (by omega)).mono ?_
  rintro e w1 ⟨x, rfl, hg, hC⟩
  have HG1 := Lib.hid (hg)
  have HC1 := Lib.hid hC
  clear hg hC
  cases x
  all_goals
    go_wp2_with fail
    refine (l1Str_new b v l w1 _ _ _ _ 9 HC1.out (by rfl) (by decide) (by decide) (by decide)).mono ?_
    rintro e w2 ⟨x, rfl, hx, hg1, hC1⟩
    have HG := Lib.hid (grown_trans HG1.out hg1)
    have HC2 := Lib.hid hC1
    clear hg1 hC1
    go_wp2_with fail
    go_ret
    exact ⟨_, rfl, hx, HG.out, HC2.out⟩
set_option maxRecDepth 100000 in
set_option maxHeartbeats 3200000 in
theorem l4Fitting_any (b : Nat) (v : Value) (l : List UInt8) (f : Int) (w : World) (hC : Cur w b v l) :
    Calls Try.prog 40 #[.pointer (some ⟨b, 0, none⟩), .int .i64 f] w fun e w' => DrawnStr (fun x => x.size ≤ 9) b v l w e w' := by
  have BG := Lib.hid (bag_start hC)
  clear hC
  go_enter Try.func40, Try.ntmps40
  go_wp2_with fail
  refine (l4Name_any b v l _ BG.out.cur).mono ?_
  rintro e w1 ⟨s, rfl, hs, hg, hC⟩
  replace BG := Lib.hid (BG.out.draw hg hC)
  clear hg hC
  go_wp2_with fail
  go_loopw [5, 6, 7, 8] (fun sv iv _ _ wr => ∃ (s : ByteArray) (i : Nat), sv = .string s ∧ s.size ≤ 9 ∧ iv = .int .i64 i ∧ i ≤ 6 ∧ Bag w w.heap.size b v l [] [] wr) (fun _ iv _ _ _ => 6 - (intOf iv).toNat)
  case atStart => exact ⟨s, 0, rfl, hs, rfl, by omega, BG.out⟩
  case round =>
    clear BG hs
    obtain ⟨s, i, rfl, hs, rfl, hi, hbg⟩ := hrel
    have BG := Lib.hid hbg
    have HS := Lib.hid hs
    clear hbg hs
    by_cases hlt : i < 6
    · have HLN := Lib.hid (fun W => specLayerNeeds_any s W)
      unfold ndV at HLN
      generalize decide (0 ≤ layI s.data.toList) = q at *
      generalize needI (layI s.data.toList) = n at *
      have HOF := Lib.hid (fun W => specOffers_any f n W)
      generalize offersF f n = o at *
      go_wp2_with fail
      refine (HLN.out _).mono ?_
      rintro e w2 ⟨rfl, hb⟩
      replace BG := Lib.hid (BG.out.below hb)
      clear hb
      cases q
      case false =>
        go_wp2_with fail
        all_goals (first
          | (go_ret; exact ⟨_, rfl, HS.out, BG.out.grown, BG.out.cur⟩)
          | (refine (l4Name_any b v l _ BG.out.cur).mono ?_; rintro e w3 ⟨z, rfl, hz, hg, hC⟩; replace BG := Lib.hid (BG.out.draw hg hC); clear hg hC; go_wp2_with fail; exact ⟨⟨z, i + 1, rfl, hz, by go_num, by omega, BG.out⟩, by simp [intOf]; omega⟩))
      case true =>
        go_wp2_with fail
        refine (HOF.out _).mono ?_
        rintro e w' ⟨rfl, rfl⟩
        cases o
        all_goals go_wp2_with fail
        all_goals (first
          | (go_ret; exact ⟨_, rfl, HS.out, BG.out.grown, BG.out.cur⟩)
          | (refine (l4Name_any b v l _ BG.out.cur).mono ?_; rintro e w3 ⟨z, rfl, hz, hg, hC⟩; replace BG := Lib.hid (BG.out.draw hg hC); clear hg hC; go_wp2_with fail; exact ⟨⟨z, i + 1, rfl, hz, by go_num, by omega, BG.out⟩, by simp [intOf]; omega⟩))
    · go_wp2_with fail
      go_ret
      exact ⟨_, rfl, HS.out, BG.out.grown, BG.out.cur⟩
def rS (w : World) (u : Value) (x : List (List UInt8)) : Held := hRow cStr 9 1 w.heap.size u x
theorem rS_row {w wx : World} {u : Value} {x : List (List UInt8)} (h : (rS w u x).P wx) (hm : x.length ≤ 1000) : RowAt wx u (x.map strV) := row_of_flat (ownsF_at (show OwnsF cStr 9 1 wx w.heap.size u x from h) (by omega))
def DrawnStrs (b : Nat) (v : Value) (l : List UInt8) (w : World) (e : Ending) (w' : World) : Prop := ∃ u x, e = .returned u ∧ OwnsF cStr 9 1 w' w.heap.size u x ∧ x.length ≤ 4 ∧ (∀ s ∈ x, s.length ≤ 9) ∧ w.grownBy w' (some b) ∧ Cur w' b v l
theorem str_new (w : World) (y : List UInt8) (blk : Nat) (h : blk = w.heap.size) : ∀ j, j < 1 → (w.alloc (.cells #[.string ⟨y.toArray⟩] 9)).cell? ⟨blk, j, none⟩ = (cStr y)[j]? := by
  subst h
  intro j hj
  rw [cell_of_row _ _ _ _ 9 (0, 0) (heap_alloc_new w _)]
  simp [cStr, strV]
set_option maxRecDepth 100000 in
set_option maxHeartbeats 3200000 in
theorem l4Recipe_any (b : Nat) (v : Value) (l : List UInt8) (w : World) (hC : Cur w b v l) :
    Calls Try.prog 55 #[.pointer (some ⟨b, 0, none⟩)] w fun e w' => DrawnStrs b v l w e w' := by
  have BG := Lib.hid (bag_start hC)
  clear hC
  go_enter Try.func55, Try.ntmps55
  go_wp2_with fail
  refine (l3Kind_any b v l _ BG.out.cur).mono ?_
  rintro e w1 ⟨z, rfl, hz, hg, hC⟩
  obtain ⟨⟨kl⟩⟩ := z
  have hkl : kl.length ≤ 9 := hz
  replace BG := Lib.hid (BG.out.draw hg hC)
  clear hg hC hz
  have HO := Lib.hid (ownsF_lit (f := cStr) (E := 9) (k := 1) w1 w1.heap.size #[.string ⟨kl.toArray⟩] [kl] rfl cStr_len (by simp) (Nat.le_refl _))
  replace BG := Lib.hid (BG.out.made (bx_box w1 (.cells #[.string ⟨kl.toArray⟩] 9)) (rS w (.slice (some ⟨w1.heap.size, 0, none⟩) 1 1) [kl]) (ownsF_base HO.out BG.out.size) (fun g e => (World.ownsRow.lt HO.out g e).1))
  clear HO
  go_wp2_with fail
  generalize w1.alloc (.cells #[.string ⟨kl.toArray⟩] 9) = w2 at *
  generalize w1.heap.size = B1 at *
  refine (l1Below_any b v l _ _ BG.out.cur (by omega) (by omega)).mono ?_
  rintro e w3 ⟨n, rfl, ⟨n0, n1, n2⟩, hg, hC⟩
  have n3 := n2 (by omega)
  replace BG := Lib.hid (BG.out.draw hg hC)
  clear hg hC n1 n2
  go_wp2_with fail
  go_loopw [3, 4, 5, 6] (fun uv nv _ _ wr => ∃ (u : Value) (x : List (List UInt8)) (n : Int), uv = u ∧ nv = .int .i64 n ∧ 0 ≤ n ∧ (x.length : Int) + n ≤ 4 ∧ (∀ s ∈ x, s.length ≤ 9) ∧ Bag w w.heap.size b v l [] [rS w u x] wr) (fun _ nv _ _ _ => (intOf nv).toNat)
  case atStart => exact ⟨_, [kl], n, rfl, rfl, n0, by simp; omega, by simpa using hkl, BG.out⟩
  case round =>
    clear BG
    obtain ⟨u, x, n, rfl, rfl, hn0, hn4, hx, hbg⟩ := hrel
    have BG := Lib.hid hbg
    have HX := Lib.hid hx
    clear hbg hx
    by_cases hp : 0 < n
    · have HRF := Lib.hid (specRecipeFace_any u3 x wr (rS_row (BG.out.row _ (List.mem_cons_self ..)) (by omega)) (fun s hs => Nat.le_trans (HX.out s hs) (by decide)))
      generalize recI x = rf at *
      generalize recB x = rb at *
      go_wp2_with fail
      refine HRF.out.mono ?_
      rintro e w4 ⟨rfl, hb⟩
      replace BG := Lib.hid (BG.out.below hb)
      clear hb HRF
      go_wp2_with fail
      refine (l4Fitting_any b v l _ _ BG.out.cur).mono ?_
      rintro e w5 ⟨z, rfl, hz, hg, hC⟩
      obtain ⟨⟨zl⟩⟩ := z
      have hzl : zl.length ≤ 9 := hz
      replace BG := Lib.hid (BG.out.draw hg hC)
      clear hg hC hz
      have HX2 := Lib.hid (show ∀ s ∈ x ++ [zl], s.length ≤ 9 from fun s hs => by
        rcases List.mem_append.1 hs with h | h
        · exact HX.out s h
        · rw [List.mem_singleton.1 h]; exact hzl)
      have HRW := Lib.hid (show OwnsF cStr 9 1 w5 w.heap.size u3 x from BG.out.row _ (List.mem_cons_self ..))
      have hsz := BG.out.size
      have BP := Lib.hid (BG.out.past (.cells #[.string ⟨zl.toArray⟩] 9))
      go_wp2_with (at_builtin; refine append_flatN cStr_len cStr_one infoStrB rfl (by decide) (by decide) Try.underlying44 rfl _ _ rfl w.heap.size u3 x zl (w5.alloc (.cells #[.string ⟨zl.toArray⟩] 9)) w5.heap.size rfl (ownsF_alloc HRW.out _) rfl (str_new w5 zl _ rfl) (by omega) (by simp; omega) ?_; intro v' w6 ho hgr hne; have BN := Lib.hid (BP.out.app 0 rfl hgr ho hne); clear ho hgr hne)
      exact ⟨⟨_, x ++ [zl], n - 1, rfl, by go_num, by omega, by simp; omega, HX2.out, BN.out⟩, by simp [intOf]; omega⟩
    · go_wp2_with fail
      go_ret
      exact ⟨_, x, rfl, BG.out.row _ (List.mem_cons_self ..), by omega, HX.out, BG.out.grown, BG.out.cur⟩
def GivesStrs (w : World) (e : Ending) (w' : World) : Prop := ∃ (u : Value) (x : List (List UInt8)), e = .returned u ∧ RowAt w' u (x.map strV) ∧ x.length ≤ 6 ∧ (∀ s ∈ x, s.length ≤ 9) ∧ Below w.heap.size w w'
theorem rowS_of {w : World} {B : Nat} {u : Value} {x : List (List UInt8)} (h : OwnsF cStr 9 1 w B u x) (hm : x.length ≤ 1000) : RowAt w u (x.map strV) := row_of_flat (ownsF_at h (by omega))
set_option maxRecDepth 100000 in
set_option maxHeartbeats 3200000 in
theorem drawMakePart_any (v : Value) (l : List UInt8) (w : World) (hR : RowAt w v (Lib.byteCells l)) :
    Calls Try.prog 19 #[v] w fun e w' => GivesStrs w e w' := by
  have HN := Lib.hid (l1New_any v l w hR)
  have hcode := Lib.hid (bag_code hR)
  clear hR
  go_enter Try.func19, Try.ntmps19
  go_wp2_with fail
  refine HN.out.mono ?_
  rintro e w1 ⟨b, rfl, hb, hB, hC⟩
  have BG := Lib.hid (bag_new (bs := []) (Below.refl w.heap.size w) (by simp) List.Pairwise.nil hb hB hC hcode.out)
  clear hB hC hcode HN
  go_wp2_with fail
  refine (l4Recipe_any b v l _ BG.out.cur).mono ?_
  rintro e w2 ⟨u, x, rfl, ho, hx4, hx9, hg, hC⟩
  have HX := Lib.hid hx9
  replace BG := Lib.hid (BG.out.drawn hg hC (rS w u x) (ownsF_base ho BG.out.size) (fun g e => (World.ownsRow.lt ho g e).1))
  clear ho hg hC hx9
  go_wp2_with fail
  refine (l1Below_any b v l _ _ BG.out.cur (by omega) (by omega)).mono ?_
  rintro e w3 ⟨k, rfl, ⟨k0, k1, k2⟩, hg, hC⟩
  replace BG := Lib.hid (BG.out.draw hg hC)
  clear hg hC k1 k2
  by_cases e0 : k = 0
  · subst e0
    have hBE := Lib.hid ((BG.out.bel hb).alloc (Nat.le_trans (Nat.le_refl _) BG.out.size) (.cells #[] 9))
    have HO := Lib.hid (ownsF_new cStr 9 1 w3)
    go_wp2_with fail
    go_ret
    exact ⟨_, [], rfl, rowS_of HO.out (by simp), by simp, by simp, hBE.out⟩
  have E0 : (k == 0) = false := by simpa using e0
  by_cases e1 : k = 1
  · subst e1
    have HRW := Lib.hid (show OwnsF cStr 9 1 w3 w.heap.size u x from BG.out.row _ (List.mem_cons_self ..))
    have hsz := BG.out.size
    have BP := Lib.hid (BG.out.past (.cells #[.string ⟨#[114, 117, 110, 115]⟩, .string ⟨#[114, 117, 110, 115]⟩] 9))
    have HCL := Lib.hid (show ∀ j u, ([[114, 117, 110, 115], [114, 117, 110, 115]].flatMap cStr)[j]? = some u → (w3.alloc (.cells #[.string ⟨#[114, 117, 110, 115]⟩, .string ⟨#[114, 117, 110, 115]⟩] 9)).cell? ⟨w3.heap.size, j, none⟩ = some u from fun j u hj => by
      rw [cell_of_row _ _ _ _ 9 (0, 0) (heap_alloc_new w3 _)]; simpa [cStr, strV] using hj)
    have HX2 := Lib.hid (show ∀ s ∈ x ++ [[114, 117, 110, 115], [114, 117, 110, 115]], s.length ≤ 9 from fun s hs => by
      rcases List.mem_append.1 hs with h | h
      · exact HX.out s h
      · simp only [List.mem_cons, List.not_mem_nil, or_false] at h; rcases h with rfl | rfl <;> decide)
    go_wp2_with (at_builtin; refine append_flatM cStr_len cStr_one infoStrB rfl (by decide) (by decide) Try.underlying44 rfl _ _ rfl w.heap.size u x [[114, 117, 110, 115], [114, 117, 110, 115]] (w3.alloc (.cells #[.string ⟨#[114, 117, 110, 115]⟩, .string ⟨#[114, 117, 110, 115]⟩] 9)) w3.heap.size 2 2 rfl (ownsF_alloc HRW.out _) rfl rfl (by decide) HCL.out (by simp; omega) (by simp; omega) ?_; intro v' w6 ho hgr hne; have BN := Lib.hid (BP.out.app 0 rfl hgr ho hne); clear ho hgr hne)
    go_ret
    exact ⟨_, x ++ [[114, 117, 110, 115], [114, 117, 110, 115]], rfl, rowS_of (BN.out.row _ (List.mem_cons_self ..)) (by simp; omega), by simp; omega, HX2.out, BN.out.bel hb⟩
  have E1 : (k == 1) = false := by simpa using e1
  clear e0 e1
  have HRW := Lib.hid (show OwnsF cStr 9 1 w3 w.heap.size u x from BG.out.row _ (List.mem_cons_self ..))
  go_wp2_with fail
  go_ret
  exact ⟨_, x, rfl, rowS_of HRW.out (by omega), by omega, HX.out, BG.out.bel hb⟩
end Go.Proofs.Ytaihdjdaamglnaa
/- A region that draws its order: two blocks are made beside a chain of calls, whenever; the chain is walked once, in whatever world has grown by such blocks. -/
namespace Go.Proofs.Ytaihdjdaamglnaa
set_option linter.unusedVariables false
set_option linter.unusedSimpArgs false
open Go
open Go.RowKit
section
variable {P : Program} {ops : Array Oper} {Q : Exit → Act → World → Prop} {md : Region.Mode} {S : World → Prop}
/-- one operation, which looks not at slot d and does not fill it: whether d is filled makes no difference -/
theorem wpOp_more {j : Nat} {oj : Oper} {d : Tmp} {v : Value} (hj : ops[j]? = some oj) (h1 : d ∉ oj.looksAt ops) (h2 : oj.dst ≠ some d)
    (hsj : ∀ cs b, oj.op ≠ .select cs b) (hQ : ∀ c a w, Q (.panic c) a w → Q (.panic c) (a.put (some d) v) w) {K : Act → World → Prop} {a : Act} {w : World}
    (h : wpOp P ops Q j K a w) : wpOp P ops Q j (fun a' w' => ∃ a0 : Act, a' = a0.put (some d) v ∧ K a0 w') (a.put (some d) v) w := by
  have e1 : ∀ d', (some d : Option Tmp) = some d' → d' ∉ oj.looksAt ops := fun d' e => by injection e with e; exact e ▸ h1
  have e2 : ∀ d', (some d : Option Tmp) = some d' → oj.dst ≠ some d' := fun d' e => by injection e with e; exact e ▸ h2
  unfold wpOp at *
  simp only [hj] at *
  rw [wanted_put oj a (some d) v e1]
  split
  · rename_i hw
    simp only [hw, if_true] at h
    rcases h with h | ⟨hasks, hlets⟩
    case inr => exact .inr ⟨by unfold Oper.asks at *; rw [execOp_put oj hsj a (some d) v e1]; exact hasks, hlets⟩
    refine .inl ?_
    unfold Oper.wp at *
    rw [execOp_put oj hsj a (some d) v e1]
    generalize (execOp a.eval oj).run P w = r at *
    cases r with
    | ok n w' =>
      cases n <;> simp only [Oper.upon] at h ⊢
      case value u => exact ⟨_, Act.put_comm a v u e2, h⟩
      case skip => exact ⟨_, Act.put_comm a v undef e2, h⟩
      case defer x =>
        refine ⟨_, ?_, h⟩
        rw [Act.put_defers, Act.put_comm _ v undef e2]
      case enter f args =>
        refine Calls.mono h fun e w'' he => ?_
        cases e with
        | returned u => exact ⟨_, Act.put_comm a v u e2, he⟩
        | panicked c => exact hQ _ _ _ he
        | outgrown => exact he
      case row row args => exact Rows.mono h fun u w'' he => ⟨_, Act.put_comm a v u e2, he⟩
    | halt x w' =>
      cases x <;> simp only [Oper.upon] at h ⊢
      case panic u => exact hQ _ _ _ h
  · rename_i hw
    simp only [hw] at h
    exact ⟨_, Act.put_comm a v undef e2, h⟩
/-- operation k makes a new block in whatever state, and leaves its pointer in slot d -/
structure Flo (P : Program) (ops : Array Oper) (k : Nat) (d : Tmp) (o : Obj) : Prop where
  op : ∃ x, ops[k]? = some x ∧ x.dst = some d ∧ x.guard = none ∧ ∀ (a : Act) (w : World), (execOp a.eval x).run P w = .ok (.value (.pointer (some ⟨w.heap.size, 0, none⟩))) (w.alloc o)
theorem Flo.wpOp {k : Nat} {d : Tmp} {o : Obj} (h : Flo P ops k d o) {K : Act → World → Prop} {a : Act} {w : World}
    (hK : K (a.put (some d) (.pointer (some ⟨w.heap.size, 0, none⟩))) (w.alloc o)) : wpOp P ops Q k K a w := by
  obtain ⟨x, hx, hd, hg, hr⟩ := h.op
  unfold Go.wpOp
  simp only [hx]
  have hw : Region.wanted x (yielded ops a.tmps) = true := by unfold Region.wanted; rw [hg]
  simp only [hw, if_true]
  refine .inl ?_
  unfold Oper.wp
  rw [hr, Oper.upon_value, hd]
  exact hK
def listF (k1 k2 : Nat) (L : Array Bool) (f1 f2 : Bool) : Array Bool :=
  let L1 := if f1 then L.setIfInBounds k1 true else L
  if f2 then L1.setIfInBounds k2 true else L1
def fillF (d1 d2 : Tmp) (a : Act) (s1 s2 : Option Nat) : Act :=
  let a1 := match s1 with | some b => a.put (some d1) (.pointer (some ⟨b, 0, none⟩)) | none => a
  match s2 with | some b => a1.put (some d2) (.pointer (some ⟨b, 0, none⟩)) | none => a1
def floAt (md : Region.Mode) (ops : Array Oper) (k1 k2 : Nat) (h : Option Nat) (L : Array Bool) (f1 f2 : Bool) : Bool :=
  let r := Region.ready md ops (listF k1 k2 L f1 f2)
  !r.isEmpty && r.all fun i => h == some i || (i == k1 && !f1) || (i == k2 && !f2)
/-- i may be taken first, whether the two have come up or not -/
def floTake (md : Region.Mode) (ops : Array Oper) (k1 k2 : Nat) (i : Nat) (L : Array Bool) (f1 f2 : Bool) : Bool :=
  Region.free md ops (listF k1 k2 L f1 f2) i && (Region.ready md ops (listF k1 k2 L f1 f2)).contains i
def floOp (ops : Array Oper) (k1 k2 : Nat) (d1 d2 : Tmp) (j : Nat) : Bool :=
  (j != k1) && (j != k2) && (match ops[j]? with | some o => !(o.looksAt ops).contains d1 && !(o.looksAt ops).contains d2 && o.dst != some d1 && o.dst != some d2 | none => false)
/-- whenever the two come up, nothing but the chain's next may come up beside them -/
def floOk (md : Region.Mode) (ops : Array Oper) (k1 k2 : Nat) (d1 d2 : Tmp) : List (Nat × Bool) → Array Bool → Bool
  | [], L => floAt md ops k1 k2 none L false false && floAt md ops k1 k2 none L true false && floAt md ops k1 k2 none L false true
  | (j, false) :: js, L => floAt md ops k1 k2 (some j) L false false && floAt md ops k1 k2 (some j) L true false && floAt md ops k1 k2 (some j) L false true && floAt md ops k1 k2 (some j) L true true &&
      floOp ops k1 k2 d1 d2 j && floOk md ops k1 k2 d1 d2 js (L.setIfInBounds j true)
  | (j, true) :: js, L => floTake md ops k1 k2 j L false false && floTake md ops k1 k2 j L true false && floTake md ops k1 k2 j L false true && floTake md ops k1 k2 j L true true &&
      floOp ops k1 k2 d1 d2 j && floOk md ops k1 k2 d1 d2 js (L.setIfInBounds j true)
/-- the chain alone, in whatever world has grown; behind it the two blocks are handed over -/
def wpFl (P : Program) (md : Region.Mode) (ops : Array Oper) (Q : Exit → Act → World → Prop) (S : World → Prop) (k1 k2 : Nat) (d1 d2 : Tmp) (G1 G2 : World → Nat → Prop) (base fz : Nat) : List (Nat × Bool) → List (Nat × Nat) → Array Bool → Act → World → Prop
  | [], gs, L, a, w => ∀ (W : World) (b1 b2 : Nat), Below w.heap.size w W → S W → G1 W b1 → G2 W b2 → b1 ≠ b2 → base ≤ b1 → base ≤ b2 → (∀ g ∈ gs, (b1 < g.1 ∨ g.2 ≤ b1) ∧ (b2 < g.1 ∨ g.2 ≤ b2)) →
      wpAnyH P md ops Q S fz ((L.setIfInBounds k1 true).setIfInBounds k2 true) ((a.put (some d1) (.pointer (some ⟨b1, 0, none⟩))).put (some d2) (.pointer (some ⟨b2, 0, none⟩))) W
  | (i, true) :: js, gs, L, a, w => ∃ oi v, ops[i]? = some oi ∧ YieldsIf P ops S oi v a ∧ wpFl P md ops Q S k1 k2 d1 d2 G1 G2 base fz js gs (L.setIfInBounds i true) (a.put oi.dst v) w
  | (j, false) :: js, gs, L, a, w => ∀ W, Below w.heap.size w W → S W → wpOp P ops Q j (fun a' w' => Below W.heap.size W w' ∧ S w' ∧ wpFl P md ops Q S k1 k2 d1 d2 G1 G2 base fz js ((W.heap.size, w'.heap.size) :: gs) (L.setIfInBounds j true) a' w') a W
theorem floAt_spec {k1 k2 : Nat} {h0 : Option Nat} {L : Array Bool} {f1 f2 : Bool} (h : floAt md ops k1 k2 h0 L f1 f2 = true) :
    Region.ready md ops (listF k1 k2 L f1 f2) ≠ [] ∧ ∀ i ∈ Region.ready md ops (listF k1 k2 L f1 f2), h0 = some i ∨ (i = k1 ∧ f1 = false) ∨ (i = k2 ∧ f2 = false) := by
  unfold floAt at h
  simp only [Bool.and_eq_true, Bool.not_eq_true', List.all_eq_true, Bool.or_eq_true, beq_iff_eq, List.isEmpty_eq_false_iff] at h
  refine ⟨h.1, fun i hi => ?_⟩
  have := h.2 i hi
  rcases this with (h | h) | h
  · exact .inl h
  · exact .inr (.inl h)
  · exact .inr (.inr h)
theorem floOp_spec {k1 k2 : Nat} {d1 d2 : Tmp} {j : Nat} (h : floOp ops k1 k2 d1 d2 j = true) : j ≠ k1 ∧ j ≠ k2 ∧ ∃ o, ops[j]? = some o ∧ d1 ∉ o.looksAt ops ∧ d2 ∉ o.looksAt ops ∧ o.dst ≠ some d1 ∧ o.dst ≠ some d2 := by
  simp only [floOp, Bool.and_eq_true, bne_iff_ne] at h
  obtain ⟨⟨h1, h2⟩, h3⟩ := h
  split at h3
  case h_2 => cases h3
  rename_i o ho
  simp only [Bool.and_eq_true, Bool.not_eq_true', bne_iff_ne] at h3
  obtain ⟨⟨⟨l1, l2⟩, x1⟩, x2⟩ := h3
  exact ⟨h1, h2, o, ho, by simpa using l1, by simpa using l2, x1, x2⟩
theorem listF_set {k1 k2 j : Nat} (L : Array Bool) (f1 f2 : Bool) (h1 : j ≠ k1) (h2 : j ≠ k2) : (listF k1 k2 L f1 f2).setIfInBounds j true = listF k1 k2 (L.setIfInBounds j true) f1 f2 := by
  unfold listF
  cases f1 <;> cases f2 <;> simp only [if_true, Bool.false_eq_true, if_false]
  · rw [Array.setIfInBounds_comm _ _ (Ne.symm h2)]
  · rw [Array.setIfInBounds_comm _ _ (Ne.symm h1)]
  · rw [Array.setIfInBounds_comm _ _ (Ne.symm h2), Array.setIfInBounds_comm _ _ (Ne.symm h1)]
theorem fillF_put {d1 d2 : Tmp} {a : Act} {x : Option Tmp} {v : Value} (t1 t2 : Option Nat) (h1 : x ≠ some d1) (h2 : x ≠ some d2) : (fillF d1 d2 a t1 t2).put x v = fillF d1 d2 (a.put x v) t1 t2 := by
  have e1 : ∀ b : Value, (a.put (some d1) b).put x v = (a.put x v).put (some d1) b := fun b => Act.put_comm a b v (fun d e => by injection e with e; subst e; exact h1)
  have e2 : ∀ (a : Act) (b : Value), (a.put (some d2) b).put x v = (a.put x v).put (some d2) b := fun a b => Act.put_comm a b v (fun d e => by injection e with e; subst e; exact h2)
  unfold fillF
  cases t1 <;> cases t2 <;> simp only [e1, e2]
theorem fillF_yields {d1 d2 : Tmp} {a : Act} {o : Oper} {v : Value} (t1 t2 : Option Nat) (hs : ∀ cs b, o.op ≠ .select cs b) (h1 : d1 ∉ o.looksAt ops) (h2 : d2 ∉ o.looksAt ops) (hy : YieldsIf P ops S o v a) : YieldsIf P ops S o v (fillF d1 d2 a t1 t2) := by
  have p1 : ∀ (a : Act) (b : Value), YieldsIf P ops S o v a → YieldsIf P ops S o v (a.put (some d1) b) := fun a b h => h.of_same (execOp_put o hs a (some d1) b (fun d e => by injection e with e; subst e; exact h1)) (wanted_put o a (some d1) b (fun d e => by injection e with e; subst e; exact h1))
  have p2 : ∀ (a : Act) (b : Value), YieldsIf P ops S o v a → YieldsIf P ops S o v (a.put (some d2) b) := fun a b h => h.of_same (execOp_put o hs a (some d2) b (fun d e => by injection e with e; subst e; exact h2)) (wanted_put o a (some d2) b (fun d e => by injection e with e; subst e; exact h2))
  unfold fillF
  cases t1 <;> cases t2 <;> simp only
  · exact hy
  · exact p2 _ _ hy
  · exact p1 _ _ hy
  · exact p2 _ _ (p1 _ _ hy)
/-- what is known of a block that has come up -/
structure Up (G : World → Nat → Prop) (base : Nat) (gs : List (Nat × Nat)) (W : World) (b : Nat) : Prop where
  g : G W b
  lo : base ≤ b
  lt : b < W.heap.size
  gap : ∀ g ∈ gs, b < g.1 ∨ g.2 ≤ b
theorem float_all {k1 k2 : Nat} {d1 d2 : Tmp} {o1 o2 : Obj} {G1 G2 : World → Nat → Prop} {base fz : Nat} (F1 : Flo P ops k1 d1 o1) (F2 : Flo P ops k2 d2 o2) (hk : k1 ≠ k2) (hd : d1 ≠ d2)
    (hsel : Region.noSelect ops = true) (hQ : ∀ c (a : Act) (d : Tmp) (v : Value) w, Q (.panic c) (a.put (some d) v) w ↔ Q (.panic c) a w) (hS : ∀ W W', S W → Below W.heap.size W W' → S W')
    (n1 : ∀ w : World, G1 (w.alloc o1) w.heap.size) (n2 : ∀ w : World, G2 (w.alloc o2) w.heap.size) (s1 : ∀ W W' b, G1 W b → Below W.heap.size W W' → G1 W' b) (s2 : ∀ W W' b, G2 W b → Below W.heap.size W W' → G2 W' b) :
    ∀ (m : Nat) (js : List (Nat × Bool)) (gs : List (Nat × Nat)) (L : Array Bool) (a : Act) (w W : World) (t1 t2 : Option Nat),
      m = js.length + (if t1.isSome then 0 else 1) + (if t2.isSome then 0 else 1) → floOk md ops k1 k2 d1 d2 js L = true →
      wpFl P md ops Q S k1 k2 d1 d2 G1 G2 base fz js gs L a w → Below w.heap.size w W → S W → base ≤ w.heap.size → (∀ g ∈ gs, g.2 ≤ w.heap.size) →
      (∀ b, t1 = some b → Up G1 base gs W b) → (∀ b, t2 = some b → Up G2 base gs W b) → (∀ b c, t1 = some b → t2 = some c → b ≠ c) →
      wpAnyH P md ops Q S (fz + m) (listF k1 k2 L t1.isSome t2.isSome) (fillF d1 d2 a t1 t2) W := by
  intro m
  induction m with
  | zero =>
    intro js gs L a w W t1 t2 hm hok hwp hb hSW hbase hgs h1 h2 hne
    cases t1 with
    | none => simp at hm; omega
    | some b1 =>
      cases t2 with
      | none => simp at hm; try omega
      | some b2 =>
        cases js with
        | cons j js => simp at hm
        | nil => exact hwp W b1 b2 hb hSW (h1 b1 rfl).g (h2 b2 rfl).g (hne b1 b2 rfl rfl) (h1 b1 rfl).lo (h2 b2 rfl).lo (fun g hg => ⟨(h1 b1 rfl).gap g hg, (h2 b2 rfl).gap g hg⟩)
  | succ m ih =>
    intro js gs L a w W t1 t2 hm hok hwp hb hSW hbase hgs h1 h2 hne
    have hflo : (t1 = none ∨ t2 = none) → floOk md ops k1 k2 d1 d2 js L = true → ∀ i, (i = k1 ∧ t1.isSome = false) ∨ (i = k2 ∧ t2.isSome = false) →
        wpOp P ops Q i (fun a' w' => S w' ∧ wpAnyH P md ops Q S (fz + m) ((listF k1 k2 L t1.isSome t2.isSome).setIfInBounds i true) a' w') (fillF d1 d2 a t1 t2) W := by
      intro _ hok i hi
      rcases hi with ⟨rfl, hf⟩ | ⟨rfl, hf⟩
      · have ht : t1 = none := by cases t1 <;> simp_all
        subst ht
        refine F1.wpOp ?_
        have hbw : Below W.heap.size W (W.alloc o1) := (Below.refl _ _).alloc (Nat.le_refl _) o1
        refine ⟨hS _ _ hSW hbw, ?_⟩
        have hL : (listF i k2 L (Option.isSome (none : Option Nat)) t2.isSome).setIfInBounds i true = listF i k2 L (Option.isSome (some W.heap.size)) t2.isSome := by
          unfold listF
          cases t2 <;> simp only [Option.isSome, if_true, Bool.false_eq_true, if_false]
          rw [Array.setIfInBounds_comm _ _ (Ne.symm hk)]
        rw [hL]
        have ha : (fillF d1 d2 a none t2).put (some d1) (.pointer (some ⟨W.heap.size, 0, none⟩)) = fillF d1 d2 a (some W.heap.size) t2 := by
          unfold fillF
          cases t2 with
          | none => rfl
          | some b2 => exact Act.put_comm a _ _ (fun d e => by injection e with e; subst e; intro h; injection h with h; exact hd h)
        rw [ha]
        refine ih js gs L a w _ (some W.heap.size) t2 (by simp only [Option.isSome, Bool.false_eq_true, if_false, if_true] at hm ⊢; omega) hok hwp (hb.trans (hbw.mono hb.size)) (hS _ _ hSW hbw) hbase hgs ?_ ?_ ?_
        · intro b e
          injection e with e; subst e
          exact ⟨n1 W, Nat.le_trans hbase hb.size, by simp, fun g hg => .inr (Nat.le_trans (hgs g hg) hb.size)⟩
        · intro b e
          have h := h2 b e
          exact ⟨s2 _ _ _ h.g hbw, h.lo, by have := h.lt; simp; omega, h.gap⟩
        · intro b c e1 e2
          injection e1 with e1; subst e1
          have := (h2 c e2).lt
          omega
      · have ht : t2 = none := by cases t2 <;> simp_all
        subst ht
        refine F2.wpOp ?_
        have hbw : Below W.heap.size W (W.alloc o2) := (Below.refl _ _).alloc (Nat.le_refl _) o2
        refine ⟨hS _ _ hSW hbw, ?_⟩
        have hL : (listF k1 i L t1.isSome (Option.isSome (none : Option Nat))).setIfInBounds i true = listF k1 i L t1.isSome (Option.isSome (some W.heap.size)) := by
          unfold listF
          simp only [Option.isSome, if_true, Bool.false_eq_true, if_false]
        rw [hL]
        have ha : (fillF d1 d2 a t1 none).put (some d2) (.pointer (some ⟨W.heap.size, 0, none⟩)) = fillF d1 d2 a t1 (some W.heap.size) := rfl
        rw [ha]
        refine ih js gs L a w _ t1 (some W.heap.size) (by simp only [Option.isSome, Bool.false_eq_true, if_false, if_true] at hm ⊢; omega) hok hwp (hb.trans (hbw.mono hb.size)) (hS _ _ hSW hbw) hbase hgs ?_ ?_ ?_
        · intro b e
          have h := h1 b e
          exact ⟨s1 _ _ _ h.g hbw, h.lo, by have := h.lt; simp; omega, h.gap⟩
        · intro b e
          injection e with e; subst e
          exact ⟨n2 W, Nat.le_trans hbase hb.size, by simp, fun g hg => .inr (Nat.le_trans (hgs g hg) hb.size)⟩
        · intro b c e1 e2
          injection e2 with e2; subst e2
          have := (h1 b e1).lt
          omega
    cases js with
    | nil =>
      have hat : floAt md ops k1 k2 none L t1.isSome t2.isSome = true := by
        simp only [floOk, Bool.and_eq_true] at hok
        cases t1 <;> cases t2 <;> first | exact hok.1.1 | exact hok.1.2 | exact hok.2 | (simp at hm)
      obtain ⟨hne0, hall⟩ := floAt_spec hat
      refine ⟨fun h0 => absurd h0 hne0, fun i hi => ?_⟩
      rcases hall i hi with hj | hj
      · cases hj
      · refine hflo ?_ hok i hj
        rcases hj with ⟨_, h⟩ | ⟨_, h⟩
        · left; cases t1 <;> simp_all
        · right; cases t2 <;> simp_all
    | cons x js =>
      obtain ⟨j, tk⟩ := x
      cases tk with
      | true =>
        have hok0 := hok
        simp only [floOk, Bool.and_eq_true] at hok
        obtain ⟨⟨⟨⟨⟨q1, q2⟩, q3⟩, q4⟩, hop⟩, hok'⟩ := hok
        have hq : floTake md ops k1 k2 j L t1.isSome t2.isSome = true := by
          cases t1 <;> cases t2
          · exact q1
          · exact q3
          · exact q2
          · exact q4
        obtain ⟨hj1, hj2, oj, hoj, l1, l2, x1, x2⟩ := floOp_spec hop
        obtain ⟨oi, v, hoi, hy, hrest⟩ := hwp
        obtain rfl : oi = oj := by rw [hoi] at hoj; injection hoj
        simp only [floTake, Bool.and_eq_true] at hq
        have hsj : ∀ cs b, oi.op ≠ .select cs b := fun cs b => Region.noSelect_spec hsel j oi cs b hoi
        refine wpAnyH_first hoi (Region.noSelect_spec hsel) (fun c a w h => by cases hdst : oi.dst with | none => rw [hdst] at h; exact h | some d => rw [hdst] at h; exact (hQ c a d v w).1 h) (fz + m) _ _ W (Region.free_spec hoi hq.1) (by simpa using hq.2) (fillF_yields t1 t2 hsj l1 l2 hy) hSW ?_
        rw [listF_set L _ _ hj1 hj2, fillF_put t1 t2 x1 x2]
        exact ih js gs _ _ w W t1 t2 (by simp only [List.length_cons] at hm; omega) hok' hrest hb hSW hbase hgs h1 h2 hne
      | false =>
        have hok0 := hok
        simp only [floOk, Bool.and_eq_true] at hok
        obtain ⟨⟨⟨⟨⟨q1, q2⟩, q3⟩, q4⟩, hop⟩, hok'⟩ := hok
        have hat : floAt md ops k1 k2 (some j) L t1.isSome t2.isSome = true := by
          cases t1 <;> cases t2
          · exact q1
          · exact q3
          · exact q2
          · exact q4
        obtain ⟨hne0, hall⟩ := floAt_spec hat
        refine ⟨fun h0 => absurd h0 hne0, fun i hi => ?_⟩
        rcases hall i hi with hj | hj
        case inr =>
          refine hflo ?_ hok0 i hj
          rcases hj with ⟨_, h⟩ | ⟨_, h⟩
          · left; cases t1 <;> simp_all
          · right; cases t2 <;> simp_all
        obtain rfl : j = i := by simpa using hj
        obtain ⟨hj1, hj2, oj, hoj, l1, l2, x1, x2⟩ := floOp_spec hop
        have hsj : ∀ cs b, oj.op ≠ .select cs b := fun cs b => Region.noSelect_spec hsel j oj cs b hoj
        have H := hwp W hb hSW
        have H2 : wpOp P ops Q j (fun a' w' => ∃ a0 : Act, a' = fillF d1 d2 a0 t1 t2 ∧ Below W.heap.size W w' ∧ S w' ∧ wpFl P md ops Q S k1 k2 d1 d2 G1 G2 base fz js ((W.heap.size, w'.heap.size) :: gs) (L.setIfInBounds j true) a0 w') (fillF d1 d2 a t1 t2) W := by
          unfold fillF
          cases t1 with
          | none =>
            cases t2 with
            | none => exact wpOp_mono (fun a' w' h => ⟨a', rfl, h⟩) H
            | some b2 => exact wpOp_mono (fun a' w' h => by obtain ⟨a0, rfl, h⟩ := h; exact ⟨a0, rfl, h⟩) (wpOp_more hoj l2 x2 hsj (fun c a w h => (hQ c a _ _ w).2 h) H)
          | some b1 =>
            have H1 := wpOp_more (v := .pointer (some ⟨b1, 0, none⟩)) hoj l1 x1 hsj (fun c a w h => (hQ c a _ _ w).2 h) H
            cases t2 with
            | none => exact wpOp_mono (fun a' w' h => by obtain ⟨a0, rfl, h⟩ := h; exact ⟨a0, rfl, h⟩) H1
            | some b2 => exact wpOp_mono (fun a' w' h => by obtain ⟨a1, rfl, a0, rfl, h⟩ := h; exact ⟨a0, rfl, h⟩) (wpOp_more (v := .pointer (some ⟨b2, 0, none⟩)) hoj l2 x2 hsj (fun c a w h => (hQ c a _ _ w).2 h) H1)
        refine wpOp_mono (fun a' w' h => ?_) H2
        obtain ⟨a0, rfl, hbw, hSw, hrest⟩ := h
        refine ⟨hSw, ?_⟩
        rw [listF_set L _ _ hj1 hj2]
        have hup : ∀ (G : World → Nat → Prop) (b : Nat), (∀ W W' b, G W b → Below W.heap.size W W' → G W' b) → Up G base gs W b → Up G base ((W.heap.size, w'.heap.size) :: gs) w' b := fun G b hs h =>
          ⟨hs _ _ _ h.g hbw, h.lo, Nat.lt_of_lt_of_le h.lt hbw.size, fun g hg => by
            rcases List.mem_cons.1 hg with rfl | hg
            · exact .inl h.lt
            · exact h.gap g hg⟩
        refine ih js _ _ a0 w' w' t1 t2 (by simp only [List.length_cons] at hm; omega) hok' hrest (Below.refl _ _) hSw (Nat.le_trans hbase (Nat.le_trans hb.size hbw.size)) ?_ (fun b e => hup G1 b s1 (h1 b e)) (fun b e => hup G2 b s2 (h2 b e)) hne
        intro g hg
        rcases List.mem_cons.1 hg with rfl | hg
        · exact Nat.le_refl _
        · exact Nat.le_trans (hgs g hg) (Nat.le_trans hb.size hbw.size)
/-- from here on: two blocks of cells come up beside the chain js, whenever -/
theorem wpAnyH_float {k1 k2 : Nat} {d1 d2 : Tmp} {z1 z2 : List Value} {T1 T2 : TypeId} {js : List (Nat × Bool)} {fz : Nat} {L : Array Bool} {a : Act} {w : World}
    (F1 : Flo P ops k1 d1 (.cells z1.toArray T1)) (F2 : Flo P ops k2 d2 (.cells z2.toArray T2)) (hok : floOk md ops k1 k2 d1 d2 js L = true) (hk : k1 ≠ k2) (hd : d1 ≠ d2)
    (hsel : Region.noSelect ops = true) (hQ : ∀ c (a : Act) (d : Tmp) (v : Value) w, Q (.panic c) (a.put (some d) v) w ↔ Q (.panic c) a w) (hS : ∀ W W', S W → Below W.heap.size W W' → S W') (hSw : S w)
    (h : wpFl P md ops Q S k1 k2 d1 d2 (fun W b => Bx W b z1) (fun W b => Bx W b z2) w.heap.size fz js [] L a w) : wpAnyH P md ops Q S (fz + (js.length + 2)) L a w :=
  float_all F1 F2 hk hd hsel hQ hS (fun w => Bx.new w z1 T1) (fun w => Bx.new w z2 T2) (fun W W' b h hb => h.below hb) (fun W W' b h hb => h.below hb) _ js [] L a w w none none (by simp) hok h (Below.refl _ _) hSw (Nat.le_refl _) (by simp) (by simp) (by simp) (by simp)
theorem wpAnyH_floatN {n k1 k2 : Nat} {d1 d2 : Tmp} {z1 z2 : List Value} {T1 T2 : TypeId} {js : List (Nat × Bool)} {fz : Nat} {L : Array Bool} {a : Act} {w : World} (hn : n = fz + (js.length + 2))
    (F1 : Flo P ops k1 d1 (.cells z1.toArray T1)) (F2 : Flo P ops k2 d2 (.cells z2.toArray T2)) (hok : floOk md ops k1 k2 d1 d2 js L = true) (hk : k1 ≠ k2) (hd : d1 ≠ d2)
    (hsel : Region.noSelect ops = true) (hQ : ∀ c (a : Act) (d : Tmp) (v : Value) w, Q (.panic c) (a.put (some d) v) w ↔ Q (.panic c) a w) (hS : ∀ W W', S W → Below W.heap.size W W' → S W') (hSw : S w)
    (h : wpFl P md ops Q S k1 k2 d1 d2 (fun W b => Bx W b z1) (fun W b => Bx W b z2) w.heap.size fz js [] L a w) : wpAnyH P md ops Q S n L a w :=
  hn ▸ wpAnyH_float F1 F2 hok hk hd hsel hQ hS hSw h
/-- one of the chain -/
theorem wpFl_step {k1 k2 : Nat} {d1 d2 : Tmp} {G1 G2 : World → Nat → Prop} {base fz j : Nat} {js : List (Nat × Bool)} {gs : List (Nat × Nat)} {L : Array Bool} {a : Act} {w : World} {o : Oper} (ho : ops[j]? = some o)
    (h : ∀ W, Below w.heap.size w W → S W → ∀ K' : Act → World → Prop, Shut (∀ a w', Below W.heap.size W w' → S w' → wpFl P md ops Q S k1 k2 d1 d2 G1 G2 base fz js ((W.heap.size, w'.heap.size) :: gs) (L.setIfInBounds j true) a w' → K' a w') →
      if Region.wanted o (yielded ops a.tmps) = true then Oper.wp P o a W K' Q else K' (a.put o.dst undef) W) :
    wpFl P md ops Q S k1 k2 d1 d2 G1 G2 base fz ((j, false) :: js) gs L a w := fun W hb hSW => wpOp_step ho (fun K' hK => h W hb hSW K' (fun a w' h1 h2 h3 => hK a w' ⟨h1, h2, h3⟩))
/-- a pure one is taken -/
theorem wpFl_take {k1 k2 : Nat} {d1 d2 : Tmp} {G1 G2 : World → Nat → Prop} {base fz i : Nat} {js : List (Nat × Bool)} {gs : List (Nat × Nat)} {L : Array Bool} {a : Act} {w : World} {oi : Oper} {v : Value} (ho : ops[i]? = some oi) (hy : YieldsIf P ops S oi v a)
    (h : wpFl P md ops Q S k1 k2 d1 d2 G1 G2 base fz js gs (L.setIfInBounds i true) (a.put oi.dst v) w) : wpFl P md ops Q S k1 k2 d1 d2 G1 G2 base fz ((i, true) :: js) gs L a w := ⟨oi, v, ho, hy, h⟩
theorem wpFl_end {k1 k2 : Nat} {d1 d2 : Tmp} {G1 G2 : World → Nat → Prop} {base fz : Nat} {gs : List (Nat × Nat)} {L : Array Bool} {a : Act} {w : World}
    (h : ∀ (W : World) (b1 b2 : Nat), Below w.heap.size w W → S W → G1 W b1 → G2 W b2 → b1 ≠ b2 → base ≤ b1 → base ≤ b2 → (∀ g ∈ gs, (b1 < g.1 ∨ g.2 ≤ b1) ∧ (b2 < g.1 ∨ g.2 ≤ b2)) →
      wpAnyH P md ops Q S fz ((L.setIfInBounds k1 true).setIfInBounds k2 true) ((a.put (some d1) (.pointer (some ⟨b1, 0, none⟩))).put (some d2) (.pointer (some ⟨b2, 0, none⟩))) W) :
    wpFl P md ops Q S k1 k2 d1 d2 G1 G2 base fz [] gs L a w := h
end
end Go.Proofs.Ytaihdjdaamglnaa
/- Two blocks beside a chain of calls that draw: as XFloat, but a call may turn one block (the cursor's). -/
namespace Go.Proofs.Ytaihdjdaamglnaa
set_option linter.unusedVariables false
open Go Go.RowKit
section
variable {r : Option Nat} {P : Program} {ops : Array Oper} {Q : Exit → Act → World → Prop} {md : Region.Mode} {S : World → Prop}
/-- the chain alone, in whatever world has grown; behind it the two blocks are handed over -/
def wpFd (P : Program) (r : Option Nat) (md : Region.Mode) (ops : Array Oper) (Q : Exit → Act → World → Prop) (S : World → Prop) (k1 k2 : Nat) (d1 d2 : Tmp) (G1 G2 : World → Nat → Prop) (base fz : Nat) : List (Nat × Bool) → List (Nat × Nat) → Array Bool → Act → World → Prop
  | [], gs, L, a, w => ∀ (W : World) (b1 b2 : Nat), Below w.heap.size w W → S W → G1 W b1 → G2 W b2 → b1 ≠ b2 → base ≤ b1 → base ≤ b2 → (∀ g ∈ gs, (b1 < g.1 ∨ g.2 ≤ b1) ∧ (b2 < g.1 ∨ g.2 ≤ b2)) →
      wpAnyH P md ops Q S fz ((L.setIfInBounds k1 true).setIfInBounds k2 true) ((a.put (some d1) (.pointer (some ⟨b1, 0, none⟩))).put (some d2) (.pointer (some ⟨b2, 0, none⟩))) W
  | (i, true) :: js, gs, L, a, w => ∃ oi v, ops[i]? = some oi ∧ YieldsIf P ops S oi v a ∧ wpFd P r md ops Q S k1 k2 d1 d2 G1 G2 base fz js gs (L.setIfInBounds i true) (a.put oi.dst v) w
  | (j, false) :: js, gs, L, a, w => ∀ W, Below w.heap.size w W → S W → wpOp P ops Q j (fun a' w' => W.grownBy w' r ∧ S w' ∧ wpFd P r md ops Q S k1 k2 d1 d2 G1 G2 base fz js ((W.heap.size, w'.heap.size) :: gs) (L.setIfInBounds j true) a' w') a W
theorem floatD_all {k1 k2 : Nat} {d1 d2 : Tmp} {o1 o2 : Obj} {G1 G2 : World → Nat → Prop} {base fz : Nat} (F1 : Flo P ops k1 d1 o1) (F2 : Flo P ops k2 d2 o2) (hk : k1 ≠ k2) (hd : d1 ≠ d2)
    (hsel : Region.noSelect ops = true) (hQ : ∀ c (a : Act) (d : Tmp) (v : Value) w, Q (.panic c) (a.put (some d) v) w ↔ Q (.panic c) a w) (hS : ∀ W W', S W → Below W.heap.size W W' → S W')
    (n1 : ∀ w : World, G1 (w.alloc o1) w.heap.size) (n2 : ∀ w : World, G2 (w.alloc o2) w.heap.size) (s1 : ∀ W W' b, G1 W b → Below W.heap.size W W' → G1 W' b) (s2 : ∀ W W' b, G2 W b → Below W.heap.size W W' → G2 W' b)
    (g1 : ∀ W W' b, G1 W b → base ≤ b → W.grownBy W' r → G1 W' b) (g2 : ∀ W W' b, G2 W b → base ≤ b → W.grownBy W' r → G2 W' b) :
    ∀ (m : Nat) (js : List (Nat × Bool)) (gs : List (Nat × Nat)) (L : Array Bool) (a : Act) (w W : World) (t1 t2 : Option Nat),
      m = js.length + (if t1.isSome then 0 else 1) + (if t2.isSome then 0 else 1) → floOk md ops k1 k2 d1 d2 js L = true →
      wpFd P r md ops Q S k1 k2 d1 d2 G1 G2 base fz js gs L a w → Below w.heap.size w W → S W → base ≤ w.heap.size → (∀ g ∈ gs, g.2 ≤ w.heap.size) →
      (∀ b, t1 = some b → Up G1 base gs W b) → (∀ b, t2 = some b → Up G2 base gs W b) → (∀ b c, t1 = some b → t2 = some c → b ≠ c) →
      wpAnyH P md ops Q S (fz + m) (listF k1 k2 L t1.isSome t2.isSome) (fillF d1 d2 a t1 t2) W := by
  intro m
  induction m with
  | zero =>
    intro js gs L a w W t1 t2 hm hok hwp hb hSW hbase hgs h1 h2 hne
    cases t1 with
    | none => simp at hm; omega
    | some b1 =>
      cases t2 with
      | none => simp at hm; try omega
      | some b2 =>
        cases js with
        | cons j js => simp at hm
        | nil => exact hwp W b1 b2 hb hSW (h1 b1 rfl).g (h2 b2 rfl).g (hne b1 b2 rfl rfl) (h1 b1 rfl).lo (h2 b2 rfl).lo (fun g hg => ⟨(h1 b1 rfl).gap g hg, (h2 b2 rfl).gap g hg⟩)
  | succ m ih =>
    intro js gs L a w W t1 t2 hm hok hwp hb hSW hbase hgs h1 h2 hne
    have hflo : (t1 = none ∨ t2 = none) → floOk md ops k1 k2 d1 d2 js L = true → ∀ i, (i = k1 ∧ t1.isSome = false) ∨ (i = k2 ∧ t2.isSome = false) →
        wpOp P ops Q i (fun a' w' => S w' ∧ wpAnyH P md ops Q S (fz + m) ((listF k1 k2 L t1.isSome t2.isSome).setIfInBounds i true) a' w') (fillF d1 d2 a t1 t2) W := by
      intro _ hok i hi
      rcases hi with ⟨rfl, hf⟩ | ⟨rfl, hf⟩
      · have ht : t1 = none := by cases t1 <;> simp_all
        subst ht
        refine F1.wpOp ?_
        have hbw : Below W.heap.size W (W.alloc o1) := (Below.refl _ _).alloc (Nat.le_refl _) o1
        refine ⟨hS _ _ hSW hbw, ?_⟩
        have hL : (listF i k2 L (Option.isSome (none : Option Nat)) t2.isSome).setIfInBounds i true = listF i k2 L (Option.isSome (some W.heap.size)) t2.isSome := by
          unfold listF
          cases t2 <;> simp only [Option.isSome, if_true, Bool.false_eq_true, if_false]
          rw [Array.setIfInBounds_comm _ _ (Ne.symm hk)]
        rw [hL]
        have ha : (fillF d1 d2 a none t2).put (some d1) (.pointer (some ⟨W.heap.size, 0, none⟩)) = fillF d1 d2 a (some W.heap.size) t2 := by
          unfold fillF
          cases t2 with
          | none => rfl
          | some b2 => exact Act.put_comm a _ _ (fun d e => by injection e with e; subst e; intro h; injection h with h; exact hd h)
        rw [ha]
        refine ih js gs L a w _ (some W.heap.size) t2 (by simp only [Option.isSome, Bool.false_eq_true, if_false, if_true] at hm ⊢; omega) hok hwp (hb.trans (hbw.mono hb.size)) (hS _ _ hSW hbw) hbase hgs ?_ ?_ ?_
        · intro b e
          injection e with e; subst e
          exact ⟨n1 W, Nat.le_trans hbase hb.size, by simp, fun g hg => .inr (Nat.le_trans (hgs g hg) hb.size)⟩
        · intro b e
          have h := h2 b e
          exact ⟨s2 _ _ _ h.g hbw, h.lo, by have := h.lt; simp; omega, h.gap⟩
        · intro b c e1 e2
          injection e1 with e1; subst e1
          have := (h2 c e2).lt
          omega
      · have ht : t2 = none := by cases t2 <;> simp_all
        subst ht
        refine F2.wpOp ?_
        have hbw : Below W.heap.size W (W.alloc o2) := (Below.refl _ _).alloc (Nat.le_refl _) o2
        refine ⟨hS _ _ hSW hbw, ?_⟩
        have hL : (listF k1 i L t1.isSome (Option.isSome (none : Option Nat))).setIfInBounds i true = listF k1 i L t1.isSome (Option.isSome (some W.heap.size)) := by
          unfold listF
          simp only [Option.isSome, if_true, Bool.false_eq_true, if_false]
        rw [hL]
        have ha : (fillF d1 d2 a t1 none).put (some d2) (.pointer (some ⟨W.heap.size, 0, none⟩)) = fillF d1 d2 a t1 (some W.heap.size) := rfl
        rw [ha]
        refine ih js gs L a w _ t1 (some W.heap.size) (by simp only [Option.isSome, Bool.false_eq_true, if_false, if_true] at hm ⊢; omega) hok hwp (hb.trans (hbw.mono hb.size)) (hS _ _ hSW hbw) hbase hgs ?_ ?_ ?_
        · intro b e
          have h := h1 b e
          exact ⟨s1 _ _ _ h.g hbw, h.lo, by have := h.lt; simp; omega, h.gap⟩
        · intro b e
          injection e with e; subst e
          exact ⟨n2 W, Nat.le_trans hbase hb.size, by simp, fun g hg => .inr (Nat.le_trans (hgs g hg) hb.size)⟩
        · intro b c e1 e2
          injection e2 with e2; subst e2
          have := (h1 b e1).lt
          omega
    cases js with
    | nil =>
      have hat : floAt md ops k1 k2 none L t1.isSome t2.isSome = true := by
        simp only [floOk, Bool.and_eq_true] at hok
        cases t1 <;> cases t2 <;> first | exact hok.1.1 | exact hok.1.2 | exact hok.2 | (simp at hm)
      obtain ⟨hne0, hall⟩ := floAt_spec hat
      refine ⟨fun h0 => absurd h0 hne0, fun i hi => ?_⟩
      rcases hall i hi with hj | hj
      · cases hj
      · refine hflo ?_ hok i hj
        rcases hj with ⟨_, h⟩ | ⟨_, h⟩
        · left; cases t1 <;> simp_all
        · right; cases t2 <;> simp_all
    | cons x js =>
      obtain ⟨j, tk⟩ := x
      cases tk with
      | true =>
        have hok0 := hok
        simp only [floOk, Bool.and_eq_true] at hok
        obtain ⟨⟨⟨⟨⟨q1, q2⟩, q3⟩, q4⟩, hop⟩, hok'⟩ := hok
        have hq : floTake md ops k1 k2 j L t1.isSome t2.isSome = true := by
          cases t1 <;> cases t2
          · exact q1
          · exact q3
          · exact q2
          · exact q4
        obtain ⟨hj1, hj2, oj, hoj, l1, l2, x1, x2⟩ := floOp_spec hop
        obtain ⟨oi, v, hoi, hy, hrest⟩ := hwp
        obtain rfl : oi = oj := by rw [hoi] at hoj; injection hoj
        simp only [floTake, Bool.and_eq_true] at hq
        have hsj : ∀ cs b, oi.op ≠ .select cs b := fun cs b => Region.noSelect_spec hsel j oi cs b hoi
        refine wpAnyH_first hoi (Region.noSelect_spec hsel) (fun c a w h => by cases hdst : oi.dst with | none => rw [hdst] at h; exact h | some d => rw [hdst] at h; exact (hQ c a d v w).1 h) (fz + m) _ _ W (Region.free_spec hoi hq.1) (by simpa using hq.2) (fillF_yields t1 t2 hsj l1 l2 hy) hSW ?_
        rw [listF_set L _ _ hj1 hj2, fillF_put t1 t2 x1 x2]
        exact ih js gs _ _ w W t1 t2 (by simp only [List.length_cons] at hm; omega) hok' hrest hb hSW hbase hgs h1 h2 hne
      | false =>
        have hok0 := hok
        simp only [floOk, Bool.and_eq_true] at hok
        obtain ⟨⟨⟨⟨⟨q1, q2⟩, q3⟩, q4⟩, hop⟩, hok'⟩ := hok
        have hat : floAt md ops k1 k2 (some j) L t1.isSome t2.isSome = true := by
          cases t1 <;> cases t2
          · exact q1
          · exact q3
          · exact q2
          · exact q4
        obtain ⟨hne0, hall⟩ := floAt_spec hat
        refine ⟨fun h0 => absurd h0 hne0, fun i hi => ?_⟩
        rcases hall i hi with hj | hj
        case inr =>
          refine hflo ?_ hok0 i hj
          rcases hj with ⟨_, h⟩ | ⟨_, h⟩
          · left; cases t1 <;> simp_all
          · right; cases t2 <;> simp_all
        obtain rfl : j = i := by simpa using hj
        obtain ⟨hj1, hj2, oj, hoj, l1, l2, x1, x2⟩ := floOp_spec hop
        have hsj : ∀ cs b, oj.op ≠ .select cs b := fun cs b => Region.noSelect_spec hsel j oj cs b hoj
        have H := hwp W hb hSW
        have H2 : wpOp P ops Q j (fun a' w' => ∃ a0 : Act, a' = fillF d1 d2 a0 t1 t2 ∧ W.grownBy w' r ∧ S w' ∧ wpFd P r md ops Q S k1 k2 d1 d2 G1 G2 base fz js ((W.heap.size, w'.heap.size) :: gs) (L.setIfInBounds j true) a0 w') (fillF d1 d2 a t1 t2) W := by
          unfold fillF
          cases t1 with
          | none =>
            cases t2 with
            | none => exact wpOp_mono (fun a' w' h => ⟨a', rfl, h⟩) H
            | some b2 => exact wpOp_mono (fun a' w' h => by obtain ⟨a0, rfl, h⟩ := h; exact ⟨a0, rfl, h⟩) (wpOp_more hoj l2 x2 hsj (fun c a w h => (hQ c a _ _ w).2 h) H)
          | some b1 =>
            have H1 := wpOp_more (v := .pointer (some ⟨b1, 0, none⟩)) hoj l1 x1 hsj (fun c a w h => (hQ c a _ _ w).2 h) H
            cases t2 with
            | none => exact wpOp_mono (fun a' w' h => by obtain ⟨a0, rfl, h⟩ := h; exact ⟨a0, rfl, h⟩) H1
            | some b2 => exact wpOp_mono (fun a' w' h => by obtain ⟨a1, rfl, a0, rfl, h⟩ := h; exact ⟨a0, rfl, h⟩) (wpOp_more (v := .pointer (some ⟨b2, 0, none⟩)) hoj l2 x2 hsj (fun c a w h => (hQ c a _ _ w).2 h) H1)
        refine wpOp_mono (fun a' w' h => ?_) H2
        obtain ⟨a0, rfl, hbw, hSw, hrest⟩ := h
        refine ⟨hSw, ?_⟩
        rw [listF_set L _ _ hj1 hj2]
        have hup : ∀ (G : World → Nat → Prop) (b : Nat), (∀ W W' b, G W b → base ≤ b → W.grownBy W' r → G W' b) → Up G base gs W b → Up G base ((W.heap.size, w'.heap.size) :: gs) w' b := fun G b hs h =>
          ⟨hs _ _ _ h.g h.lo hbw, h.lo, Nat.lt_of_lt_of_le h.lt hbw.size, fun g hg => by
            rcases List.mem_cons.1 hg with rfl | hg
            · exact .inl h.lt
            · exact h.gap g hg⟩
        refine ih js _ _ a0 w' w' t1 t2 (by simp only [List.length_cons] at hm; omega) hok' hrest (Below.refl _ _) hSw (Nat.le_trans hbase (Nat.le_trans hb.size hbw.size)) ?_ (fun b e => hup G1 b g1 (h1 b e)) (fun b e => hup G2 b g2 (h2 b e)) hne
        intro g hg
        rcases List.mem_cons.1 hg with rfl | hg
        · exact Nat.le_refl _
        · exact Nat.le_trans (hgs g hg) (Nat.le_trans hb.size hbw.size)
/-- from here on: two blocks of cells come up beside the chain js, whenever -/
theorem wpAnyH_float0D {k1 k2 : Nat} {d1 d2 : Tmp} {z1 z2 : List Value} {T1 T2 : TypeId} {js : List (Nat × Bool)} {fz : Nat} {L : Array Bool} {a : Act} {w : World} (hr : ∀ g, r = some g → g < w.heap.size)
    (F1 : Flo P ops k1 d1 (.cells z1.toArray T1)) (F2 : Flo P ops k2 d2 (.cells z2.toArray T2)) (hok : floOk md ops k1 k2 d1 d2 js L = true) (hk : k1 ≠ k2) (hd : d1 ≠ d2)
    (hsel : Region.noSelect ops = true) (hQ : ∀ c (a : Act) (d : Tmp) (v : Value) w, Q (.panic c) (a.put (some d) v) w ↔ Q (.panic c) a w) (hS : ∀ W W', S W → Below W.heap.size W W' → S W') (hSw : S w)
    (h : wpFd P r md ops Q S k1 k2 d1 d2 (fun W b => Bx W b z1) (fun W b => Bx W b z2) w.heap.size fz js [] L a w) : wpAnyH P md ops Q S (fz + (js.length + 2)) L a w :=
  floatD_all (r := r) (G1 := fun W b => Bx W b z1) (G2 := fun W b => Bx W b z2) (base := w.heap.size) F1 F2 hk hd hsel hQ hS (fun w => Bx.new w z1 T1) (fun w => Bx.new w z2 T2) (fun W W' b h hb => h.below hb) (fun W W' b h hb => h.below hb) (fun W W' b1 h hlo hg => bx_own h hg (fun (e : r = some b1) => by have := hr b1 e; omega)) (fun W W' b1 h hlo hg => bx_own h hg (fun (e : r = some b1) => by have := hr b1 e; omega)) _ js [] L a w w none none (by simp) hok h (Below.refl _ _) hSw (Nat.le_refl _) (by simp) (by simp) (by simp) (by simp)
theorem wpAnyH_floatD {n k1 k2 : Nat} {d1 d2 : Tmp} {z1 z2 : List Value} {T1 T2 : TypeId} {js : List (Nat × Bool)} {fz : Nat} {L : Array Bool} {a : Act} {w : World} (hn : n = fz + (js.length + 2)) (hr : ∀ g, r = some g → g < w.heap.size)
    (F1 : Flo P ops k1 d1 (.cells z1.toArray T1)) (F2 : Flo P ops k2 d2 (.cells z2.toArray T2)) (hok : floOk md ops k1 k2 d1 d2 js L = true) (hk : k1 ≠ k2) (hd : d1 ≠ d2)
    (hsel : Region.noSelect ops = true) (hQ : ∀ c (a : Act) (d : Tmp) (v : Value) w, Q (.panic c) (a.put (some d) v) w ↔ Q (.panic c) a w) (hS : ∀ W W', S W → Below W.heap.size W W' → S W') (hSw : S w)
    (h : wpFd P r md ops Q S k1 k2 d1 d2 (fun W b => Bx W b z1) (fun W b => Bx W b z2) w.heap.size fz js [] L a w) : wpAnyH P md ops Q S n L a w :=
  hn ▸ wpAnyH_float0D hr F1 F2 hok hk hd hsel hQ hS hSw h
/-- one of the chain -/
theorem wpFd_step {k1 k2 : Nat} {d1 d2 : Tmp} {G1 G2 : World → Nat → Prop} {base fz j : Nat} {js : List (Nat × Bool)} {gs : List (Nat × Nat)} {L : Array Bool} {a : Act} {w : World} {o : Oper} (ho : ops[j]? = some o)
    (h : ∀ W, Below w.heap.size w W → S W → ∀ K' : Act → World → Prop, Shut (∀ a w', W.grownBy w' r → S w' → wpFd P r md ops Q S k1 k2 d1 d2 G1 G2 base fz js ((W.heap.size, w'.heap.size) :: gs) (L.setIfInBounds j true) a w' → K' a w') →
      if Region.wanted o (yielded ops a.tmps) = true then Oper.wp P o a W K' Q else K' (a.put o.dst undef) W) :
    wpFd P r md ops Q S k1 k2 d1 d2 G1 G2 base fz ((j, false) :: js) gs L a w := fun W hb hSW => wpOp_step ho (fun K' hK => h W hb hSW K' (fun a w' h1 h2 h3 => hK a w' ⟨h1, h2, h3⟩))
/-- a pure one is taken -/
theorem wpFd_take {k1 k2 : Nat} {d1 d2 : Tmp} {G1 G2 : World → Nat → Prop} {base fz i : Nat} {js : List (Nat × Bool)} {gs : List (Nat × Nat)} {L : Array Bool} {a : Act} {w : World} {oi : Oper} {v : Value} (ho : ops[i]? = some oi) (hy : YieldsIf P ops S oi v a)
    (h : wpFd P r md ops Q S k1 k2 d1 d2 G1 G2 base fz js gs (L.setIfInBounds i true) (a.put oi.dst v) w) : wpFd P r md ops Q S k1 k2 d1 d2 G1 G2 base fz ((i, true) :: js) gs L a w := ⟨oi, v, ho, hy, h⟩
theorem wpFd_end {k1 k2 : Nat} {d1 d2 : Tmp} {G1 G2 : World → Nat → Prop} {base fz : Nat} {gs : List (Nat × Nat)} {L : Array Bool} {a : Act} {w : World}
    (h : ∀ (W : World) (b1 b2 : Nat), Below w.heap.size w W → S W → G1 W b1 → G2 W b2 → b1 ≠ b2 → base ≤ b1 → base ≤ b2 → (∀ g ∈ gs, (b1 < g.1 ∨ g.2 ≤ b1) ∧ (b2 < g.1 ∨ g.2 ≤ b2)) →
      wpAnyH P md ops Q S fz ((L.setIfInBounds k1 true).setIfInBounds k2 true) ((a.put (some d1) (.pointer (some ⟨b1, 0, none⟩))).put (some d2) (.pointer (some ⟨b2, 0, none⟩))) W) :
    wpFd P r md ops Q S k1 k2 d1 d2 G1 G2 base fz [] gs L a w := h
end
end Go.Proofs.Ytaihdjdaamglnaa
/- A region that draws its order, in which a condition on the world holds behind every operation but one, and that one waits for all that lean on it. -/
namespace Go.Proofs.Ytaihdjdaamglnaa
open Go
section
variable {P : Program} {ops : Array Oper} {Q : Exit → Act → World → Prop} {md : Region.Mode} {S : World → Prop} {t : Nat}
/-- what has come up has come up behind all that it waits for -/
def ClosedL (md : Region.Mode) (ops : Array Oper) (listed : Array Bool) : Prop :=
  ∀ k o, ops[k]? = some o → k < ops.size → listed.getD k false = true → ∀ e ∈ o.after, Region.binds md e = true → listed.getD e.on false = true
def closedB (md : Region.Mode) (ops : Array Oper) (listed : Array Bool) : Bool :=
  (List.range ops.size).all fun k => !listed.getD k false || match ops[k]? with
    | some o => o.after.all fun e => !Region.binds md e || listed.getD e.on false
    | none => true
/-- t waits for i, by however many steps -/
def reachB (md : Region.Mode) (ops : Array Oper) (i : Nat) : Nat → Nat → Bool
  | 0, _ => false
  | n + 1, t => match ops[t]? with
    | some o => o.after.any fun e => Region.binds md e && (e.on == i || reachB md ops i n e.on)
    | none => false
theorem closed_of {listed : Array Bool} (h : closedB md ops listed = true) : ClosedL md ops listed := by
  intro k o hk hlt hl e he hb
  have h1 := List.all_eq_true.1 h k (List.mem_range.2 hlt)
  simp only [hl, hk, Bool.not_true, Bool.false_or] at h1
  have h2 := Array.all_eq_true_iff_forall_mem.1 h1 e he
  simpa [hb] using h2
theorem closed_set {listed : Array Bool} {j : Nat} (hc : ClosedL md ops listed) (hj : j ∈ Region.ready md ops listed) : ClosedL md ops (listed.setIfInBounds j true) := by
  intro k o hk hlt hl e he hb
  obtain ⟨_, oj, hoj, hall⟩ := mem_ready.1 hj
  by_cases hjk : j = k
  · subst hjk
    rw [hoj] at hk; injection hk with hk; subst hk
    exact getD_set_true (hall e he hb)
  · rw [getD_set_ne false hjk] at hl
    exact getD_set_true (hc k o hk hlt hl e he hb)
theorem reach_listed {listed : Array Bool} (hc : ClosedL md ops listed) (i : Nat) : ∀ n s, reachB md ops i n s = true →
    (∀ o, ops[s]? = some o → ∀ e ∈ o.after, Region.binds md e = true → listed.getD e.on false = true) → listed.getD i false = true := by
  intro n
  induction n with
  | zero => intro s h; cases h
  | succ n ih =>
    intro s h hall
    unfold reachB at h
    split at h
    case h_2 => cases h
    rename_i o ho
    obtain ⟨e, he, h1⟩ := Array.any_eq_true'.1 h
    rw [Bool.and_eq_true, Bool.or_eq_true, beq_iff_eq] at h1
    have h2 := hall o ho e he h1.1
    rcases h1.2 with h3 | h3
    · rw [← h3]; exact h2
    · refine ih e.on h3 fun o' ho' => ?_
      exact hc e.on o' ho' (Array.getElem?_eq_some_iff.1 ho').1 h2
/-- whatever order is picked from here on; S holds behind every operation but t -/
def wpAnyT (P : Program) (md : Region.Mode) (ops : Array Oper) (Q : Exit → Act → World → Prop) (S : World → Prop) (t : Nat) : Nat → Array Bool → Act → World → Prop
  | 0, listed, a, w => Region.ready md ops listed = [] ∧ Q .normal a w
  | fuel + 1, listed, a, w =>
    (Region.ready md ops listed = [] → Q .normal a w) ∧
    ∀ i ∈ Region.ready md ops listed, wpOp P ops Q i (fun a' w' => (i ≠ t → S w') ∧ wpAnyT P md ops Q S t fuel (listed.setIfInBounds i true) a' w') a w
theorem any_of_T : ∀ (fuel : Nat) (listed : Array Bool) (a : Act) (w : World), wpAnyT P md ops Q S t fuel listed a w → wpAny P md ops Q fuel listed a w
  | 0, _, _, _, h => h
  | fuel + 1, _, _, _, h => ⟨h.1, fun i hi => wpOp_mono (fun a' w' h' => any_of_T fuel _ a' w' h'.2) (h.2 i hi)⟩
theorem anyT_first {i n : Nat} {oi : Oper} {v : Value} (hi : ops[i]? = some oi) (hsel : ∀ (j : Nat) (o : Oper) cs b, ops[j]? = some o → o.op ≠ .select cs b)
    (hQ : ∀ c a w, Q (.panic c) (a.put oi.dst v) w → Q (.panic c) a w) (hre : reachB md ops i n t = true) :
    ∀ (fuel : Nat) (listed : Array Bool) (a : Act) (w : World), ClosedL md ops listed →
      (∀ j oj, ops[j]? = some oj → j ≠ i → listed.getD j true = false → (∀ e ∈ oj.after, Region.binds md e = true → e.on ≠ i) → oi.apart ops oj = true) →
      i ∈ Region.ready md ops listed → YieldsIf P ops S oi v a → S w →
      wpAnyT P md ops Q S t fuel (listed.setIfInBounds i true) (a.put oi.dst v) w → wpAnyT P md ops Q S t (fuel + 1) listed a w := by
  intro fuel
  have unl : ∀ listed : Array Bool, i ∈ Region.ready md ops listed → listed.getD i false = false := fun listed hr => by
    have h0 := (mem_ready.1 hr).1
    rcases Nat.lt_or_ge i listed.size with h' | h'
    · simp [h'] at h0 ⊢; exact h0
    · simp [Array.getElem?_eq_none h']
  induction fuel with
  | zero =>
    intro listed a w hc _ hr hy hS H
    refine ⟨fun h => (by rw [h] at hr; cases hr), fun j hj => ?_⟩
    by_cases hji : j = i
    · subst hji; exact hy.wpOp hi hS ⟨fun _ => hS, H⟩
    · have := ready_mono hj hji
      rw [H.1] at this; cases this
  | succ fuel ih =>
    intro listed a w hc hfree hr hy hS H
    refine ⟨fun h => (by rw [h] at hr; cases hr), fun j hj => ?_⟩
    by_cases hji : j = i
    · subst hji; exact hy.wpOp hi hS ⟨fun _ => hS, H⟩
    · obtain ⟨hjun, oj, hoj, hall⟩ := mem_ready.1 hj
      have hjt : j ≠ t := fun e => by
        have := reach_listed hc i n t hre (fun o ho e' he' hb' => by rw [← e, hoj] at ho; injection ho with ho; subst ho; exact hall e' he' hb')
        rw [unl listed hr] at this; cases this
      have hnot : ∀ e ∈ oj.after, Region.binds md e = true → e.on ≠ i := fun e he hb heq => by
        have h1 := hall e he hb
        rw [heq, unl listed hr] at h1; cases h1
      have h2 := wpOp_putIf hoj (hfree j oj hoj hji hjun hnot) (fun cs b => hsel i oi cs b hi) (fun cs b => hsel j oj cs b hoj) hQ hy (H.2 j (ready_mono hj hji))
      refine wpOp_mono (fun a' w' h3 => ⟨fun _ => h3.2.1 hjt, ih (listed.setIfInBounds j true) a' w' (closed_set hc hj) ?_ (ready_mono hr (Ne.symm hji)) h3.1 (h3.2.1 hjt) ?_⟩) h2
      · intro k ok hk hki hun hno
        refine hfree k ok hk hki ?_ hno
        by_cases hjk : j = k
        · subst hjk; exact hjun
        · rw [getD_set_ne true hjk] at hun; exact hun
      · rw [Array.setIfInBounds_comm _ _ hji]; exact h3.2.2
theorem anyT_take {i : Nat} {oi : Oper} {v : Value} {fuel : Nat} {listed : Array Bool} {a : Act} {w : World} (hi : ops[i]? = some oi)
    (hs : Region.noSelect ops = true) (hf : Region.free md ops listed i = true) (hr : (Region.ready md ops listed).contains i = true) (hre : reachB md ops i ops.size t = true) (hc : closedB md ops listed = true)
    (hQ : ∀ c a w, Q (.panic c) (a.put oi.dst v) w → Q (.panic c) a w) (hy : YieldsIf P ops S oi v a) (hS : S w)
    (h : wpAnyT P md ops Q S t fuel (listed.setIfInBounds i true) (a.put oi.dst v) w) : wpAnyT P md ops Q S t (fuel + 1) listed a w :=
  anyT_first hi (Region.noSelect_spec hs) hQ hre fuel listed a w (closed_of hc) (Region.free_spec hi hf) (by simpa using hr) hy hS h
/-- the only one that may come up comes up: behind it S is to be shown anew -/
theorem anyT_only {i : Nat} {o : Oper} {fuel : Nat} {listed : Array Bool} {a : Act} {w : World} (hr : Region.ready md ops listed = [i]) (ho : ops[i]? = some o)
    (h : ∀ K' : Act → World → Prop, Shut (∀ a w, S w → (S w → wpAnyT P md ops Q S t fuel (listed.setIfInBounds i true) a w) → K' a w) → if Region.wanted o (yielded ops a.tmps) = true then Oper.wp P o a w K' Q else K' (a.put o.dst undef) w) :
    wpAnyT P md ops Q S t (fuel + 1) listed a w := by
  refine ⟨fun h0 => (by rw [h0] at hr; cases hr), fun j hj => ?_⟩
  rw [hr] at hj
  obtain rfl : j = i := by simpa using hj
  exact wpOp_step ho (fun K' hK => h K' (fun a w hS hW => hK a w ⟨fun _ => hS, hW hS⟩))
/-- t comes up, the last but for nothing -/
theorem anyT_tail {o : Oper} {fuel : Nat} {listed : Array Bool} {a : Act} {w : World} (hr : Region.ready md ops listed = [t]) (ho : ops[t]? = some o)
    (h : ∀ K' : Act → World → Prop, Shut (∀ a w, wpAnyT P md ops Q S t fuel (listed.setIfInBounds t true) a w → K' a w) → if Region.wanted o (yielded ops a.tmps) = true then Oper.wp P o a w K' Q else K' (a.put o.dst undef) w) :
    wpAnyT P md ops Q S t (fuel + 1) listed a w := by
  refine ⟨fun h0 => (by rw [h0] at hr; cases hr), fun j hj => ?_⟩
  rw [hr] at hj
  obtain rfl : j = t := by simpa using hj
  exact wpOp_step ho (fun K' hK => h K' (fun a w hW => hK a w ⟨fun h => absurd rfl h, hW⟩))
theorem anyT_done {listed : Array Bool} {a : Act} {w : World} (hr : Region.ready md ops listed = []) (h : Q .normal a w) : ∀ fuel, wpAnyT P md ops Q S t fuel listed a w
  | 0 => ⟨hr, h⟩
  | _ + 1 => ⟨fun _ => h, by rw [hr]; simp⟩
theorem region_T {id : Nat} {a : Act} {w : World} (hm : P.follows .mixedOrders = true) (hS : S w.drew)
    (h : S w.drew → wpAnyT P .any ops Q S t ops.size (Array.replicate ops.size false) a w.drew) : (Code.region id ops true).wp P Q a w :=
  wp_region_any hm (any_of_T _ _ _ _ (h hS))
end
end Go.Proofs.Ytaihdjdaamglnaa
/- A row of cells is not a box of another kind. -/
namespace Go.Proofs.Ytaihdjdaamglnaa
set_option linter.unusedVariables false
open Go.RowKit
theorem past_cellN {b : Nat} (W : World) (o : Obj) (k : Nat) (h : b < W.heap.size) : (W.alloc o).cell? ⟨b, k, none⟩ = W.cell? ⟨b, k, none⟩ := ((Below.refl W.heap.size W).alloc (Nat.le_refl _) o).cell (p := ⟨b, k, none⟩) h
theorem row_not_bool {w : World} {N b : Nat} {v : Value} {l : List CellD} {x : Bool} (h : OwnsF cCell 134 2 w N v l) (hl : 0 < l.length) (hb : w.cell? ⟨b, 1, none⟩ = some (.bool x)) : v.ownBlock ≠ some b := by
  rcases h.2 with ⟨rfl, _⟩ | ⟨g, cap, cur, rfl, _⟩
  · simp [Value.ownBlock]
  · intro e
    simp [Value.ownBlock] at e
    subst e
    have h1 := World.ownsRow.cellAt h 1 (by omega)
    rw [hb] at h1
    cases l with
    | nil => simp at hl
    | cons d r => simp [cCell] at h1
theorem row_not_int {w : World} {N b : Nat} {v : Value} {l : List CellD} {x : Int} (h : OwnsF cCell 134 2 w N v l) (hl : 0 < l.length) (hb : w.cell? ⟨b, 0, none⟩ = some (.int .i64 x)) : v.ownBlock ≠ some b := by
  rcases h.2 with ⟨rfl, _⟩ | ⟨g, cap, cur, rfl, _⟩
  · simp [Value.ownBlock]
  · intro e
    simp [Value.ownBlock] at e
    subst e
    have h1 := World.ownsRow.cellAt h 0 (by omega)
    rw [hb] at h1
    cases l with
    | nil => simp at hl
    | cons d r => simp [cCell] at h1
end Go.Proofs.Ytaihdjdaamglnaa
/- The draws of chapter 3: cores. Written by gen/ch3dr.py. -/
namespace Go.Proofs.Ytaihdjdaamglnaa
set_option linter.unusedVariables false
set_option linter.unusedSimpArgs false
open Go.RowKit
theorem ownsF_nilC {α : Type} (f : α → List Value) (E k : Nat) (w : World) (B : Nat) : OwnsF f E k w B (.slice none 0 0) [] := ⟨by simp, Or.inl ⟨rfl, rfl⟩⟩
theorem bx_grownC {w w' : World} {c b : Nat} {cs : List Value} (h : Bx w c cs) (hg : w.grownBy w' (some b)) (hne : c ≠ b) : Bx w' c cs :=
  ⟨Nat.lt_of_lt_of_le h.lt hg.size, fun j hj => (World.cell?_of_block (a := ⟨c, j, none⟩) (hg.block c h.lt (fun e => hne (by injection e)))).trans (h.cell j hj), fun j hj => (World.frozen?_of_block (a := ⟨c, j, none⟩) (hg.block c h.lt (fun e => hne (by injection e)))).trans (h.froz j hj)⟩
theorem grown_setO {a w : World} {b c : Nat} (h : a.grownBy w (some b)) (hc : a.heap.size ≤ c) (o : Nat) (u : Value) : a.grownBy (w.setCell ⟨c, o, none⟩ u) (some b) :=
  ⟨h.os, h.tape, h.output, by simpa [World.setCell] using h.size, fun j hj hne => (Below.heap_setCell w ⟨c, o, none⟩ u j (fun e => by have e2 : j = c := e; omega)).trans (h.block j hj hne)⟩
theorem cur_setO {w : World} {b c : Nat} {v : Value} {l : List UInt8} (hC : Cur w b v l) (hb : b < c) (o : Nat) (u : Value) : Cur (w.setCell ⟨c, o, none⟩ u) b v l := hC.far (grown_set (grown_refl w (some c)) o u) hb
def okDr (n : Nat) (d : CoreD) : Prop := d.fKind.length ≤ 9 ∧ d.fCells.length ≤ n ∧ (∀ c ∈ d.fCells, c.fKey.length ≤ 9 ∧ I64 c.fValue) ∧ I64 d.fCount
def DrawnCore (n : Nat) (b : Nat) (v : Value) (l : List UInt8) (w : World) (e : Ending) (w' : World) : Prop := ∃ d cv, e = .returned (vCore d cv) ∧ OwnsF cCell 134 2 w' w.heap.size cv d.fCells ∧ okDr n d ∧ w.grownBy w' (some b) ∧ Cur w' b v l
abbrev zCoreV : List Value := [.string ⟨#[]⟩, .bool false, .bool false, .slice none 0 0, .int .i64 0]
abbrev cCoreV (d : CoreD) (cv : Value) : List Value := [.string ⟨d.fKind.toArray⟩, .bool d.fOn, .bool d.fBroken, cv, .int .i64 d.fCount]
/-- a core that is being drawn: its variable in block B, the result's in block R -/
structure DSt (w : World) (b : Nat) (v : Value) (l : List UInt8) (R B : Nat) (d : CoreD) (cv : Value) (wx : World) : Prop where
  grown : w.grownBy wx (some b)
  cur : Cur wx b v l
  res : Bx wx R zCoreV
  box : Bx wx B (cCoreV d cv)
  own : OwnsF cCell 134 2 wx w.heap.size cv d.fCells
  bw : b < w.heap.size
  wR : w.heap.size ≤ R
  RB : R < B
  nB : cv.ownBlock ≠ some B
  nR : cv.ownBlock ≠ some R
theorem DSt.draw {w : World} {b : Nat} {v : Value} {l : List UInt8} {R B : Nat} {d : CoreD} {cv : Value} {wx w' : World} (h : DSt w b v l R B d cv wx) (hg : wx.grownBy w' (some b)) (hC : Cur w' b v l) : DSt w b v l R B d cv w' :=
  ⟨grown_trans h.grown hg, hC, bx_grownC h.res hg (by have := h.bw; have := h.wR; omega), bx_grownC h.box hg (by have := h.bw; have := h.wR; have := h.RB; omega), ownsF_grownC h.own hg h.bw, h.bw, h.wR, h.RB, h.nB, h.nR⟩
theorem DSt.below {w : World} {b : Nat} {v : Value} {l : List UInt8} {R B : Nat} {d : CoreD} {cv : Value} {wx w' : World} (h : DSt w b v l R B d cv wx) (hb : Below wx.heap.size wx w') : DSt w b v l R B d cv w' :=
  ⟨grown_below h.grown hb h.grown.size, h.cur.below hb h.cur.lt, h.res.below hb, h.box.below hb, ownsF_below h.own hb (Nat.le_refl _), h.bw, h.wR, h.RB, h.nB, h.nR⟩
theorem DSt.drew {w : World} {b : Nat} {v : Value} {l : List UInt8} {R B : Nat} {d : CoreD} {cv : Value} {wx : World} (h : DSt w b v l R B d cv wx) : DSt w b v l R B d cv wx.drew := h.below ((Below.refl _ _).drew)
/-- a cell of the variable is stored, not the row of cells -/
theorem DSt.set {w : World} {b : Nat} {v : Value} {l : List UInt8} {R B : Nat} {d d' : CoreD} {cv : Value} {wx : World} (h : DSt w b v l R B d cv wx) (j : Nat) (hj : j < 5) (u : Value) (hd : (cCoreV d cv).set j u = cCoreV d' cv) (hc : d'.fCells = d.fCells) : DSt w b v l R B d' cv (wx.setCell ⟨B, j, none⟩ u) :=
  ⟨grown_setO h.grown (by have := h.wR; have := h.RB; omega) j u, cur_setO h.cur (by have := h.bw; have := h.wR; have := h.RB; omega) j u, h.res.other (by have := h.RB; omega) j u, by rw [← hd]; exact h.box.set j hj u, by
    rw [hc]; exact World.ownsRow.kept h.own (row := some B) ⟨rfl, rfl, rfl, by simp, fun i hi hne => Below.heap_setCell wx ⟨B, j, none⟩ u i (fun e => hne (by rw [e]))⟩ (Or.inr h.nB), h.bw, h.wR, h.RB, h.nB, h.nR⟩
/-- the row of cells is stored -/
theorem DSt.setC {w : World} {b : Nat} {v : Value} {l : List UInt8} {R B : Nat} {d : CoreD} {cv : Value} {wx : World} (h : DSt w b v l R B d cv wx) (u : Value) (y : List CellD) (ho : OwnsF cCell 134 2 wx w.heap.size u y) (n1 : u.ownBlock ≠ some B) (n2 : u.ownBlock ≠ some R) : DSt w b v l R B { d with fCells := y } u (wx.setCell ⟨B, 3, none⟩ u) :=
  ⟨grown_setO h.grown (by have := h.wR; have := h.RB; omega) 3 u, cur_setO h.cur (by have := h.bw; have := h.wR; have := h.RB; omega) 3 u, h.res.other (by have := h.RB; omega) 3 u, h.box.set 3 (by simp) u,
    World.ownsRow.kept ho (row := some B) ⟨rfl, rfl, rfl, by simp, fun i hi hne => Below.heap_setCell wx ⟨B, 3, none⟩ u i (fun e => hne (by rw [e]))⟩ (Or.inr n1), h.bw, h.wR, h.RB, n1, n2⟩
theorem DSt.fin {w : World} {b : Nat} {v : Value} {l : List UInt8} {R B : Nat} {d : CoreD} {cv : Value} {wx : World} {n : Nat} (h : DSt w b v l R B d cv wx) (hk : okDr n d) (u0 u1 u2 u3 u4 : Value) :
    DrawnCore n b v l w (.returned (vCore d cv)) (((((wx.setCell ⟨R, 0, none⟩ u0).setCell ⟨R, 1, none⟩ u1).setCell ⟨R, 2, none⟩ u2).setCell ⟨R, 3, none⟩ u3).setCell ⟨R, 4, none⟩ u4) := by
  have hb : b < R := Nat.lt_of_lt_of_le h.bw h.wR
  have hs : ∀ {W : World} (o : Nat) (u : Value), OwnsF cCell 134 2 W w.heap.size cv d.fCells → OwnsF cCell 134 2 (W.setCell ⟨R, o, none⟩ u) w.heap.size cv d.fCells := fun o u ho =>
    World.ownsRow.kept ho (row := some R) ⟨rfl, rfl, rfl, by simp, fun i hi hne => Below.heap_setCell _ ⟨R, o, none⟩ u i (fun e => hne (by rw [e]))⟩ (Or.inr h.nR)
  exact ⟨d, cv, rfl, hs 4 u4 (hs 3 u3 (hs 2 u2 (hs 1 u1 (hs 0 u0 h.own)))), hk, grown_setO (grown_setO (grown_setO (grown_setO (grown_setO h.grown h.wR 0 u0) h.wR 1 u1) h.wR 2 u2) h.wR 3 u3) h.wR 4 u4, cur_setO (cur_setO (cur_setO (cur_setO (cur_setO h.cur hb 0 u0) hb 1 u1) hb 2 u2) hb 3 u3) hb 4 u4⟩
theorem DSt.setC2 {w : World} {b : Nat} {v : Value} {l : List UInt8} {R B : Nat} {d : CoreD} {cv : Value} {w0 wx : World} (h : DSt w b v l R B d cv w0) (hg : w.grownBy wx (some b)) (hC : Cur wx b v l) (hr : Bx wx R zCoreV) (hb : Bx wx B (cCoreV d cv)) (u : Value) (y : List CellD) (ho : OwnsF cCell 134 2 wx w.heap.size u y) (n1 : u.ownBlock ≠ some B) (n2 : u.ownBlock ≠ some R) : DSt w b v l R B { d with fCells := y } u (wx.setCell ⟨B, 3, none⟩ u) :=
  ⟨grown_setO hg (by have := h.wR; have := h.RB; omega) 3 u, cur_setO hC (by have := h.bw; have := h.wR; have := h.RB; omega) 3 u, hr.other (by have := h.RB; omega) 3 u, hb.set 3 (by simp) u,
    World.ownsRow.kept ho (row := some B) ⟨rfl, rfl, rfl, by simp, fun i hi hne => Below.heap_setCell wx ⟨B, 3, none⟩ u i (fun e => hne (by rw [e]))⟩ (Or.inr n1), h.bw, h.wR, h.RB, n1, n2⟩
/-- what an append to the row of one's own leaves of the rest -/
theorem DSt.app {w : World} {b : Nat} {v : Value} {l : List UInt8} {R B : Nat} {d : CoreD} {cv : Value} {wx w' : World} (h : DSt w b v l R B d cv wx) (hg : wx.grownBy w' cv.ownBlock) :
    w.grownBy w' (some b) ∧ Cur w' b v l ∧ Bx w' R zCoreV ∧ Bx w' B (cCoreV d cv) := by
  have hge : ∀ g, cv.ownBlock = some g → w.heap.size ≤ g := fun g e => (World.ownsRow.lt h.own g e).1
  have hsz := h.grown.size
  refine ⟨⟨hg.os.trans h.grown.os, hg.tape.trans h.grown.tape, hg.output.trans h.grown.output, Nat.le_trans h.grown.size hg.size, fun k hk hne => (hg.block k (by omega) (fun e => by have := hge k e.symm; omega)).trans (h.grown.block k hk hne)⟩, ?_, ?_, ?_⟩
  · cases ho : cv.ownBlock with
    | none => rw [ho] at hg; exact h.cur.below (B := wx.heap.size) ⟨hg.os, hg.tape, hg.output, hg.size, fun k hk => hg.block k hk (by simp)⟩ h.cur.lt
    | some g => rw [ho] at hg; exact h.cur.far hg (by have := hge g ho; have := h.bw; omega)
  · exact ⟨Nat.lt_of_lt_of_le h.res.lt hg.size, fun j hj => (World.cell?_of_block (a := ⟨R, j, none⟩) (hg.block R h.res.lt (fun e => h.nR e.symm))).trans (h.res.cell j hj), fun j hj => (World.frozen?_of_block (a := ⟨R, j, none⟩) (hg.block R h.res.lt (fun e => h.nR e.symm))).trans (h.res.froz j hj)⟩
  · exact ⟨Nat.lt_of_lt_of_le h.box.lt hg.size, fun j hj => (World.cell?_of_block (a := ⟨B, j, none⟩) (hg.block B h.box.lt (fun e => h.nB e.symm))).trans (h.box.cell j hj), fun j hj => (World.frozen?_of_block (a := ⟨B, j, none⟩) (hg.block B h.box.lt (fun e => h.nB e.symm))).trans (h.box.froz j hj)⟩
theorem kfI_face2 (k : List UInt8) : isF (kfI (kindI k)) = true := kfI_face _
set_option maxRecDepth 100000 in
set_option maxHeartbeats 6400000 in
theorem l3Draw_any (b : Nat) (v : Value) (l : List UInt8) (w : World) (hC : Cur w b v l) :
    Calls Try.prog 112 #[.pointer (some ⟨b, 0, none⟩)] w fun e w' => DrawnCore 6 b v l w e w' := by
  have hbl := hC.lt
  have HC0 := Lib.hid (cur_alloc hC (.cells #[.string ⟨#[]⟩, .bool false, .bool false, .slice none 0 0, .int .i64 0] 26))
  have BR0 := Lib.hid (Bx.new w zCoreV 26)
  have HG0 := Lib.hid (grown_alloc (grown_refl w (some b)) (.cells #[.string ⟨#[]⟩, .bool false, .bool false, .slice none 0 0, .int .i64 0] 26))
  clear hC
  go_enter Try.func112, Try.ntmps112
  go_wp2_with fail
  refine (l3Kind_any b v l _ HC0.out).mono ?_
  rintro e w1 ⟨z, rfl, hz, hg, hC⟩
  obtain ⟨⟨kl⟩⟩ := z
  have hkl := Lib.hid (show kl.length ≤ 9 from hz)
  have HG1 := Lib.hid (grown_trans HG0.out hg)
  have HC1 := Lib.hid hC
  have BR1 := Lib.hid (bx_grownC BR0.out hg (by omega))
  clear hg hC hz HG0 HC0 BR0
  have HKF := Lib.hid (fun W => specKind_b kl _ rfl W)
  have hff := Lib.hid (kfI_face2 kl)
  generalize kfI (kindI kl) = f at *
  generalize decide (0 ≤ kindI kl) = q at *
  go_wp2_with fail
  refine (HKF.out _).mono ?_
  rintro e w2 ⟨rfl, hb⟩
  have HG2 := Lib.hid (grown_below HG1.out hb HG1.out.size)
  have HC2 := Lib.hid (HC1.out.below hb HC1.out.lt)
  have BR2 := Lib.hid (BR1.out.below hb)
  clear hb HG1 HC1 BR1 HKF
  cases q
  case false =>
    go_wp2_with fail
    refine (l1Below_any b v l _ _ HC2.out (by omega) (by omega)).mono ?_
    rintro e w3 ⟨cnt, rfl, ⟨c0, c1, c2⟩, hg, hC⟩
    have c3 := c2 (by omega)
    clear c2 c1
    have hRl : w.heap.size < w3.heap.size := Nat.lt_of_lt_of_le BR2.out.lt hg.size
    have S := Lib.hid (show DSt w b v l w.heap.size w3.heap.size ⟨[114, 111, 98, 111, 116], false, false, [], cnt⟩ (.slice none 0 0) (w3.alloc (.cells #[.string ⟨#[114, 111, 98, 111, 116]⟩, .bool false, .bool false, .slice none 0 0, .int .i64 cnt] 26)) from ⟨grown_alloc (grown_trans HG2.out hg) _, cur_alloc hC _, (bx_grownC BR2.out hg (by omega)).alloc _, Bx.new w3 (cCoreV ⟨[114, 111, 98, 111, 116], false, false, [], cnt⟩ (.slice none 0 0)) 26, ownsF_nilC _ _ _ _ _, hbl, Nat.le_refl _, hRl, by simp [Value.ownBlock], by simp [Value.ownBlock]⟩)
    clear hg hC HG2 HC2 BR2
    have HH0 := Lib.hid (fun W => l2Has_0 63 _ rfl rfl W)
    have HH1 := Lib.hid (fun W => l2Has_1 63 _ rfl rfl W)
    generalize hasI 63 0 = h0 at *
    generalize hasI 63 1 = h1 at *
    go_wp2_with fail
    generalize w3.alloc (.cells #[.string ⟨#[114, 111, 98, 111, 116]⟩, .bool false, .bool false, .slice none 0 0, .int .i64 cnt] 26) = w4 at *
    refine (HH0.out _).mono ?_
    rintro e w' ⟨rfl, rfl⟩
    cases h0
    case false =>
      go_wp2_with fail
      refine (HH1.out _).mono ?_
      rintro e w' ⟨rfl, rfl⟩
      cases h1
      case false =>
        go_wp2_with fail
        refine (l1Once_any b v l _ _ S.out.cur (by omega) (by omega)).mono ?_
        rintro e w1 ⟨o, rfl, hg, hC⟩
        have S := Lib.hid (S.out.draw hg hC)
        clear hg hC
        cases o
        case false =>
          have BP := Lib.hid S.out.box
          have BR := Lib.hid S.out.res
          have p0 := BP.out.cell 0 (by simp)
          have p1 := BP.out.cell 1 (by simp)
          have p2 := BP.out.cell 2 (by simp)
          have p3 := BP.out.cell 3 (by simp)
          have p4 := BP.out.cell 4 (by simp)
          simp only [List.getElem_cons_zero, List.getElem_cons_succ] at p0 p1 p2 p3 p4
          have x0 := BP.out.froz 0 (by simp)
          have x1 := BP.out.froz 1 (by simp)
          have x2 := BP.out.froz 2 (by simp)
          have x3 := BP.out.froz 3 (by simp)
          have x4 := BP.out.froz 4 (by simp)
          have r0 := BR.out.cell 0 (by simp)
          have r1 := BR.out.cell 1 (by simp)
          have r2 := BR.out.cell 2 (by simp)
          have r3 := BR.out.cell 3 (by simp)
          have r4 := BR.out.cell 4 (by simp)
          simp only [List.getElem_cons_zero, List.getElem_cons_succ] at r0 r1 r2 r3 r4
          have y0 := BR.out.froz 0 (by simp)
          have y1 := BR.out.froz 1 (by simp)
          have y2 := BR.out.froz 2 (by simp)
          have y3 := BR.out.froz 3 (by simp)
          have y4 := BR.out.froz 4 (by simp)
          have lB := BP.out.lt
          have lR := BR.out.lt
          have hRB := S.out.RB
          go_wp2_with fail
          refine bodyPost_ret (v := .agg #[.string ⟨#[114, 111, 98, 111, 116]⟩, .bool false, .bool false, (.slice none 0 0), .int .i64 cnt]) (by simp [results, Try.results112, go_sem, cell_set_at, cell_set_ne, r0, r1, r2, r3, r4]) rfl ?_
          exact DSt.fin (d := ⟨[114, 111, 98, 111, 116], false, false, [], cnt⟩) S.out ⟨by simp, by simp, by simp, show I64 cnt from ⟨by omega, by omega⟩⟩ _ _ _ _ _
        case true =>
          go_wp2_with fail
          refine (l1Below_any b v l _ _ S.out.cur (by omega) (by omega)).mono ?_
          rintro e w1 ⟨k, rfl, ⟨k0, k1, k2⟩, hg, hC⟩
          have k3 := k2 (by omega)
          have hk9 : IntKind.i64.wrap (999 - k) = 999 - k := by rw [IntKind.wrap_i64]; omega
          have S := Lib.hid (S.out.draw hg hC)
          clear hg hC k1 k2
          have BP := Lib.hid S.out.box
          have BR := Lib.hid S.out.res
          have p0 := BP.out.cell 0 (by simp)
          have p1 := BP.out.cell 1 (by simp)
          have p2 := BP.out.cell 2 (by simp)
          have p3 := BP.out.cell 3 (by simp)
          have p4 := BP.out.cell 4 (by simp)
          simp only [List.getElem_cons_zero, List.getElem_cons_succ] at p0 p1 p2 p3 p4
          have x0 := BP.out.froz 0 (by simp)
          have x1 := BP.out.froz 1 (by simp)
          have x2 := BP.out.froz 2 (by simp)
          have x3 := BP.out.froz 3 (by simp)
          have x4 := BP.out.froz 4 (by simp)
          have r0 := BR.out.cell 0 (by simp)
          have r1 := BR.out.cell 1 (by simp)
          have r2 := BR.out.cell 2 (by simp)
          have r3 := BR.out.cell 3 (by simp)
          have r4 := BR.out.cell 4 (by simp)
          simp only [List.getElem_cons_zero, List.getElem_cons_succ] at r0 r1 r2 r3 r4
          have y0 := BR.out.froz 0 (by simp)
          have y1 := BR.out.froz 1 (by simp)
          have y2 := BR.out.froz 2 (by simp)
          have y3 := BR.out.froz 3 (by simp)
          have y4 := BR.out.froz 4 (by simp)
          have lB := BP.out.lt
          have lR := BR.out.lt
          have hRB := S.out.RB
          have S9 := Lib.hid (DSt.set (d' := ⟨[114, 111, 98, 111, 116], false, false, [], 999 - k⟩) S.out 4 (by decide) (.int .i64 (999 - k)) rfl rfl)
          go_wp2_with fail
          refine bodyPost_ret (v := .agg #[.string ⟨#[114, 111, 98, 111, 116]⟩, .bool false, .bool false, (.slice none 0 0), .int .i64 (999 - k)]) (by simp [results, Try.results112, go_sem, cell_set_at, cell_set_ne, r0, r1, r2, r3, r4]) rfl ?_
          exact DSt.fin (d := ⟨[114, 111, 98, 111, 116], false, false, [], 999 - k⟩) S9.out ⟨by simp, by simp, by simp, show I64 (999 - k) from ⟨by omega, by omega⟩⟩ _ _ _ _ _
      case true =>
        go_wp2_with fail
        have hsz := S.out.box.lt
        have hRB0 := S.out.RB
        refine (l3Cells_any b v l _ S.out.cur).mono ?_
        rintro e w1 ⟨u, y, rfl, ho, hsm, hg, hC⟩
        have HSM := Lib.hid hsm
        obtain ⟨ua, uc, rfl⟩ := slice_of ho
        have n1 : (Value.slice ua y.length uc).ownBlock ≠ some w3.heap.size := fun e => by have := (World.ownsRow.lt ho _ e).1; omega
        have n2 : (Value.slice ua y.length uc).ownBlock ≠ some w.heap.size := fun e => by have := (World.ownsRow.lt ho _ e).1; omega
        have hgs := S.out.grown.size
        have S1 := Lib.hid (S.out.draw hg hC)
        have S := Lib.hid (S1.out.setC _ y (ownsF_base ho hgs) n1 n2)
        have BP1 := Lib.hid S1.out.box
        have p0 := BP1.out.cell 0 (by simp)
        have p1 := BP1.out.cell 1 (by simp)
        have p2 := BP1.out.cell 2 (by simp)
        have p3 := BP1.out.cell 3 (by simp)
        have p4 := BP1.out.cell 4 (by simp)
        simp only [List.getElem_cons_zero, List.getElem_cons_succ] at p0 p1 p2 p3 p4
        have x0 := BP1.out.froz 0 (by simp)
        have x1 := BP1.out.froz 1 (by simp)
        have x2 := BP1.out.froz 2 (by simp)
        have x3 := BP1.out.froz 3 (by simp)
        have x4 := BP1.out.froz 4 (by simp)
        have lB := BP1.out.lt
        clear ho hsm hg hC hsz hRB0 n1 n2 hgs
        go_wp2_with fail
        clear p0 p1 p2 p3 p4 x0 x1 x2 x3 x4 lB BP1 S1
        refine (l1Once_any b v l _ _ S.out.cur (by omega) (by omega)).mono ?_
        rintro e w1 ⟨o, rfl, hg, hC⟩
        have S := Lib.hid (S.out.draw hg hC)
        clear hg hC
        cases o
        case false =>
          have BP := Lib.hid S.out.box
          have BR := Lib.hid S.out.res
          have p0 := BP.out.cell 0 (by simp)
          have p1 := BP.out.cell 1 (by simp)
          have p2 := BP.out.cell 2 (by simp)
          have p3 := BP.out.cell 3 (by simp)
          have p4 := BP.out.cell 4 (by simp)
          simp only [List.getElem_cons_zero, List.getElem_cons_succ] at p0 p1 p2 p3 p4
          have x0 := BP.out.froz 0 (by simp)
          have x1 := BP.out.froz 1 (by simp)
          have x2 := BP.out.froz 2 (by simp)
          have x3 := BP.out.froz 3 (by simp)
          have x4 := BP.out.froz 4 (by simp)
          have r0 := BR.out.cell 0 (by simp)
          have r1 := BR.out.cell 1 (by simp)
          have r2 := BR.out.cell 2 (by simp)
          have r3 := BR.out.cell 3 (by simp)
          have r4 := BR.out.cell 4 (by simp)
          simp only [List.getElem_cons_zero, List.getElem_cons_succ] at r0 r1 r2 r3 r4
          have y0 := BR.out.froz 0 (by simp)
          have y1 := BR.out.froz 1 (by simp)
          have y2 := BR.out.froz 2 (by simp)
          have y3 := BR.out.froz 3 (by simp)
          have y4 := BR.out.froz 4 (by simp)
          have lB := BP.out.lt
          have lR := BR.out.lt
          have hRB := S.out.RB
          go_wp2_with fail
          refine bodyPost_ret (v := .agg #[.string ⟨#[114, 111, 98, 111, 116]⟩, .bool false, .bool false, (.slice ua y.length uc), .int .i64 cnt]) (by simp [results, Try.results112, go_sem, cell_set_at, cell_set_ne, r0, r1, r2, r3, r4]) rfl ?_
          exact DSt.fin (d := ⟨[114, 111, 98, 111, 116], false, false, y, cnt⟩) S.out ⟨by simp, HSM.out.1, HSM.out.2, show I64 cnt from ⟨by omega, by omega⟩⟩ _ _ _ _ _
        case true =>
          go_wp2_with fail
          refine (l1Below_any b v l _ _ S.out.cur (by omega) (by omega)).mono ?_
          rintro e w1 ⟨k, rfl, ⟨k0, k1, k2⟩, hg, hC⟩
          have k3 := k2 (by omega)
          have hk9 : IntKind.i64.wrap (999 - k) = 999 - k := by rw [IntKind.wrap_i64]; omega
          have S := Lib.hid (S.out.draw hg hC)
          clear hg hC k1 k2
          have BP := Lib.hid S.out.box
          have BR := Lib.hid S.out.res
          have p0 := BP.out.cell 0 (by simp)
          have p1 := BP.out.cell 1 (by simp)
          have p2 := BP.out.cell 2 (by simp)
          have p3 := BP.out.cell 3 (by simp)
          have p4 := BP.out.cell 4 (by simp)
          simp only [List.getElem_cons_zero, List.getElem_cons_succ] at p0 p1 p2 p3 p4
          have x0 := BP.out.froz 0 (by simp)
          have x1 := BP.out.froz 1 (by simp)
          have x2 := BP.out.froz 2 (by simp)
          have x3 := BP.out.froz 3 (by simp)
          have x4 := BP.out.froz 4 (by simp)
          have r0 := BR.out.cell 0 (by simp)
          have r1 := BR.out.cell 1 (by simp)
          have r2 := BR.out.cell 2 (by simp)
          have r3 := BR.out.cell 3 (by simp)
          have r4 := BR.out.cell 4 (by simp)
          simp only [List.getElem_cons_zero, List.getElem_cons_succ] at r0 r1 r2 r3 r4
          have y0 := BR.out.froz 0 (by simp)
          have y1 := BR.out.froz 1 (by simp)
          have y2 := BR.out.froz 2 (by simp)
          have y3 := BR.out.froz 3 (by simp)
          have y4 := BR.out.froz 4 (by simp)
          have lB := BP.out.lt
          have lR := BR.out.lt
          have hRB := S.out.RB
          have S9 := Lib.hid (DSt.set (d' := ⟨[114, 111, 98, 111, 116], false, false, y, 999 - k⟩) S.out 4 (by decide) (.int .i64 (999 - k)) rfl rfl)
          go_wp2_with fail
          refine bodyPost_ret (v := .agg #[.string ⟨#[114, 111, 98, 111, 116]⟩, .bool false, .bool false, (.slice ua y.length uc), .int .i64 (999 - k)]) (by simp [results, Try.results112, go_sem, cell_set_at, cell_set_ne, r0, r1, r2, r3, r4]) rfl ?_
          exact DSt.fin (d := ⟨[114, 111, 98, 111, 116], false, false, y, 999 - k⟩) S9.out ⟨by simp, HSM.out.1, HSM.out.2, show I64 (999 - k) from ⟨by omega, by omega⟩⟩ _ _ _ _ _
    case true =>
      go_wp2_with fail
      refine (l1Below_any b v l _ _ S.out.cur (by omega) (by omega)).mono ?_
      rintro e w5 ⟨n, rfl, ⟨n0, n1, n2⟩, hg, hC⟩
      have S0 := Lib.hid (S.out.draw hg hC)
      clear hg hC n1 n2
      by_cases hn : 0 < n
      · skip
        have hdn : decide (0 < n) = true := by simpa using hn
        have S1 := Lib.hid (DSt.set (d' := ⟨[114, 111, 98, 111, 116], true, false, [], cnt⟩) S0.out 1 (by decide) (.bool true) rfl rfl)
        have BP := Lib.hid S0.out.box
        have p0 := BP.out.cell 0 (by simp)
        have p1 := BP.out.cell 1 (by simp)
        have p2 := BP.out.cell 2 (by simp)
        have p3 := BP.out.cell 3 (by simp)
        have p4 := BP.out.cell 4 (by simp)
        simp only [List.getElem_cons_zero, List.getElem_cons_succ] at p0 p1 p2 p3 p4
        have x0 := BP.out.froz 0 (by simp)
        have x1 := BP.out.froz 1 (by simp)
        have x2 := BP.out.froz 2 (by simp)
        have x3 := BP.out.froz 3 (by simp)
        have x4 := BP.out.froz 4 (by simp)
        have lB := BP.out.lt
        go_wp2_with fail
        have S := Lib.hid (DSt.set (d' := ⟨[114, 111, 98, 111, 116], true, false, [], cnt⟩) S1.out 2 (by decide) (.bool false) rfl rfl)
        clear S0 S1 BP p0 p1 p2 p3 p4 x0 x1 x2 x3 x4 lB
        refine (HH1.out _).mono ?_
        rintro e w' ⟨rfl, rfl⟩
        cases h1
        case false =>
          go_wp2_with fail
          refine (l1Once_any b v l _ _ S.out.cur (by omega) (by omega)).mono ?_
          rintro e w1 ⟨o, rfl, hg, hC⟩
          have S := Lib.hid (S.out.draw hg hC)
          clear hg hC
          cases o
          case false =>
            have BP := Lib.hid S.out.box
            have BR := Lib.hid S.out.res
            have p0 := BP.out.cell 0 (by simp)
            have p1 := BP.out.cell 1 (by simp)
            have p2 := BP.out.cell 2 (by simp)
            have p3 := BP.out.cell 3 (by simp)
            have p4 := BP.out.cell 4 (by simp)
            simp only [List.getElem_cons_zero, List.getElem_cons_succ] at p0 p1 p2 p3 p4
            have x0 := BP.out.froz 0 (by simp)
            have x1 := BP.out.froz 1 (by simp)
            have x2 := BP.out.froz 2 (by simp)
            have x3 := BP.out.froz 3 (by simp)
            have x4 := BP.out.froz 4 (by simp)
            have r0 := BR.out.cell 0 (by simp)
            have r1 := BR.out.cell 1 (by simp)
            have r2 := BR.out.cell 2 (by simp)
            have r3 := BR.out.cell 3 (by simp)
            have r4 := BR.out.cell 4 (by simp)
            simp only [List.getElem_cons_zero, List.getElem_cons_succ] at r0 r1 r2 r3 r4
            have y0 := BR.out.froz 0 (by simp)
            have y1 := BR.out.froz 1 (by simp)
            have y2 := BR.out.froz 2 (by simp)
            have y3 := BR.out.froz 3 (by simp)
            have y4 := BR.out.froz 4 (by simp)
            have lB := BP.out.lt
            have lR := BR.out.lt
            have hRB := S.out.RB
            go_wp2_with fail
            refine bodyPost_ret (v := .agg #[.string ⟨#[114, 111, 98, 111, 116]⟩, .bool true, .bool false, (.slice none 0 0), .int .i64 cnt]) (by simp [results, Try.results112, go_sem, cell_set_at, cell_set_ne, r0, r1, r2, r3, r4]) rfl ?_
            exact DSt.fin (d := ⟨[114, 111, 98, 111, 116], true, false, [], cnt⟩) S.out ⟨by simp, by simp, by simp, show I64 cnt from ⟨by omega, by omega⟩⟩ _ _ _ _ _
          case true =>
            go_wp2_with fail
            refine (l1Below_any b v l _ _ S.out.cur (by omega) (by omega)).mono ?_
            rintro e w1 ⟨k, rfl, ⟨k0, k1, k2⟩, hg, hC⟩
            have k3 := k2 (by omega)
            have hk9 : IntKind.i64.wrap (999 - k) = 999 - k := by rw [IntKind.wrap_i64]; omega
            have S := Lib.hid (S.out.draw hg hC)
            clear hg hC k1 k2
            have BP := Lib.hid S.out.box
            have BR := Lib.hid S.out.res
            have p0 := BP.out.cell 0 (by simp)
            have p1 := BP.out.cell 1 (by simp)
            have p2 := BP.out.cell 2 (by simp)
            have p3 := BP.out.cell 3 (by simp)
            have p4 := BP.out.cell 4 (by simp)
            simp only [List.getElem_cons_zero, List.getElem_cons_succ] at p0 p1 p2 p3 p4
            have x0 := BP.out.froz 0 (by simp)
            have x1 := BP.out.froz 1 (by simp)
            have x2 := BP.out.froz 2 (by simp)
            have x3 := BP.out.froz 3 (by simp)
            have x4 := BP.out.froz 4 (by simp)
            have r0 := BR.out.cell 0 (by simp)
            have r1 := BR.out.cell 1 (by simp)
            have r2 := BR.out.cell 2 (by simp)
            have r3 := BR.out.cell 3 (by simp)
            have r4 := BR.out.cell 4 (by simp)
            simp only [List.getElem_cons_zero, List.getElem_cons_succ] at r0 r1 r2 r3 r4
            have y0 := BR.out.froz 0 (by simp)
            have y1 := BR.out.froz 1 (by simp)
            have y2 := BR.out.froz 2 (by simp)
            have y3 := BR.out.froz 3 (by simp)
            have y4 := BR.out.froz 4 (by simp)
            have lB := BP.out.lt
            have lR := BR.out.lt
            have hRB := S.out.RB
            have S9 := Lib.hid (DSt.set (d' := ⟨[114, 111, 98, 111, 116], true, false, [], 999 - k⟩) S.out 4 (by decide) (.int .i64 (999 - k)) rfl rfl)
            go_wp2_with fail
            refine bodyPost_ret (v := .agg #[.string ⟨#[114, 111, 98, 111, 116]⟩, .bool true, .bool false, (.slice none 0 0), .int .i64 (999 - k)]) (by simp [results, Try.results112, go_sem, cell_set_at, cell_set_ne, r0, r1, r2, r3, r4]) rfl ?_
            exact DSt.fin (d := ⟨[114, 111, 98, 111, 116], true, false, [], 999 - k⟩) S9.out ⟨by simp, by simp, by simp, show I64 (999 - k) from ⟨by omega, by omega⟩⟩ _ _ _ _ _
        case true =>
          go_wp2_with fail
          have hsz := S.out.box.lt
          have hRB0 := S.out.RB
          refine (l3Cells_any b v l _ S.out.cur).mono ?_
          rintro e w1 ⟨u, y, rfl, ho, hsm, hg, hC⟩
          have HSM := Lib.hid hsm
          obtain ⟨ua, uc, rfl⟩ := slice_of ho
          have n1 : (Value.slice ua y.length uc).ownBlock ≠ some w3.heap.size := fun e => by have := (World.ownsRow.lt ho _ e).1; omega
          have n2 : (Value.slice ua y.length uc).ownBlock ≠ some w.heap.size := fun e => by have := (World.ownsRow.lt ho _ e).1; omega
          have hgs := S.out.grown.size
          have S1 := Lib.hid (S.out.draw hg hC)
          have S := Lib.hid (S1.out.setC _ y (ownsF_base ho hgs) n1 n2)
          have BP1 := Lib.hid S1.out.box
          have p0 := BP1.out.cell 0 (by simp)
          have p1 := BP1.out.cell 1 (by simp)
          have p2 := BP1.out.cell 2 (by simp)
          have p3 := BP1.out.cell 3 (by simp)
          have p4 := BP1.out.cell 4 (by simp)
          simp only [List.getElem_cons_zero, List.getElem_cons_succ] at p0 p1 p2 p3 p4
          have x0 := BP1.out.froz 0 (by simp)
          have x1 := BP1.out.froz 1 (by simp)
          have x2 := BP1.out.froz 2 (by simp)
          have x3 := BP1.out.froz 3 (by simp)
          have x4 := BP1.out.froz 4 (by simp)
          have lB := BP1.out.lt
          clear ho hsm hg hC hsz hRB0 n1 n2 hgs
          go_wp2_with fail
          clear p0 p1 p2 p3 p4 x0 x1 x2 x3 x4 lB BP1 S1
          refine (l1Once_any b v l _ _ S.out.cur (by omega) (by omega)).mono ?_
          rintro e w1 ⟨o, rfl, hg, hC⟩
          have S := Lib.hid (S.out.draw hg hC)
          clear hg hC
          cases o
          case false =>
            have BP := Lib.hid S.out.box
            have BR := Lib.hid S.out.res
            have p0 := BP.out.cell 0 (by simp)
            have p1 := BP.out.cell 1 (by simp)
            have p2 := BP.out.cell 2 (by simp)
            have p3 := BP.out.cell 3 (by simp)
            have p4 := BP.out.cell 4 (by simp)
            simp only [List.getElem_cons_zero, List.getElem_cons_succ] at p0 p1 p2 p3 p4
            have x0 := BP.out.froz 0 (by simp)
            have x1 := BP.out.froz 1 (by simp)
            have x2 := BP.out.froz 2 (by simp)
            have x3 := BP.out.froz 3 (by simp)
            have x4 := BP.out.froz 4 (by simp)
            have r0 := BR.out.cell 0 (by simp)
            have r1 := BR.out.cell 1 (by simp)
            have r2 := BR.out.cell 2 (by simp)
            have r3 := BR.out.cell 3 (by simp)
            have r4 := BR.out.cell 4 (by simp)
            simp only [List.getElem_cons_zero, List.getElem_cons_succ] at r0 r1 r2 r3 r4
            have y0 := BR.out.froz 0 (by simp)
            have y1 := BR.out.froz 1 (by simp)
            have y2 := BR.out.froz 2 (by simp)
            have y3 := BR.out.froz 3 (by simp)
            have y4 := BR.out.froz 4 (by simp)
            have lB := BP.out.lt
            have lR := BR.out.lt
            have hRB := S.out.RB
            go_wp2_with fail
            refine bodyPost_ret (v := .agg #[.string ⟨#[114, 111, 98, 111, 116]⟩, .bool true, .bool false, (.slice ua y.length uc), .int .i64 cnt]) (by simp [results, Try.results112, go_sem, cell_set_at, cell_set_ne, r0, r1, r2, r3, r4]) rfl ?_
            exact DSt.fin (d := ⟨[114, 111, 98, 111, 116], true, false, y, cnt⟩) S.out ⟨by simp, HSM.out.1, HSM.out.2, show I64 cnt from ⟨by omega, by omega⟩⟩ _ _ _ _ _
          case true =>
            go_wp2_with fail
            refine (l1Below_any b v l _ _ S.out.cur (by omega) (by omega)).mono ?_
            rintro e w1 ⟨k, rfl, ⟨k0, k1, k2⟩, hg, hC⟩
            have k3 := k2 (by omega)
            have hk9 : IntKind.i64.wrap (999 - k) = 999 - k := by rw [IntKind.wrap_i64]; omega
            have S := Lib.hid (S.out.draw hg hC)
            clear hg hC k1 k2
            have BP := Lib.hid S.out.box
            have BR := Lib.hid S.out.res
            have p0 := BP.out.cell 0 (by simp)
            have p1 := BP.out.cell 1 (by simp)
            have p2 := BP.out.cell 2 (by simp)
            have p3 := BP.out.cell 3 (by simp)
            have p4 := BP.out.cell 4 (by simp)
            simp only [List.getElem_cons_zero, List.getElem_cons_succ] at p0 p1 p2 p3 p4
            have x0 := BP.out.froz 0 (by simp)
            have x1 := BP.out.froz 1 (by simp)
            have x2 := BP.out.froz 2 (by simp)
            have x3 := BP.out.froz 3 (by simp)
            have x4 := BP.out.froz 4 (by simp)
            have r0 := BR.out.cell 0 (by simp)
            have r1 := BR.out.cell 1 (by simp)
            have r2 := BR.out.cell 2 (by simp)
            have r3 := BR.out.cell 3 (by simp)
            have r4 := BR.out.cell 4 (by simp)
            simp only [List.getElem_cons_zero, List.getElem_cons_succ] at r0 r1 r2 r3 r4
            have y0 := BR.out.froz 0 (by simp)
            have y1 := BR.out.froz 1 (by simp)
            have y2 := BR.out.froz 2 (by simp)
            have y3 := BR.out.froz 3 (by simp)
            have y4 := BR.out.froz 4 (by simp)
            have lB := BP.out.lt
            have lR := BR.out.lt
            have hRB := S.out.RB
            have S9 := Lib.hid (DSt.set (d' := ⟨[114, 111, 98, 111, 116], true, false, y, 999 - k⟩) S.out 4 (by decide) (.int .i64 (999 - k)) rfl rfl)
            go_wp2_with fail
            refine bodyPost_ret (v := .agg #[.string ⟨#[114, 111, 98, 111, 116]⟩, .bool true, .bool false, (.slice ua y.length uc), .int .i64 (999 - k)]) (by simp [results, Try.results112, go_sem, cell_set_at, cell_set_ne, r0, r1, r2, r3, r4]) rfl ?_
            exact DSt.fin (d := ⟨[114, 111, 98, 111, 116], true, false, y, 999 - k⟩) S9.out ⟨by simp, HSM.out.1, HSM.out.2, show I64 (999 - k) from ⟨by omega, by omega⟩⟩ _ _ _ _ _
      · skip
        have hdn : decide (0 < n) = false := by simpa using hn
        have S1 := Lib.hid (DSt.set (d' := ⟨[114, 111, 98, 111, 116], false, false, [], cnt⟩) S0.out 1 (by decide) (.bool false) rfl rfl)
        have BP := Lib.hid S0.out.box
        have p0 := BP.out.cell 0 (by simp)
        have p1 := BP.out.cell 1 (by simp)
        have p2 := BP.out.cell 2 (by simp)
        have p3 := BP.out.cell 3 (by simp)
        have p4 := BP.out.cell 4 (by simp)
        simp only [List.getElem_cons_zero, List.getElem_cons_succ] at p0 p1 p2 p3 p4
        have x0 := BP.out.froz 0 (by simp)
        have x1 := BP.out.froz 1 (by simp)
        have x2 := BP.out.froz 2 (by simp)
        have x3 := BP.out.froz 3 (by simp)
        have x4 := BP.out.froz 4 (by simp)
        have lB := BP.out.lt
        go_wp2_with fail
        refine (l1Once_any b v l _ _ S1.out.cur (by omega) (by omega)).mono ?_
        rintro e w6 ⟨o, rfl, hg, hC⟩
        have S2 := Lib.hid (S1.out.draw hg hC)
        have S := Lib.hid (DSt.set (d' := ⟨[114, 111, 98, 111, 116], false, o, [], cnt⟩) S2.out 2 (by decide) (.bool o) rfl rfl)
        clear hg hC BP p0 p1 p2 p3 p4 x0 x1 x2 x3 x4 lB
        have BP := Lib.hid S2.out.box
        have p0 := BP.out.cell 0 (by simp)
        have p1 := BP.out.cell 1 (by simp)
        have p2 := BP.out.cell 2 (by simp)
        have p3 := BP.out.cell 3 (by simp)
        have p4 := BP.out.cell 4 (by simp)
        simp only [List.getElem_cons_zero, List.getElem_cons_succ] at p0 p1 p2 p3 p4
        have x0 := BP.out.froz 0 (by simp)
        have x1 := BP.out.froz 1 (by simp)
        have x2 := BP.out.froz 2 (by simp)
        have x3 := BP.out.froz 3 (by simp)
        have x4 := BP.out.froz 4 (by simp)
        have lB := BP.out.lt
        go_wp2_with fail
        clear S0 S1 S2 BP p0 p1 p2 p3 p4 x0 x1 x2 x3 x4 lB
        refine (HH1.out _).mono ?_
        rintro e w' ⟨rfl, rfl⟩
        cases h1
        case false =>
          go_wp2_with fail
          refine (l1Once_any b v l _ _ S.out.cur (by omega) (by omega)).mono ?_
          rintro e w1 ⟨o, rfl, hg, hC⟩
          have S := Lib.hid (S.out.draw hg hC)
          clear hg hC
          cases o
          case false =>
            have BP := Lib.hid S.out.box
            have BR := Lib.hid S.out.res
            have p0 := BP.out.cell 0 (by simp)
            have p1 := BP.out.cell 1 (by simp)
            have p2 := BP.out.cell 2 (by simp)
            have p3 := BP.out.cell 3 (by simp)
            have p4 := BP.out.cell 4 (by simp)
            simp only [List.getElem_cons_zero, List.getElem_cons_succ] at p0 p1 p2 p3 p4
            have x0 := BP.out.froz 0 (by simp)
            have x1 := BP.out.froz 1 (by simp)
            have x2 := BP.out.froz 2 (by simp)
            have x3 := BP.out.froz 3 (by simp)
            have x4 := BP.out.froz 4 (by simp)
            have r0 := BR.out.cell 0 (by simp)
            have r1 := BR.out.cell 1 (by simp)
            have r2 := BR.out.cell 2 (by simp)
            have r3 := BR.out.cell 3 (by simp)
            have r4 := BR.out.cell 4 (by simp)
            simp only [List.getElem_cons_zero, List.getElem_cons_succ] at r0 r1 r2 r3 r4
            have y0 := BR.out.froz 0 (by simp)
            have y1 := BR.out.froz 1 (by simp)
            have y2 := BR.out.froz 2 (by simp)
            have y3 := BR.out.froz 3 (by simp)
            have y4 := BR.out.froz 4 (by simp)
            have lB := BP.out.lt
            have lR := BR.out.lt
            have hRB := S.out.RB
            go_wp2_with fail
            refine bodyPost_ret (v := .agg #[.string ⟨#[114, 111, 98, 111, 116]⟩, .bool false, .bool o, (.slice none 0 0), .int .i64 cnt]) (by simp [results, Try.results112, go_sem, cell_set_at, cell_set_ne, r0, r1, r2, r3, r4]) rfl ?_
            exact DSt.fin (d := ⟨[114, 111, 98, 111, 116], false, o, [], cnt⟩) S.out ⟨by simp, by simp, by simp, show I64 cnt from ⟨by omega, by omega⟩⟩ _ _ _ _ _
          case true =>
            go_wp2_with fail
            refine (l1Below_any b v l _ _ S.out.cur (by omega) (by omega)).mono ?_
            rintro e w1 ⟨k, rfl, ⟨k0, k1, k2⟩, hg, hC⟩
            have k3 := k2 (by omega)
            have hk9 : IntKind.i64.wrap (999 - k) = 999 - k := by rw [IntKind.wrap_i64]; omega
            have S := Lib.hid (S.out.draw hg hC)
            clear hg hC k1 k2
            have BP := Lib.hid S.out.box
            have BR := Lib.hid S.out.res
            have p0 := BP.out.cell 0 (by simp)
            have p1 := BP.out.cell 1 (by simp)
            have p2 := BP.out.cell 2 (by simp)
            have p3 := BP.out.cell 3 (by simp)
            have p4 := BP.out.cell 4 (by simp)
            simp only [List.getElem_cons_zero, List.getElem_cons_succ] at p0 p1 p2 p3 p4
            have x0 := BP.out.froz 0 (by simp)
            have x1 := BP.out.froz 1 (by simp)
            have x2 := BP.out.froz 2 (by simp)
            have x3 := BP.out.froz 3 (by simp)
            have x4 := BP.out.froz 4 (by simp)
            have r0 := BR.out.cell 0 (by simp)
            have r1 := BR.out.cell 1 (by simp)
            have r2 := BR.out.cell 2 (by simp)
            have r3 := BR.out.cell 3 (by simp)
            have r4 := BR.out.cell 4 (by simp)
            simp only [List.getElem_cons_zero, List.getElem_cons_succ] at r0 r1 r2 r3 r4
            have y0 := BR.out.froz 0 (by simp)
            have y1 := BR.out.froz 1 (by simp)
            have y2 := BR.out.froz 2 (by simp)
            have y3 := BR.out.froz 3 (by simp)
            have y4 := BR.out.froz 4 (by simp)
            have lB := BP.out.lt
            have lR := BR.out.lt
            have hRB := S.out.RB
            have S9 := Lib.hid (DSt.set (d' := ⟨[114, 111, 98, 111, 116], false, o, [], 999 - k⟩) S.out 4 (by decide) (.int .i64 (999 - k)) rfl rfl)
            go_wp2_with fail
            refine bodyPost_ret (v := .agg #[.string ⟨#[114, 111, 98, 111, 116]⟩, .bool false, .bool o, (.slice none 0 0), .int .i64 (999 - k)]) (by simp [results, Try.results112, go_sem, cell_set_at, cell_set_ne, r0, r1, r2, r3, r4]) rfl ?_
            exact DSt.fin (d := ⟨[114, 111, 98, 111, 116], false, o, [], 999 - k⟩) S9.out ⟨by simp, by simp, by simp, show I64 (999 - k) from ⟨by omega, by omega⟩⟩ _ _ _ _ _
        case true =>
          go_wp2_with fail
          have hsz := S.out.box.lt
          have hRB0 := S.out.RB
          refine (l3Cells_any b v l _ S.out.cur).mono ?_
          rintro e w1 ⟨u, y, rfl, ho, hsm, hg, hC⟩
          have HSM := Lib.hid hsm
          obtain ⟨ua, uc, rfl⟩ := slice_of ho
          have n1 : (Value.slice ua y.length uc).ownBlock ≠ some w3.heap.size := fun e => by have := (World.ownsRow.lt ho _ e).1; omega
          have n2 : (Value.slice ua y.length uc).ownBlock ≠ some w.heap.size := fun e => by have := (World.ownsRow.lt ho _ e).1; omega
          have hgs := S.out.grown.size
          have S1 := Lib.hid (S.out.draw hg hC)
          have S := Lib.hid (S1.out.setC _ y (ownsF_base ho hgs) n1 n2)
          have BP1 := Lib.hid S1.out.box
          have p0 := BP1.out.cell 0 (by simp)
          have p1 := BP1.out.cell 1 (by simp)
          have p2 := BP1.out.cell 2 (by simp)
          have p3 := BP1.out.cell 3 (by simp)
          have p4 := BP1.out.cell 4 (by simp)
          simp only [List.getElem_cons_zero, List.getElem_cons_succ] at p0 p1 p2 p3 p4
          have x0 := BP1.out.froz 0 (by simp)
          have x1 := BP1.out.froz 1 (by simp)
          have x2 := BP1.out.froz 2 (by simp)
          have x3 := BP1.out.froz 3 (by simp)
          have x4 := BP1.out.froz 4 (by simp)
          have lB := BP1.out.lt
          clear ho hsm hg hC hsz hRB0 n1 n2 hgs
          go_wp2_with fail
          clear p0 p1 p2 p3 p4 x0 x1 x2 x3 x4 lB BP1 S1
          refine (l1Once_any b v l _ _ S.out.cur (by omega) (by omega)).mono ?_
          rintro e w1 ⟨o, rfl, hg, hC⟩
          have S := Lib.hid (S.out.draw hg hC)
          clear hg hC
          cases o
          case false =>
            have BP := Lib.hid S.out.box
            have BR := Lib.hid S.out.res
            have p0 := BP.out.cell 0 (by simp)
            have p1 := BP.out.cell 1 (by simp)
            have p2 := BP.out.cell 2 (by simp)
            have p3 := BP.out.cell 3 (by simp)
            have p4 := BP.out.cell 4 (by simp)
            simp only [List.getElem_cons_zero, List.getElem_cons_succ] at p0 p1 p2 p3 p4
            have x0 := BP.out.froz 0 (by simp)
            have x1 := BP.out.froz 1 (by simp)
            have x2 := BP.out.froz 2 (by simp)
            have x3 := BP.out.froz 3 (by simp)
            have x4 := BP.out.froz 4 (by simp)
            have r0 := BR.out.cell 0 (by simp)
            have r1 := BR.out.cell 1 (by simp)
            have r2 := BR.out.cell 2 (by simp)
            have r3 := BR.out.cell 3 (by simp)
            have r4 := BR.out.cell 4 (by simp)
            simp only [List.getElem_cons_zero, List.getElem_cons_succ] at r0 r1 r2 r3 r4
            have y0 := BR.out.froz 0 (by simp)
            have y1 := BR.out.froz 1 (by simp)
            have y2 := BR.out.froz 2 (by simp)
            have y3 := BR.out.froz 3 (by simp)
            have y4 := BR.out.froz 4 (by simp)
            have lB := BP.out.lt
            have lR := BR.out.lt
            have hRB := S.out.RB
            go_wp2_with fail
            refine bodyPost_ret (v := .agg #[.string ⟨#[114, 111, 98, 111, 116]⟩, .bool false, .bool o, (.slice ua y.length uc), .int .i64 cnt]) (by simp [results, Try.results112, go_sem, cell_set_at, cell_set_ne, r0, r1, r2, r3, r4]) rfl ?_
            exact DSt.fin (d := ⟨[114, 111, 98, 111, 116], false, o, y, cnt⟩) S.out ⟨by simp, HSM.out.1, HSM.out.2, show I64 cnt from ⟨by omega, by omega⟩⟩ _ _ _ _ _
          case true =>
            go_wp2_with fail
            refine (l1Below_any b v l _ _ S.out.cur (by omega) (by omega)).mono ?_
            rintro e w1 ⟨k, rfl, ⟨k0, k1, k2⟩, hg, hC⟩
            have k3 := k2 (by omega)
            have hk9 : IntKind.i64.wrap (999 - k) = 999 - k := by rw [IntKind.wrap_i64]; omega
            have S := Lib.hid (S.out.draw hg hC)
            clear hg hC k1 k2
            have BP := Lib.hid S.out.box
            have BR := Lib.hid S.out.res
            have p0 := BP.out.cell 0 (by simp)
            have p1 := BP.out.cell 1 (by simp)
            have p2 := BP.out.cell 2 (by simp)
            have p3 := BP.out.cell 3 (by simp)
            have p4 := BP.out.cell 4 (by simp)
            simp only [List.getElem_cons_zero, List.getElem_cons_succ] at p0 p1 p2 p3 p4
            have x0 := BP.out.froz 0 (by simp)
            have x1 := BP.out.froz 1 (by simp)
            have x2 := BP.out.froz 2 (by simp)
            have x3 := BP.out.froz 3 (by simp)
            have x4 := BP.out.froz 4 (by simp)
            have r0 := BR.out.cell 0 (by simp)
            have r1 := BR.out.cell 1 (by simp)
            have r2 := BR.out.cell 2 (by simp)
            have r3 := BR.out.cell 3 (by simp)
            have r4 := BR.out.cell 4 (by simp)
            simp only [List.getElem_cons_zero, List.getElem_cons_succ] at r0 r1 r2 r3 r4
            have y0 := BR.out.froz 0 (by simp)
            have y1 := BR.out.froz 1 (by simp)
            have y2 := BR.out.froz 2 (by simp)
            have y3 := BR.out.froz 3 (by simp)
            have y4 := BR.out.froz 4 (by simp)
            have lB := BP.out.lt
            have lR := BR.out.lt
            have hRB := S.out.RB
            have S9 := Lib.hid (DSt.set (d' := ⟨[114, 111, 98, 111, 116], false, o, y, 999 - k⟩) S.out 4 (by decide) (.int .i64 (999 - k)) rfl rfl)
            go_wp2_with fail
            refine bodyPost_ret (v := .agg #[.string ⟨#[114, 111, 98, 111, 116]⟩, .bool false, .bool o, (.slice ua y.length uc), .int .i64 (999 - k)]) (by simp [results, Try.results112, go_sem, cell_set_at, cell_set_ne, r0, r1, r2, r3, r4]) rfl ?_
            exact DSt.fin (d := ⟨[114, 111, 98, 111, 116], false, o, y, 999 - k⟩) S9.out ⟨by simp, HSM.out.1, HSM.out.2, show I64 (999 - k) from ⟨by omega, by omega⟩⟩ _ _ _ _ _
  case true =>
    go_wp2_with fail
    refine (l1Below_any b v l _ _ HC2.out (by omega) (by omega)).mono ?_
    rintro e w3 ⟨cnt, rfl, ⟨c0, c1, c2⟩, hg, hC⟩
    have c3 := c2 (by omega)
    clear c2 c1
    have hRl : w.heap.size < w3.heap.size := Nat.lt_of_lt_of_le BR2.out.lt hg.size
    have S := Lib.hid (show DSt w b v l w.heap.size w3.heap.size ⟨kl, false, false, [], cnt⟩ (.slice none 0 0) (w3.alloc (.cells #[.string ⟨kl.toArray⟩, .bool false, .bool false, .slice none 0 0, .int .i64 cnt] 26)) from ⟨grown_alloc (grown_trans HG2.out hg) _, cur_alloc hC _, (bx_grownC BR2.out hg (by omega)).alloc _, Bx.new w3 (cCoreV ⟨kl, false, false, [], cnt⟩ (.slice none 0 0)) 26, ownsF_nilC _ _ _ _ _, hbl, Nat.le_refl _, hRl, by simp [Value.ownBlock], by simp [Value.ownBlock]⟩)
    clear hg hC HG2 HC2 BR2
    have HH0 := Lib.hid (fun W => l2Has_0 f _ rfl hff.out W)
    have HH1 := Lib.hid (fun W => l2Has_1 f _ rfl hff.out W)
    generalize hasI f 0 = h0 at *
    generalize hasI f 1 = h1 at *
    go_wp2_with fail
    generalize w3.alloc (.cells #[.string ⟨kl.toArray⟩, .bool false, .bool false, .slice none 0 0, .int .i64 cnt] 26) = w4 at *
    refine (HH0.out _).mono ?_
    rintro e w' ⟨rfl, rfl⟩
    cases h0
    case false =>
      go_wp2_with fail
      refine (HH1.out _).mono ?_
      rintro e w' ⟨rfl, rfl⟩
      cases h1
      case false =>
        go_wp2_with fail
        refine (l1Once_any b v l _ _ S.out.cur (by omega) (by omega)).mono ?_
        rintro e w1 ⟨o, rfl, hg, hC⟩
        have S := Lib.hid (S.out.draw hg hC)
        clear hg hC
        cases o
        case false =>
          have BP := Lib.hid S.out.box
          have BR := Lib.hid S.out.res
          have p0 := BP.out.cell 0 (by simp)
          have p1 := BP.out.cell 1 (by simp)
          have p2 := BP.out.cell 2 (by simp)
          have p3 := BP.out.cell 3 (by simp)
          have p4 := BP.out.cell 4 (by simp)
          simp only [List.getElem_cons_zero, List.getElem_cons_succ] at p0 p1 p2 p3 p4
          have x0 := BP.out.froz 0 (by simp)
          have x1 := BP.out.froz 1 (by simp)
          have x2 := BP.out.froz 2 (by simp)
          have x3 := BP.out.froz 3 (by simp)
          have x4 := BP.out.froz 4 (by simp)
          have r0 := BR.out.cell 0 (by simp)
          have r1 := BR.out.cell 1 (by simp)
          have r2 := BR.out.cell 2 (by simp)
          have r3 := BR.out.cell 3 (by simp)
          have r4 := BR.out.cell 4 (by simp)
          simp only [List.getElem_cons_zero, List.getElem_cons_succ] at r0 r1 r2 r3 r4
          have y0 := BR.out.froz 0 (by simp)
          have y1 := BR.out.froz 1 (by simp)
          have y2 := BR.out.froz 2 (by simp)
          have y3 := BR.out.froz 3 (by simp)
          have y4 := BR.out.froz 4 (by simp)
          have lB := BP.out.lt
          have lR := BR.out.lt
          have hRB := S.out.RB
          go_wp2_with fail
          refine bodyPost_ret (v := .agg #[.string ⟨kl.toArray⟩, .bool false, .bool false, (.slice none 0 0), .int .i64 cnt]) (by simp [results, Try.results112, go_sem, cell_set_at, cell_set_ne, r0, r1, r2, r3, r4]) rfl ?_
          exact DSt.fin (d := ⟨kl, false, false, [], cnt⟩) S.out ⟨hkl.out, by simp, by simp, show I64 cnt from ⟨by omega, by omega⟩⟩ _ _ _ _ _
        case true =>
          go_wp2_with fail
          refine (l1Below_any b v l _ _ S.out.cur (by omega) (by omega)).mono ?_
          rintro e w1 ⟨k, rfl, ⟨k0, k1, k2⟩, hg, hC⟩
          have k3 := k2 (by omega)
          have hk9 : IntKind.i64.wrap (999 - k) = 999 - k := by rw [IntKind.wrap_i64]; omega
          have S := Lib.hid (S.out.draw hg hC)
          clear hg hC k1 k2
          have BP := Lib.hid S.out.box
          have BR := Lib.hid S.out.res
          have p0 := BP.out.cell 0 (by simp)
          have p1 := BP.out.cell 1 (by simp)
          have p2 := BP.out.cell 2 (by simp)
          have p3 := BP.out.cell 3 (by simp)
          have p4 := BP.out.cell 4 (by simp)
          simp only [List.getElem_cons_zero, List.getElem_cons_succ] at p0 p1 p2 p3 p4
          have x0 := BP.out.froz 0 (by simp)
          have x1 := BP.out.froz 1 (by simp)
          have x2 := BP.out.froz 2 (by simp)
          have x3 := BP.out.froz 3 (by simp)
          have x4 := BP.out.froz 4 (by simp)
          have r0 := BR.out.cell 0 (by simp)
          have r1 := BR.out.cell 1 (by simp)
          have r2 := BR.out.cell 2 (by simp)
          have r3 := BR.out.cell 3 (by simp)
          have r4 := BR.out.cell 4 (by simp)
          simp only [List.getElem_cons_zero, List.getElem_cons_succ] at r0 r1 r2 r3 r4
          have y0 := BR.out.froz 0 (by simp)
          have y1 := BR.out.froz 1 (by simp)
          have y2 := BR.out.froz 2 (by simp)
          have y3 := BR.out.froz 3 (by simp)
          have y4 := BR.out.froz 4 (by simp)
          have lB := BP.out.lt
          have lR := BR.out.lt
          have hRB := S.out.RB
          have S9 := Lib.hid (DSt.set (d' := ⟨kl, false, false, [], 999 - k⟩) S.out 4 (by decide) (.int .i64 (999 - k)) rfl rfl)
          go_wp2_with fail
          refine bodyPost_ret (v := .agg #[.string ⟨kl.toArray⟩, .bool false, .bool false, (.slice none 0 0), .int .i64 (999 - k)]) (by simp [results, Try.results112, go_sem, cell_set_at, cell_set_ne, r0, r1, r2, r3, r4]) rfl ?_
          exact DSt.fin (d := ⟨kl, false, false, [], 999 - k⟩) S9.out ⟨hkl.out, by simp, by simp, show I64 (999 - k) from ⟨by omega, by omega⟩⟩ _ _ _ _ _
      case true =>
        go_wp2_with fail
        have hsz := S.out.box.lt
        have hRB0 := S.out.RB
        refine (l3Cells_any b v l _ S.out.cur).mono ?_
        rintro e w1 ⟨u, y, rfl, ho, hsm, hg, hC⟩
        have HSM := Lib.hid hsm
        obtain ⟨ua, uc, rfl⟩ := slice_of ho
        have n1 : (Value.slice ua y.length uc).ownBlock ≠ some w3.heap.size := fun e => by have := (World.ownsRow.lt ho _ e).1; omega
        have n2 : (Value.slice ua y.length uc).ownBlock ≠ some w.heap.size := fun e => by have := (World.ownsRow.lt ho _ e).1; omega
        have hgs := S.out.grown.size
        have S1 := Lib.hid (S.out.draw hg hC)
        have S := Lib.hid (S1.out.setC _ y (ownsF_base ho hgs) n1 n2)
        have BP1 := Lib.hid S1.out.box
        have p0 := BP1.out.cell 0 (by simp)
        have p1 := BP1.out.cell 1 (by simp)
        have p2 := BP1.out.cell 2 (by simp)
        have p3 := BP1.out.cell 3 (by simp)
        have p4 := BP1.out.cell 4 (by simp)
        simp only [List.getElem_cons_zero, List.getElem_cons_succ] at p0 p1 p2 p3 p4
        have x0 := BP1.out.froz 0 (by simp)
        have x1 := BP1.out.froz 1 (by simp)
        have x2 := BP1.out.froz 2 (by simp)
        have x3 := BP1.out.froz 3 (by simp)
        have x4 := BP1.out.froz 4 (by simp)
        have lB := BP1.out.lt
        clear ho hsm hg hC hsz hRB0 n1 n2 hgs
        go_wp2_with fail
        clear p0 p1 p2 p3 p4 x0 x1 x2 x3 x4 lB BP1 S1
        refine (l1Once_any b v l _ _ S.out.cur (by omega) (by omega)).mono ?_
        rintro e w1 ⟨o, rfl, hg, hC⟩
        have S := Lib.hid (S.out.draw hg hC)
        clear hg hC
        cases o
        case false =>
          have BP := Lib.hid S.out.box
          have BR := Lib.hid S.out.res
          have p0 := BP.out.cell 0 (by simp)
          have p1 := BP.out.cell 1 (by simp)
          have p2 := BP.out.cell 2 (by simp)
          have p3 := BP.out.cell 3 (by simp)
          have p4 := BP.out.cell 4 (by simp)
          simp only [List.getElem_cons_zero, List.getElem_cons_succ] at p0 p1 p2 p3 p4
          have x0 := BP.out.froz 0 (by simp)
          have x1 := BP.out.froz 1 (by simp)
          have x2 := BP.out.froz 2 (by simp)
          have x3 := BP.out.froz 3 (by simp)
          have x4 := BP.out.froz 4 (by simp)
          have r0 := BR.out.cell 0 (by simp)
          have r1 := BR.out.cell 1 (by simp)
          have r2 := BR.out.cell 2 (by simp)
          have r3 := BR.out.cell 3 (by simp)
          have r4 := BR.out.cell 4 (by simp)
          simp only [List.getElem_cons_zero, List.getElem_cons_succ] at r0 r1 r2 r3 r4
          have y0 := BR.out.froz 0 (by simp)
          have y1 := BR.out.froz 1 (by simp)
          have y2 := BR.out.froz 2 (by simp)
          have y3 := BR.out.froz 3 (by simp)
          have y4 := BR.out.froz 4 (by simp)
          have lB := BP.out.lt
          have lR := BR.out.lt
          have hRB := S.out.RB
          go_wp2_with fail
          refine bodyPost_ret (v := .agg #[.string ⟨kl.toArray⟩, .bool false, .bool false, (.slice ua y.length uc), .int .i64 cnt]) (by simp [results, Try.results112, go_sem, cell_set_at, cell_set_ne, r0, r1, r2, r3, r4]) rfl ?_
          exact DSt.fin (d := ⟨kl, false, false, y, cnt⟩) S.out ⟨hkl.out, HSM.out.1, HSM.out.2, show I64 cnt from ⟨by omega, by omega⟩⟩ _ _ _ _ _
        case true =>
          go_wp2_with fail
          refine (l1Below_any b v l _ _ S.out.cur (by omega) (by omega)).mono ?_
          rintro e w1 ⟨k, rfl, ⟨k0, k1, k2⟩, hg, hC⟩
          have k3 := k2 (by omega)
          have hk9 : IntKind.i64.wrap (999 - k) = 999 - k := by rw [IntKind.wrap_i64]; omega
          have S := Lib.hid (S.out.draw hg hC)
          clear hg hC k1 k2
          have BP := Lib.hid S.out.box
          have BR := Lib.hid S.out.res
          have p0 := BP.out.cell 0 (by simp)
          have p1 := BP.out.cell 1 (by simp)
          have p2 := BP.out.cell 2 (by simp)
          have p3 := BP.out.cell 3 (by simp)
          have p4 := BP.out.cell 4 (by simp)
          simp only [List.getElem_cons_zero, List.getElem_cons_succ] at p0 p1 p2 p3 p4
          have x0 := BP.out.froz 0 (by simp)
          have x1 := BP.out.froz 1 (by simp)
          have x2 := BP.out.froz 2 (by simp)
          have x3 := BP.out.froz 3 (by simp)
          have x4 := BP.out.froz 4 (by simp)
          have r0 := BR.out.cell 0 (by simp)
          have r1 := BR.out.cell 1 (by simp)
          have r2 := BR.out.cell 2 (by simp)
          have r3 := BR.out.cell 3 (by simp)
          have r4 := BR.out.cell 4 (by simp)
          simp only [List.getElem_cons_zero, List.getElem_cons_succ] at r0 r1 r2 r3 r4
          have y0 := BR.out.froz 0 (by simp)
          have y1 := BR.out.froz 1 (by simp)
          have y2 := BR.out.froz 2 (by simp)
          have y3 := BR.out.froz 3 (by simp)
          have y4 := BR.out.froz 4 (by simp)
          have lB := BP.out.lt
          have lR := BR.out.lt
          have hRB := S.out.RB
          have S9 := Lib.hid (DSt.set (d' := ⟨kl, false, false, y, 999 - k⟩) S.out 4 (by decide) (.int .i64 (999 - k)) rfl rfl)
          go_wp2_with fail
          refine bodyPost_ret (v := .agg #[.string ⟨kl.toArray⟩, .bool false, .bool false, (.slice ua y.length uc), .int .i64 (999 - k)]) (by simp [results, Try.results112, go_sem, cell_set_at, cell_set_ne, r0, r1, r2, r3, r4]) rfl ?_
          exact DSt.fin (d := ⟨kl, false, false, y, 999 - k⟩) S9.out ⟨hkl.out, HSM.out.1, HSM.out.2, show I64 (999 - k) from ⟨by omega, by omega⟩⟩ _ _ _ _ _
    case true =>
      go_wp2_with fail
      refine (l1Below_any b v l _ _ S.out.cur (by omega) (by omega)).mono ?_
      rintro e w5 ⟨n, rfl, ⟨n0, n1, n2⟩, hg, hC⟩
      have S0 := Lib.hid (S.out.draw hg hC)
      clear hg hC n1 n2
      by_cases hn : 0 < n
      · skip
        have hdn : decide (0 < n) = true := by simpa using hn
        have S1 := Lib.hid (DSt.set (d' := ⟨kl, true, false, [], cnt⟩) S0.out 1 (by decide) (.bool true) rfl rfl)
        have BP := Lib.hid S0.out.box
        have p0 := BP.out.cell 0 (by simp)
        have p1 := BP.out.cell 1 (by simp)
        have p2 := BP.out.cell 2 (by simp)
        have p3 := BP.out.cell 3 (by simp)
        have p4 := BP.out.cell 4 (by simp)
        simp only [List.getElem_cons_zero, List.getElem_cons_succ] at p0 p1 p2 p3 p4
        have x0 := BP.out.froz 0 (by simp)
        have x1 := BP.out.froz 1 (by simp)
        have x2 := BP.out.froz 2 (by simp)
        have x3 := BP.out.froz 3 (by simp)
        have x4 := BP.out.froz 4 (by simp)
        have lB := BP.out.lt
        go_wp2_with fail
        have S := Lib.hid (DSt.set (d' := ⟨kl, true, false, [], cnt⟩) S1.out 2 (by decide) (.bool false) rfl rfl)
        clear S0 S1 BP p0 p1 p2 p3 p4 x0 x1 x2 x3 x4 lB
        refine (HH1.out _).mono ?_
        rintro e w' ⟨rfl, rfl⟩
        cases h1
        case false =>
          go_wp2_with fail
          refine (l1Once_any b v l _ _ S.out.cur (by omega) (by omega)).mono ?_
          rintro e w1 ⟨o, rfl, hg, hC⟩
          have S := Lib.hid (S.out.draw hg hC)
          clear hg hC
          cases o
          case false =>
            have BP := Lib.hid S.out.box
            have BR := Lib.hid S.out.res
            have p0 := BP.out.cell 0 (by simp)
            have p1 := BP.out.cell 1 (by simp)
            have p2 := BP.out.cell 2 (by simp)
            have p3 := BP.out.cell 3 (by simp)
            have p4 := BP.out.cell 4 (by simp)
            simp only [List.getElem_cons_zero, List.getElem_cons_succ] at p0 p1 p2 p3 p4
            have x0 := BP.out.froz 0 (by simp)
            have x1 := BP.out.froz 1 (by simp)
            have x2 := BP.out.froz 2 (by simp)
            have x3 := BP.out.froz 3 (by simp)
            have x4 := BP.out.froz 4 (by simp)
            have r0 := BR.out.cell 0 (by simp)
            have r1 := BR.out.cell 1 (by simp)
            have r2 := BR.out.cell 2 (by simp)
            have r3 := BR.out.cell 3 (by simp)
            have r4 := BR.out.cell 4 (by simp)
            simp only [List.getElem_cons_zero, List.getElem_cons_succ] at r0 r1 r2 r3 r4
            have y0 := BR.out.froz 0 (by simp)
            have y1 := BR.out.froz 1 (by simp)
            have y2 := BR.out.froz 2 (by simp)
            have y3 := BR.out.froz 3 (by simp)
            have y4 := BR.out.froz 4 (by simp)
            have lB := BP.out.lt
            have lR := BR.out.lt
            have hRB := S.out.RB
            go_wp2_with fail
            refine bodyPost_ret (v := .agg #[.string ⟨kl.toArray⟩, .bool true, .bool false, (.slice none 0 0), .int .i64 cnt]) (by simp [results, Try.results112, go_sem, cell_set_at, cell_set_ne, r0, r1, r2, r3, r4]) rfl ?_
            exact DSt.fin (d := ⟨kl, true, false, [], cnt⟩) S.out ⟨hkl.out, by simp, by simp, show I64 cnt from ⟨by omega, by omega⟩⟩ _ _ _ _ _
          case true =>
            go_wp2_with fail
            refine (l1Below_any b v l _ _ S.out.cur (by omega) (by omega)).mono ?_
            rintro e w1 ⟨k, rfl, ⟨k0, k1, k2⟩, hg, hC⟩
            have k3 := k2 (by omega)
            have hk9 : IntKind.i64.wrap (999 - k) = 999 - k := by rw [IntKind.wrap_i64]; omega
            have S := Lib.hid (S.out.draw hg hC)
            clear hg hC k1 k2
            have BP := Lib.hid S.out.box
            have BR := Lib.hid S.out.res
            have p0 := BP.out.cell 0 (by simp)
            have p1 := BP.out.cell 1 (by simp)
            have p2 := BP.out.cell 2 (by simp)
            have p3 := BP.out.cell 3 (by simp)
            have p4 := BP.out.cell 4 (by simp)
            simp only [List.getElem_cons_zero, List.getElem_cons_succ] at p0 p1 p2 p3 p4
            have x0 := BP.out.froz 0 (by simp)
            have x1 := BP.out.froz 1 (by simp)
            have x2 := BP.out.froz 2 (by simp)
            have x3 := BP.out.froz 3 (by simp)
            have x4 := BP.out.froz 4 (by simp)
            have r0 := BR.out.cell 0 (by simp)
            have r1 := BR.out.cell 1 (by simp)
            have r2 := BR.out.cell 2 (by simp)
            have r3 := BR.out.cell 3 (by simp)
            have r4 := BR.out.cell 4 (by simp)
            simp only [List.getElem_cons_zero, List.getElem_cons_succ] at r0 r1 r2 r3 r4
            have y0 := BR.out.froz 0 (by simp)
            have y1 := BR.out.froz 1 (by simp)
            have y2 := BR.out.froz 2 (by simp)
            have y3 := BR.out.froz 3 (by simp)
            have y4 := BR.out.froz 4 (by simp)
            have lB := BP.out.lt
            have lR := BR.out.lt
            have hRB := S.out.RB
            have S9 := Lib.hid (DSt.set (d' := ⟨kl, true, false, [], 999 - k⟩) S.out 4 (by decide) (.int .i64 (999 - k)) rfl rfl)
            go_wp2_with fail
            refine bodyPost_ret (v := .agg #[.string ⟨kl.toArray⟩, .bool true, .bool false, (.slice none 0 0), .int .i64 (999 - k)]) (by simp [results, Try.results112, go_sem, cell_set_at, cell_set_ne, r0, r1, r2, r3, r4]) rfl ?_
            exact DSt.fin (d := ⟨kl, true, false, [], 999 - k⟩) S9.out ⟨hkl.out, by simp, by simp, show I64 (999 - k) from ⟨by omega, by omega⟩⟩ _ _ _ _ _
        case true =>
          go_wp2_with fail
          have hsz := S.out.box.lt
          have hRB0 := S.out.RB
          refine (l3Cells_any b v l _ S.out.cur).mono ?_
          rintro e w1 ⟨u, y, rfl, ho, hsm, hg, hC⟩
          have HSM := Lib.hid hsm
          obtain ⟨ua, uc, rfl⟩ := slice_of ho
          have n1 : (Value.slice ua y.length uc).ownBlock ≠ some w3.heap.size := fun e => by have := (World.ownsRow.lt ho _ e).1; omega
          have n2 : (Value.slice ua y.length uc).ownBlock ≠ some w.heap.size := fun e => by have := (World.ownsRow.lt ho _ e).1; omega
          have hgs := S.out.grown.size
          have S1 := Lib.hid (S.out.draw hg hC)
          have S := Lib.hid (S1.out.setC _ y (ownsF_base ho hgs) n1 n2)
          have BP1 := Lib.hid S1.out.box
          have p0 := BP1.out.cell 0 (by simp)
          have p1 := BP1.out.cell 1 (by simp)
          have p2 := BP1.out.cell 2 (by simp)
          have p3 := BP1.out.cell 3 (by simp)
          have p4 := BP1.out.cell 4 (by simp)
          simp only [List.getElem_cons_zero, List.getElem_cons_succ] at p0 p1 p2 p3 p4
          have x0 := BP1.out.froz 0 (by simp)
          have x1 := BP1.out.froz 1 (by simp)
          have x2 := BP1.out.froz 2 (by simp)
          have x3 := BP1.out.froz 3 (by simp)
          have x4 := BP1.out.froz 4 (by simp)
          have lB := BP1.out.lt
          clear ho hsm hg hC hsz hRB0 n1 n2 hgs
          go_wp2_with fail
          clear p0 p1 p2 p3 p4 x0 x1 x2 x3 x4 lB BP1 S1
          refine (l1Once_any b v l _ _ S.out.cur (by omega) (by omega)).mono ?_
          rintro e w1 ⟨o, rfl, hg, hC⟩
          have S := Lib.hid (S.out.draw hg hC)
          clear hg hC
          cases o
          case false =>
            have BP := Lib.hid S.out.box
            have BR := Lib.hid S.out.res
            have p0 := BP.out.cell 0 (by simp)
            have p1 := BP.out.cell 1 (by simp)
            have p2 := BP.out.cell 2 (by simp)
            have p3 := BP.out.cell 3 (by simp)
            have p4 := BP.out.cell 4 (by simp)
            simp only [List.getElem_cons_zero, List.getElem_cons_succ] at p0 p1 p2 p3 p4
            have x0 := BP.out.froz 0 (by simp)
            have x1 := BP.out.froz 1 (by simp)
            have x2 := BP.out.froz 2 (by simp)
            have x3 := BP.out.froz 3 (by simp)
            have x4 := BP.out.froz 4 (by simp)
            have r0 := BR.out.cell 0 (by simp)
            have r1 := BR.out.cell 1 (by simp)
            have r2 := BR.out.cell 2 (by simp)
            have r3 := BR.out.cell 3 (by simp)
            have r4 := BR.out.cell 4 (by simp)
            simp only [List.getElem_cons_zero, List.getElem_cons_succ] at r0 r1 r2 r3 r4
            have y0 := BR.out.froz 0 (by simp)
            have y1 := BR.out.froz 1 (by simp)
            have y2 := BR.out.froz 2 (by simp)
            have y3 := BR.out.froz 3 (by simp)
            have y4 := BR.out.froz 4 (by simp)
            have lB := BP.out.lt
            have lR := BR.out.lt
            have hRB := S.out.RB
            go_wp2_with fail
            refine bodyPost_ret (v := .agg #[.string ⟨kl.toArray⟩, .bool true, .bool false, (.slice ua y.length uc), .int .i64 cnt]) (by simp [results, Try.results112, go_sem, cell_set_at, cell_set_ne, r0, r1, r2, r3, r4]) rfl ?_
            exact DSt.fin (d := ⟨kl, true, false, y, cnt⟩) S.out ⟨hkl.out, HSM.out.1, HSM.out.2, show I64 cnt from ⟨by omega, by omega⟩⟩ _ _ _ _ _
          case true =>
            go_wp2_with fail
            refine (l1Below_any b v l _ _ S.out.cur (by omega) (by omega)).mono ?_
            rintro e w1 ⟨k, rfl, ⟨k0, k1, k2⟩, hg, hC⟩
            have k3 := k2 (by omega)
            have hk9 : IntKind.i64.wrap (999 - k) = 999 - k := by rw [IntKind.wrap_i64]; omega
            have S := Lib.hid (S.out.draw hg hC)
            clear hg hC k1 k2
            have BP := Lib.hid S.out.box
            have BR := Lib.hid S.out.res
            have p0 := BP.out.cell 0 (by simp)
            have p1 := BP.out.cell 1 (by simp)
            have p2 := BP.out.cell 2 (by simp)
            have p3 := BP.out.cell 3 (by simp)
            have p4 := BP.out.cell 4 (by simp)
            simp only [List.getElem_cons_zero, List.getElem_cons_succ] at p0 p1 p2 p3 p4
            have x0 := BP.out.froz 0 (by simp)
            have x1 := BP.out.froz 1 (by simp)
            have x2 := BP.out.froz 2 (by simp)
            have x3 := BP.out.froz 3 (by simp)
            have x4 := BP.out.froz 4 (by simp)
            have r0 := BR.out.cell 0 (by simp)
            have r1 := BR.out.cell 1 (by simp)
            have r2 := BR.out.cell 2 (by simp)
            have r3 := BR.out.cell 3 (by simp)
            have r4 := BR.out.cell 4 (by simp)
            simp only [List.getElem_cons_zero, List.getElem_cons_succ] at r0 r1 r2 r3 r4
            have y0 := BR.out.froz 0 (by simp)
            have y1 := BR.out.froz 1 (by simp)
            have y2 := BR.out.froz 2 (by simp)
            have y3 := BR.out.froz 3 (by simp)
            have y4 := BR.out.froz 4 (by simp)
            have lB := BP.out.lt
            have lR := BR.out.lt
            have hRB := S.out.RB
            have S9 := Lib.hid (DSt.set (d' := ⟨kl, true, false, y, 999 - k⟩) S.out 4 (by decide) (.int .i64 (999 - k)) rfl rfl)
            go_wp2_with fail
            refine bodyPost_ret (v := .agg #[.string ⟨kl.toArray⟩, .bool true, .bool false, (.slice ua y.length uc), .int .i64 (999 - k)]) (by simp [results, Try.results112, go_sem, cell_set_at, cell_set_ne, r0, r1, r2, r3, r4]) rfl ?_
            exact DSt.fin (d := ⟨kl, true, false, y, 999 - k⟩) S9.out ⟨hkl.out, HSM.out.1, HSM.out.2, show I64 (999 - k) from ⟨by omega, by omega⟩⟩ _ _ _ _ _
      · skip
        have hdn : decide (0 < n) = false := by simpa using hn
        have S1 := Lib.hid (DSt.set (d' := ⟨kl, false, false, [], cnt⟩) S0.out 1 (by decide) (.bool false) rfl rfl)
        have BP := Lib.hid S0.out.box
        have p0 := BP.out.cell 0 (by simp)
        have p1 := BP.out.cell 1 (by simp)
        have p2 := BP.out.cell 2 (by simp)
        have p3 := BP.out.cell 3 (by simp)
        have p4 := BP.out.cell 4 (by simp)
        simp only [List.getElem_cons_zero, List.getElem_cons_succ] at p0 p1 p2 p3 p4
        have x0 := BP.out.froz 0 (by simp)
        have x1 := BP.out.froz 1 (by simp)
        have x2 := BP.out.froz 2 (by simp)
        have x3 := BP.out.froz 3 (by simp)
        have x4 := BP.out.froz 4 (by simp)
        have lB := BP.out.lt
        go_wp2_with fail
        refine (l1Once_any b v l _ _ S1.out.cur (by omega) (by omega)).mono ?_
        rintro e w6 ⟨o, rfl, hg, hC⟩
        have S2 := Lib.hid (S1.out.draw hg hC)
        have S := Lib.hid (DSt.set (d' := ⟨kl, false, o, [], cnt⟩) S2.out 2 (by decide) (.bool o) rfl rfl)
        clear hg hC BP p0 p1 p2 p3 p4 x0 x1 x2 x3 x4 lB
        have BP := Lib.hid S2.out.box
        have p0 := BP.out.cell 0 (by simp)
        have p1 := BP.out.cell 1 (by simp)
        have p2 := BP.out.cell 2 (by simp)
        have p3 := BP.out.cell 3 (by simp)
        have p4 := BP.out.cell 4 (by simp)
        simp only [List.getElem_cons_zero, List.getElem_cons_succ] at p0 p1 p2 p3 p4
        have x0 := BP.out.froz 0 (by simp)
        have x1 := BP.out.froz 1 (by simp)
        have x2 := BP.out.froz 2 (by simp)
        have x3 := BP.out.froz 3 (by simp)
        have x4 := BP.out.froz 4 (by simp)
        have lB := BP.out.lt
        go_wp2_with fail
        clear S0 S1 S2 BP p0 p1 p2 p3 p4 x0 x1 x2 x3 x4 lB
        refine (HH1.out _).mono ?_
        rintro e w' ⟨rfl, rfl⟩
        cases h1
        case false =>
          go_wp2_with fail
          refine (l1Once_any b v l _ _ S.out.cur (by omega) (by omega)).mono ?_
          rintro e w1 ⟨o, rfl, hg, hC⟩
          have S := Lib.hid (S.out.draw hg hC)
          clear hg hC
          cases o
          case false =>
            have BP := Lib.hid S.out.box
            have BR := Lib.hid S.out.res
            have p0 := BP.out.cell 0 (by simp)
            have p1 := BP.out.cell 1 (by simp)
            have p2 := BP.out.cell 2 (by simp)
            have p3 := BP.out.cell 3 (by simp)
            have p4 := BP.out.cell 4 (by simp)
            simp only [List.getElem_cons_zero, List.getElem_cons_succ] at p0 p1 p2 p3 p4
            have x0 := BP.out.froz 0 (by simp)
            have x1 := BP.out.froz 1 (by simp)
            have x2 := BP.out.froz 2 (by simp)
            have x3 := BP.out.froz 3 (by simp)
            have x4 := BP.out.froz 4 (by simp)
            have r0 := BR.out.cell 0 (by simp)
            have r1 := BR.out.cell 1 (by simp)
            have r2 := BR.out.cell 2 (by simp)
            have r3 := BR.out.cell 3 (by simp)
            have r4 := BR.out.cell 4 (by simp)
            simp only [List.getElem_cons_zero, List.getElem_cons_succ] at r0 r1 r2 r3 r4
            have y0 := BR.out.froz 0 (by simp)
            have y1 := BR.out.froz 1 (by simp)
            have y2 := BR.out.froz 2 (by simp)
            have y3 := BR.out.froz 3 (by simp)
            have y4 := BR.out.froz 4 (by simp)
            have lB := BP.out.lt
            have lR := BR.out.lt
            have hRB := S.out.RB
            go_wp2_with fail
            refine bodyPost_ret (v := .agg #[.string ⟨kl.toArray⟩, .bool false, .bool o, (.slice none 0 0), .int .i64 cnt]) (by simp [results, Try.results112, go_sem, cell_set_at, cell_set_ne, r0, r1, r2, r3, r4]) rfl ?_
            exact DSt.fin (d := ⟨kl, false, o, [], cnt⟩) S.out ⟨hkl.out, by simp, by simp, show I64 cnt from ⟨by omega, by omega⟩⟩ _ _ _ _ _
          case true =>
            go_wp2_with fail
            refine (l1Below_any b v l _ _ S.out.cur (by omega) (by omega)).mono ?_
            rintro e w1 ⟨k, rfl, ⟨k0, k1, k2⟩, hg, hC⟩
            have k3 := k2 (by omega)
            have hk9 : IntKind.i64.wrap (999 - k) = 999 - k := by rw [IntKind.wrap_i64]; omega
            have S := Lib.hid (S.out.draw hg hC)
            clear hg hC k1 k2
            have BP := Lib.hid S.out.box
            have BR := Lib.hid S.out.res
            have p0 := BP.out.cell 0 (by simp)
            have p1 := BP.out.cell 1 (by simp)
            have p2 := BP.out.cell 2 (by simp)
            have p3 := BP.out.cell 3 (by simp)
            have p4 := BP.out.cell 4 (by simp)
            simp only [List.getElem_cons_zero, List.getElem_cons_succ] at p0 p1 p2 p3 p4
            have x0 := BP.out.froz 0 (by simp)
            have x1 := BP.out.froz 1 (by simp)
            have x2 := BP.out.froz 2 (by simp)
            have x3 := BP.out.froz 3 (by simp)
            have x4 := BP.out.froz 4 (by simp)
            have r0 := BR.out.cell 0 (by simp)
            have r1 := BR.out.cell 1 (by simp)
            have r2 := BR.out.cell 2 (by simp)
            have r3 := BR.out.cell 3 (by simp)
            have r4 := BR.out.cell 4 (by simp)
            simp only [List.getElem_cons_zero, List.getElem_cons_succ] at r0 r1 r2 r3 r4
            have y0 := BR.out.froz 0 (by simp)
            have y1 := BR.out.froz 1 (by simp)
            have y2 := BR.out.froz 2 (by simp)
            have y3 := BR.out.froz 3 (by simp)
            have y4 := BR.out.froz 4 (by simp)
            have lB := BP.out.lt
            have lR := BR.out.lt
            have hRB := S.out.RB
            have S9 := Lib.hid (DSt.set (d' := ⟨kl, false, o, [], 999 - k⟩) S.out 4 (by decide) (.int .i64 (999 - k)) rfl rfl)
            go_wp2_with fail
            refine bodyPost_ret (v := .agg #[.string ⟨kl.toArray⟩, .bool false, .bool o, (.slice none 0 0), .int .i64 (999 - k)]) (by simp [results, Try.results112, go_sem, cell_set_at, cell_set_ne, r0, r1, r2, r3, r4]) rfl ?_
            exact DSt.fin (d := ⟨kl, false, o, [], 999 - k⟩) S9.out ⟨hkl.out, by simp, by simp, show I64 (999 - k) from ⟨by omega, by omega⟩⟩ _ _ _ _ _
        case true =>
          go_wp2_with fail
          have hsz := S.out.box.lt
          have hRB0 := S.out.RB
          refine (l3Cells_any b v l _ S.out.cur).mono ?_
          rintro e w1 ⟨u, y, rfl, ho, hsm, hg, hC⟩
          have HSM := Lib.hid hsm
          obtain ⟨ua, uc, rfl⟩ := slice_of ho
          have n1 : (Value.slice ua y.length uc).ownBlock ≠ some w3.heap.size := fun e => by have := (World.ownsRow.lt ho _ e).1; omega
          have n2 : (Value.slice ua y.length uc).ownBlock ≠ some w.heap.size := fun e => by have := (World.ownsRow.lt ho _ e).1; omega
          have hgs := S.out.grown.size
          have S1 := Lib.hid (S.out.draw hg hC)
          have S := Lib.hid (S1.out.setC _ y (ownsF_base ho hgs) n1 n2)
          have BP1 := Lib.hid S1.out.box
          have p0 := BP1.out.cell 0 (by simp)
          have p1 := BP1.out.cell 1 (by simp)
          have p2 := BP1.out.cell 2 (by simp)
          have p3 := BP1.out.cell 3 (by simp)
          have p4 := BP1.out.cell 4 (by simp)
          simp only [List.getElem_cons_zero, List.getElem_cons_succ] at p0 p1 p2 p3 p4
          have x0 := BP1.out.froz 0 (by simp)
          have x1 := BP1.out.froz 1 (by simp)
          have x2 := BP1.out.froz 2 (by simp)
          have x3 := BP1.out.froz 3 (by simp)
          have x4 := BP1.out.froz 4 (by simp)
          have lB := BP1.out.lt
          clear ho hsm hg hC hsz hRB0 n1 n2 hgs
          go_wp2_with fail
          clear p0 p1 p2 p3 p4 x0 x1 x2 x3 x4 lB BP1 S1
          refine (l1Once_any b v l _ _ S.out.cur (by omega) (by omega)).mono ?_
          rintro e w1 ⟨o, rfl, hg, hC⟩
          have S := Lib.hid (S.out.draw hg hC)
          clear hg hC
          cases o
          case false =>
            have BP := Lib.hid S.out.box
            have BR := Lib.hid S.out.res
            have p0 := BP.out.cell 0 (by simp)
            have p1 := BP.out.cell 1 (by simp)
            have p2 := BP.out.cell 2 (by simp)
            have p3 := BP.out.cell 3 (by simp)
            have p4 := BP.out.cell 4 (by simp)
            simp only [List.getElem_cons_zero, List.getElem_cons_succ] at p0 p1 p2 p3 p4
            have x0 := BP.out.froz 0 (by simp)
            have x1 := BP.out.froz 1 (by simp)
            have x2 := BP.out.froz 2 (by simp)
            have x3 := BP.out.froz 3 (by simp)
            have x4 := BP.out.froz 4 (by simp)
            have r0 := BR.out.cell 0 (by simp)
            have r1 := BR.out.cell 1 (by simp)
            have r2 := BR.out.cell 2 (by simp)
            have r3 := BR.out.cell 3 (by simp)
            have r4 := BR.out.cell 4 (by simp)
            simp only [List.getElem_cons_zero, List.getElem_cons_succ] at r0 r1 r2 r3 r4
            have y0 := BR.out.froz 0 (by simp)
            have y1 := BR.out.froz 1 (by simp)
            have y2 := BR.out.froz 2 (by simp)
            have y3 := BR.out.froz 3 (by simp)
            have y4 := BR.out.froz 4 (by simp)
            have lB := BP.out.lt
            have lR := BR.out.lt
            have hRB := S.out.RB
            go_wp2_with fail
            refine bodyPost_ret (v := .agg #[.string ⟨kl.toArray⟩, .bool false, .bool o, (.slice ua y.length uc), .int .i64 cnt]) (by simp [results, Try.results112, go_sem, cell_set_at, cell_set_ne, r0, r1, r2, r3, r4]) rfl ?_
            exact DSt.fin (d := ⟨kl, false, o, y, cnt⟩) S.out ⟨hkl.out, HSM.out.1, HSM.out.2, show I64 cnt from ⟨by omega, by omega⟩⟩ _ _ _ _ _
          case true =>
            go_wp2_with fail
            refine (l1Below_any b v l _ _ S.out.cur (by omega) (by omega)).mono ?_
            rintro e w1 ⟨k, rfl, ⟨k0, k1, k2⟩, hg, hC⟩
            have k3 := k2 (by omega)
            have hk9 : IntKind.i64.wrap (999 - k) = 999 - k := by rw [IntKind.wrap_i64]; omega
            have S := Lib.hid (S.out.draw hg hC)
            clear hg hC k1 k2
            have BP := Lib.hid S.out.box
            have BR := Lib.hid S.out.res
            have p0 := BP.out.cell 0 (by simp)
            have p1 := BP.out.cell 1 (by simp)
            have p2 := BP.out.cell 2 (by simp)
            have p3 := BP.out.cell 3 (by simp)
            have p4 := BP.out.cell 4 (by simp)
            simp only [List.getElem_cons_zero, List.getElem_cons_succ] at p0 p1 p2 p3 p4
            have x0 := BP.out.froz 0 (by simp)
            have x1 := BP.out.froz 1 (by simp)
            have x2 := BP.out.froz 2 (by simp)
            have x3 := BP.out.froz 3 (by simp)
            have x4 := BP.out.froz 4 (by simp)
            have r0 := BR.out.cell 0 (by simp)
            have r1 := BR.out.cell 1 (by simp)
            have r2 := BR.out.cell 2 (by simp)
            have r3 := BR.out.cell 3 (by simp)
            have r4 := BR.out.cell 4 (by simp)
            simp only [List.getElem_cons_zero, List.getElem_cons_succ] at r0 r1 r2 r3 r4
            have y0 := BR.out.froz 0 (by simp)
            have y1 := BR.out.froz 1 (by simp)
            have y2 := BR.out.froz 2 (by simp)
            have y3 := BR.out.froz 3 (by simp)
            have y4 := BR.out.froz 4 (by simp)
            have lB := BP.out.lt
            have lR := BR.out.lt
            have hRB := S.out.RB
            have S9 := Lib.hid (DSt.set (d' := ⟨kl, false, o, y, 999 - k⟩) S.out 4 (by decide) (.int .i64 (999 - k)) rfl rfl)
            go_wp2_with fail
            refine bodyPost_ret (v := .agg #[.string ⟨kl.toArray⟩, .bool false, .bool o, (.slice ua y.length uc), .int .i64 (999 - k)]) (by simp [results, Try.results112, go_sem, cell_set_at, cell_set_ne, r0, r1, r2, r3, r4]) rfl ?_
            exact DSt.fin (d := ⟨kl, false, o, y, 999 - k⟩) S9.out ⟨hkl.out, HSM.out.1, HSM.out.2, show I64 (999 - k) from ⟨by omega, by omega⟩⟩ _ _ _ _ _
end Go.Proofs.Ytaihdjdaamglnaa
/- The draws of chapter 3: cores that may be none. Written by gen/ch3dr.py. -/
namespace Go.Proofs.Ytaihdjdaamglnaa
set_option linter.unusedVariables false
set_option linter.unusedSimpArgs false
open Go.RowKit
set_option maxRecDepth 100000 in
set_option maxHeartbeats 6400000 in
theorem l3Any_any (b : Nat) (v : Value) (l : List UInt8) (w : World) (hC : Cur w b v l) :
    Calls Try.prog 78 #[.pointer (some ⟨b, 0, none⟩)] w fun e w' => DrawnCore 7 b v l w e w' := by
  have hbl := hC.lt
  have HC0 := Lib.hid (cur_alloc hC (.cells #[.string ⟨#[]⟩, .bool false, .bool false, .slice none 0 0, .int .i64 0] 26))
  have BR0 := Lib.hid (Bx.new w zCoreV 26)
  have HG0 := Lib.hid (grown_alloc (grown_refl w (some b)) (.cells #[.string ⟨#[]⟩, .bool false, .bool false, .slice none 0 0, .int .i64 0] 26))
  clear hC
  go_enter Try.func78, Try.ntmps78
  go_wp2_with fail
  refine (l3Draw_any b v l _ HC0.out).mono ?_
  rintro e w1 ⟨⟨kd, on, br, y, cnt⟩, cv, rfl, ho, hok, hg, hC⟩
  have HOK := Lib.hid hok
  skip
  have hwl : w.heap.size < w1.heap.size := Nat.lt_of_lt_of_le BR0.out.lt hg.size
  obtain ⟨ua, uc, rfl⟩ := slice_of ho
  have ho1 : OwnsF cCell 134 2 w1 (w.heap.size + 1) (.slice ua y.length uc) y := by simpa using ho
  have S := Lib.hid (show DSt w b v l w.heap.size w1.heap.size ⟨kd, on, br, y, cnt⟩ (.slice ua y.length uc) (w1.alloc (.cells #[.string ⟨kd.toArray⟩, .bool on, .bool br, .slice ua y.length uc, .int .i64 cnt] 26)) from ⟨grown_alloc (grown_trans HG0.out hg) _, cur_alloc hC _, (bx_grownC BR0.out hg (by omega)).alloc _, Bx.new w1 (cCoreV ⟨kd, on, br, y, cnt⟩ (.slice ua y.length uc)) 26, ownsF_alloc (ownsF_base ho1 (by omega)) _, hbl, Nat.le_refl _, hwl, fun e => by have := (World.ownsRow.lt ho1 _ e).2; omega, fun e => by have := (World.ownsRow.lt ho1 _ e).1; omega⟩)
  clear ho ho1 hok hg hC HC0 BR0 HG0
  unfold vCore
  simp only
  go_wp2_with fail
  generalize w1.alloc (.cells #[.string ⟨kd.toArray⟩, .bool on, .bool br, .slice ua y.length uc, .int .i64 cnt] 26) = w2 at *
  refine (l1Below_any b v l _ _ S.out.cur (by omega) (by omega)).mono ?_
  rintro e w3 ⟨k, rfl, ⟨k0, k1, k2⟩, hg, hC⟩
  have S := Lib.hid (S.out.draw hg hC)
  clear hg hC k1 k2
  by_cases e0 : k = 0
  · subst e0
    go_wp2_with fail
    refine (l1Str_new b v l _ _ _ _ _ 9 S.out.cur (by rfl) (by decide) (by decide) (by decide)).mono ?_
    rintro e w4 ⟨z, rfl, hz, hg, hC⟩
    obtain ⟨⟨zl⟩⟩ := z
    have hzl : zl.length ≤ 9 := hz
    have S := Lib.hid (S.out.draw hg hC)
    clear hg hC hz
    have BP := Lib.hid S.out.box
    have BR := Lib.hid S.out.res
    have p0 := BP.out.cell 0 (by simp)
    have p1 := BP.out.cell 1 (by simp)
    have p2 := BP.out.cell 2 (by simp)
    have p3 := BP.out.cell 3 (by simp)
    have p4 := BP.out.cell 4 (by simp)
    simp only [List.getElem_cons_zero, List.getElem_cons_succ] at p0 p1 p2 p3 p4
    have x0 := BP.out.froz 0 (by simp)
    have x1 := BP.out.froz 1 (by simp)
    have x2 := BP.out.froz 2 (by simp)
    have x3 := BP.out.froz 3 (by simp)
    have x4 := BP.out.froz 4 (by simp)
    have r0 := BR.out.cell 0 (by simp)
    have r1 := BR.out.cell 1 (by simp)
    have r2 := BR.out.cell 2 (by simp)
    have r3 := BR.out.cell 3 (by simp)
    have r4 := BR.out.cell 4 (by simp)
    simp only [List.getElem_cons_zero, List.getElem_cons_succ] at r0 r1 r2 r3 r4
    have y0 := BR.out.froz 0 (by simp)
    have y1 := BR.out.froz 1 (by simp)
    have y2 := BR.out.froz 2 (by simp)
    have y3 := BR.out.froz 3 (by simp)
    have y4 := BR.out.froz 4 (by simp)
    have lB := BP.out.lt
    have lR := BR.out.lt
    have hRB := S.out.RB
    have S9 := Lib.hid (DSt.set (d' := ⟨zl, on, br, y, cnt⟩) S.out 0 (by decide) (.string ⟨zl.toArray⟩) rfl rfl)
    go_wp2_with fail
    refine bodyPost_ret (v := .agg #[.string ⟨zl.toArray⟩, .bool on, .bool br, (.slice ua y.length uc), .int .i64 cnt]) (by simp [results, Try.results78, go_sem, cell_set_at, cell_set_ne, r0, r1, r2, r3, r4]) rfl ?_
    exact DSt.fin (d := ⟨zl, on, br, y, cnt⟩) S9.out ⟨hzl, Nat.le_succ_of_le HOK.out.2.1, HOK.out.2.2.1, HOK.out.2.2.2⟩ _ _ _ _ _
  have E0 : (k == 0) = false := by simpa using e0
  by_cases e1 : k = 1
  · subst e1
    have BP := Lib.hid S.out.box
    have BR := Lib.hid S.out.res
    have p0 := BP.out.cell 0 (by simp)
    have p1 := BP.out.cell 1 (by simp)
    have p2 := BP.out.cell 2 (by simp)
    have p3 := BP.out.cell 3 (by simp)
    have p4 := BP.out.cell 4 (by simp)
    simp only [List.getElem_cons_zero, List.getElem_cons_succ] at p0 p1 p2 p3 p4
    have x0 := BP.out.froz 0 (by simp)
    have x1 := BP.out.froz 1 (by simp)
    have x2 := BP.out.froz 2 (by simp)
    have x3 := BP.out.froz 3 (by simp)
    have x4 := BP.out.froz 4 (by simp)
    have r0 := BR.out.cell 0 (by simp)
    have r1 := BR.out.cell 1 (by simp)
    have r2 := BR.out.cell 2 (by simp)
    have r3 := BR.out.cell 3 (by simp)
    have r4 := BR.out.cell 4 (by simp)
    simp only [List.getElem_cons_zero, List.getElem_cons_succ] at r0 r1 r2 r3 r4
    have y0 := BR.out.froz 0 (by simp)
    have y1 := BR.out.froz 1 (by simp)
    have y2 := BR.out.froz 2 (by simp)
    have y3 := BR.out.froz 3 (by simp)
    have y4 := BR.out.froz 4 (by simp)
    have lB := BP.out.lt
    have lR := BR.out.lt
    have hRB := S.out.RB
    have S9 := Lib.hid (DSt.set (d' := ⟨kd, true, br, y, cnt⟩) S.out 1 (by decide) (.bool true) rfl rfl)
    go_wp2_with fail
    refine bodyPost_ret (v := .agg #[.string ⟨kd.toArray⟩, .bool true, .bool br, (.slice ua y.length uc), .int .i64 cnt]) (by simp [results, Try.results78, go_sem, cell_set_at, cell_set_ne, r0, r1, r2, r3, r4]) rfl ?_
    exact DSt.fin (d := ⟨kd, true, br, y, cnt⟩) S9.out ⟨HOK.out.1, Nat.le_succ_of_le HOK.out.2.1, HOK.out.2.2.1, HOK.out.2.2.2⟩ _ _ _ _ _
  have E1 : (k == 1) = false := by simpa using e1
  by_cases e2 : k = 2
  · subst e2
    have BP := Lib.hid S.out.box
    have BR := Lib.hid S.out.res
    have p0 := BP.out.cell 0 (by simp)
    have p1 := BP.out.cell 1 (by simp)
    have p2 := BP.out.cell 2 (by simp)
    have p3 := BP.out.cell 3 (by simp)
    have p4 := BP.out.cell 4 (by simp)
    simp only [List.getElem_cons_zero, List.getElem_cons_succ] at p0 p1 p2 p3 p4
    have x0 := BP.out.froz 0 (by simp)
    have x1 := BP.out.froz 1 (by simp)
    have x2 := BP.out.froz 2 (by simp)
    have x3 := BP.out.froz 3 (by simp)
    have x4 := BP.out.froz 4 (by simp)
    have r0 := BR.out.cell 0 (by simp)
    have r1 := BR.out.cell 1 (by simp)
    have r2 := BR.out.cell 2 (by simp)
    have r3 := BR.out.cell 3 (by simp)
    have r4 := BR.out.cell 4 (by simp)
    simp only [List.getElem_cons_zero, List.getElem_cons_succ] at r0 r1 r2 r3 r4
    have y0 := BR.out.froz 0 (by simp)
    have y1 := BR.out.froz 1 (by simp)
    have y2 := BR.out.froz 2 (by simp)
    have y3 := BR.out.froz 3 (by simp)
    have y4 := BR.out.froz 4 (by simp)
    have lB := BP.out.lt
    have lR := BR.out.lt
    have hRB := S.out.RB
    have S9 := Lib.hid (DSt.set (d' := ⟨kd, on, true, y, cnt⟩) S.out 2 (by decide) (.bool true) rfl rfl)
    go_wp2_with fail
    refine bodyPost_ret (v := .agg #[.string ⟨kd.toArray⟩, .bool on, .bool true, (.slice ua y.length uc), .int .i64 cnt]) (by simp [results, Try.results78, go_sem, cell_set_at, cell_set_ne, r0, r1, r2, r3, r4]) rfl ?_
    exact DSt.fin (d := ⟨kd, on, true, y, cnt⟩) S9.out ⟨HOK.out.1, Nat.le_succ_of_le HOK.out.2.1, HOK.out.2.2.1, HOK.out.2.2.2⟩ _ _ _ _ _
  have E2 : (k == 2) = false := by simpa using e2
  by_cases e3 : k = 3
  · subst e3
    go_wp2_with fail
    have c3 := S.out.box.cell 3 (by simp)
    have S := Lib.hid S.out.drew
    refine region_T (S := fun w' => w'.cell? ⟨w1.heap.size, 3, none⟩ = some (.slice ua y.length uc)) (t := 10) (by kernel_rfl) ?_ (fun hHeld => ?_)
    · exact S.out.box.cell 3 (by simp)
    refine anyT_take (i := 0) (v := ?_) rfl (by kernel_rfl) (by kernel_rfl) (by kernel_rfl) (by kernel_rfl) (by kernel_rfl) (fun _ _ _ h => h) (Or.inl ⟨by rfl, ?_⟩) (by assumption) ?_
    rotate_left
    · intro w hSw; (try dsimp only at hSw); go_simp; with_reducible rfl
    try simp only [Act.put, List.getElem_toArray, List.getElem_cons_zero, List.getElem_cons_succ, List.setIfInBounds_toArray, List.set_cons_zero, List.set_cons_succ]
    refine anyT_take (i := 2) (v := ?_) rfl (by kernel_rfl) (by kernel_rfl) (by kernel_rfl) (by kernel_rfl) (by kernel_rfl) (fun _ _ _ h => h) (Or.inl ⟨by rfl, ?_⟩) (by assumption) ?_
    rotate_left
    · intro w hSw; (try dsimp only at hSw); go_simp; with_reducible rfl
    try simp only [Act.put, List.getElem_toArray, List.getElem_cons_zero, List.getElem_cons_succ, List.setIfInBounds_toArray, List.set_cons_zero, List.set_cons_succ]
    refine anyT_take (i := 4) (v := ?_) rfl (by kernel_rfl) (by kernel_rfl) (by kernel_rfl) (by kernel_rfl) (by kernel_rfl) (fun _ _ _ h => h) (Or.inl ⟨by rfl, ?_⟩) (by assumption) ?_
    rotate_left
    · intro w hSw; (try dsimp only at hSw); go_simp; with_reducible rfl
    try simp only [Act.put, List.getElem_toArray, List.getElem_cons_zero, List.getElem_cons_succ, List.setIfInBounds_toArray, List.set_cons_zero, List.set_cons_succ]
    refine anyT_take (i := 1) (v := ?_) rfl (by kernel_rfl) (by kernel_rfl) (by kernel_rfl) (by kernel_rfl) (by kernel_rfl) (fun _ _ _ h => h) (Or.inl ⟨by rfl, ?_⟩) (by assumption) ?_
    rotate_left
    · intro w hSw; (try dsimp only at hSw); go_simp; with_reducible rfl
    try simp only [Act.put, List.getElem_toArray, List.getElem_cons_zero, List.getElem_cons_succ, List.setIfInBounds_toArray, List.set_cons_zero, List.set_cons_succ]
    refine anyT_only (i := 3) (by kernel_rfl) rfl (fun K hK => ?_)
    go_simp
    go_at_call 114; refine (l1Word_any b v l _ S.out.cur).mono ?_; rintro e w5 ⟨z, rfl, hz, hg, hC⟩; obtain ⟨⟨zl⟩⟩ := z; have hzl : zl.length ≤ 9 := hz; have S := Lib.hid (S.out.draw hg hC); clear hg hC hz
    refine hK.out _ _ ?_ (fun hHeld => ?_)
    · exact S.out.box.cell 3 (by simp)
    clear hK K
    try simp only [Act.put, List.getElem_toArray, List.getElem_cons_zero, List.getElem_cons_succ, List.setIfInBounds_toArray, List.set_cons_zero, List.set_cons_succ]
    refine anyT_only (i := 5) (by kernel_rfl) rfl (fun K hK => ?_)
    go_simp
    go_at_call 79; refine (l1Odd_any b v l _ S.out.cur).mono ?_; rintro e w6 ⟨q, rfl, ⟨q0, q1⟩, hg, hC⟩; have S := Lib.hid (S.out.draw hg hC); clear hg hC
    refine hK.out _ _ ?_ (fun hHeld => ?_)
    · exact S.out.box.cell 3 (by simp)
    clear hK K
    try simp only [Act.put, List.getElem_toArray, List.getElem_cons_zero, List.getElem_cons_succ, List.setIfInBounds_toArray, List.set_cons_zero, List.set_cons_succ]
    refine anyT_take (i := 6) (v := ?_) rfl (by kernel_rfl) (by kernel_rfl) (by kernel_rfl) (by kernel_rfl) (by kernel_rfl) (fun _ _ _ h => h) (Or.inl ⟨by rfl, ?_⟩) (by assumption) ?_
    rotate_left
    · intro w hSw; (try dsimp only at hSw); go_simp; with_reducible rfl
    try simp only [Act.put, List.getElem_toArray, List.getElem_cons_zero, List.getElem_cons_succ, List.setIfInBounds_toArray, List.set_cons_zero, List.set_cons_succ]
    refine anyT_only (i := 7) (by kernel_rfl) rfl (fun K hK => ?_)
    go_simp
    have hba := bx_box w6 (.cells #[.string ⟨zl.toArray⟩, .int .i64 q] 134); have S7 := Lib.hid (S.out.below hba)
    refine hK.out _ _ ?_ (fun hHeld => ?_)
    · exact S7.out.box.cell 3 (by simp)
    clear hK K
    try simp only [Act.put, List.getElem_toArray, List.getElem_cons_zero, List.getElem_cons_succ, List.setIfInBounds_toArray, List.set_cons_zero, List.set_cons_succ]
    refine anyT_only (i := 8) (by kernel_rfl) rfl (fun K hK => ?_)
    refine step_cells rfl (.tmp 23) (.tmp 29) rfl w.heap.size (.slice ua y.length uc) y (⟨zl, q⟩ : CellD) _ w6.heap.size rfl S7.out.own rfl (cell_newC w6 (⟨zl, q⟩ : CellD) _ rfl) (by have := HOK.out.2.1; simp only at this; omega) S7.out.grown.size ?_
    intro u w8 ho hg
    obtain ⟨h1, h2, h3, h4⟩ := S7.out.app hg
    refine hK.out _ _ ?_ (fun hHeld => ?_)
    · exact h4.cell 3 (by simp)
    clear hK K
    try simp only [Act.put, List.getElem_toArray, List.getElem_cons_zero, List.getElem_cons_succ, List.setIfInBounds_toArray, List.set_cons_zero, List.set_cons_succ]
    have HOK2 := Lib.hid (show okDr 7 ⟨kd, on, br, y ++ [(⟨zl, q⟩ : CellD)], cnt⟩ from ⟨HOK.out.1, by have := HOK.out.2.1; simp only at this; simp; omega, fun c hc => by rcases List.mem_append.1 hc with hc | hc; exact HOK.out.2.2.1 c hc; rw [List.mem_singleton.1 hc]; exact ⟨hzl, q0, q1⟩, HOK.out.2.2.2⟩)
    have hpos : 0 < (y ++ [(⟨zl, q⟩ : CellD)]).length := by simp
    generalize y ++ [(⟨zl, q⟩ : CellD)] = yy at *
    obtain ⟨ub, ud, rfl⟩ := slice_of ho
    have hq1 := h4.cell 1 (by simp)
    have hq2 := h3.cell 1 (by simp)
    have n1 := row_not_bool ho hpos hq1
    have n2 := row_not_bool ho hpos hq2
    have S9 := Lib.hid (S7.out.setC2 h1 h2 h3 h4 _ _ ho n1 n2)
    have BP := Lib.hid h4
    have BR := Lib.hid h3
    clear h1 h2 h3 h4 ho hg hq1 hq2 n1 n2
    have p0 := BP.out.cell 0 (by simp)
    have p1 := BP.out.cell 1 (by simp)
    have p2 := BP.out.cell 2 (by simp)
    have p3 := BP.out.cell 3 (by simp)
    have p4 := BP.out.cell 4 (by simp)
    simp only [List.getElem_cons_zero, List.getElem_cons_succ] at p0 p1 p2 p3 p4
    have x0 := BP.out.froz 0 (by simp)
    have x1 := BP.out.froz 1 (by simp)
    have x2 := BP.out.froz 2 (by simp)
    have x3 := BP.out.froz 3 (by simp)
    have x4 := BP.out.froz 4 (by simp)
    have r0 := BR.out.cell 0 (by simp)
    have r1 := BR.out.cell 1 (by simp)
    have r2 := BR.out.cell 2 (by simp)
    have r3 := BR.out.cell 3 (by simp)
    have r4 := BR.out.cell 4 (by simp)
    simp only [List.getElem_cons_zero, List.getElem_cons_succ] at r0 r1 r2 r3 r4
    have y0 := BR.out.froz 0 (by simp)
    have y1 := BR.out.froz 1 (by simp)
    have y2 := BR.out.froz 2 (by simp)
    have y3 := BR.out.froz 3 (by simp)
    have y4 := BR.out.froz 4 (by simp)
    have lB := BP.out.lt
    have lR := BR.out.lt
    have hRB := S9.out.RB
    refine anyT_take (i := 9) (v := ?_) rfl (by kernel_rfl) (by kernel_rfl) (by kernel_rfl) (by kernel_rfl) (by kernel_rfl) (fun _ _ _ h => h) (Or.inl ⟨by rfl, ?_⟩) (by assumption) ?_
    rotate_left
    · intro w hSw; (try dsimp only at hSw); go_simp; with_reducible rfl
    try simp only [Act.put, List.getElem_toArray, List.getElem_cons_zero, List.getElem_cons_succ, List.setIfInBounds_toArray, List.set_cons_zero, List.set_cons_succ]
    refine anyT_tail (by kernel_rfl) rfl (fun K hK => ?_)
    go_simp
    refine hK.out _ _ ?_
    clear hK K
    try simp only [Act.put, List.getElem_toArray, List.getElem_cons_zero, List.getElem_cons_succ, List.setIfInBounds_toArray, List.set_cons_zero, List.set_cons_succ]
    refine anyT_done (by kernel_rfl) ?_ _
    go_wp2_with fail
    refine bodyPost_ret (v := .agg #[.string ⟨kd.toArray⟩, .bool on, .bool br, (.slice ub yy.length ud), .int .i64 cnt]) (by simp [results, Try.results78, go_sem, cell_set_at, cell_set_ne, r0, r1, r2, r3, r4]) rfl ?_
    exact DSt.fin (d := ⟨kd, on, br, yy, cnt⟩) S9.out HOK2.out _ _ _ _ _
  have E3 : (k == 3) = false := by simpa using e3
  by_cases e4 : k = 4
  · subst e4
    go_wp2_with fail
    refine (l1Odd_any b v l _ S.out.cur).mono ?_
    rintro e w4 ⟨z, rfl, ⟨z0, z1⟩, hg, hC⟩
    have S := Lib.hid (S.out.draw hg hC)
    clear hg hC
    have BP := Lib.hid S.out.box
    have BR := Lib.hid S.out.res
    have p0 := BP.out.cell 0 (by simp)
    have p1 := BP.out.cell 1 (by simp)
    have p2 := BP.out.cell 2 (by simp)
    have p3 := BP.out.cell 3 (by simp)
    have p4 := BP.out.cell 4 (by simp)
    simp only [List.getElem_cons_zero, List.getElem_cons_succ] at p0 p1 p2 p3 p4
    have x0 := BP.out.froz 0 (by simp)
    have x1 := BP.out.froz 1 (by simp)
    have x2 := BP.out.froz 2 (by simp)
    have x3 := BP.out.froz 3 (by simp)
    have x4 := BP.out.froz 4 (by simp)
    have r0 := BR.out.cell 0 (by simp)
    have r1 := BR.out.cell 1 (by simp)
    have r2 := BR.out.cell 2 (by simp)
    have r3 := BR.out.cell 3 (by simp)
    have r4 := BR.out.cell 4 (by simp)
    simp only [List.getElem_cons_zero, List.getElem_cons_succ] at r0 r1 r2 r3 r4
    have y0 := BR.out.froz 0 (by simp)
    have y1 := BR.out.froz 1 (by simp)
    have y2 := BR.out.froz 2 (by simp)
    have y3 := BR.out.froz 3 (by simp)
    have y4 := BR.out.froz 4 (by simp)
    have lB := BP.out.lt
    have lR := BR.out.lt
    have hRB := S.out.RB
    have S9 := Lib.hid (DSt.set (d' := ⟨kd, on, br, y, z⟩) S.out 4 (by decide) (.int .i64 z) rfl rfl)
    go_wp2_with fail
    refine bodyPost_ret (v := .agg #[.string ⟨kd.toArray⟩, .bool on, .bool br, (.slice ua y.length uc), .int .i64 z]) (by simp [results, Try.results78, go_sem, cell_set_at, cell_set_ne, r0, r1, r2, r3, r4]) rfl ?_
    exact DSt.fin (d := ⟨kd, on, br, y, z⟩) S9.out ⟨HOK.out.1, Nat.le_succ_of_le HOK.out.2.1, HOK.out.2.2.1, show I64 z from ⟨z0, z1⟩⟩ _ _ _ _ _
  have E4 : (k == 4) = false := by simpa using e4
  clear e0 e1 e2 e3 e4
  have BP := Lib.hid S.out.box
  have BR := Lib.hid S.out.res
  have p0 := BP.out.cell 0 (by simp)
  have p1 := BP.out.cell 1 (by simp)
  have p2 := BP.out.cell 2 (by simp)
  have p3 := BP.out.cell 3 (by simp)
  have p4 := BP.out.cell 4 (by simp)
  simp only [List.getElem_cons_zero, List.getElem_cons_succ] at p0 p1 p2 p3 p4
  have x0 := BP.out.froz 0 (by simp)
  have x1 := BP.out.froz 1 (by simp)
  have x2 := BP.out.froz 2 (by simp)
  have x3 := BP.out.froz 3 (by simp)
  have x4 := BP.out.froz 4 (by simp)
  have r0 := BR.out.cell 0 (by simp)
  have r1 := BR.out.cell 1 (by simp)
  have r2 := BR.out.cell 2 (by simp)
  have r3 := BR.out.cell 3 (by simp)
  have r4 := BR.out.cell 4 (by simp)
  simp only [List.getElem_cons_zero, List.getElem_cons_succ] at r0 r1 r2 r3 r4
  have y0 := BR.out.froz 0 (by simp)
  have y1 := BR.out.froz 1 (by simp)
  have y2 := BR.out.froz 2 (by simp)
  have y3 := BR.out.froz 3 (by simp)
  have y4 := BR.out.froz 4 (by simp)
  have lB := BP.out.lt
  have lR := BR.out.lt
  have hRB := S.out.RB
  go_wp2_with fail
  refine bodyPost_ret (v := .agg #[.string ⟨kd.toArray⟩, .bool on, .bool br, (.slice ua y.length uc), .int .i64 cnt]) (by simp [results, Try.results78, go_sem, cell_set_at, cell_set_ne, r0, r1, r2, r3, r4]) rfl ?_
  exact DSt.fin (d := ⟨kd, on, br, y, cnt⟩) S.out ⟨HOK.out.1, Nat.le_succ_of_le HOK.out.2.1, HOK.out.2.2.1, HOK.out.2.2.2⟩ _ _ _ _ _
end Go.Proofs.Ytaihdjdaamglnaa
namespace Go.Proofs.Ytaihdjdaamglnaa
set_option linter.unusedVariables false
open Go.RowKit
section
variable {w : World} {N b : Nat} {v : Value} {l : List UInt8} {bs : List (Nat × List Value)} {rs : List Held} {wx : World}
/-- a block that has come up beside -/
theorem Bag.join {B : Nat} {cs : List Value} (h : Bag w N b v l bs rs wx) (hx : Bx wx B cs) (hN : N ≤ B) (hb : B ≠ b) (hne : ∀ p ∈ bs, p.1 ≠ B) (hrs : ∀ r ∈ rs, ¬ r.own B) : Bag w N b v l ((B, cs) :: bs) rs wx := by
  refine ⟨h.os, h.tape, h.output, h.size, h.block, h.nw, h.code, h.cur, ?_, h.row, ?_, h.geR, ?_, ?_, h.rdis⟩
  · intro p hp
    rcases List.mem_cons.1 hp with rfl | hp
    · exact hx
    · exact h.box p hp
  · intro p hp
    rcases List.mem_cons.1 hp with rfl | hp
    · exact ⟨hN, hb⟩
    · exact h.geB p hp
  · intro p hp r hr
    rcases List.mem_cons.1 hp with rfl | hp
    · exact hrs r hr
    · exact h.sep p hp r hr
  · exact List.pairwise_cons.2 ⟨fun p hp e => hne p hp e.symm, h.dis⟩
/-- the second of two fields of an element of a row is stored -/
theorem Bag.elem2 {α : Type} {f : α → List Value} {E B g n cap : Nat} {x : List α} (h : Bag w N b v l bs rs wx) (i : Nat) (hi : rs[i]? = some (hRow f E 2 B (.slice (some ⟨g, 0, none⟩) n cap) x)) (hn : n = x.length) (hk : ∀ y, (f y).length = 2) (j : Nat) (hj : j < x.length) (z : α) (u : Value) (hz : f z = (f x[j]).set 1 u) :
    Bag w N b v l bs (rs.set i (hRow f E 2 B (.slice (some ⟨g, 0, none⟩) n cap) (x.set j z))) (wx.setCell ⟨g, j * 2 + 1, none⟩ u) := by
  subst hn
  obtain ⟨hlt, he⟩ := List.getElem?_eq_some_iff.1 hi
  have ho : OwnsF f E 2 wx B (.slice (some ⟨g, 0, none⟩) x.length cap) x := by
    have := h.row _ (List.getElem_mem hlt)
    rw [he] at this; exact this
  obtain ⟨h1, h2⟩ := World.ownsRow.stored ho (j * 2 + 1) u
  refine h.app i hi h2 ?_ (fun c _ hne => hne)
  unfold OwnsF
  rw [List.length_set]
  have e : (x.flatMap f).set (j * 2 + 1) u = (x.set j z).flatMap f := by
    refine List.ext_getElem? fun m => ?_
    have hm : m / 2 * 2 + m % 2 = m := by omega
    have hr : m % 2 < 2 := Nat.mod_lt _ (by decide)
    by_cases hq : m / 2 < x.length
    · have e1 := flat_get f 2 hk x (m / 2) hq (m % 2) hr
      have e2 := flat_get f 2 hk (x.set j z) (m / 2) (by simpa using hq) (m % 2) hr
      rw [hm] at e1 e2
      rw [e2, List.getElem?_set]
      by_cases hjm : j * 2 + 1 = m
      · subst hjm
        have hjj : (j * 2 + 1) / 2 = j := by omega
        have hjr : (j * 2 + 1) % 2 = 1 := by omega
        have hlen := flat_len f 2 hk x
        simp only [hjj, hjr, List.getElem_set_self, if_true]
        rw [if_pos (by rw [hlen]; omega), hz, List.getElem?_set]
        simp [hk]
      · rw [if_neg hjm, e1, List.getElem_set]
        split
        · rename_i hjq
          have hmr : m % 2 = 0 := by omega
          rw [hz, hmr, List.getElem?_set_ne (by decide)]
          subst hjq; rfl
        · rfl
    · have hlen := flat_len f 2 hk x
      have hlen2 := flat_len f 2 hk (x.set j z)
      rw [List.getElem?_eq_none (by rw [List.length_set, hlen]; omega), List.getElem?_eq_none (by rw [hlen2, List.length_set]; omega)]
  rw [← e]; exact h1
/-- six cells of a variable are stored, one behind the other -/
theorem Bag.put6 {B : Nat} {c0 c1 c2 c3 c4 c5 : Value} (h : Bag w N b v l bs rs wx) (i : Nat) (hi : bs[i]? = some (B, [c0, c1, c2, c3, c4, c5])) (u0 u1 u2 u3 u4 u5 : Value) :
    Bag w N b v l (bs.set i (B, [u0, u1, u2, u3, u4, u5])) rs ((((((wx.setCell ⟨B, 0, none⟩ u0).setCell ⟨B, 1, none⟩ u1).setCell ⟨B, 2, none⟩ u2).setCell ⟨B, 3, none⟩ u3).setCell ⟨B, 4, none⟩ u4).setCell ⟨B, 5, none⟩ u5) := by
  obtain ⟨hlt, he⟩ := List.getElem?_eq_some_iff.1 hi
  have h0 := h.set i hi (j := 0) (by simp) u0
  have h1 := h0.set i (B := B) (cs := [u0, c1, c2, c3, c4, c5]) (by rw [List.getElem?_set_self (by simp [hlt])]; rfl) (j := 1) (by simp) u1
  have h2 := h1.set i (B := B) (cs := [u0, u1, c2, c3, c4, c5]) (by rw [List.getElem?_set_self (by simp [hlt])]; rfl) (j := 2) (by simp) u2
  have h3 := h2.set i (B := B) (cs := [u0, u1, u2, c3, c4, c5]) (by rw [List.getElem?_set_self (by simp [hlt])]; rfl) (j := 3) (by simp) u3
  have h4 := h3.set i (B := B) (cs := [u0, u1, u2, u3, c4, c5]) (by rw [List.getElem?_set_self (by simp [hlt])]; rfl) (j := 4) (by simp) u4
  have h5 := h4.set i (B := B) (cs := [u0, u1, u2, u3, u4, c5]) (by rw [List.getElem?_set_self (by simp [hlt])]; rfl) (j := 5) (by simp) u5
  simpa using h5
theorem Bag.put5 {B : Nat} {c0 c1 c2 c3 c4 : Value} {cr : List Value} (h : Bag w N b v l bs rs wx) (i : Nat) (hi : bs[i]? = some (B, c0 :: c1 :: c2 :: c3 :: c4 :: cr)) (u0 u1 u2 u3 u4 : Value) :
    Bag w N b v l (bs.set i (B, u0 :: u1 :: u2 :: u3 :: u4 :: cr)) rs (((((wx.setCell ⟨B, 0, none⟩ u0).setCell ⟨B, 1, none⟩ u1).setCell ⟨B, 2, none⟩ u2).setCell ⟨B, 3, none⟩ u3).setCell ⟨B, 4, none⟩ u4) := by
  obtain ⟨hlt, he⟩ := List.getElem?_eq_some_iff.1 hi
  have h0 := h.set i hi (j := 0) (by simp) u0
  have h1 := h0.set i (B := B) (cs := u0 :: c1 :: c2 :: c3 :: c4 :: cr) (by rw [List.getElem?_set_self (by simp [hlt])]; rfl) (j := 1) (by simp) u1
  have h2 := h1.set i (B := B) (cs := u0 :: u1 :: c2 :: c3 :: c4 :: cr) (by rw [List.getElem?_set_self (by simp [hlt])]; rfl) (j := 2) (by simp) u2
  have h3 := h2.set i (B := B) (cs := u0 :: u1 :: u2 :: c3 :: c4 :: cr) (by rw [List.getElem?_set_self (by simp [hlt])]; rfl) (j := 3) (by simp) u3
  have h4 := h3.set i (B := B) (cs := u0 :: u1 :: u2 :: u3 :: c4 :: cr) (by rw [List.getElem?_set_self (by simp [hlt])]; rfl) (j := 4) (by simp) u4
  simpa using h4
end
theorem gr_below {w w' : World} {r : Option Nat} (hb : Below w.heap.size w w') : w.grownBy w' r := ⟨hb.os, hb.tape, hb.output, hb.size, fun k hk _ => hb.block k hk⟩
/-- something held besides, its blocks apart from all others -/
theorem Bag.add {w : World} {N b : Nat} {v : Value} {l : List UInt8} {bs : List (Nat × List Value)} {rs : List Held} {wx : World} (h : Bag w N b v l bs rs wx) (r : Held) (hP : r.P wx) (hge : ∀ g, r.own g → N ≤ g ∧ b < g) (hsep : ∀ p ∈ bs, ¬ r.own p.1) (hd : ∀ s ∈ rs, ∀ g, r.own g → ¬ s.own g) : Bag w N b v l bs (r :: rs) wx := by
  refine ⟨h.os, h.tape, h.output, h.size, h.block, h.nw, h.code, h.cur, h.box, ?_, h.geB, ?_, ?_, h.dis, List.pairwise_cons.2 ⟨hd, h.rdis⟩⟩
  · intro s hs
    rcases List.mem_cons.1 hs with rfl | hs
    · exact hP
    · exact h.row s hs
  · intro s hs g hg
    rcases List.mem_cons.1 hs with rfl | hs
    · exact hge g hg
    · exact h.geR s hs g hg
  · intro p hp s hs
    rcases List.mem_cons.1 hs with rfl | hs
    · exact hsep p hp
    · exact h.sep p hp s hs
def six (W : World) (P : Nat) (c0 c1 c2 c3 c4 c5 : Value) : Prop := W.cell? ⟨P, 0, none⟩ = some c0 ∧ W.cell? ⟨P, 1, none⟩ = some c1 ∧ W.cell? ⟨P, 2, none⟩ = some c2 ∧ W.cell? ⟨P, 3, none⟩ = some c3 ∧ W.cell? ⟨P, 4, none⟩ = some c4 ∧ W.cell? ⟨P, 5, none⟩ = some c5
theorem bx_six {W : World} {P : Nat} {c0 c1 c2 c3 c4 c5 : Value} (h : Bx W P [c0, c1, c2, c3, c4, c5]) : six W P c0 c1 c2 c3 c4 c5 :=
  ⟨h.cell 0 (by simp), h.cell 1 (by simp), h.cell 2 (by simp), h.cell 3 (by simp), h.cell 4 (by simp), h.cell 5 (by simp)⟩
theorem six_below {W W' : World} {P : Nat} {c0 c1 c2 c3 c4 c5 : Value} (h : six W P c0 c1 c2 c3 c4 c5) (hb : Below W.heap.size W W') : six W' P c0 c1 c2 c3 c4 c5 := by
  obtain ⟨h0, h1, h2, h3, h4, h5⟩ := h
  have hl : P < W.heap.size := World.block_lt_of_cell? W _ h0
  exact ⟨(hb.cell (p := ⟨P, 0, none⟩) hl).trans h0, (hb.cell (p := ⟨P, 1, none⟩) hl).trans h1, (hb.cell (p := ⟨P, 2, none⟩) hl).trans h2, (hb.cell (p := ⟨P, 3, none⟩) hl).trans h3, (hb.cell (p := ⟨P, 4, none⟩) hl).trans h4, (hb.cell (p := ⟨P, 5, none⟩) hl).trans h5⟩
/-- what a drawn part is: small, and its numbers are numbers -/
def okPt (n : Nat) (x : PartD) : Prop := okDr 7 x.fCore ∧ x.fLayers.length ≤ n ∧ ∀ y ∈ x.fLayers, y.fName.length ≤ 9 ∧ I64 y.fCount
theorem okPt_small {n : Nat} {x : PartD} (h : okPt n x) (hn : n ≤ 100) : SmallP x := by
  obtain ⟨⟨h1, h2, h3, _⟩, h5, h6⟩ := h
  refine smallP_of ?_
  have e1 := sumF_le zCell 9 x.fCore.fCells (fun c hc => (h3 c hc).1)
  have e2 := sumF_le zLayer 9 x.fLayers (fun y hy => (h6 y hy).1)
  have e3 : x.fCore.fCells.length * 9 ≤ 63 := by omega
  have e4 : x.fLayers.length * 9 ≤ 900 := by omega
  unfold zPart zCore
  omega
theorem okPt_keys {n : Nat} {x : PartD} (h : okPt n x) : ∀ c ∈ x.fCore.fCells, c.fKey.length ≤ maxLen := fun c hc => Nat.le_trans (h.1.2.2.1 c hc).1 (by decide)
theorem okPt_wrap {x : PartD} {s : List UInt8} (h : okPt 3 x) (hs : s.length ≤ 9) : okPt 3 (wrapP x s) := by
  unfold wrapP
  split
  · rename_i hi
    obtain ⟨h1, h2, h3⟩ := h
    have hl : x.fLayers.length ≠ 3 := by
      unfold wrapI at hi
      intro e
      by_cases hp : partB x = true ∧ 0 ≤ layI s
      · rw [if_pos hp, if_pos e] at hi; cases hi
      · rw [if_neg hp] at hi; cases hi
    refine ⟨h1, by simp; omega, fun y hy => ?_⟩
    rcases List.mem_append.1 hy with hy | hy
    · exact h3 y hy
    · rw [List.mem_singleton.1 hy]; exact ⟨hs, by unfold I64; simp⟩
  · exact h
abbrev hPC (w : World) (u : Value) (x : List CellD) : Held := hRow cCell 134 2 w.heap.size u x
abbrev hPL (w : World) (u : Value) (x : List LayerD) : Held := hRow cLayer 81 2 w.heap.size u x
abbrev zPartV : List Value := [.string ⟨#[]⟩, .bool false, .bool false, .slice none 0 0, .int .i64 0, .slice none 0 0]
abbrev zReplyV : List Value := [.int .i64 0, .int .i64 0, .string ⟨#[]⟩, .int .i64 0, .int .i64 0]
abbrev cPartV (k : List UInt8) (on br : Bool) (cv : Value) (ct : Int) (lv : Value) : List Value := [.string ⟨k.toArray⟩, .bool on, .bool br, cv, .int .i64 ct, lv]
def DrawnPart (n : Nat) (b : Nat) (v : Value) (l : List UInt8) (w : World) (e : Ending) (w' : World) : Prop := ∃ (x : PartD) (cv lv : Value), e = .returned (.agg (cPartV x.fCore.fKind x.fCore.fOn x.fCore.fBroken cv x.fCore.fCount lv).toArray) ∧ OwnsF cCell 134 2 w' w.heap.size cv x.fCore.fCells ∧ OwnsF cLayer 81 2 w' w.heap.size lv x.fLayers ∧ okPt n x ∧ w.grownBy w' (some b) ∧ Cur w' b v l
/-- where a row of one's own lies, and what it holds -/
theorem row_form {α : Type} {f : α → List Value} {E k : Nat} {w : World} {B n c : Nat} {a : Option Addr} {x : List α} (h : OwnsF f E k w B (.slice a n c) x) (hk : ∀ y, (f y).length = k) (h0 : 0 < n) :
    ∃ g, a = some ⟨g, 0, none⟩ ∧ g < w.heap.size ∧ ∀ (i : Nat) (hi : i < x.length), ∀ j, j < k → w.cell? ⟨g, i * k + j, none⟩ = (f x[i])[j]? ∧ w.frozen? ⟨g, i * k + j, none⟩ = false := by
  have hl := h.1
  rcases h.2 with ⟨e, hn⟩ | ⟨g, cap, cur, e, hb, hg, _⟩
  · injection e with e1 e2 e3; omega
  · injection e with e1 e2 e3
    subst e1; subst e2; subst e3
    refine ⟨g, rfl, (World.ownsRow.lt h g rfl).2, fun i hi j hj => ⟨?_, World.ownsRow.frozenAt h _⟩⟩
    have h3 : (i + 1) * k ≤ x.length * k := Nat.mul_le_mul_right k hi
    rw [Nat.succ_mul] at h3
    rw [World.ownsRow.cellAt h (i * k + j) (by omega)]
    exact flat_get f k hk x i hi j hj
/-- a part's two rows, new -/
theorem Bag.add2 {w : World} {b : Nat} {v : Value} {l : List UInt8} {bs : List (Nat × List Value)} {rs : List Held} {wx : World} {u3 u5 : Value} {y : List CellD} {z : List LayerD} {F : Nat} (h : Bag w w.heap.size b v l bs rs wx) (ho3 : OwnsF cCell 134 2 wx F u3 y) (ho5 : OwnsF cLayer 81 2 wx F u5 z)
    (hw : w.heap.size ≤ F) (hb : b < F) (hbs : ∀ p ∈ bs, p.1 < F) (hrs : ∀ s ∈ rs, ∀ g, s.own g → g < F) : Bag w w.heap.size b v l bs (hPL w u5 z :: hPC w u3 y :: rs) wx := by
  have h3 := h.hold (F := F) (hPC w u3 y) (ownsF_base ho3 hw) (fun g e => (World.ownsRow.lt ho3 g e).1) hw hb hbs hrs
  refine h3.add (hPL w u5 z) (ownsF_base ho5 hw) (fun g e => ?_) (fun p hp e => ?_) (fun s hs g e e2 => ?_)
  · have := (World.ownsRow.lt ho5 g e).1; omega
  · have h1 := (World.ownsRow.lt ho5 _ e).1; have := hbs p hp; omega
  · have h1 := (World.ownsRow.lt ho5 g e).1
    rcases List.mem_cons.1 hs with rfl | hs
    · have e3 : u5.ownBlock = some g := e
      have e4 : u3.ownBlock = some g := e2
      rcases rows_apart ho5 ho3 (by decide) with h2 | h2
      · rw [h2] at e3; cases e3
      · exact h2 (by rw [e3, e4])
    · have := hrs s hs g e2; omega
theorem Bag.made2 {w : World} {b : Nat} {v : Value} {l : List UInt8} {bs : List (Nat × List Value)} {rs : List Held} {wx w' : World} {u3 u5 : Value} {y : List CellD} {z : List LayerD} (h : Bag w w.heap.size b v l bs rs wx) (hb : Below wx.heap.size wx w') (ho3 : OwnsF cCell 134 2 w' wx.heap.size u3 y) (ho5 : OwnsF cLayer 81 2 w' wx.heap.size u5 z) :
    Bag w w.heap.size b v l bs (hPL w u5 z :: hPC w u3 y :: rs) w' :=
  (h.below hb).add2 ho3 ho5 h.sizes.1 h.sizes.2.1 h.sizes.2.2.1 h.sizes.2.2.2
theorem Bag.drawn2 {w : World} {b : Nat} {v : Value} {l : List UInt8} {bs : List (Nat × List Value)} {rs : List Held} {wx w' : World} {u3 u5 : Value} {y : List CellD} {z : List LayerD} (h : Bag w w.heap.size b v l bs rs wx) (hg : wx.grownBy w' (some b)) (hC : Cur w' b v l) (ho3 : OwnsF cCell 134 2 w' wx.heap.size u3 y) (ho5 : OwnsF cLayer 81 2 w' wx.heap.size u5 z) :
    Bag w w.heap.size b v l bs (hPL w u5 z :: hPC w u3 y :: rs) w' :=
  (h.draw hg hC).add2 ho3 ho5 h.sizes.1 h.sizes.2.1 h.sizes.2.2.1 h.sizes.2.2.2
/-- a part that is held reads as a part -/
theorem bag_part {w : World} {N b : Nat} {v : Value} {l : List UInt8} {bs : List (Nat × List Value)} {rs : List Held} {wx : World} {u5 u3 : Value} {n : Nat} {x : PartD} (h : Bag w N b v l bs rs wx) (h5 : hPL w u5 x.fLayers ∈ rs) (h3 : hPC w u3 x.fCore.fCells ∈ rs) (hk : okPt n x) (hn : n ≤ 100) :
    rPart 0 wx (cPartV x.fCore.fKind x.fCore.fOn x.fCore.fBroken u3 x.fCore.fCount u5) x :=
  goodPart.mono (oPart_r (B := w.heap.size) ⟨u3, u5, rfl, h.row _ h3, h.row _ h5⟩ (okPt_small hk hn)) (Nat.zero_le _)
end Go.Proofs.Ytaihdjdaamglnaa
