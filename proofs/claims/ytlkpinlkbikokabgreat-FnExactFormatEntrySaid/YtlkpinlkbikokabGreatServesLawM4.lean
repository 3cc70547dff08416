/- the model's l3Copy -/
import Derived.Test.YtlkpinlkbikokabGreatServesLawM3
import Derived.Test.YtlkpinlkbikokabGreatServesLawM2
/- Contracts of chapter 4: MakePart, the program's. Written by gen/ch4mk.py. -/
namespace Go.Proofs.YtlkpinlkbikokabGreat
set_option linter.unusedVariables false
set_option linter.unusedSimpArgs false
open Go.RowKit
set_option maxRecDepth 100000 in
set_option maxHeartbeats 3200000 in
theorem implMake_nil (a : Option Addr) (c : Nat) (w : World) :
    Calls Tryz.prog 102 #[.slice a 0 c] w fun e w' => GivesOPR zeroP ⟨7, 0, [], 0, 0⟩ w e w' := by
  unfold GivesOPR zeroP vReply
  have BS := Lib.hid (bx_start2 w [.string ⟨#[]⟩, .bool false, .bool false, .slice none 0 0, .int .i64 0, .slice none 0 0] [.int .i64 0, .int .i64 0, .string ⟨#[]⟩, .int .i64 0, .int .i64 0] 103 105)
  have B2 := Lib.hid BS.out.1
  have B3 := Lib.hid BS.out.2.1
  go_enter Tryz.func102, Tryz.ntmps102
  go_wp2_with fail
  exact bodyPost_ret (v := .tuple #[.agg #[.string ⟨#[]⟩, .bool false, .bool false, .slice none 0 0, .int .i64 0, .slice none 0 0], .agg #[.int .i64 7, .int .i64 0, .string ⟨#[]⟩, .int .i64 0, .int .i64 0]]) (by simp [results, Tryz.results102, go_sem]) rfl ⟨_, rfl, ⟨_, _, rfl, ownsF_nil _ _ _ _ _, ownsF_nil _ _ _ _ _⟩, (bx_start2 w [.string ⟨#[]⟩, .bool false, .bool false, .slice none 0 0, .int .i64 0, .slice none 0 0] [.int .i64 7, .int .i64 0, .string ⟨#[]⟩, .int .i64 0, .int .i64 0] 103 105).2.2⟩
set_option maxRecDepth 100000 in
set_option maxHeartbeats 3200000 in
theorem implMake_bad (b o c : Nat) (k : List UInt8) (r : List (List UInt8)) (w : World) (hR : RowAt w (.slice (some ⟨b, o, none⟩) (r.length + 1) c) ((k :: r).map strV)) (hz : ∀ s ∈ k :: r, s.length ≤ 1048576) (hc : r.length + 1 ≤ c) (hm : r.length + 1 ≤ maxLen) (hk : ¬ 0 ≤ kindI k) :
    Calls Tryz.prog 102 #[.slice (some ⟨b, o, none⟩) (r.length + 1) c] w fun e w' => GivesOPR zeroP ⟨7, 0, [], 0, 0⟩ w e w' := by
  have d0 := rowAt_cellS hR 0 (by simp)
  simp only [List.map_cons, List.getElem_cons_zero, strV, Nat.add_zero] at d0
  have hbw : b < w.heap.size := by
    obtain ⟨b', o', e, hlt, _⟩ := rowAt_cell hR 0 (by simp)
    injection e with e; injection e with e1 e2; subst e1; exact hlt
  have HNP := Lib.hid (fun W => implNewPart_own ⟨k.toArray⟩ W (by have := hz k (List.mem_cons_self ..); simpa [ByteArray.size] using this))
  simp only [GivesNPO, vNP] at HNP
  have HR := Lib.hid hR
  have HZ := Lib.hid hz
  have HM := Lib.hid hm
  clear hR hz hm
  unfold GivesOPR zeroP vReply
  rw [show decide (0 ≤ kindI (⟨k.toArray⟩ : ByteArray).data.toList) = false from decide_eq_false hk] at HNP
  generalize nmK (⟨k.toArray⟩ : ByteArray).data.toList = nk at *
  have BS := Lib.hid (bx_start2 w [.string ⟨#[]⟩, .bool false, .bool false, .slice none 0 0, .int .i64 0, .slice none 0 0] [.int .i64 0, .int .i64 0, .string ⟨#[]⟩, .int .i64 0, .int .i64 0] 103 105)
  have HD := Lib.hid d0
  clear d0
  have d0 := (BS.out.2.2.cell (p := ⟨b, o, none⟩) hbw).trans HD.out
  go_enter Tryz.func102, Tryz.ntmps102
  go_wp2_with fail
  refine (HNP.out _).mono ?_
  rintro e w1 ⟨a1, c1, rfl, ho, hb⟩
  have HB1 := Lib.hid ((belS BS.out.2.2 hb).alloc (belS BS.out.2.2 hb).size (.cells #[.string ⟨nk.toArray⟩, .bool false, .bool false, .slice a1 0 c1, .int .i64 0, .slice none 0 0] 103))
  have B2 := Lib.hid ((BS.out.1.below hb).alloc (.cells #[.string ⟨nk.toArray⟩, .bool false, .bool false, .slice a1 0 c1, .int .i64 0, .slice none 0 0] 103))
  have B3 := Lib.hid ((BS.out.2.1.below hb).alloc (.cells #[.string ⟨nk.toArray⟩, .bool false, .bool false, .slice a1 0 c1, .int .i64 0, .slice none 0 0] 103))
  clear ho hb d0
  have r0 := B2.out.cell 0 (by simp)
  have r1 := B2.out.cell 1 (by simp)
  have r2 := B2.out.cell 2 (by simp)
  have r3 := B2.out.cell 3 (by simp)
  have r4 := B2.out.cell 4 (by simp)
  have r5 := B2.out.cell 5 (by simp)
  simp only [List.getElem_cons_zero, List.getElem_cons_succ] at r0 r1 r2 r3 r4 r5
  have z0 := B2.out.froz 0 (by simp)
  have z1 := B2.out.froz 1 (by simp)
  have z2 := B2.out.froz 2 (by simp)
  have z3 := B2.out.froz 3 (by simp)
  have z4 := B2.out.froz 4 (by simp)
  have z5 := B2.out.froz 5 (by simp)
  have s0 := B3.out.cell 0 (by simp)
  have s1 := B3.out.cell 1 (by simp)
  have s2 := B3.out.cell 2 (by simp)
  have s3 := B3.out.cell 3 (by simp)
  have s4 := B3.out.cell 4 (by simp)
  simp only [List.getElem_cons_zero, List.getElem_cons_succ] at s0 s1 s2 s3 s4
  have y0 := B3.out.froz 0 (by simp)
  have y1 := B3.out.froz 1 (by simp)
  have y2 := B3.out.froz 2 (by simp)
  have y3 := B3.out.froz 3 (by simp)
  have y4 := B3.out.froz 4 (by simp)
  go_wp2_with fail
  clear r0 r1 r2 r3 r4 r5 z0 z1 z2 z3 z4 z5 s0 s1 s2 s3 s4 y0 y1 y2 y3 y4
  have E4 := Lib.hid ((B2.out.put6 (.string ⟨#[]⟩) (.bool false) (.bool false) (.slice none 0 0) (.int .i64 0) (.slice none 0 0)).put5o (c := w.heap.size + 1) (by omega) (.int .i64 7) (.int .i64 0) (.string ⟨#[]⟩) (.int .i64 0) (.int .i64 0))
  have E5 := Lib.hid ((B3.out.put6o (c := w.heap.size) (by omega) (.string ⟨#[]⟩) (.bool false) (.bool false) (.slice none 0 0) (.int .i64 0) (.slice none 0 0)).put5 (.int .i64 7) (.int .i64 0) (.string ⟨#[]⟩) (.int .i64 0) (.int .i64 0))
  have EB := Lib.hid (below_put5 (below_put6 HB1.out w.heap.size (by omega) (.string ⟨#[]⟩) (.bool false) (.bool false) (.slice none 0 0) (.int .i64 0) (.slice none 0 0)) (w.heap.size + 1) (by omega) (.int .i64 7) (.int .i64 0) (.string ⟨#[]⟩) (.int .i64 0) (.int .i64 0))
  generalize ((((((((((((w1.alloc (.cells #[.string ⟨nk.toArray⟩, .bool false, .bool false, .slice a1 0 c1, .int .i64 0, .slice none 0 0] 103)).setCell ⟨w.heap.size, 0, none⟩ (.string ⟨#[]⟩)).setCell ⟨w.heap.size, 1, none⟩ (.bool false)).setCell ⟨w.heap.size, 2, none⟩ (.bool false)).setCell ⟨w.heap.size, 3, none⟩ (.slice none 0 0)).setCell ⟨w.heap.size, 4, none⟩ (.int .i64 0)).setCell ⟨w.heap.size, 5, none⟩ (.slice none 0 0)).setCell ⟨w.heap.size + 1, 0, none⟩ (.int .i64 7)).setCell ⟨w.heap.size + 1, 1, none⟩ (.int .i64 0)).setCell ⟨w.heap.size + 1, 2, none⟩ (.string ⟨#[]⟩)).setCell ⟨w.heap.size + 1, 3, none⟩ (.int .i64 0)).setCell ⟨w.heap.size + 1, 4, none⟩ (.int .i64 0)) = WE at *
  have r0 := E4.out.cell 0 (by simp)
  have r1 := E4.out.cell 1 (by simp)
  have r2 := E4.out.cell 2 (by simp)
  have r3 := E4.out.cell 3 (by simp)
  have r4 := E4.out.cell 4 (by simp)
  have r5 := E4.out.cell 5 (by simp)
  simp only [List.getElem_cons_zero, List.getElem_cons_succ] at r0 r1 r2 r3 r4 r5
  have s0 := E5.out.cell 0 (by simp)
  have s1 := E5.out.cell 1 (by simp)
  have s2 := E5.out.cell 2 (by simp)
  have s3 := E5.out.cell 3 (by simp)
  have s4 := E5.out.cell 4 (by simp)
  simp only [List.getElem_cons_zero, List.getElem_cons_succ] at s0 s1 s2 s3 s4
  exact bodyPost_ret (v := .tuple #[.agg #[.string ⟨#[]⟩, .bool false, .bool false, .slice none 0 0, .int .i64 0, .slice none 0 0], .agg #[.int .i64 7, .int .i64 0, .string ⟨#[]⟩, .int .i64 0, .int .i64 0]]) (by simp [results, Tryz.results102, go_sem, r0, r1, r2, r3, r4, r5, s0, s1, s2, s3, s4]) rfl ⟨_, rfl, ⟨_, _, rfl, ownsF_nil _ _ _ _ _, ownsF_nil _ _ _ _ _⟩, EB.out⟩
set_option maxRecDepth 100000 in
set_option maxHeartbeats 3200000 in
theorem implMake_one (b o c : Nat) (k : List UInt8) (r : List (List UInt8)) (w : World) (hR : RowAt w (.slice (some ⟨b, o, none⟩) (r.length + 1) c) ((k :: r).map strV)) (hz : ∀ s ∈ k :: r, s.length ≤ 1048576) (hc : r.length + 1 ≤ c) (hm : r.length + 1 ≤ maxLen) (h1 : c = 1) (hk : 0 ≤ kindI k) :
    Calls Tryz.prog 102 #[.slice (some ⟨b, o, none⟩) (r.length + 1) c] w fun e w' => GivesOPR (makeGo (newP k) r).1 (makeGo (newP k) r).2 w e w' := by
  have d0 := rowAt_cellS hR 0 (by simp)
  simp only [List.map_cons, List.getElem_cons_zero, strV, Nat.add_zero] at d0
  have hbw : b < w.heap.size := by
    obtain ⟨b', o', e, hlt, _⟩ := rowAt_cell hR 0 (by simp)
    injection e with e; injection e with e1 e2; subst e1; exact hlt
  have HNP := Lib.hid (fun W => implNewPart_own ⟨k.toArray⟩ W (by have := hz k (List.mem_cons_self ..); simpa [ByteArray.size] using this))
  simp only [GivesNPO, vNP] at HNP
  have HR := Lib.hid hR
  have HZ := Lib.hid hz
  have HM := Lib.hid hm
  clear hR hz hm
  rw [show decide (0 ≤ kindI (⟨k.toArray⟩ : ByteArray).data.toList) = true from decide_eq_true hk, show nmK (⟨k.toArray⟩ : ByteArray).data.toList = k from if_pos hk] at HNP
  subst h1
  obtain rfl : r = [] := List.eq_nil_of_length_eq_zero (by omega)
  simp only [List.length_nil, Nat.zero_add] at *
  rw [show makeGo (newP k) [] = (newP k, ⟨0, faceP (newP k), [], 0, 0⟩) from rfl]
  unfold GivesOPR vReply
  simp only
  generalize hp0 : newP k = p
  have HPK := Lib.hid hp0
  clear hp0
  generalize hfp : faceP p = fp
  have HFP := Lib.hid hfp
  clear hfp
  have BS := Lib.hid (bx_start2 w [.string ⟨#[]⟩, .bool false, .bool false, .slice none 0 0, .int .i64 0, .slice none 0 0] [.int .i64 0, .int .i64 0, .string ⟨#[]⟩, .int .i64 0, .int .i64 0] 103 105)
  have HD := Lib.hid d0
  clear d0
  have d0 := (BS.out.2.2.cell (p := ⟨b, o, none⟩) hbw).trans HD.out
  go_enter Tryz.func102, Tryz.ntmps102
  go_wp2_with fail
  refine (HNP.out _).mono ?_
  rintro e w1 ⟨a1, c1, rfl, ho, hb⟩
  have HB1 := Lib.hid ((belS BS.out.2.2 hb).alloc (belS BS.out.2.2 hb).size (.cells #[.string ⟨k.toArray⟩, .bool false, .bool false, .slice a1 0 c1, .int .i64 0, .slice none 0 0] 103))
  have h1s := hb.size
  simp at h1s
  have ST0 := Lib.hid (show MkSt w w1.heap.size p (w1.alloc (.cells #[.string ⟨k.toArray⟩, .bool false, .bool false, .slice a1 0 c1, .int .i64 0, .slice none 0 0] 103)) by rw [← HPK.out]; exact ⟨newP_small (HZ.out k (List.mem_cons_self ..)), rfl, ⟨_, Bx.new w1 [.string ⟨k.toArray⟩, .bool false, .bool false, .slice a1 0 c1, .int .i64 0, .slice none 0 0] 103, _, _, rfl, ownsF_alloc (ownsF_base ho (by simp)) _, ownsF_nil _ _ _ _ _⟩, (BS.out.1.below hb).alloc (.cells #[.string ⟨k.toArray⟩, .bool false, .bool false, .slice a1 0 c1, .int .i64 0, .slice none 0 0] 103), (BS.out.2.1.below hb).alloc (.cells #[.string ⟨k.toArray⟩, .bool false, .bool false, .slice a1 0 c1, .int .i64 0, .slice none 0 0] 103), HB1.out⟩)
  clear ho hb d0
  go_wp2_with fail
  generalize w1.alloc (.cells #[.string ⟨k.toArray⟩, .bool false, .bool false, .slice a1 0 c1, .int .i64 0, .slice none 0 0] 103) = wr at *
  have hst := ST0.out
  obtain ⟨hsm, hbare, ⟨cs, hq, hown⟩, hr2, hr3, hbw2⟩ := hst
  refine wp_loop_rounds 1 ?_
  rw [rounds_succ]
  obtain ⟨⟨a0, a1, a2, a3, a4⟩, l⟩ := p
  obtain rfl : a3 = [] := hbare
  obtain ⟨u3, u5, rfl, ho3, ho5⟩ := hown
  simp only at ho3 ho5 hq
  obtain ⟨ga, gc, rfl⟩ := slice_of ho3
  obtain ⟨ua, uc, rfl⟩ := slice_of ho5
  simp only [List.length_nil] at *
  have O3 := Lib.hid ho3
  have O5 := Lib.hid ho5
  have HSM := Lib.hid hsm
  have BQ := Lib.hid hq
  have B2 := Lib.hid hr2
  have B3 := Lib.hid hr3
  have HBr := Lib.hid hbw2
  have hlq := hq.lt
  have hls := hbw2.size
  clear hsm ho3 ho5 hq hr2 hr3 hbw2
  have HRP := Lib.hid (fun W (hb : Below wr.heap.size wr W) => (show rPart 0 W [.string ⟨a0.toArray⟩, .bool a1, .bool a2, .slice ga 0 gc, .int .i64 a4, .slice ua l.length uc] (⟨⟨a0, a1, a2, [], a4⟩, l⟩ : PartD) from goodPart.mono (oPart_r ⟨_, _, rfl, ownsF_below O3.out hb (Nat.le_refl _), ownsF_below O5.out hb (Nat.le_refl _)⟩ HSM.out) (Nat.zero_le _)))
  have HFO := Lib.hid (fun W (h : rPart 0 W [.string ⟨a0.toArray⟩, .bool a1, .bool a2, .slice ga 0 gc, .int .i64 a4, .slice ua l.length uc] (⟨⟨a0, a1, a2, [], a4⟩, l⟩ : PartD)) => (show Calls Tryz.prog 103 #[.agg #[.string ⟨a0.toArray⟩, .bool a1, .bool a2, .slice ga 0 gc, .int .i64 a4, .slice ua l.length uc]] W fun e w' => e = .returned (.int .i64 (faceP (⟨⟨a0, a1, a2, [], a4⟩, l⟩ : PartD))) ∧ Below W.heap.size W w' from implFaceOf_any (.agg #[.string ⟨a0.toArray⟩, .bool a1, .bool a2, .slice ga 0 gc, .int .i64 a4, .slice ua l.length uc]) (⟨⟨a0, a1, a2, [], a4⟩, l⟩ : PartD) W ⟨[.string ⟨a0.toArray⟩, .bool a1, .bool a2, .slice ga 0 gc, .int .i64 a4, .slice ua l.length uc], rfl, h⟩))
  rw [HFP.out] at HFO
  have BQd := Lib.hid (bx_dr BQ.out)
  have B2d := Lib.hid (bx_dr B2.out)
  have B3d := Lib.hid (bx_dr B3.out)
  have q0 := BQd.out.cell 0 (by simp)
  have q1 := BQd.out.cell 1 (by simp)
  have q2 := BQd.out.cell 2 (by simp)
  have q3 := BQd.out.cell 3 (by simp)
  have q4 := BQd.out.cell 4 (by simp)
  have q5 := BQd.out.cell 5 (by simp)
  simp only [List.getElem_cons_zero, List.getElem_cons_succ] at q0 q1 q2 q3 q4 q5
  go_wp2_with fail
  go_region_with (first
      | (go_at_call 103; (with_reducible refine (HFO.out _ (HRP.out _ (bel_dr (Below.refl _ _)))).mono ?_); rintro e w6 ⟨rfl, hb6⟩; have BQ6 := Lib.hid (BQd.out.below hb6); have B26 := Lib.hid (B2d.out.below hb6); have B36 := Lib.hid (B3d.out.below hb6); have q0' := BQ6.out.cell 0 (by simp); have q1' := BQ6.out.cell 1 (by simp); have q2' := BQ6.out.cell 2 (by simp); have q3' := BQ6.out.cell 3 (by simp); have q4' := BQ6.out.cell 4 (by simp); have q5' := BQ6.out.cell 5 (by simp); have r0 := B26.out.cell 0 (by simp); have z0 := B26.out.froz 0 (by simp); have r1 := B26.out.cell 1 (by simp); have z1 := B26.out.froz 1 (by simp); have r2 := B26.out.cell 2 (by simp); have z2 := B26.out.froz 2 (by simp); have r3 := B26.out.cell 3 (by simp); have z3 := B26.out.froz 3 (by simp); have r4 := B26.out.cell 4 (by simp); have z4 := B26.out.froz 4 (by simp); have r5 := B26.out.cell 5 (by simp); have z5 := B26.out.froz 5 (by simp); have s0 := B36.out.cell 0 (by simp); have y0 := B36.out.froz 0 (by simp); have s1 := B36.out.cell 1 (by simp); have y1 := B36.out.froz 1 (by simp); have s2 := B36.out.cell 2 (by simp); have y2 := B36.out.froz 2 (by simp); have s3 := B36.out.cell 3 (by simp); have y3 := B36.out.froz 3 (by simp); have s4 := B36.out.cell 4 (by simp); have y4 := B36.out.froz 4 (by simp); simp only [List.getElem_cons_zero, List.getElem_cons_succ] at q0' q1' q2' q3' q4' q5' r0 r1 r2 r3 r4 r5 s0 s1 s2 s3 s4))
  all_goals (try go_wp2_with fail)
  all_goals
    have HB6 := Lib.hid (belS (bel_dr HBr.out) hb6)
    have T3 := Lib.hid (ownsF_below (ownsF_drew O3.out) hb6 (Nat.le_refl _))
    have T5 := Lib.hid (ownsF_below (ownsF_drew O5.out) hb6 (Nat.le_refl _))
    refine bodyPost_ret (v := .tuple #[.agg #[.string ⟨a0.toArray⟩, .bool a1, .bool a2, .slice ga 0 gc, .int .i64 a4, .slice ua l.length uc], .agg #[.int .i64 0, .int .i64 fp, .string ⟨#[]⟩, .int .i64 0, .int .i64 0]]) (by simp [results, Tryz.results102, go_sem, cell_set_at, cell_set_ne, r0, r1, r2, r3, r4, r5, s0, s1, s2, s3, s4]) rfl ⟨_, rfl, ⟨_, _, rfl, ?_, ?_⟩, ?_⟩
    · refine ownsF_base (B := ((w.heap.size + 1) + 1)) ?_ (by omega)
      repeat (first | with_reducible exact T3.out | with_reducible refine ownsF_set ?_ (by simp; try omega) | with_reducible refine ownsF_drew ?_)
    · refine ownsF_base (B := ((w.heap.size + 1) + 1)) ?_ (by omega)
      repeat (first | with_reducible exact T5.out | with_reducible refine ownsF_set ?_ (by simp; try omega) | with_reducible refine ownsF_drew ?_)
    · repeat (first | with_reducible exact HB6.out | with_reducible refine Below.setCell ?_ (by simp; try omega) _ | with_reducible refine Below.drew ?_)
set_option maxRecDepth 100000 in
set_option maxHeartbeats 3200000 in
theorem implMake_go (b o c : Nat) (k : List UInt8) (r : List (List UInt8)) (w : World) (hR : RowAt w (.slice (some ⟨b, o, none⟩) (r.length + 1) c) ((k :: r).map strV)) (hz : ∀ s ∈ k :: r, s.length ≤ 1048576) (hc : r.length + 1 ≤ c) (hm : r.length + 1 ≤ maxLen) (h1 : ¬ (c : Int) = 1) (hk : 0 ≤ kindI k) :
    Calls Tryz.prog 102 #[.slice (some ⟨b, o, none⟩) (r.length + 1) c] w fun e w' => GivesOPR (makeGo (newP k) r).1 (makeGo (newP k) r).2 w e w' := by
  have d0 := rowAt_cellS hR 0 (by simp)
  simp only [List.map_cons, List.getElem_cons_zero, strV, Nat.add_zero] at d0
  have hbw : b < w.heap.size := by
    obtain ⟨b', o', e, hlt, _⟩ := rowAt_cell hR 0 (by simp)
    injection e with e; injection e with e1 e2; subst e1; exact hlt
  have HNP := Lib.hid (fun W => implNewPart_own ⟨k.toArray⟩ W (by have := hz k (List.mem_cons_self ..); simpa [ByteArray.size] using this))
  simp only [GivesNPO, vNP] at HNP
  have HR := Lib.hid hR
  have HZ := Lib.hid hz
  have HM := Lib.hid hm
  clear hR hz hm
  rw [show decide (0 ≤ kindI (⟨k.toArray⟩ : ByteArray).data.toList) = true from decide_eq_true hk, show nmK (⟨k.toArray⟩ : ByteArray).data.toList = k from if_pos hk] at HNP
  generalize hp0 : newP k = p0
  have HPK := Lib.hid hp0
  clear hp0
  generalize hres : makeGo p0 r = res
  obtain ⟨rp, t0, fp, t2, t3, t4⟩ := res
  have HRES := Lib.hid hres.symm
  clear hres
  unfold GivesOPR vReply
  simp only
  have BS := Lib.hid (bx_start2 w [.string ⟨#[]⟩, .bool false, .bool false, .slice none 0 0, .int .i64 0, .slice none 0 0] [.int .i64 0, .int .i64 0, .string ⟨#[]⟩, .int .i64 0, .int .i64 0] 103 105)
  have HD := Lib.hid d0
  clear d0
  have d0 := (BS.out.2.2.cell (p := ⟨b, o, none⟩) hbw).trans HD.out
  go_enter Tryz.func102, Tryz.ntmps102
  go_wp2_with fail
  refine (HNP.out _).mono ?_
  rintro e w1 ⟨a1, c1, rfl, ho, hb⟩
  have HB1 := Lib.hid ((belS BS.out.2.2 hb).alloc (belS BS.out.2.2 hb).size (.cells #[.string ⟨k.toArray⟩, .bool false, .bool false, .slice a1 0 c1, .int .i64 0, .slice none 0 0] 103))
  have h1s := hb.size
  simp at h1s
  have ST0 := Lib.hid (show MkSt w w1.heap.size p0 (w1.alloc (.cells #[.string ⟨k.toArray⟩, .bool false, .bool false, .slice a1 0 c1, .int .i64 0, .slice none 0 0] 103)) by rw [← HPK.out]; exact ⟨newP_small (HZ.out k (List.mem_cons_self ..)), rfl, ⟨_, Bx.new w1 [.string ⟨k.toArray⟩, .bool false, .bool false, .slice a1 0 c1, .int .i64 0, .slice none 0 0] 103, _, _, rfl, ownsF_alloc (ownsF_base ho (by simp)) _, ownsF_nil _ _ _ _ _⟩, (BS.out.1.below hb).alloc (.cells #[.string ⟨k.toArray⟩, .bool false, .bool false, .slice a1 0 c1, .int .i64 0, .slice none 0 0] 103), (BS.out.2.1.below hb).alloc (.cells #[.string ⟨k.toArray⟩, .bool false, .bool false, .slice a1 0 c1, .int .i64 0, .slice none 0 0] 103), HB1.out⟩)
  clear ho hb d0
  go_wp2_with fail
  have HRT := Lib.hid (fun W (hb : Below w.heap.size w W) => RowAt.below HR.out hb (Nat.le_refl _))
  generalize w1.alloc (.cells #[.string ⟨k.toArray⟩, .bool false, .bool false, .slice a1 0 c1, .int .i64 0, .slice none 0 0] 103) = w2 at *
  go_loopw [7, 8, 9, 29] (fun _ _ _ i wr => ∃ j : Nat, ∃ p : PartD, j ≤ r.length ∧ i = .int .i64 j ∧ (rp, (⟨t0, fp, t2, t3, t4⟩ : ReplyD)) = makeGo p (r.drop j) ∧ MkSt w w1.heap.size p wr) (fun _ _ _ i _ => r.length - (intOf i).toNat)
  case atStart => exact ⟨0, p0, Nat.zero_le _, rfl, HRES.out, ST0.out⟩
  case round =>
    obtain ⟨j, p, hj, rfl, hgo, hst⟩ := hrel
    obtain ⟨hsm, hbare, ⟨cs, hq, hown⟩, hr2, hr3, hbw2⟩ := hst
    by_cases hlt : j < r.length
    · have d1 := rowAt_cellS (HRT.out _ hbw2) (j + 1) (by simp; omega)
      simp only [List.map_cons, List.getElem_cons_succ, List.getElem_map, strV] at d1
      rw [show o + (j + 1) = o + 1 + j by omega] at d1
      have hzs := HZ.out (r[j]) (List.mem_cons_of_mem _ (List.getElem_mem hlt))
      have hdr : r.drop j = r[j] :: r.drop (j + 1) := List.drop_eq_getElem_cons hlt
      rw [hdr] at hgo
      clear hdr
      generalize r[j] = s at *
      have HW := Lib.hid (fun cs W (h : rPart 0 W cs p) => (show Calls Tryz.prog 119 #[.agg cs.toArray, .string ⟨s.toArray⟩] W fun e w' => GivesOPR (wrapP p s) (wrapR p s) W e w' from implWrap_any (.agg cs.toArray) p ⟨s.toArray⟩ W ⟨cs, rfl, h⟩ hsm (by rw [hbare]; intro c hc; cases hc) (by simpa [ByteArray.size] using hzs)))
      have HSM2 := Lib.hid (wrapP_small hsm s)
      have hb2 : (wrapP p s).fCore.fCells = [] := by rw [wrapP_core]; exact hbare
      have hyes : wrapI p s = 0 → (rp, (⟨t0, fp, t2, t3, t4⟩ : ReplyD)) = makeGo (wrapP p s) (r.drop (j + 1)) := fun h => hgo.trans (makeGo_on h)
      have hno : ¬ wrapI p s = 0 → (rp, (⟨t0, fp, t2, t3, t4⟩ : ReplyD)) = (zeroP, wrapR p s) := fun h => hgo.trans (makeGo_stop h)
      obtain ⟨m1, m3, m4, hrr⟩ : ∃ m1 m3 m4, wrapR p s = ⟨wrapI p s, m1, [], m3, m4⟩ := ⟨_, _, _, rfl⟩
      simp only [hrr] at HW hno
      unfold GivesOPR vReply at HW
      simp only at HW
      clear hgo hrr
      generalize wrapI p s = m0 at *
      generalize wrapP p s = p2 at *
      obtain ⟨⟨a0, a1, a2, a3, a4⟩, l⟩ := p
      obtain rfl : a3 = [] := hbare
      obtain ⟨u3, u5, rfl, ho3, ho5⟩ := hown
      simp only at ho3 ho5 hq
      obtain ⟨ga, gc, rfl⟩ := slice_of ho3
      obtain ⟨ua, uc, rfl⟩ := slice_of ho5
      simp only [List.length_nil] at *
      have O3 := Lib.hid ho3
      have O5 := Lib.hid ho5
      have HSM := Lib.hid hsm
      have BQ := Lib.hid hq
      have B2 := Lib.hid hr2
      have B3 := Lib.hid hr3
      have HBr := Lib.hid hbw2
      have hlq := hq.lt
      have hls := hbw2.size
      clear hsm ho3 ho5 hq hr2 hr3 hbw2
      have HRP := Lib.hid (goodPart.mono (oPart_r ⟨_, _, rfl, O3.out, O5.out⟩ HSM.out) (Nat.zero_le _))
      have HYES := Lib.hid hyes
      have HNO := Lib.hid hno
      have hjr : (j : Int) < (r.length : Int) := by omega
      have hml := HM.out
      unfold maxLen at hml
      clear hyes hno
      have q0 := BQ.out.cell 0 (by simp)
      have q1 := BQ.out.cell 1 (by simp)
      have q2 := BQ.out.cell 2 (by simp)
      have q3 := BQ.out.cell 3 (by simp)
      have q4 := BQ.out.cell 4 (by simp)
      have q5 := BQ.out.cell 5 (by simp)
      simp only [List.getElem_cons_zero, List.getElem_cons_succ] at q0 q1 q2 q3 q4 q5
      go_wp2_with fail
      refine (HW.out _ _ HRP.out).mono ?_
      rintro e w4 ⟨_, rfl, ho, hb⟩
      obtain ⟨⟨b0, b1, b2, b3, b4⟩, l2⟩ := p2
      obtain rfl : b3 = [] := hb2
      obtain ⟨u3, u5, rfl, ho3, ho5⟩ := ho
      simp only at ho3 ho5
      obtain ⟨ha, hc2, rfl⟩ := slice_of ho3
      obtain ⟨va, vc, rfl⟩ := slice_of ho5
      simp only [List.length_nil] at *
      have N3 := Lib.hid ho3
      have N5 := Lib.hid ho5
      have HB4 := Lib.hid (belS HBr.out hb)
      have BQ4 := Lib.hid (BQ.out.below hb)
      have B24 := Lib.hid (B2.out.below hb)
      have B34 := Lib.hid (B3.out.below hb)
      have hs4 := hb.size
      have hq4 := BQ4.out.lt
      clear hb ho3 ho5 q0 q1 q2 q3 q4 q5 BQ B2 B3
      by_cases hcd : m0 = 0
      · subst hcd
        have HG := Lib.hid (HYES.out rfl)
        clear HNO HYES
        have q0 := BQ4.out.cell 0 (by simp)
        have q1 := BQ4.out.cell 1 (by simp)
        have q2 := BQ4.out.cell 2 (by simp)
        have q3 := BQ4.out.cell 3 (by simp)
        have q4 := BQ4.out.cell 4 (by simp)
        have q5 := BQ4.out.cell 5 (by simp)
        simp only [List.getElem_cons_zero, List.getElem_cons_succ] at q0 q1 q2 q3 q4 q5
        have p0 := BQ4.out.froz 0 (by simp)
        have p1 := BQ4.out.froz 1 (by simp)
        have p2 := BQ4.out.froz 2 (by simp)
        have p3 := BQ4.out.froz 3 (by simp)
        have p4 := BQ4.out.froz 4 (by simp)
        have p5 := BQ4.out.froz 5 (by simp)
        go_wp2_with fail
        refine ⟨⟨j + 1, ⟨⟨b0, b1, b2, [], b4⟩, l2⟩, by omega, by go_num, HG.out, ?_⟩, by simp [intOf]; omega⟩
        exact ⟨HSM2.out, rfl, ⟨_, ((BQ4.out.put6 (.string ⟨b0.toArray⟩) (.bool b1) (.bool b2) (.slice ha 0 hc2) (.int .i64 b4) (.slice va l2.length vc)).alloc _).alloc _, _, _, rfl, ownsF_alloc (ownsF_alloc (ownsF_base (ownsF_put6 N3.out w1.heap.size hlq (.string ⟨b0.toArray⟩) (.bool b1) (.bool b2) (.slice ha 0 hc2) (.int .i64 b4) (.slice va l2.length vc)) (by omega)) _) _, ownsF_alloc (ownsF_alloc (ownsF_base (ownsF_put6 N5.out w1.heap.size hlq (.string ⟨b0.toArray⟩) (.bool b1) (.bool b2) (.slice ha 0 hc2) (.int .i64 b4) (.slice va l2.length vc)) (by omega)) _) _⟩,
          ((B24.out.put6o (c := w1.heap.size) (by omega) (.string ⟨b0.toArray⟩) (.bool b1) (.bool b2) (.slice ha 0 hc2) (.int .i64 b4) (.slice va l2.length vc)).alloc _).alloc _, ((B34.out.put6o (c := w1.heap.size) (by omega) (.string ⟨b0.toArray⟩) (.bool b1) (.bool b2) (.slice ha 0 hc2) (.int .i64 b4) (.slice va l2.length vc)).alloc _).alloc _,
          belS (belS (below_put6 HB4.out w1.heap.size (by omega) (.string ⟨b0.toArray⟩) (.bool b1) (.bool b2) (.slice ha 0 hc2) (.int .i64 b4) (.slice va l2.length vc)) (bx_box _ _)) (bx_box _ _)⟩
      · have HG := Lib.hid (HNO.out hcd)
        have hg := HG.out
        simp only [Prod.mk.injEq, ReplyD.mk.injEq] at hg
        obtain ⟨g1, g2, g3, g4, g5, g6⟩ := hg
        subst g1
        subst g4
        have g2 := g2.symm
        have g3 := g3.symm
        have g5 := g5.symm
        have g6 := g6.symm
        subst g2
        subst g3
        subst g5
        subst g6
        clear HNO HYES HG
        have B25 := Lib.hid ((B24.out.alloc (.cells #[.string ⟨b0.toArray⟩, .bool b1, .bool b2, .slice ha 0 hc2, .int .i64 b4, .slice va l2.length vc] 103)).alloc (.cells #[.int .i64 m0, .int .i64 m1, .string ⟨#[]⟩, .int .i64 m3, .int .i64 m4] 105))
        have B35 := Lib.hid ((B34.out.alloc (.cells #[.string ⟨b0.toArray⟩, .bool b1, .bool b2, .slice ha 0 hc2, .int .i64 b4, .slice va l2.length vc] 103)).alloc (.cells #[.int .i64 m0, .int .i64 m1, .string ⟨#[]⟩, .int .i64 m3, .int .i64 m4] 105))
        have r0 := B25.out.cell 0 (by simp)
        have r1 := B25.out.cell 1 (by simp)
        have r2 := B25.out.cell 2 (by simp)
        have r3 := B25.out.cell 3 (by simp)
        have r4 := B25.out.cell 4 (by simp)
        have r5 := B25.out.cell 5 (by simp)
        simp only [List.getElem_cons_zero, List.getElem_cons_succ] at r0 r1 r2 r3 r4 r5
        have z0 := B25.out.froz 0 (by simp)
        have z1 := B25.out.froz 1 (by simp)
        have z2 := B25.out.froz 2 (by simp)
        have z3 := B25.out.froz 3 (by simp)
        have z4 := B25.out.froz 4 (by simp)
        have z5 := B25.out.froz 5 (by simp)
        have s0 := B35.out.cell 0 (by simp)
        have s1 := B35.out.cell 1 (by simp)
        have s2 := B35.out.cell 2 (by simp)
        have s3 := B35.out.cell 3 (by simp)
        have s4 := B35.out.cell 4 (by simp)
        simp only [List.getElem_cons_zero, List.getElem_cons_succ] at s0 s1 s2 s3 s4
        have y0 := B35.out.froz 0 (by simp)
        have y1 := B35.out.froz 1 (by simp)
        have y2 := B35.out.froz 2 (by simp)
        have y3 := B35.out.froz 3 (by simp)
        have y4 := B35.out.froz 4 (by simp)
        go_wp2_with fail
        go_region
        all_goals (try go_wp2_with fail)
        all_goals
          refine bodyPost_ret (v := .tuple #[.agg #[.string ⟨#[]⟩, .bool false, .bool false, .slice none 0 0, .int .i64 0, .slice none 0 0], .agg #[.int .i64 m0, .int .i64 m1, .string ⟨#[]⟩, .int .i64 m3, .int .i64 m4]]) (by simp [results, Tryz.results102, go_sem, cell_set_at, cell_set_ne, r0, r1, r2, r3, r4, r5, s0, s1, s2, s3, s4]) rfl ⟨_, rfl, ⟨_, _, rfl, ownsF_nil _ _ _ _ _, ownsF_nil _ _ _ _ _⟩, ?_⟩
          repeat (first | with_reducible exact HB4.out | with_reducible refine Below.setCell ?_ (by simp; try omega) _ | with_reducible refine Below.alloc ?_ (by first | omega | (simp; omega)) _ | with_reducible refine Below.drew ?_)
    · rw [show r.drop j = [] from List.drop_eq_nil_of_le (by omega)] at hgo
      replace hgo : (rp, (⟨t0, fp, t2, t3, t4⟩ : ReplyD)) = (p, ⟨0, faceP p, [], 0, 0⟩) := hgo
      simp only [Prod.mk.injEq, ReplyD.mk.injEq] at hgo
      obtain ⟨g1, g2, g3, g4, g5, g6⟩ := hgo
      have g1 := g1.symm
      subst g1
      subst g2
      subst g4
      subst g5
      subst g6
      have HFP := Lib.hid g3.symm
      clear g3
      have hjr : ¬ (j : Int) < (r.length : Int) := by omega
      obtain ⟨⟨a0, a1, a2, a3, a4⟩, l⟩ := p
      obtain rfl : a3 = [] := hbare
      obtain ⟨u3, u5, rfl, ho3, ho5⟩ := hown
      simp only at ho3 ho5 hq
      obtain ⟨ga, gc, rfl⟩ := slice_of ho3
      obtain ⟨ua, uc, rfl⟩ := slice_of ho5
      simp only [List.length_nil] at *
      have O3 := Lib.hid ho3
      have O5 := Lib.hid ho5
      have HSM := Lib.hid hsm
      have BQ := Lib.hid hq
      have B2 := Lib.hid hr2
      have B3 := Lib.hid hr3
      have HBr := Lib.hid hbw2
      have hlq := hq.lt
      have hls := hbw2.size
      clear hsm ho3 ho5 hq hr2 hr3 hbw2
      have HRP := Lib.hid (fun W (hb : Below wr.heap.size wr W) => (show rPart 0 W [.string ⟨a0.toArray⟩, .bool a1, .bool a2, .slice ga 0 gc, .int .i64 a4, .slice ua l.length uc] (⟨⟨a0, a1, a2, [], a4⟩, l⟩ : PartD) from goodPart.mono (oPart_r ⟨_, _, rfl, ownsF_below O3.out hb (Nat.le_refl _), ownsF_below O5.out hb (Nat.le_refl _)⟩ HSM.out) (Nat.zero_le _)))
      have HFO := Lib.hid (fun W (h : rPart 0 W [.string ⟨a0.toArray⟩, .bool a1, .bool a2, .slice ga 0 gc, .int .i64 a4, .slice ua l.length uc] (⟨⟨a0, a1, a2, [], a4⟩, l⟩ : PartD)) => (show Calls Tryz.prog 103 #[.agg #[.string ⟨a0.toArray⟩, .bool a1, .bool a2, .slice ga 0 gc, .int .i64 a4, .slice ua l.length uc]] W fun e w' => e = .returned (.int .i64 (faceP (⟨⟨a0, a1, a2, [], a4⟩, l⟩ : PartD))) ∧ Below W.heap.size W w' from implFaceOf_any (.agg #[.string ⟨a0.toArray⟩, .bool a1, .bool a2, .slice ga 0 gc, .int .i64 a4, .slice ua l.length uc]) (⟨⟨a0, a1, a2, [], a4⟩, l⟩ : PartD) W ⟨[.string ⟨a0.toArray⟩, .bool a1, .bool a2, .slice ga 0 gc, .int .i64 a4, .slice ua l.length uc], rfl, h⟩))
      rw [HFP.out] at HFO
      have BQd := Lib.hid (bx_dr BQ.out)
      have B2d := Lib.hid (bx_dr B2.out)
      have B3d := Lib.hid (bx_dr B3.out)
      have q0 := BQd.out.cell 0 (by simp)
      have q1 := BQd.out.cell 1 (by simp)
      have q2 := BQd.out.cell 2 (by simp)
      have q3 := BQd.out.cell 3 (by simp)
      have q4 := BQd.out.cell 4 (by simp)
      have q5 := BQd.out.cell 5 (by simp)
      simp only [List.getElem_cons_zero, List.getElem_cons_succ] at q0 q1 q2 q3 q4 q5
      go_wp2_with fail
      go_region_with (first
          | (go_at_call 103; (with_reducible refine (HFO.out _ (HRP.out _ (bel_dr (Below.refl _ _)))).mono ?_); rintro e w6 ⟨rfl, hb6⟩; have BQ6 := Lib.hid (BQd.out.below hb6); have B26 := Lib.hid (B2d.out.below hb6); have B36 := Lib.hid (B3d.out.below hb6); have q0' := BQ6.out.cell 0 (by simp); have q1' := BQ6.out.cell 1 (by simp); have q2' := BQ6.out.cell 2 (by simp); have q3' := BQ6.out.cell 3 (by simp); have q4' := BQ6.out.cell 4 (by simp); have q5' := BQ6.out.cell 5 (by simp); have r0 := B26.out.cell 0 (by simp); have z0 := B26.out.froz 0 (by simp); have r1 := B26.out.cell 1 (by simp); have z1 := B26.out.froz 1 (by simp); have r2 := B26.out.cell 2 (by simp); have z2 := B26.out.froz 2 (by simp); have r3 := B26.out.cell 3 (by simp); have z3 := B26.out.froz 3 (by simp); have r4 := B26.out.cell 4 (by simp); have z4 := B26.out.froz 4 (by simp); have r5 := B26.out.cell 5 (by simp); have z5 := B26.out.froz 5 (by simp); have s0 := B36.out.cell 0 (by simp); have y0 := B36.out.froz 0 (by simp); have s1 := B36.out.cell 1 (by simp); have y1 := B36.out.froz 1 (by simp); have s2 := B36.out.cell 2 (by simp); have y2 := B36.out.froz 2 (by simp); have s3 := B36.out.cell 3 (by simp); have y3 := B36.out.froz 3 (by simp); have s4 := B36.out.cell 4 (by simp); have y4 := B36.out.froz 4 (by simp); simp only [List.getElem_cons_zero, List.getElem_cons_succ] at q0' q1' q2' q3' q4' q5' r0 r1 r2 r3 r4 r5 s0 s1 s2 s3 s4))
      all_goals (try go_wp2_with fail)
      all_goals
        have HB6 := Lib.hid (belS (bel_dr HBr.out) hb6)
        have T3 := Lib.hid (ownsF_below (ownsF_drew O3.out) hb6 (Nat.le_refl _))
        have T5 := Lib.hid (ownsF_below (ownsF_drew O5.out) hb6 (Nat.le_refl _))
        refine bodyPost_ret (v := .tuple #[.agg #[.string ⟨a0.toArray⟩, .bool a1, .bool a2, .slice ga 0 gc, .int .i64 a4, .slice ua l.length uc], .agg #[.int .i64 0, .int .i64 fp, .string ⟨#[]⟩, .int .i64 0, .int .i64 0]]) (by simp [results, Tryz.results102, go_sem, cell_set_at, cell_set_ne, r0, r1, r2, r3, r4, r5, s0, s1, s2, s3, s4]) rfl ⟨_, rfl, ⟨_, _, rfl, ?_, ?_⟩, ?_⟩
        · refine ownsF_base (B := ((w.heap.size + 1) + 1)) ?_ (by omega)
          repeat (first | with_reducible exact T3.out | with_reducible refine ownsF_set ?_ (by simp; try omega) | with_reducible refine ownsF_drew ?_)
        · refine ownsF_base (B := ((w.heap.size + 1) + 1)) ?_ (by omega)
          repeat (first | with_reducible exact T5.out | with_reducible refine ownsF_set ?_ (by simp; try omega) | with_reducible refine ownsF_drew ?_)
        · repeat (first | with_reducible exact HB6.out | with_reducible refine Below.setCell ?_ (by simp; try omega) _ | with_reducible refine Below.drew ?_)
theorem implMakePart_any (v : Value) (x : List (List UInt8)) (w : World) (hR : RowAt w v (x.map strV)) (hz : ∀ s ∈ x, s.length ≤ 1048576) :
    Calls Tryz.prog 102 #[v] w fun e w' => GivesOPR (makePR x).1 (makePR x).2 w e w' := by
  obtain ⟨a, c, rfl, hl, hcap⟩ := rowAt_cap hR
  cases x with
  | nil => exact implMake_nil a c w
  | cons k r =>
    obtain ⟨b, o, rfl, hbw, _⟩ := rowAt_cell hR 0 (by simp)
    simp only [List.length_map, List.length_cons] at hR hl hcap ⊢
    by_cases hk : 0 ≤ kindI k
    · rw [show makePR (k :: r) = makeGo (newP k) r from if_pos hk]
      by_cases h1 : c = 1
      · exact implMake_one b o c k r w hR hz hcap hl h1 hk
      · exact implMake_go b o c k r w hR hz hcap hl (by omega) hk
    · rw [show makePR (k :: r) = (zeroP, ⟨7, 0, [], 0, 0⟩) from if_neg hk]
      exact implMake_bad b o c k r w hR hz hcap hl hk
set_option maxRecDepth 100000 in
set_option maxHeartbeats 1600000 in
theorem implRecipeFace_any (v : Value) (x : List (List UInt8)) (w : World) (hR : RowAt w v (x.map strV)) (hz : ∀ s ∈ x, s.length ≤ 1048576) :
    Calls Tryz.prog 71 #[v] w fun e w' => e = .returned (.tuple #[.int .i64 (recI x), .bool (recB x)]) ∧ Below w.heap.size w w' := by
  have HMK := Lib.hid (implMakePart_any v x w hR hz)
  have HSM := Lib.hid (makePR_small hz)
  have HV := Lib.hid (@makePR_val x)
  unfold recI recB
  generalize makePR x = res at *
  obtain ⟨⟨⟨a0, a1, a2, a3, a4⟩, l⟩, m0, m1, m2, m3, m4⟩ := res
  unfold GivesOPR vReply at HMK
  simp only at HMK HSM ⊢
  have HFO := Lib.hid (fun cs W (h : rPart 0 W cs ⟨⟨a0, a1, a2, a3, a4⟩, l⟩) => implFaceOf_any (.agg cs.toArray) ⟨⟨a0, a1, a2, a3, a4⟩, l⟩ W ⟨cs, rfl, h⟩)
  generalize hfp : faceP ⟨⟨a0, a1, a2, a3, a4⟩, l⟩ = fp at *
  clear hfp hR hz
  by_cases hc : m0 = 0
  · subst hc
    have hv : m1 = fp := HV.out rfl
    subst hv
    simp only [if_true, decide_true]
    clear HV
    go_enter Tryz.func71, Tryz.ntmps71
    go_wp2_with fail
    refine HMK.out.mono ?_
    rintro e w1 ⟨_, rfl, ⟨u3, u5, rfl, ho3, ho5⟩, hb⟩
    simp only at ho3 ho5
    obtain ⟨ga, gc, rfl⟩ := slice_of ho3
    obtain ⟨ua, uc, rfl⟩ := slice_of ho5
    have HB1 := Lib.hid (belS (belS hb (bx_box w1 (.cells #[.string ⟨a0.toArray⟩, .bool a1, .bool a2, .slice ga a3.length gc, .int .i64 a4, .slice ua l.length uc] 103))) (bx_box _ (.cells #[.int .i64 0, .int .i64 m1, .string ⟨m2.toArray⟩, .int .i64 m3, .int .i64 m4] 105)))
    have O3 := Lib.hid (ownsF_alloc (ownsF_alloc ho3 (.cells #[.string ⟨a0.toArray⟩, .bool a1, .bool a2, .slice ga a3.length gc, .int .i64 a4, .slice ua l.length uc] 103)) (.cells #[.int .i64 0, .int .i64 m1, .string ⟨m2.toArray⟩, .int .i64 m3, .int .i64 m4] 105))
    have O5 := Lib.hid (ownsF_alloc (ownsF_alloc ho5 (.cells #[.string ⟨a0.toArray⟩, .bool a1, .bool a2, .slice ga a3.length gc, .int .i64 a4, .slice ua l.length uc] 103)) (.cells #[.int .i64 0, .int .i64 m1, .string ⟨m2.toArray⟩, .int .i64 m3, .int .i64 m4] 105))
    have HRP := Lib.hid (show rPart 0 ((w1.alloc (.cells #[.string ⟨a0.toArray⟩, .bool a1, .bool a2, .slice ga a3.length gc, .int .i64 a4, .slice ua l.length uc] 103)).alloc (.cells #[.int .i64 0, .int .i64 m1, .string ⟨m2.toArray⟩, .int .i64 m3, .int .i64 m4] 105)) [.string ⟨a0.toArray⟩, .bool a1, .bool a2, .slice ga a3.length gc, .int .i64 a4, .slice ua l.length uc] ⟨⟨a0, a1, a2, a3, a4⟩, l⟩ from goodPart.mono (oPart_r ⟨_, _, rfl, O3.out, O5.out⟩ HSM.out) (Nat.zero_le _))
    clear ho3 ho5 hb
    go_wp2_with fail
    refine (HFO.out _ _ HRP.out).mono ?_
    rintro e w2 ⟨rfl, hb2⟩
    have HB2 := Lib.hid (belS HB1.out hb2)
    clear hb2
    go_wp2_with fail
    exact bodyPost_ret (v := .tuple #[.int .i64 m1, .bool true]) (by simp [results, Tryz.results71, go_sem]) rfl ⟨rfl, HB2.out⟩
  · simp only [if_neg hc, decide_eq_false hc]
    clear HV
    go_enter Tryz.func71, Tryz.ntmps71
    go_wp2_with fail
    refine HMK.out.mono ?_
    rintro e w1 ⟨_, rfl, ⟨u3, u5, rfl, ho3, ho5⟩, hb⟩
    simp only at ho3 ho5
    obtain ⟨ga, gc, rfl⟩ := slice_of ho3
    obtain ⟨ua, uc, rfl⟩ := slice_of ho5
    have HB1 := Lib.hid (belS (belS hb (bx_box w1 (.cells #[.string ⟨a0.toArray⟩, .bool a1, .bool a2, .slice ga a3.length gc, .int .i64 a4, .slice ua l.length uc] 103))) (bx_box _ (.cells #[.int .i64 m0, .int .i64 m1, .string ⟨m2.toArray⟩, .int .i64 m3, .int .i64 m4] 105)))
    clear ho3 ho5 hb
    go_wp2_with fail
    exact bodyPost_ret (v := .tuple #[.int .i64 0, .bool false]) (by simp [results, Tryz.results71, go_sem]) rfl ⟨rfl, HB1.out⟩
end Go.Proofs.YtlkpinlkbikokabGreat
/- Contracts of chapter 6: IsEntry, the program's. Written by gen/ch6e.py. -/
namespace Go.Proofs.YtlkpinlkbikokabGreat
set_option linter.unusedVariables false
set_option linter.unusedSimpArgs false
open Go.RowKit
set_option maxRecDepth 100000 in
set_option maxHeartbeats 3200000 in
theorem hasNeeds_any (v : Value) (x : EntryD) (w : World) (hx : ValAt rEntry 0 w v x) (hn : x.fName.length ≤ maxLen) (hk : ∀ d ∈ x.fNeeds, d.fFrom.length ≤ maxLen) (hr : ∀ s ∈ x.fRecipe, s.length ≤ 1048576) :
    Calls Tryz.prog 80 #[v] w fun e w' => e = .returned (.bool (needsB x)) ∧ Below w.heap.size w w' := by
  obtain ⟨_, rfl, hx⟩ := hx
  have HX := Lib.hid (fun W (hb : Below w.heap.size w W) => goodEntry.keep hx (kept_below hb (Nat.le_refl _)))
  obtain ⟨a0, a1, ⟨a2, a3⟩, l⟩ := x
  obtain ⟨v1, v4, rfl, h1, h4⟩ := hx
  simp only at h1 h4 hk hn hr
  obtain ⟨ra, rc, rfl, _⟩ := sliceAt_len h1
  obtain ⟨sa, sc, rfl, hl⟩ := sliceAt_len h4
  have H1 := Lib.hid h1
  have H4 := Lib.hid h4
  have HK := Lib.hid hk
  unfold maxLen at hl
  have BS := Lib.hid (bx_start1 w [.string ⟨a0.toArray⟩, .slice ra a1.length rc, .int .i64 a2, .int .i64 a3, .slice sa l.length sc] 36)
  clear h1 h4 hk hn hr
  by_cases h3 : 3 < l.length
  · rw [show needsB ⟨a0, a1, ⟨a2, a3⟩, l⟩ = false by unfold needsB; rw [decide_eq_false (by simp only; omega)]; rfl]
    have hgt : (3 : Int) < (l.length : Int) := by omega
    clear h3
    go_enter Tryz.func80, Tryz.ntmps80
    go_wp2_with fail
    go_ret
    exact ⟨rfl, BS.out.2⟩
  · rw [show needsB ⟨a0, a1, ⟨a2, a3⟩, l⟩ = l.all (needOk a0) by unfold needsB; rw [decide_eq_true (by simp only; omega)]; rfl]
    generalize hres : l.all (needOk a0) = res
    have HRES := Lib.hid (show res = (l.drop 0).all (needOk a0) from hres.symm)
    have hgt : ¬ (3 : Int) < (l.length : Int) := by omega
    have BX0 := Lib.hid BS.out.1
    have HB0 := Lib.hid BS.out.2
    clear h3 hres
    go_enter Tryz.func80, Tryz.ntmps80
    go_wp2_with fail
    go_loopw [4, 12] (fun _ i wr => ∃ k : Nat, k ≤ l.length ∧ i = .int .i64 k ∧ res = (l.drop k).all (needOk a0) ∧ Below w.heap.size w wr ∧ Bx wr w.heap.size [.string ⟨a0.toArray⟩, .slice ra a1.length rc, .int .i64 a2, .int .i64 a3, .slice sa l.length sc]) (fun _ i _ => l.length - (intOf i).toNat)
    case atStart => exact ⟨0, Nat.zero_le _, rfl, HRES.out, HB0.out, BX0.out⟩
    case round =>
      obtain ⟨k, hk, rfl, hres, hbr, hbx⟩ := hrel
      have HRS := Lib.hid hres
      have HBr := Lib.hid hbr
      have BXr := Lib.hid hbx
      have HXr := Lib.hid (SliceAt.below H4.out (good_flat cNeed_len) hbr (Nat.le_refl _))
      have hszr := hbr.size
      clear hres hbr hbx
      by_cases hlt : k < l.length
      · obtain ⟨b, o, cs, rfl, hbw, hat, hd⟩ := sliceAt_cell HXr.out k hlt
        have HM := Lib.hid (HK.out _ (List.getElem_mem hlt))
        have HDR := Lib.hid (show l.drop k = l[k] :: l.drop (k + 1) from List.drop_eq_getElem_cons hlt)
        generalize l[k] = z at *
        obtain ⟨m0, m1, m2, m3⟩ := z
        simp only [rFlat, cNeed] at hat
        subst hat
        have d0 := hd 0 (by decide)
        have d1 := hd 1 (by decide)
        have d2 := hd 2 (by decide)
        have d3 := hd 3 (by decide)
        simp only [List.getElem?_cons_zero, List.getElem?_cons_succ, Nat.add_zero] at d0 d1 d2 d3
        have HIN := Lib.hid (fun W => implIsNeed_any ⟨m0, m1, m2, m3⟩ W HM.out)
        unfold vNeed at HIN
        simp only at HIN
        have HRS2 := Lib.hid (show res = ((needB ⟨m0, m1, m2, m3⟩ && !(m1 == a0)) && (l.drop (k + 1)).all (needOk a0)) by rw [HRS.out, HDR.out]; rfl)
        generalize needB ⟨m0, m1, m2, m3⟩ = nb at *
        have BN := Lib.hid (Bx.new wr [.int .i64 m0, .string ⟨m1.toArray⟩, .int .i64 m2, .int .i64 m3] 39)
        have HBN := Lib.hid (belS HBr.out (bx_box wr (.cells #[.int .i64 m0, .string ⟨m1.toArray⟩, .int .i64 m2, .int .i64 m3] 39)))
        have BXN := Lib.hid (BXr.out.alloc (.cells #[.int .i64 m0, .string ⟨m1.toArray⟩, .int .i64 m2, .int .i64 m3] 39))
        have hkl : (k : Int) < (l.length : Int) := by omega
        clear hd HRS HDR
        cases nb
        · obtain rfl : res = false := by have h := HRS2.out; simpa using h
          clear HRS2
          have n0 := BN.out.cell 0 (by simp)
          have n1 := BN.out.cell 1 (by simp)
          have n2 := BN.out.cell 2 (by simp)
          have n3 := BN.out.cell 3 (by simp)
          simp only [List.getElem_cons_zero, List.getElem_cons_succ] at n0 n1 n2 n3
          go_wp2_with fail
          refine (HIN.out _).mono ?_
          rintro e w2 ⟨rfl, hb⟩
          have HB2 := Lib.hid (belS HBN.out hb)
          clear hb
          go_wp2_with fail
          go_ret
          exact ⟨rfl, HB2.out⟩
        · by_cases he : m1 = a0
          · obtain rfl : res = false := by have h := HRS2.out; rw [show (m1 == a0) = true by simp [he]] at h; simpa using h
            have heq : (m1 == a0) = true := by simp [he]
            clear HRS2 he
            have n0 := BN.out.cell 0 (by simp)
            have n1 := BN.out.cell 1 (by simp)
            have n2 := BN.out.cell 2 (by simp)
            have n3 := BN.out.cell 3 (by simp)
            simp only [List.getElem_cons_zero, List.getElem_cons_succ] at n0 n1 n2 n3
            go_wp2_with fail
            refine (HIN.out _).mono ?_
            rintro e w2 ⟨rfl, hb⟩
            have HB2 := Lib.hid (belS HBN.out hb)
            have BN2 := Lib.hid (BN.out.below hb)
            have BX2 := Lib.hid (BXN.out.below hb)
            clear hb n0 n1 n2 n3
            have n0 := BN2.out.cell 0 (by simp)
            have n1 := BN2.out.cell 1 (by simp)
            have n2 := BN2.out.cell 2 (by simp)
            have n3 := BN2.out.cell 3 (by simp)
            simp only [List.getElem_cons_zero, List.getElem_cons_succ] at n0 n1 n2 n3
            have x0 := BX2.out.cell 0 (by simp)
            have x1 := BX2.out.cell 1 (by simp)
            have x2 := BX2.out.cell 2 (by simp)
            have x3 := BX2.out.cell 3 (by simp)
            have x4 := BX2.out.cell 4 (by simp)
            simp only [List.getElem_cons_zero, List.getElem_cons_succ] at x0 x1 x2 x3 x4
            go_wp2_with fail
            go_ret
            exact ⟨rfl, HB2.out⟩
          · have HR3 := Lib.hid (show res = (l.drop (k + 1)).all (needOk a0) by have h := HRS2.out; rw [show (m1 == a0) = false by simp [he]] at h; simpa using h)
            have heq : (m1 == a0) = false := by simp [he]
            clear HRS2 he
            have n0 := BN.out.cell 0 (by simp)
            have n1 := BN.out.cell 1 (by simp)
            have n2 := BN.out.cell 2 (by simp)
            have n3 := BN.out.cell 3 (by simp)
            simp only [List.getElem_cons_zero, List.getElem_cons_succ] at n0 n1 n2 n3
            go_wp2_with fail
            refine (HIN.out _).mono ?_
            rintro e w2 ⟨rfl, hb⟩
            have HB2 := Lib.hid (belS HBN.out hb)
            have BN2 := Lib.hid (BN.out.below hb)
            have BX2 := Lib.hid (BXN.out.below hb)
            clear hb n0 n1 n2 n3
            have n0 := BN2.out.cell 0 (by simp)
            have n1 := BN2.out.cell 1 (by simp)
            have n2 := BN2.out.cell 2 (by simp)
            have n3 := BN2.out.cell 3 (by simp)
            simp only [List.getElem_cons_zero, List.getElem_cons_succ] at n0 n1 n2 n3
            have x0 := BX2.out.cell 0 (by simp)
            have x1 := BX2.out.cell 1 (by simp)
            have x2 := BX2.out.cell 2 (by simp)
            have x3 := BX2.out.cell 3 (by simp)
            have x4 := BX2.out.cell 4 (by simp)
            simp only [List.getElem_cons_zero, List.getElem_cons_succ] at x0 x1 x2 x3 x4
            go_wp2_with fail
            exact ⟨⟨k + 1, by omega, by go_num, HR3.out, HB2.out, BX2.out⟩, by simp [intOf]; omega⟩
      · obtain rfl : res = true := by have h := HRS.out; rw [List.drop_eq_nil_of_le (by omega)] at h; simpa using h
        have hkl : ¬ (k : Int) < (l.length : Int) := by omega
        go_wp2_with fail
        go_ret
        exact ⟨rfl, HBr.out⟩
set_option maxRecDepth 100000 in
set_option maxHeartbeats 3200000 in
theorem faceOfEntry_any (v : Value) (x : EntryD) (w : World) (hx : ValAt rEntry 0 w v x) (hn : x.fName.length ≤ maxLen) (hk : ∀ d ∈ x.fNeeds, d.fFrom.length ≤ maxLen) (hr : ∀ s ∈ x.fRecipe, s.length ≤ 1048576) :
    Calls Tryz.prog 45 #[v] w fun e w' => e = .returned (.tuple #[.int .i64 (entryI x), .bool (entryB x)]) ∧ Below w.heap.size w w' := by
  have HND := Lib.hid (fun cs W (h : rEntry 0 W cs x) => hasNeeds_any (.agg cs.toArray) x W ⟨cs, rfl, h⟩ hn hk hr)
  have HRF := Lib.hid (fun v W (h : RowAt W v (x.fRecipe.map strV)) => implRecipeFace_any v x.fRecipe W h hr)
  have HNM := Lib.hid (fun W => implIsName_any ⟨x.fName.toArray⟩ W (by simpa [ByteArray.size] using hn))
  have HVR := Lib.hid (fun W => implIsVer_any x.fVersion W)
  unfold entryI entryB headB
  generalize needsB x = q at *
  generalize recI x.fRecipe = fi at *
  generalize recB x.fRecipe = fb at *
  obtain ⟨_, rfl, hx⟩ := hx
  have HX := Lib.hid (fun W (hb : Below w.heap.size w W) => goodEntry.keep hx (kept_below hb (Nat.le_refl _)))
  obtain ⟨a0, a1, ⟨a2, a3⟩, l⟩ := x
  obtain ⟨v1, v4, rfl, h1, h4⟩ := hx
  simp only at h1 h4 hk hn hr
  obtain ⟨ra, rc, rfl, _⟩ := sliceAt_len h1
  obtain ⟨sa, sc, rfl, hl⟩ := sliceAt_len h4
  have H1 := Lib.hid h1
  have H4 := Lib.hid h4
  have HK := Lib.hid hk
  unfold maxLen at hl
  have BS := Lib.hid (bx_start1 w [.string ⟨a0.toArray⟩, .slice ra a1.length rc, .int .i64 a2, .int .i64 a3, .slice sa l.length sc] 36)
  simp only [List.toList_toArray, vVersion] at *
  generalize nameB a0 = nb at *
  generalize verB ⟨a2, a3⟩ = vb at *
  have BX0 := Lib.hid BS.out.1
  have HB0 := Lib.hid BS.out.2
  clear h1 h4 hk hn hr
  cases nb
  · change Calls Tryz.prog 45 _ w (fun e w' => e = .returned (.tuple #[.int .i64 0, .bool false]) ∧ Below w.heap.size w w')
    go_enter Tryz.func45, Tryz.ntmps45
    go_wp2_with (first | (go_at_call 69; (with_reducible refine (HNM.out _).mono ?_); rintro e w' ⟨rfl, rfl⟩))
    exact bodyPost_ret (v := .tuple #[.int .i64 0, .bool false]) (by simp [results, Tryz.results45, go_sem]) rfl ⟨rfl, HB0.out⟩
  cases vb
  · change Calls Tryz.prog 45 _ w (fun e w' => e = .returned (.tuple #[.int .i64 0, .bool false]) ∧ Below w.heap.size w w')
    go_enter Tryz.func45, Tryz.ntmps45
    go_wp2_with (first | (go_at_call 69; (with_reducible refine (HNM.out _).mono ?_); rintro e w' ⟨rfl, rfl⟩))
    refine (HVR.out _).mono ?_
    rintro e w1 ⟨rfl, hb⟩
    have HB1 := Lib.hid (belS HB0.out hb)
    have BX1 := Lib.hid (BX0.out.below hb)
    clear hb
    have y0 := BX1.out.cell 0 (by simp)
    have y1 := BX1.out.cell 1 (by simp)
    have y2 := BX1.out.cell 2 (by simp)
    have y3 := BX1.out.cell 3 (by simp)
    have y4 := BX1.out.cell 4 (by simp)
    simp only [List.getElem_cons_zero, List.getElem_cons_succ] at y0 y1 y2 y3 y4
    go_wp2_with fail
    exact bodyPost_ret (v := .tuple #[.int .i64 0, .bool false]) (by simp [results, Tryz.results45, go_sem]) rfl ⟨rfl, HB1.out⟩
  cases q
  · change Calls Tryz.prog 45 _ w (fun e w' => e = .returned (.tuple #[.int .i64 0, .bool false]) ∧ Below w.heap.size w w')
    go_enter Tryz.func45, Tryz.ntmps45
    go_wp2_with (first | (go_at_call 69; (with_reducible refine (HNM.out _).mono ?_); rintro e w' ⟨rfl, rfl⟩))
    refine (HVR.out _).mono ?_
    rintro e w1 ⟨rfl, hb⟩
    have HB1 := Lib.hid (belS HB0.out hb)
    have BX1 := Lib.hid (BX0.out.below hb)
    clear hb
    have y0 := BX1.out.cell 0 (by simp)
    have y1 := BX1.out.cell 1 (by simp)
    have y2 := BX1.out.cell 2 (by simp)
    have y3 := BX1.out.cell 3 (by simp)
    have y4 := BX1.out.cell 4 (by simp)
    simp only [List.getElem_cons_zero, List.getElem_cons_succ] at y0 y1 y2 y3 y4
    go_wp2_with fail
    refine (HND.out _ _ (HX.out _ HB1.out)).mono ?_
    rintro e w2 ⟨rfl, hb⟩
    have HB2 := Lib.hid (belS HB1.out hb)
    have BX2 := Lib.hid (BX1.out.below hb)
    clear hb y0 y1 y2 y3 y4
    have y0 := BX2.out.cell 0 (by simp)
    have y1 := BX2.out.cell 1 (by simp)
    have y2 := BX2.out.cell 2 (by simp)
    have y3 := BX2.out.cell 3 (by simp)
    have y4 := BX2.out.cell 4 (by simp)
    simp only [List.getElem_cons_zero, List.getElem_cons_succ] at y0 y1 y2 y3 y4
    go_wp2_with fail
    exact bodyPost_ret (v := .tuple #[.int .i64 0, .bool false]) (by simp [results, Tryz.results45, go_sem]) rfl ⟨rfl, HB2.out⟩
  change Calls Tryz.prog 45 _ w (fun e w' => e = .returned (.tuple #[.int .i64 fi, .bool fb]) ∧ Below w.heap.size w w')
  go_enter Tryz.func45, Tryz.ntmps45
  go_wp2_with (first | (go_at_call 69; (with_reducible refine (HNM.out _).mono ?_); rintro e w' ⟨rfl, rfl⟩))
  refine (HVR.out _).mono ?_
  rintro e w1 ⟨rfl, hb⟩
  have HB1 := Lib.hid (belS HB0.out hb)
  have BX1 := Lib.hid (BX0.out.below hb)
  clear hb
  have y0 := BX1.out.cell 0 (by simp)
  have y1 := BX1.out.cell 1 (by simp)
  have y2 := BX1.out.cell 2 (by simp)
  have y3 := BX1.out.cell 3 (by simp)
  have y4 := BX1.out.cell 4 (by simp)
  simp only [List.getElem_cons_zero, List.getElem_cons_succ] at y0 y1 y2 y3 y4
  go_wp2_with fail
  refine (HND.out _ _ (HX.out _ HB1.out)).mono ?_
  rintro e w2 ⟨rfl, hb⟩
  have HB2 := Lib.hid (belS HB1.out hb)
  have BX2 := Lib.hid (BX1.out.below hb)
  clear hb y0 y1 y2 y3 y4
  have y0 := BX2.out.cell 0 (by simp)
  have y1 := BX2.out.cell 1 (by simp)
  have y2 := BX2.out.cell 2 (by simp)
  have y3 := BX2.out.cell 3 (by simp)
  have y4 := BX2.out.cell 4 (by simp)
  simp only [List.getElem_cons_zero, List.getElem_cons_succ] at y0 y1 y2 y3 y4
  go_wp2_with fail
  refine (HRF.out _ _ (row_of_slice (SliceAt.below H1.out good_str HB2.out (Nat.le_refl _)))).mono ?_
  rintro e w3 ⟨rfl, hb⟩
  have HB3 := Lib.hid (belS HB2.out hb)
  clear hb
  go_wp2_with fail
  exact bodyPost_ret (v := .tuple #[.int .i64 fi, .bool fb]) (by simp [results, Tryz.results45, go_sem]) rfl ⟨rfl, HB3.out⟩
set_option maxRecDepth 100000 in
set_option maxHeartbeats 3200000 in
theorem implIsEntry_any (v : Value) (x : EntryD) (w : World) (hx : ValAt rEntry 0 w v x) (hn : x.fName.length ≤ maxLen) (hk : ∀ d ∈ x.fNeeds, d.fFrom.length ≤ maxLen) (hr : ∀ s ∈ x.fRecipe, s.length ≤ 1048576) :
    Calls Tryz.prog 61 #[v] w fun e w' => e = .returned (.bool (entryB x)) ∧ Below w.heap.size w w' := by
  have HF := Lib.hid (fun cs W (h : rEntry 0 W cs x) => faceOfEntry_any (.agg cs.toArray) x W ⟨cs, rfl, h⟩ hn hk hr)
  generalize entryB x = eb at *
  generalize entryI x = ei at *
  obtain ⟨_, rfl, hx⟩ := hx
  have HX := Lib.hid (fun W (hb : Below w.heap.size w W) => goodEntry.keep hx (kept_below hb (Nat.le_refl _)))
  obtain ⟨a0, a1, ⟨a2, a3⟩, l⟩ := x
  obtain ⟨v1, v4, rfl, h1, h4⟩ := hx
  simp only at h1 h4 hk hn hr
  obtain ⟨ra, rc, rfl, _⟩ := sliceAt_len h1
  obtain ⟨sa, sc, rfl, hl⟩ := sliceAt_len h4
  have H1 := Lib.hid h1
  have H4 := Lib.hid h4
  have HK := Lib.hid hk
  unfold maxLen at hl
  have BS := Lib.hid (bx_start1 w [.string ⟨a0.toArray⟩, .slice ra a1.length rc, .int .i64 a2, .int .i64 a3, .slice sa l.length sc] 36)
  clear h1 h4 hk hn hr
  go_enter Tryz.func61, Tryz.ntmps61
  go_wp2_with fail
  refine (HF.out _ _ (HX.out _ BS.out.2)).mono ?_
  rintro e w1 ⟨rfl, hb⟩
  have HB1 := Lib.hid (belS BS.out.2 hb)
  clear hb
  go_wp2_with fail
  go_ret
  exact ⟨rfl, HB1.out⟩
end Go.Proofs.YtlkpinlkbikokabGreat
/- Contracts of chapter 6: Serves, the program's. Written by gen/ch6s.py. -/
namespace Go.Proofs.YtlkpinlkbikokabGreat
set_option linter.unusedVariables false
set_option linter.unusedSimpArgs false
open Go.RowKit
set_option maxRecDepth 100000 in
set_option maxHeartbeats 3200000 in
theorem implServes_any (v : Value) (x : EntryD) (d : NeedD) (w : World) (hx : ValAt rEntry 0 w v x) (hn : x.fName.length ≤ maxLen) (hk : ∀ d ∈ x.fNeeds, d.fFrom.length ≤ maxLen) (hr : ∀ s ∈ x.fRecipe, s.length ≤ 1048576) (hf : d.fFrom.length ≤ maxLen) :
    Calls Tryz.prog 13 #[v, vNeed d] w fun e w' => e = .returned (.bool (servesB x d)) ∧ Below w.heap.size w w' := by
  have HIN := Lib.hid (fun W => implIsNeed_any d W hf)
  have HME := Lib.hid (fun W => implMeets_any x.fVersion ⟨d.fMajor, d.fMinor⟩ W)
  have HFA := Lib.hid (fun cs W (h : rEntry 0 W cs x) => faceOfEntry_any (.agg cs.toArray) x W ⟨cs, rfl, h⟩ hn hk hr)
  have HOF := Lib.hid (fun W => implOffers_any (recI x.fRecipe) d.fFace W)
  have HEI := Lib.hid (@entryI_yes x)
  unfold servesB
  generalize needB d = nb at *
  generalize meetsB x.fVersion ⟨d.fMajor, d.fMinor⟩ = mb at *
  generalize entryB x = eb at *
  generalize entryI x = ei at *
  generalize recI x.fRecipe = ri at *
  generalize offersF ri d.fFace = ob at *
  obtain ⟨_, rfl, hx⟩ := hx
  have HX := Lib.hid (fun W (hb : Below w.heap.size w W) => goodEntry.keep hx (kept_below hb (Nat.le_refl _)))
  obtain ⟨a0, a1, ⟨a2, a3⟩, l⟩ := x
  obtain ⟨m0, m1, m2, m3⟩ := d
  obtain ⟨v1, v4, rfl, h1, h4⟩ := hx
  simp only at h1 h4 hk hn hr hf
  obtain ⟨ra, rc, rfl, _⟩ := sliceAt_len h1
  obtain ⟨sa, sc, rfl, hl⟩ := sliceAt_len h4
  have H1 := Lib.hid h1
  unfold maxLen at hl
  have BS := Lib.hid (bx_start2 w [.string ⟨a0.toArray⟩, .slice ra a1.length rc, .int .i64 a2, .int .i64 a3, .slice sa l.length sc] [.int .i64 m0, .string ⟨m1.toArray⟩, .int .i64 m2, .int .i64 m3] 36 39)
  have BX0 := Lib.hid BS.out.1
  have BN0 := Lib.hid BS.out.2.1
  have HB0 := Lib.hid BS.out.2.2
  clear h1 h4 hk hn hr hf BS
  simp only [vVersion, vNeed] at *
  cases nb
  · rw [show (eb && false && (decide (m1 = []) || m1 == a0) && ob && mb) = false by simp]
    go_enter Tryz.func13, Tryz.ntmps13
    have x0 := BX0.out.cell 0 (by simp)
    have x1 := BX0.out.cell 1 (by simp)
    have x2 := BX0.out.cell 2 (by simp)
    have x3 := BX0.out.cell 3 (by simp)
    have x4 := BX0.out.cell 4 (by simp)
    simp only [List.getElem_cons_zero, List.getElem_cons_succ] at x0 x1 x2 x3 x4
    have n0 := BN0.out.cell 0 (by simp)
    have n1 := BN0.out.cell 1 (by simp)
    have n2 := BN0.out.cell 2 (by simp)
    have n3 := BN0.out.cell 3 (by simp)
    simp only [List.getElem_cons_zero, List.getElem_cons_succ] at n0 n1 n2 n3
    go_wp2_with fail
    refine (HIN.out _).mono ?_
    rintro e w1 ⟨rfl, hb⟩
    have HB1 := Lib.hid (belS HB0.out hb)
    have BX1 := Lib.hid (BX0.out.below hb)
    have BN1 := Lib.hid (BN0.out.below hb)
    clear hb
    clear x0 x1 x2 x3 x4 n0 n1 n2 n3
    have x0 := BX1.out.cell 0 (by simp)
    have x1 := BX1.out.cell 1 (by simp)
    have x2 := BX1.out.cell 2 (by simp)
    have x3 := BX1.out.cell 3 (by simp)
    have x4 := BX1.out.cell 4 (by simp)
    simp only [List.getElem_cons_zero, List.getElem_cons_succ] at x0 x1 x2 x3 x4
    have n0 := BN1.out.cell 0 (by simp)
    have n1 := BN1.out.cell 1 (by simp)
    have n2 := BN1.out.cell 2 (by simp)
    have n3 := BN1.out.cell 3 (by simp)
    simp only [List.getElem_cons_zero, List.getElem_cons_succ] at n0 n1 n2 n3
    go_wp2_with fail
    go_ret
    exact ⟨rfl, HB1.out⟩
  cases m1 with
  | nil =>
    rw [show (eb && true && (decide (([] : List UInt8) = []) || ([] : List UInt8) == a0) && ob && mb) = (eb && ob && mb) by simp]
    cases mb
    · rw [Bool.and_false]
      go_enter Tryz.func13, Tryz.ntmps13
      have x0 := BX0.out.cell 0 (by simp)
      have x1 := BX0.out.cell 1 (by simp)
      have x2 := BX0.out.cell 2 (by simp)
      have x3 := BX0.out.cell 3 (by simp)
      have x4 := BX0.out.cell 4 (by simp)
      simp only [List.getElem_cons_zero, List.getElem_cons_succ] at x0 x1 x2 x3 x4
      have n0 := BN0.out.cell 0 (by simp)
      have n1 := BN0.out.cell 1 (by simp)
      have n2 := BN0.out.cell 2 (by simp)
      have n3 := BN0.out.cell 3 (by simp)
      simp only [List.getElem_cons_zero, List.getElem_cons_succ] at n0 n1 n2 n3
      go_wp2_with fail
      refine (HIN.out _).mono ?_
      rintro e w1 ⟨rfl, hb⟩
      have HB1 := Lib.hid (belS HB0.out hb)
      have BX1 := Lib.hid (BX0.out.below hb)
      have BN1 := Lib.hid (BN0.out.below hb)
      clear hb
      clear x0 x1 x2 x3 x4 n0 n1 n2 n3
      have x0 := BX1.out.cell 0 (by simp)
      have x1 := BX1.out.cell 1 (by simp)
      have x2 := BX1.out.cell 2 (by simp)
      have x3 := BX1.out.cell 3 (by simp)
      have x4 := BX1.out.cell 4 (by simp)
      simp only [List.getElem_cons_zero, List.getElem_cons_succ] at x0 x1 x2 x3 x4
      have n0 := BN1.out.cell 0 (by simp)
      have n1 := BN1.out.cell 1 (by simp)
      have n2 := BN1.out.cell 2 (by simp)
      have n3 := BN1.out.cell 3 (by simp)
      simp only [List.getElem_cons_zero, List.getElem_cons_succ] at n0 n1 n2 n3
      go_wp2_with fail
      refine (HME.out _).mono ?_
      rintro e w2 ⟨rfl, hb⟩
      have HB2 := Lib.hid (belS HB1.out hb)
      have BX2 := Lib.hid (BX1.out.below hb)
      have BN2 := Lib.hid (BN1.out.below hb)
      clear hb
      clear x0 x1 x2 x3 x4 n0 n1 n2 n3
      have x0 := BX2.out.cell 0 (by simp)
      have x1 := BX2.out.cell 1 (by simp)
      have x2 := BX2.out.cell 2 (by simp)
      have x3 := BX2.out.cell 3 (by simp)
      have x4 := BX2.out.cell 4 (by simp)
      simp only [List.getElem_cons_zero, List.getElem_cons_succ] at x0 x1 x2 x3 x4
      have n0 := BN2.out.cell 0 (by simp)
      have n1 := BN2.out.cell 1 (by simp)
      have n2 := BN2.out.cell 2 (by simp)
      have n3 := BN2.out.cell 3 (by simp)
      simp only [List.getElem_cons_zero, List.getElem_cons_succ] at n0 n1 n2 n3
      go_wp2_with fail
      go_ret
      exact ⟨rfl, HB2.out⟩
    cases eb
    · change Calls Tryz.prog 13 _ w (fun e w' => e = .returned (.bool false) ∧ Below w.heap.size w w')
      go_enter Tryz.func13, Tryz.ntmps13
      have x0 := BX0.out.cell 0 (by simp)
      have x1 := BX0.out.cell 1 (by simp)
      have x2 := BX0.out.cell 2 (by simp)
      have x3 := BX0.out.cell 3 (by simp)
      have x4 := BX0.out.cell 4 (by simp)
      simp only [List.getElem_cons_zero, List.getElem_cons_succ] at x0 x1 x2 x3 x4
      have n0 := BN0.out.cell 0 (by simp)
      have n1 := BN0.out.cell 1 (by simp)
      have n2 := BN0.out.cell 2 (by simp)
      have n3 := BN0.out.cell 3 (by simp)
      simp only [List.getElem_cons_zero, List.getElem_cons_succ] at n0 n1 n2 n3
      go_wp2_with fail
      refine (HIN.out _).mono ?_
      rintro e w1 ⟨rfl, hb⟩
      have HB1 := Lib.hid (belS HB0.out hb)
      have BX1 := Lib.hid (BX0.out.below hb)
      have BN1 := Lib.hid (BN0.out.below hb)
      clear hb
      clear x0 x1 x2 x3 x4 n0 n1 n2 n3
      have x0 := BX1.out.cell 0 (by simp)
      have x1 := BX1.out.cell 1 (by simp)
      have x2 := BX1.out.cell 2 (by simp)
      have x3 := BX1.out.cell 3 (by simp)
      have x4 := BX1.out.cell 4 (by simp)
      simp only [List.getElem_cons_zero, List.getElem_cons_succ] at x0 x1 x2 x3 x4
      have n0 := BN1.out.cell 0 (by simp)
      have n1 := BN1.out.cell 1 (by simp)
      have n2 := BN1.out.cell 2 (by simp)
      have n3 := BN1.out.cell 3 (by simp)
      simp only [List.getElem_cons_zero, List.getElem_cons_succ] at n0 n1 n2 n3
      go_wp2_with fail
      refine (HME.out _).mono ?_
      rintro e w2 ⟨rfl, hb⟩
      have HB2 := Lib.hid (belS HB1.out hb)
      have BX2 := Lib.hid (BX1.out.below hb)
      have BN2 := Lib.hid (BN1.out.below hb)
      clear hb
      clear x0 x1 x2 x3 x4 n0 n1 n2 n3
      have x0 := BX2.out.cell 0 (by simp)
      have x1 := BX2.out.cell 1 (by simp)
      have x2 := BX2.out.cell 2 (by simp)
      have x3 := BX2.out.cell 3 (by simp)
      have x4 := BX2.out.cell 4 (by simp)
      simp only [List.getElem_cons_zero, List.getElem_cons_succ] at x0 x1 x2 x3 x4
      have n0 := BN2.out.cell 0 (by simp)
      have n1 := BN2.out.cell 1 (by simp)
      have n2 := BN2.out.cell 2 (by simp)
      have n3 := BN2.out.cell 3 (by simp)
      simp only [List.getElem_cons_zero, List.getElem_cons_succ] at n0 n1 n2 n3
      go_wp2_with fail
      refine (HFA.out _ _ (HX.out _ HB2.out)).mono ?_
      rintro e w3 ⟨rfl, hb⟩
      have HB3 := Lib.hid (belS HB2.out hb)
      have BX3 := Lib.hid (BX2.out.below hb)
      have BN3 := Lib.hid (BN2.out.below hb)
      clear hb
      clear x0 x1 x2 x3 x4 n0 n1 n2 n3
      have x0 := BX3.out.cell 0 (by simp)
      have x1 := BX3.out.cell 1 (by simp)
      have x2 := BX3.out.cell 2 (by simp)
      have x3 := BX3.out.cell 3 (by simp)
      have x4 := BX3.out.cell 4 (by simp)
      simp only [List.getElem_cons_zero, List.getElem_cons_succ] at x0 x1 x2 x3 x4
      have n0 := BN3.out.cell 0 (by simp)
      have n1 := BN3.out.cell 1 (by simp)
      have n2 := BN3.out.cell 2 (by simp)
      have n3 := BN3.out.cell 3 (by simp)
      simp only [List.getElem_cons_zero, List.getElem_cons_succ] at n0 n1 n2 n3
      go_wp2_with fail
      go_ret
      exact ⟨rfl, HB3.out⟩
    obtain rfl : ei = ri := HEI.out rfl
    go_enter Tryz.func13, Tryz.ntmps13
    have x0 := BX0.out.cell 0 (by simp)
    have x1 := BX0.out.cell 1 (by simp)
    have x2 := BX0.out.cell 2 (by simp)
    have x3 := BX0.out.cell 3 (by simp)
    have x4 := BX0.out.cell 4 (by simp)
    simp only [List.getElem_cons_zero, List.getElem_cons_succ] at x0 x1 x2 x3 x4
    have n0 := BN0.out.cell 0 (by simp)
    have n1 := BN0.out.cell 1 (by simp)
    have n2 := BN0.out.cell 2 (by simp)
    have n3 := BN0.out.cell 3 (by simp)
    simp only [List.getElem_cons_zero, List.getElem_cons_succ] at n0 n1 n2 n3
    go_wp2_with fail
    refine (HIN.out _).mono ?_
    rintro e w1 ⟨rfl, hb⟩
    have HB1 := Lib.hid (belS HB0.out hb)
    have BX1 := Lib.hid (BX0.out.below hb)
    have BN1 := Lib.hid (BN0.out.below hb)
    clear hb
    clear x0 x1 x2 x3 x4 n0 n1 n2 n3
    have x0 := BX1.out.cell 0 (by simp)
    have x1 := BX1.out.cell 1 (by simp)
    have x2 := BX1.out.cell 2 (by simp)
    have x3 := BX1.out.cell 3 (by simp)
    have x4 := BX1.out.cell 4 (by simp)
    simp only [List.getElem_cons_zero, List.getElem_cons_succ] at x0 x1 x2 x3 x4
    have n0 := BN1.out.cell 0 (by simp)
    have n1 := BN1.out.cell 1 (by simp)
    have n2 := BN1.out.cell 2 (by simp)
    have n3 := BN1.out.cell 3 (by simp)
    simp only [List.getElem_cons_zero, List.getElem_cons_succ] at n0 n1 n2 n3
    go_wp2_with fail
    refine (HME.out _).mono ?_
    rintro e w2 ⟨rfl, hb⟩
    have HB2 := Lib.hid (belS HB1.out hb)
    have BX2 := Lib.hid (BX1.out.below hb)
    have BN2 := Lib.hid (BN1.out.below hb)
    clear hb
    clear x0 x1 x2 x3 x4 n0 n1 n2 n3
    have x0 := BX2.out.cell 0 (by simp)
    have x1 := BX2.out.cell 1 (by simp)
    have x2 := BX2.out.cell 2 (by simp)
    have x3 := BX2.out.cell 3 (by simp)
    have x4 := BX2.out.cell 4 (by simp)
    simp only [List.getElem_cons_zero, List.getElem_cons_succ] at x0 x1 x2 x3 x4
    have n0 := BN2.out.cell 0 (by simp)
    have n1 := BN2.out.cell 1 (by simp)
    have n2 := BN2.out.cell 2 (by simp)
    have n3 := BN2.out.cell 3 (by simp)
    simp only [List.getElem_cons_zero, List.getElem_cons_succ] at n0 n1 n2 n3
    go_wp2_with fail
    refine (HFA.out _ _ (HX.out _ HB2.out)).mono ?_
    rintro e w3 ⟨rfl, hb⟩
    have HB3 := Lib.hid (belS HB2.out hb)
    have BX3 := Lib.hid (BX2.out.below hb)
    have BN3 := Lib.hid (BN2.out.below hb)
    clear hb
    clear x0 x1 x2 x3 x4 n0 n1 n2 n3
    have x0 := BX3.out.cell 0 (by simp)
    have x1 := BX3.out.cell 1 (by simp)
    have x2 := BX3.out.cell 2 (by simp)
    have x3 := BX3.out.cell 3 (by simp)
    have x4 := BX3.out.cell 4 (by simp)
    simp only [List.getElem_cons_zero, List.getElem_cons_succ] at x0 x1 x2 x3 x4
    have n0 := BN3.out.cell 0 (by simp)
    have n1 := BN3.out.cell 1 (by simp)
    have n2 := BN3.out.cell 2 (by simp)
    have n3 := BN3.out.cell 3 (by simp)
    simp only [List.getElem_cons_zero, List.getElem_cons_succ] at n0 n1 n2 n3
    go_wp2_with (first | (go_at_call 46; (with_reducible refine (HOF.out _).mono ?_); rintro e w' ⟨rfl, rfl⟩))
    go_ret
    exact ⟨by simp, HB3.out⟩
  | cons c r =>
    by_cases he : (c :: r) = a0
    · rw [show (eb && true && (decide ((c :: r) = ([] : List UInt8)) || (c :: r) == a0) && ob && mb) = (eb && ob && mb) by simp [he]]
      have heq : ((c :: r) == a0) = true := by simp [he]
      have hne : ((c :: r) != a0) = false := by simp [he]
      clear he
      cases mb
      · rw [Bool.and_false]
        go_enter Tryz.func13, Tryz.ntmps13
        have x0 := BX0.out.cell 0 (by simp)
        have x1 := BX0.out.cell 1 (by simp)
        have x2 := BX0.out.cell 2 (by simp)
        have x3 := BX0.out.cell 3 (by simp)
        have x4 := BX0.out.cell 4 (by simp)
        simp only [List.getElem_cons_zero, List.getElem_cons_succ] at x0 x1 x2 x3 x4
        have n0 := BN0.out.cell 0 (by simp)
        have n1 := BN0.out.cell 1 (by simp)
        have n2 := BN0.out.cell 2 (by simp)
        have n3 := BN0.out.cell 3 (by simp)
        simp only [List.getElem_cons_zero, List.getElem_cons_succ] at n0 n1 n2 n3
        go_wp2_with fail
        refine (HIN.out _).mono ?_
        rintro e w1 ⟨rfl, hb⟩
        have HB1 := Lib.hid (belS HB0.out hb)
        have BX1 := Lib.hid (BX0.out.below hb)
        have BN1 := Lib.hid (BN0.out.below hb)
        clear hb
        clear x0 x1 x2 x3 x4 n0 n1 n2 n3
        have x0 := BX1.out.cell 0 (by simp)
        have x1 := BX1.out.cell 1 (by simp)
        have x2 := BX1.out.cell 2 (by simp)
        have x3 := BX1.out.cell 3 (by simp)
        have x4 := BX1.out.cell 4 (by simp)
        simp only [List.getElem_cons_zero, List.getElem_cons_succ] at x0 x1 x2 x3 x4
        have n0 := BN1.out.cell 0 (by simp)
        have n1 := BN1.out.cell 1 (by simp)
        have n2 := BN1.out.cell 2 (by simp)
        have n3 := BN1.out.cell 3 (by simp)
        simp only [List.getElem_cons_zero, List.getElem_cons_succ] at n0 n1 n2 n3
        go_wp2_with fail
        refine (HME.out _).mono ?_
        rintro e w2 ⟨rfl, hb⟩
        have HB2 := Lib.hid (belS HB1.out hb)
        have BX2 := Lib.hid (BX1.out.below hb)
        have BN2 := Lib.hid (BN1.out.below hb)
        clear hb
        clear x0 x1 x2 x3 x4 n0 n1 n2 n3
        have x0 := BX2.out.cell 0 (by simp)
        have x1 := BX2.out.cell 1 (by simp)
        have x2 := BX2.out.cell 2 (by simp)
        have x3 := BX2.out.cell 3 (by simp)
        have x4 := BX2.out.cell 4 (by simp)
        simp only [List.getElem_cons_zero, List.getElem_cons_succ] at x0 x1 x2 x3 x4
        have n0 := BN2.out.cell 0 (by simp)
        have n1 := BN2.out.cell 1 (by simp)
        have n2 := BN2.out.cell 2 (by simp)
        have n3 := BN2.out.cell 3 (by simp)
        simp only [List.getElem_cons_zero, List.getElem_cons_succ] at n0 n1 n2 n3
        go_wp2_with fail
        go_ret
        exact ⟨rfl, HB2.out⟩
      cases eb
      · change Calls Tryz.prog 13 _ w (fun e w' => e = .returned (.bool false) ∧ Below w.heap.size w w')
        go_enter Tryz.func13, Tryz.ntmps13
        have x0 := BX0.out.cell 0 (by simp)
        have x1 := BX0.out.cell 1 (by simp)
        have x2 := BX0.out.cell 2 (by simp)
        have x3 := BX0.out.cell 3 (by simp)
        have x4 := BX0.out.cell 4 (by simp)
        simp only [List.getElem_cons_zero, List.getElem_cons_succ] at x0 x1 x2 x3 x4
        have n0 := BN0.out.cell 0 (by simp)
        have n1 := BN0.out.cell 1 (by simp)
        have n2 := BN0.out.cell 2 (by simp)
        have n3 := BN0.out.cell 3 (by simp)
        simp only [List.getElem_cons_zero, List.getElem_cons_succ] at n0 n1 n2 n3
        go_wp2_with fail
        refine (HIN.out _).mono ?_
        rintro e w1 ⟨rfl, hb⟩
        have HB1 := Lib.hid (belS HB0.out hb)
        have BX1 := Lib.hid (BX0.out.below hb)
        have BN1 := Lib.hid (BN0.out.below hb)
        clear hb
        clear x0 x1 x2 x3 x4 n0 n1 n2 n3
        have x0 := BX1.out.cell 0 (by simp)
        have x1 := BX1.out.cell 1 (by simp)
        have x2 := BX1.out.cell 2 (by simp)
        have x3 := BX1.out.cell 3 (by simp)
        have x4 := BX1.out.cell 4 (by simp)
        simp only [List.getElem_cons_zero, List.getElem_cons_succ] at x0 x1 x2 x3 x4
        have n0 := BN1.out.cell 0 (by simp)
        have n1 := BN1.out.cell 1 (by simp)
        have n2 := BN1.out.cell 2 (by simp)
        have n3 := BN1.out.cell 3 (by simp)
        simp only [List.getElem_cons_zero, List.getElem_cons_succ] at n0 n1 n2 n3
        go_wp2_with fail
        refine (HME.out _).mono ?_
        rintro e w2 ⟨rfl, hb⟩
        have HB2 := Lib.hid (belS HB1.out hb)
        have BX2 := Lib.hid (BX1.out.below hb)
        have BN2 := Lib.hid (BN1.out.below hb)
        clear hb
        clear x0 x1 x2 x3 x4 n0 n1 n2 n3
        have x0 := BX2.out.cell 0 (by simp)
        have x1 := BX2.out.cell 1 (by simp)
        have x2 := BX2.out.cell 2 (by simp)
        have x3 := BX2.out.cell 3 (by simp)
        have x4 := BX2.out.cell 4 (by simp)
        simp only [List.getElem_cons_zero, List.getElem_cons_succ] at x0 x1 x2 x3 x4
        have n0 := BN2.out.cell 0 (by simp)
        have n1 := BN2.out.cell 1 (by simp)
        have n2 := BN2.out.cell 2 (by simp)
        have n3 := BN2.out.cell 3 (by simp)
        simp only [List.getElem_cons_zero, List.getElem_cons_succ] at n0 n1 n2 n3
        go_wp2_with fail
        refine (HFA.out _ _ (HX.out _ HB2.out)).mono ?_
        rintro e w3 ⟨rfl, hb⟩
        have HB3 := Lib.hid (belS HB2.out hb)
        have BX3 := Lib.hid (BX2.out.below hb)
        have BN3 := Lib.hid (BN2.out.below hb)
        clear hb
        clear x0 x1 x2 x3 x4 n0 n1 n2 n3
        have x0 := BX3.out.cell 0 (by simp)
        have x1 := BX3.out.cell 1 (by simp)
        have x2 := BX3.out.cell 2 (by simp)
        have x3 := BX3.out.cell 3 (by simp)
        have x4 := BX3.out.cell 4 (by simp)
        simp only [List.getElem_cons_zero, List.getElem_cons_succ] at x0 x1 x2 x3 x4
        have n0 := BN3.out.cell 0 (by simp)
        have n1 := BN3.out.cell 1 (by simp)
        have n2 := BN3.out.cell 2 (by simp)
        have n3 := BN3.out.cell 3 (by simp)
        simp only [List.getElem_cons_zero, List.getElem_cons_succ] at n0 n1 n2 n3
        go_wp2_with fail
        go_ret
        exact ⟨rfl, HB3.out⟩
      obtain rfl : ei = ri := HEI.out rfl
      go_enter Tryz.func13, Tryz.ntmps13
      have x0 := BX0.out.cell 0 (by simp)
      have x1 := BX0.out.cell 1 (by simp)
      have x2 := BX0.out.cell 2 (by simp)
      have x3 := BX0.out.cell 3 (by simp)
      have x4 := BX0.out.cell 4 (by simp)
      simp only [List.getElem_cons_zero, List.getElem_cons_succ] at x0 x1 x2 x3 x4
      have n0 := BN0.out.cell 0 (by simp)
      have n1 := BN0.out.cell 1 (by simp)
      have n2 := BN0.out.cell 2 (by simp)
      have n3 := BN0.out.cell 3 (by simp)
      simp only [List.getElem_cons_zero, List.getElem_cons_succ] at n0 n1 n2 n3
      go_wp2_with fail
      refine (HIN.out _).mono ?_
      rintro e w1 ⟨rfl, hb⟩
      have HB1 := Lib.hid (belS HB0.out hb)
      have BX1 := Lib.hid (BX0.out.below hb)
      have BN1 := Lib.hid (BN0.out.below hb)
      clear hb
      clear x0 x1 x2 x3 x4 n0 n1 n2 n3
      have x0 := BX1.out.cell 0 (by simp)
      have x1 := BX1.out.cell 1 (by simp)
      have x2 := BX1.out.cell 2 (by simp)
      have x3 := BX1.out.cell 3 (by simp)
      have x4 := BX1.out.cell 4 (by simp)
      simp only [List.getElem_cons_zero, List.getElem_cons_succ] at x0 x1 x2 x3 x4
      have n0 := BN1.out.cell 0 (by simp)
      have n1 := BN1.out.cell 1 (by simp)
      have n2 := BN1.out.cell 2 (by simp)
      have n3 := BN1.out.cell 3 (by simp)
      simp only [List.getElem_cons_zero, List.getElem_cons_succ] at n0 n1 n2 n3
      go_wp2_with fail
      refine (HME.out _).mono ?_
      rintro e w2 ⟨rfl, hb⟩
      have HB2 := Lib.hid (belS HB1.out hb)
      have BX2 := Lib.hid (BX1.out.below hb)
      have BN2 := Lib.hid (BN1.out.below hb)
      clear hb
      clear x0 x1 x2 x3 x4 n0 n1 n2 n3
      have x0 := BX2.out.cell 0 (by simp)
      have x1 := BX2.out.cell 1 (by simp)
      have x2 := BX2.out.cell 2 (by simp)
      have x3 := BX2.out.cell 3 (by simp)
      have x4 := BX2.out.cell 4 (by simp)
      simp only [List.getElem_cons_zero, List.getElem_cons_succ] at x0 x1 x2 x3 x4
      have n0 := BN2.out.cell 0 (by simp)
      have n1 := BN2.out.cell 1 (by simp)
      have n2 := BN2.out.cell 2 (by simp)
      have n3 := BN2.out.cell 3 (by simp)
      simp only [List.getElem_cons_zero, List.getElem_cons_succ] at n0 n1 n2 n3
      go_wp2_with fail
      refine (HFA.out _ _ (HX.out _ HB2.out)).mono ?_
      rintro e w3 ⟨rfl, hb⟩
      have HB3 := Lib.hid (belS HB2.out hb)
      have BX3 := Lib.hid (BX2.out.below hb)
      have BN3 := Lib.hid (BN2.out.below hb)
      clear hb
      clear x0 x1 x2 x3 x4 n0 n1 n2 n3
      have x0 := BX3.out.cell 0 (by simp)
      have x1 := BX3.out.cell 1 (by simp)
      have x2 := BX3.out.cell 2 (by simp)
      have x3 := BX3.out.cell 3 (by simp)
      have x4 := BX3.out.cell 4 (by simp)
      simp only [List.getElem_cons_zero, List.getElem_cons_succ] at x0 x1 x2 x3 x4
      have n0 := BN3.out.cell 0 (by simp)
      have n1 := BN3.out.cell 1 (by simp)
      have n2 := BN3.out.cell 2 (by simp)
      have n3 := BN3.out.cell 3 (by simp)
      simp only [List.getElem_cons_zero, List.getElem_cons_succ] at n0 n1 n2 n3
      go_wp2_with (first | (go_at_call 46; (with_reducible refine (HOF.out _).mono ?_); rintro e w' ⟨rfl, rfl⟩))
      go_ret
      exact ⟨by simp, HB3.out⟩
    · rw [show (eb && true && (decide ((c :: r) = ([] : List UInt8)) || (c :: r) == a0) && ob && mb) = false by simp [he]]
      have heq : ((c :: r) == a0) = false := by simp [he]
      have hne : ((c :: r) != a0) = true := by simp [he]
      clear he
      go_enter Tryz.func13, Tryz.ntmps13
      have x0 := BX0.out.cell 0 (by simp)
      have x1 := BX0.out.cell 1 (by simp)
      have x2 := BX0.out.cell 2 (by simp)
      have x3 := BX0.out.cell 3 (by simp)
      have x4 := BX0.out.cell 4 (by simp)
      simp only [List.getElem_cons_zero, List.getElem_cons_succ] at x0 x1 x2 x3 x4
      have n0 := BN0.out.cell 0 (by simp)
      have n1 := BN0.out.cell 1 (by simp)
      have n2 := BN0.out.cell 2 (by simp)
      have n3 := BN0.out.cell 3 (by simp)
      simp only [List.getElem_cons_zero, List.getElem_cons_succ] at n0 n1 n2 n3
      go_wp2_with fail
      refine (HIN.out _).mono ?_
      rintro e w1 ⟨rfl, hb⟩
      have HB1 := Lib.hid (belS HB0.out hb)
      have BX1 := Lib.hid (BX0.out.below hb)
      have BN1 := Lib.hid (BN0.out.below hb)
      clear hb
      clear x0 x1 x2 x3 x4 n0 n1 n2 n3
      have x0 := BX1.out.cell 0 (by simp)
      have x1 := BX1.out.cell 1 (by simp)
      have x2 := BX1.out.cell 2 (by simp)
      have x3 := BX1.out.cell 3 (by simp)
      have x4 := BX1.out.cell 4 (by simp)
      simp only [List.getElem_cons_zero, List.getElem_cons_succ] at x0 x1 x2 x3 x4
      have n0 := BN1.out.cell 0 (by simp)
      have n1 := BN1.out.cell 1 (by simp)
      have n2 := BN1.out.cell 2 (by simp)
      have n3 := BN1.out.cell 3 (by simp)
      simp only [List.getElem_cons_zero, List.getElem_cons_succ] at n0 n1 n2 n3
      go_wp2_with fail
      go_ret
      exact ⟨rfl, HB1.out⟩
end Go.Proofs.YtlkpinlkbikokabGreat
/- Contracts of chapter 4: IsPart, the model's. -/
namespace Go.Proofs.YtlkpinlkbikokabGreat
set_option linter.unusedVariables false
set_option linter.unusedSimpArgs false
open Go.RowKit
set_option maxRecDepth 100000 in
set_option maxHeartbeats 3200000 in
theorem specIsPart_any (v : Value) (x : PartD) (w : World) (hx : ValAt rPart 0 w v x) (hs : ∀ c ∈ x.fCore.fCells, c.fKey.length ≤ maxLen) :
    Calls Tryz.prog 125 #[v] w fun e w' => e = .returned (.bool (partB x)) ∧ Below w.heap.size w w' := by
  obtain ⟨_, rfl, hx⟩ := hx
  have HX := Lib.hid hx
  have HBAD := Lib.hid (fun k => partB_bad (x := x) (k := k))
  have HOK := Lib.hid (fun i h y hy => layOk_of x i h y hy)
  have HSU := Lib.hid (layTo_succ x)
  have HFN := Lib.hid (faceN_take x.fCore x.fLayers)
  have HP := Lib.hid (show partB x = (coreB x.fCore && decide (x.fLayers.length ≤ 3) && layTo x x.fLayers.length) from rfl)
  obtain ⟨xc, ls⟩ := x
  obtain ⟨v3, v5, rfl, h3, h5⟩ := hx
  have HC := Lib.hid (fun W (hb : Below w.heap.size w W) => specIsCore_any (vCore xc v3) xc W ⟨v3, rfl, FlatAt.below (flatAt_of_slice cCell_len (by decide) h3) hb (Nat.le_refl _)⟩ hs)
  obtain ⟨a0, a1, a2, a3, a4⟩ := xc
  unfold vCore at HC
  simp only at h3 h5 HX HC HP HFN HBAD HOK
  obtain ⟨ra, rc, rfl, _⟩ := sliceAt_len h3
  obtain ⟨sa, sc, rfl, hl, hcap⟩ := sliceAt_cap h5
  have H5 := Lib.hid h5
  have H3 := Lib.hid h3
  unfold maxLen at hl
  have HB0 := Lib.hid (show ∀ o, Below w.heap.size w (w.alloc o) from fun o => part_box w o)
  have HS0 := Lib.hid (Bx.new w [.string ⟨a0.toArray⟩, .bool a1, .bool a2, .slice ra a3.length rc, .int .i64 a4, .slice sa ls.length sc] 103)
  clear h3 h5
  have HPB := Lib.hid (show partB ⟨⟨a0, a1, a2, a3, a4⟩, ls⟩ = partB ⟨⟨a0, a1, a2, a3, a4⟩, ls⟩ from rfl)
  generalize partB ⟨⟨a0, a1, a2, a3, a4⟩, ls⟩ = pb at *
  have HCB := Lib.hid (show coreB ⟨a0, a1, a2, a3, a4⟩ = coreB ⟨a0, a1, a2, a3, a4⟩ from rfl)
  generalize coreB ⟨a0, a1, a2, a3, a4⟩ = cb at *
  clear HPB HCB HX
  cases cb with
  | false =>
    have HR := Lib.hid (show pb = false by rw [HP.out]; rfl)
    go_enter Tryz.func125, Tryz.ntmps125
    go_wp2_with fail
    refine (HC.out _ (HB0.out _)).mono ?_
    rintro e w1 ⟨rfl, hb⟩
    have HB := Lib.hid (belS (HB0.out _) hb)
    clear hb
    go_wp2_with fail
    go_ret
    exact ⟨ret_bool HR.out.symm, HB.out⟩
  | true =>
    by_cases h3 : 3 < ls.length
    · have HR := Lib.hid (show pb = false by rw [HP.out, show decide (ls.length ≤ 3) = false by simpa using h3]; rfl)
      go_enter Tryz.func125, Tryz.ntmps125
      go_wp2_with fail
      refine (HC.out _ (HB0.out _)).mono ?_
      rintro e w1 ⟨rfl, hb⟩
      have HB := Lib.hid (belS (HB0.out _) hb)
      have BX := Lib.hid (HS0.out.below hb)
      clear hb
      have e0 := BX.out.cell 0 (by simp)
      have e1 := BX.out.cell 1 (by simp)
      have e2 := BX.out.cell 2 (by simp)
      have e3 := BX.out.cell 3 (by simp)
      have e4 := BX.out.cell 4 (by simp)
      have e5 := BX.out.cell 5 (by simp)
      simp only [List.getElem_cons_zero, List.getElem_cons_succ] at e0 e1 e2 e3 e4 e5
      go_wp2_with fail
      go_ret
      exact ⟨ret_bool HR.out.symm, HB.out⟩
    · have HR := Lib.hid (show pb = layTo ⟨⟨a0, a1, a2, a3, a4⟩, ls⟩ ls.length by rw [HP.out, show decide (ls.length ≤ 3) = true by simpa using h3]; simp)
      go_enter Tryz.func125, Tryz.ntmps125
      go_wp2_with fail
      refine (HC.out _ (HB0.out _)).mono ?_
      rintro e w1 ⟨rfl, hb⟩
      have HB := Lib.hid (belS (HB0.out _) hb)
      have BX := Lib.hid (HS0.out.below hb)
      clear hb
      have e0 := BX.out.cell 0 (by simp)
      have e1 := BX.out.cell 1 (by simp)
      have e2 := BX.out.cell 2 (by simp)
      have e3 := BX.out.cell 3 (by simp)
      have e4 := BX.out.cell 4 (by simp)
      have e5 := BX.out.cell 5 (by simp)
      simp only [List.getElem_cons_zero, List.getElem_cons_succ] at e0 e1 e2 e3 e4 e5
      go_wp2_with fail
      clear e0 e1 e2 e3 e4 e5
      go_loopw [3, 4, 21] (fun _ _ i wr => ∃ k : Nat, k ≤ ls.length ∧ i = .int .i64 k ∧ layTo ⟨⟨a0, a1, a2, a3, a4⟩, ls⟩ k = true ∧ Below w.heap.size w wr ∧ Bx wr w.heap.size [.string ⟨a0.toArray⟩, .bool a1, .bool a2, .slice ra a3.length rc, .int .i64 a4, .slice sa ls.length sc]) (fun _ _ i _ => ls.length - (intOf i).toNat)
      case atStart => exact ⟨0, Nat.zero_le _, rfl, rfl, HB.out, BX.out⟩
      case round =>
        obtain ⟨k, hk, rfl, ht, hbr, hbx⟩ := hrel
        have HT := Lib.hid ht
        have HBr := Lib.hid hbr
        have BXr := Lib.hid hbx
        have HXr := Lib.hid (SliceAt.below H5.out (good_flat cLayer_len) hbr (Nat.le_refl _))
        clear ht hbr hbx
        by_cases hlt : k < ls.length
        · obtain ⟨b, o, cs, rfl, hbw, hat, hd⟩ := sliceAt_cell HXr.out k hlt
          have HLO := Lib.hid (HOK.out k hlt _ rfl)
          have HBD := Lib.hid (fun h => HBAD.out k hlt h)
          have HNX := Lib.hid (show layOk ⟨⟨a0, a1, a2, a3, a4⟩, ls⟩ k = true → layTo ⟨⟨a0, a1, a2, a3, a4⟩, ls⟩ (k + 1) = true from fun h => by rw [HSU.out, HT.out, h]; rfl)
          have HFO := Lib.hid (fun W hW => l4Face_any (.agg #[.string ⟨a0.toArray⟩, .bool a1, .bool a2, .slice ra a3.length rc, .int .i64 a4, .slice (some ⟨b, o, none⟩) ls.length sc]) ⟨⟨a0, a1, a2, a3, a4⟩, ls⟩ k W ⟨_, rfl, _, _, rfl, SliceAt.below H3.out (good_flat cCell_len) hW (Nat.le_refl _), SliceAt.below H5.out (good_flat cLayer_len) hW (Nat.le_refl _)⟩ (Nat.le_of_lt hlt))
          generalize ls[k] = z at *
          obtain ⟨z0, z1⟩ := z
          simp only [rFlat, cLayer] at hat HLO
          subst hat
          have d0 := hd 0 (by decide)
          have d1 := hd 1 (by decide)
          simp only [List.getElem?_cons_zero, List.getElem?_cons_succ, Nat.add_zero] at d0 d1
          have HLN := Lib.hid (specLayerNeeds_any ⟨z0.toArray⟩)
          simp only [ndV, List.toList_toArray] at HLN
          have HOF := Lib.hid (specOffers_any (faceN ⟨⟨a0, a1, a2, a3, a4⟩, ls⟩ k) (needI (layI z0)))
          have hkc : (k : Int) < (ls.length : Int) := by omega
          generalize layOk ⟨⟨a0, a1, a2, a3, a4⟩, ls⟩ k = lo at *
          generalize faceN ⟨⟨a0, a1, a2, a3, a4⟩, ls⟩ k = fc at *
          generalize needI (layI z0) = nd at *
          generalize offersF fc nd = ob at *
          generalize hge : decide (0 ≤ layI z0) = q at *
          clear hd hge HXr
          have HW0 := Lib.hid (part_box wr (.cells #[.string ⟨z0.toArray⟩, .int .i64 z1] 142))
          have BL := Lib.hid (Bx.new wr [.string ⟨z0.toArray⟩, .int .i64 z1] 142)
          have BX1 := Lib.hid (BXr.out.alloc (.cells #[.string ⟨z0.toArray⟩, .int .i64 z1] 142))
          have HB1 := Lib.hid (belS HBr.out HW0.out)
          by_cases h0 : z0 = [99, 111, 117, 110, 116, 115]
          · subst h0
            have HCD := Lib.hid (show countedB [99, 111, 117, 110, 116, 115] = true from rfl)
            have HCN := Lib.hid (show True from trivial)
            have e0 := BX1.out.cell 0 (by simp)
            have e1 := BX1.out.cell 1 (by simp)
            have e2 := BX1.out.cell 2 (by simp)
            have e3 := BX1.out.cell 3 (by simp)
            have e4 := BX1.out.cell 4 (by simp)
            have e5 := BX1.out.cell 5 (by simp)
            simp only [List.getElem_cons_zero, List.getElem_cons_succ] at e0 e1 e2 e3 e4 e5
            go_wp2_with fail
            refine (HLN.out _).mono ?_
            rintro e w2 ⟨rfl, hb⟩
            have HB2 := Lib.hid (belS HB1.out hb)
            have BL2 := Lib.hid (BL.out.below hb)
            have BX2 := Lib.hid (BX1.out.below hb)
            clear hb
            clear e0 e1 e2 e3 e4 e5
            have e0 := BX2.out.cell 0 (by simp)
            have e1 := BX2.out.cell 1 (by simp)
            have e2 := BX2.out.cell 2 (by simp)
            have e3 := BX2.out.cell 3 (by simp)
            have e4 := BX2.out.cell 4 (by simp)
            have e5 := BX2.out.cell 5 (by simp)
            simp only [List.getElem_cons_zero, List.getElem_cons_succ] at e0 e1 e2 e3 e4 e5
            have g0 := BL2.out.cell 0 (by simp)
            have g1 := BL2.out.cell 1 (by simp)
            simp only [List.getElem_cons_zero, List.getElem_cons_succ] at g0 g1
            cases q with
            | false =>
              have HR2 := Lib.hid (show pb = false from HBD.out (by rw [HLO.out]; rfl))
              go_wp2_with fail
              go_ret
              exact ⟨ret_bool HR2.out.symm, HB2.out⟩
            | true =>
              go_wp2_with fail
              refine (HFO.out _ HB2.out).mono ?_
              rintro e w3 ⟨rfl, hb⟩
              have HB3 := Lib.hid (belS HB2.out hb)
              have BL3 := Lib.hid (BL2.out.below hb)
              have BX3 := Lib.hid (BX2.out.below hb)
              clear hb
              clear e0 e1 e2 e3 e4 e5 g0 g1
              have g0 := BL3.out.cell 0 (by simp)
              have g1 := BL3.out.cell 1 (by simp)
              simp only [List.getElem_cons_zero, List.getElem_cons_succ] at g0 g1
              cases ob with
              | false =>
                have HR2 := Lib.hid (show pb = false from HBD.out (by rw [HLO.out]; rfl))
                go_wp2_with (first | (go_at_call 38; (with_reducible refine (HOF.out _).mono ?_); rintro e w' ⟨rfl, rfl⟩))
                go_ret
                exact ⟨ret_bool HR2.out.symm, HB3.out⟩
              | true =>
                by_cases hc0 : z1 < 0
                · skip
                  have HR2 := Lib.hid (show pb = false from HBD.out (by rw [HLO.out]; unfold cntB; rw [HCD.out]; simp [numB]; omega))
                  go_wp2_with (first | (go_at_call 38; (with_reducible refine (HOF.out _).mono ?_); rintro e w' ⟨rfl, rfl⟩))
                  go_ret
                  exact ⟨ret_bool HR2.out.symm, HB3.out⟩
                · by_cases hc9 : 999 < z1
                  · skip
                    have HR2 := Lib.hid (show pb = false from HBD.out (by rw [HLO.out]; unfold cntB; rw [HCD.out]; simp [numB]; omega))
                    go_wp2_with (first | (go_at_call 38; (with_reducible refine (HOF.out _).mono ?_); rintro e w' ⟨rfl, rfl⟩))
                    go_ret
                    exact ⟨ret_bool HR2.out.symm, HB3.out⟩
                  · have HR2 := Lib.hid (HNX.out (by rw [HLO.out]; unfold cntB; rw [HCD.out]; simp [numB]; omega))
                    by_cases hcp : 0 < z1
                    · go_wp2_with (first | (go_at_call 38; (with_reducible refine (HOF.out _).mono ?_); rintro e w' ⟨rfl, rfl⟩))
                      exact ⟨⟨k + 1, by omega, by go_num, HR2.out, HB3.out, BX3.out⟩, by simp [intOf]; omega⟩
                    · go_wp2_with (first | (go_at_call 38; (with_reducible refine (HOF.out _).mono ?_); rintro e w' ⟨rfl, rfl⟩))
                      exact ⟨⟨k + 1, by omega, by go_num, HR2.out, HB3.out, BX3.out⟩, by simp [intOf]; omega⟩
          · by_cases h1 : z0 = [104, 101, 97, 114, 115]
            · subst h1
              clear h0
              have HCD := Lib.hid (show countedB [104, 101, 97, 114, 115] = true from rfl)
              have e0 := BX1.out.cell 0 (by simp)
              have e1 := BX1.out.cell 1 (by simp)
              have e2 := BX1.out.cell 2 (by simp)
              have e3 := BX1.out.cell 3 (by simp)
              have e4 := BX1.out.cell 4 (by simp)
              have e5 := BX1.out.cell 5 (by simp)
              simp only [List.getElem_cons_zero, List.getElem_cons_succ] at e0 e1 e2 e3 e4 e5
              go_wp2_with fail
              refine (HLN.out _).mono ?_
              rintro e w2 ⟨rfl, hb⟩
              have HB2 := Lib.hid (belS HB1.out hb)
              have BL2 := Lib.hid (BL.out.below hb)
              have BX2 := Lib.hid (BX1.out.below hb)
              clear hb
              clear e0 e1 e2 e3 e4 e5
              have e0 := BX2.out.cell 0 (by simp)
              have e1 := BX2.out.cell 1 (by simp)
              have e2 := BX2.out.cell 2 (by simp)
              have e3 := BX2.out.cell 3 (by simp)
              have e4 := BX2.out.cell 4 (by simp)
              have e5 := BX2.out.cell 5 (by simp)
              simp only [List.getElem_cons_zero, List.getElem_cons_succ] at e0 e1 e2 e3 e4 e5
              have g0 := BL2.out.cell 0 (by simp)
              have g1 := BL2.out.cell 1 (by simp)
              simp only [List.getElem_cons_zero, List.getElem_cons_succ] at g0 g1
              cases q with
              | false =>
                have HR2 := Lib.hid (show pb = false from HBD.out (by rw [HLO.out]; rfl))
                go_wp2_with fail
                go_ret
                exact ⟨ret_bool HR2.out.symm, HB2.out⟩
              | true =>
                go_wp2_with fail
                refine (HFO.out _ HB2.out).mono ?_
                rintro e w3 ⟨rfl, hb⟩
                have HB3 := Lib.hid (belS HB2.out hb)
                have BL3 := Lib.hid (BL2.out.below hb)
                have BX3 := Lib.hid (BX2.out.below hb)
                clear hb
                clear e0 e1 e2 e3 e4 e5 g0 g1
                have g0 := BL3.out.cell 0 (by simp)
                have g1 := BL3.out.cell 1 (by simp)
                simp only [List.getElem_cons_zero, List.getElem_cons_succ] at g0 g1
                cases ob with
                | false =>
                  have HR2 := Lib.hid (show pb = false from HBD.out (by rw [HLO.out]; rfl))
                  go_wp2_with (first | (go_at_call 38; (with_reducible refine (HOF.out _).mono ?_); rintro e w' ⟨rfl, rfl⟩))
                  go_ret
                  exact ⟨ret_bool HR2.out.symm, HB3.out⟩
                | true =>
                  by_cases hc0 : z1 < 0
                  · skip
                    have HR2 := Lib.hid (show pb = false from HBD.out (by rw [HLO.out]; unfold cntB; rw [HCD.out]; simp [numB]; omega))
                    go_wp2_with (first | (go_at_call 38; (with_reducible refine (HOF.out _).mono ?_); rintro e w' ⟨rfl, rfl⟩))
                    go_ret
                    exact ⟨ret_bool HR2.out.symm, HB3.out⟩
                  · by_cases hc9 : 999 < z1
                    · skip
                      have HR2 := Lib.hid (show pb = false from HBD.out (by rw [HLO.out]; unfold cntB; rw [HCD.out]; simp [numB]; omega))
                      go_wp2_with (first | (go_at_call 38; (with_reducible refine (HOF.out _).mono ?_); rintro e w' ⟨rfl, rfl⟩))
                      go_ret
                      exact ⟨ret_bool HR2.out.symm, HB3.out⟩
                    · have HR2 := Lib.hid (HNX.out (by rw [HLO.out]; unfold cntB; rw [HCD.out]; simp [numB]; omega))
                      by_cases hcp : 0 < z1
                      · go_wp2_with (first | (go_at_call 38; (with_reducible refine (HOF.out _).mono ?_); rintro e w' ⟨rfl, rfl⟩))
                        exact ⟨⟨k + 1, by omega, by go_num, HR2.out, HB3.out, BX3.out⟩, by simp [intOf]; omega⟩
                      · go_wp2_with (first | (go_at_call 38; (with_reducible refine (HOF.out _).mono ?_); rintro e w' ⟨rfl, rfl⟩))
                        exact ⟨⟨k + 1, by omega, by go_num, HR2.out, HB3.out, BX3.out⟩, by simp [intOf]; omega⟩
            · have HCD := Lib.hid (show countedB z0 = false by simp [countedB, h0, h1])
              have k0 : (z0 == [99, 111, 117, 110, 116, 115]) = false := by simp [h0]
              have k1 : (z0 == [104, 101, 97, 114, 115]) = false := by simp [h1]
              clear h0 h1
              have e0 := BX1.out.cell 0 (by simp)
              have e1 := BX1.out.cell 1 (by simp)
              have e2 := BX1.out.cell 2 (by simp)
              have e3 := BX1.out.cell 3 (by simp)
              have e4 := BX1.out.cell 4 (by simp)
              have e5 := BX1.out.cell 5 (by simp)
              simp only [List.getElem_cons_zero, List.getElem_cons_succ] at e0 e1 e2 e3 e4 e5
              go_wp2_with fail
              refine (HLN.out _).mono ?_
              rintro e w2 ⟨rfl, hb⟩
              have HB2 := Lib.hid (belS HB1.out hb)
              have BL2 := Lib.hid (BL.out.below hb)
              have BX2 := Lib.hid (BX1.out.below hb)
              clear hb
              clear e0 e1 e2 e3 e4 e5
              have e0 := BX2.out.cell 0 (by simp)
              have e1 := BX2.out.cell 1 (by simp)
              have e2 := BX2.out.cell 2 (by simp)
              have e3 := BX2.out.cell 3 (by simp)
              have e4 := BX2.out.cell 4 (by simp)
              have e5 := BX2.out.cell 5 (by simp)
              simp only [List.getElem_cons_zero, List.getElem_cons_succ] at e0 e1 e2 e3 e4 e5
              have g0 := BL2.out.cell 0 (by simp)
              have g1 := BL2.out.cell 1 (by simp)
              simp only [List.getElem_cons_zero, List.getElem_cons_succ] at g0 g1
              cases q with
              | false =>
                have HR2 := Lib.hid (show pb = false from HBD.out (by rw [HLO.out]; rfl))
                go_wp2_with fail
                go_ret
                exact ⟨ret_bool HR2.out.symm, HB2.out⟩
              | true =>
                go_wp2_with fail
                refine (HFO.out _ HB2.out).mono ?_
                rintro e w3 ⟨rfl, hb⟩
                have HB3 := Lib.hid (belS HB2.out hb)
                have BL3 := Lib.hid (BL2.out.below hb)
                have BX3 := Lib.hid (BX2.out.below hb)
                clear hb
                clear e0 e1 e2 e3 e4 e5 g0 g1
                have g0 := BL3.out.cell 0 (by simp)
                have g1 := BL3.out.cell 1 (by simp)
                simp only [List.getElem_cons_zero, List.getElem_cons_succ] at g0 g1
                cases ob with
                | false =>
                  have HR2 := Lib.hid (show pb = false from HBD.out (by rw [HLO.out]; rfl))
                  go_wp2_with (first | (go_at_call 38; (with_reducible refine (HOF.out _).mono ?_); rintro e w' ⟨rfl, rfl⟩))
                  go_ret
                  exact ⟨ret_bool HR2.out.symm, HB3.out⟩
                | true =>
                  by_cases hc0 : z1 < 0
                  · skip
                    have HR2 := Lib.hid (show pb = false from HBD.out (by rw [HLO.out]; unfold cntB; rw [HCD.out]; simp; omega))
                    go_wp2_with (first | (go_at_call 38; (with_reducible refine (HOF.out _).mono ?_); rintro e w' ⟨rfl, rfl⟩))
                    go_ret
                    exact ⟨ret_bool HR2.out.symm, HB3.out⟩
                  · by_cases hc9 : 999 < z1
                    · skip
                      have HR2 := Lib.hid (show pb = false from HBD.out (by rw [HLO.out]; unfold cntB; rw [HCD.out]; simp; omega))
                      go_wp2_with (first | (go_at_call 38; (with_reducible refine (HOF.out _).mono ?_); rintro e w' ⟨rfl, rfl⟩))
                      go_ret
                      exact ⟨ret_bool HR2.out.symm, HB3.out⟩
                    · by_cases hcp : 0 < z1
                      · skip
                        have HR2 := Lib.hid (show pb = false from HBD.out (by rw [HLO.out]; unfold cntB; rw [HCD.out]; simp; omega))
                        go_wp2_with (first | (go_at_call 38; (with_reducible refine (HOF.out _).mono ?_); rintro e w' ⟨rfl, rfl⟩))
                        go_ret
                        exact ⟨ret_bool HR2.out.symm, HB3.out⟩
                      · have HR2 := Lib.hid (HNX.out (by rw [HLO.out]; unfold cntB; rw [HCD.out]; simp; omega))
                        go_wp2_with (first | (go_at_call 38; (with_reducible refine (HOF.out _).mono ?_); rintro e w' ⟨rfl, rfl⟩))
                        exact ⟨⟨k + 1, by omega, by go_num, HR2.out, HB3.out, BX3.out⟩, by simp [intOf]; omega⟩
        · have HR2 := Lib.hid (show pb = true by rw [HR.out]; have h := HT.out; rwa [show k = ls.length by omega] at h)
          go_wp2
          go_ret
          exact ⟨ret_bool HR2.out.symm, HBr.out⟩
end Go.Proofs.YtlkpinlkbikokabGreat
namespace Go.Proofs.YtlkpinlkbikokabGreat
set_option linter.unusedVariables false
set_option linter.unusedSimpArgs false
open Go.RowKit
set_option maxRecDepth 100000 in
set_option maxHeartbeats 3200000 in
theorem l3Copy_any (v : Value) (d : CoreD) (w : World) (hx : CoreAt w v d) (hm : d.fCells.length ≤ 2097152) :
    Calls Tryz.prog 152 #[v] w fun e w' => GivesCore d w e w' := by
  obtain ⟨cv, rfl, hx⟩ := hx
  obtain ⟨i0, hi, hz0, hz1, hz2⟩ := info_parts cell_info
  obtain ⟨kd, on, br, l, cnt⟩ := d
  unfold vCore
  simp only at *
  have HX := Lib.hid hx
  obtain ⟨a, c, rfl, hml⟩ := flatAt_len hx
  clear hx
  have HB3 := Lib.hid (show ∀ o1 o2 o3, Below w.heap.size w (((w.alloc o1).alloc o2).alloc o3) from fun o1 o2 o3 => (((Below.refl _ _).alloc (Nat.le_refl _) _).alloc (by simp) _).alloc (by simp; omega) _)
  have HO3 := Lib.hid (show ∀ o1 o2, OwnsF cCell 194 2 (((w.alloc o1).alloc o2).alloc (.cells #[] 194)) (w.heap.size + 1 + 1) (.slice (some ⟨w.heap.size + 1 + 1, 0, none⟩) 0 0) [] from fun o1 o2 => by have h := ownsF_new cCell 194 2 ((w.alloc o1).alloc o2); simpa using h)
  cases a with
  | none =>
    have hl0 : l = [] := by
      obtain ⟨a', c', e, _, _, h⟩ := HX.out
      injection e with e1 e2
      rcases h with h | ⟨b, o, rfl, _⟩
      · exact List.eq_nil_of_length_eq_zero h
      · simp at e1
    subst hl0
    simp only [List.length_nil] at *
    go_enter Tryz.func152, Tryz.ntmps152
    go_wp2_with fail
    refine bodyPost_ret (v := .agg #[.string ⟨kd.toArray⟩, .bool on, .bool br, .slice (some ⟨w.heap.size + 1 + 1, 0, none⟩) 0 0, .int .i64 cnt]) (by simp [results, Tryz.results152, go_sem, cell_set_at, cell_set_ne]) rfl ?_
    exact ⟨_, rfl, ⟨_, rfl, ownsF_base (HO3.out _ _) (by omega)⟩, HB3.out _ _ _⟩
  | some ad =>
    have HN := Lib.hid (fun o1 o2 o3 => show ∀ j u, (l.flatMap cCell)[j]? = some u → (((w.alloc o1).alloc o2).alloc o3).cell? (ad.add j) = some u from fun j u hj => by
      have h9 := HX.out.below (HB3.out o1 o2 o3) (Nat.le_refl _)
      obtain ⟨a', c', e, _, _, h⟩ := h9
      injection e with e1 e2
      have hjl : j < (l.flatMap cCell).length := (List.getElem?_eq_some_iff.1 hj).1
      rw [flat_len cCell 2 cCell_len] at hjl
      rcases h with h | ⟨b, o, rfl, _, h⟩
      · omega
      · injection e1 with e1
        subst e1
        rw [Addr.add_lit, h j hjl]; exact hj)
    have h1c : ∀ u ∈ l.flatMap cCell, u.oneCell' = true := fun u hu => by
      obtain ⟨y, _, hy⟩ := List.mem_flatMap.1 hu
      exact cCell_one y u hy
    have hfl := flat_len cCell 2 cCell_len l
    have H1 := Lib.hid h1c
    have HFL := Lib.hid hfl
    clear h1c hfl
    go_enter Tryz.func152, Tryz.ntmps152
    go_wp2_with (at_builtin; refine wpList_append_own _ rfl _ _ 98 rfl (w.heap.size + 1 + 1) 194 i0 _ 2 24 Tryz.underlying98 hi hz0 hz1 hz2 rfl (by decide) (.slice (some ⟨w.heap.size + 1 + 1, 0, none⟩) 0 0) 0 [] (by rfl) (HO3.out _ _) ad l.length c (l.flatMap cCell) (by rfl) HFL.out (HN.out _ _ _) H1.out (by unfold maxLen; omega) (by omega) (by simp; try omega) ?_; intro v' w' ho hgr hnil; clear hnil; have q0 : w'.cell? ⟨w.heap.size, 0, none⟩ = some (.string ⟨kd.toArray⟩) := (hgr.cell_far ⟨w.heap.size, 0, none⟩ (by simp <;> omega) (by simp [Value.ownBlock] <;> omega)).trans (by simp [go_sem]); have q1 : w'.cell? ⟨w.heap.size, 1, none⟩ = some (.bool on) := (hgr.cell_far ⟨w.heap.size, 1, none⟩ (by simp <;> omega) (by simp [Value.ownBlock] <;> omega)).trans (by simp [go_sem]); have q2 : w'.cell? ⟨w.heap.size, 2, none⟩ = some (.bool br) := (hgr.cell_far ⟨w.heap.size, 2, none⟩ (by simp <;> omega) (by simp [Value.ownBlock] <;> omega)).trans (by simp [go_sem]); have q3 : w'.cell? ⟨w.heap.size, 3, none⟩ = some (.slice (some ad) l.length c) := (hgr.cell_far ⟨w.heap.size, 3, none⟩ (by simp <;> omega) (by simp [Value.ownBlock] <;> omega)).trans (by simp [go_sem]); have q4 : w'.cell? ⟨w.heap.size, 4, none⟩ = some (.int .i64 cnt) := (hgr.cell_far ⟨w.heap.size, 4, none⟩ (by simp <;> omega) (by simp [Value.ownBlock] <;> omega)).trans (by simp [go_sem]); have r0 : w'.cell? ⟨w.heap.size + 1, 0, none⟩ = some (.string ⟨#[]⟩) := (hgr.cell_far ⟨w.heap.size + 1, 0, none⟩ (by simp <;> omega) (by simp [Value.ownBlock] <;> omega)).trans (by simp [go_sem]); have r1 : w'.cell? ⟨w.heap.size + 1, 1, none⟩ = some (.bool false) := (hgr.cell_far ⟨w.heap.size + 1, 1, none⟩ (by simp <;> omega) (by simp [Value.ownBlock] <;> omega)).trans (by simp [go_sem]); have r2 : w'.cell? ⟨w.heap.size + 1, 2, none⟩ = some (.bool false) := (hgr.cell_far ⟨w.heap.size + 1, 2, none⟩ (by simp <;> omega) (by simp [Value.ownBlock] <;> omega)).trans (by simp [go_sem]); have r3 : w'.cell? ⟨w.heap.size + 1, 3, none⟩ = some (.slice none 0 0) := (hgr.cell_far ⟨w.heap.size + 1, 3, none⟩ (by simp <;> omega) (by simp [Value.ownBlock] <;> omega)).trans (by simp [go_sem]); have r4 : w'.cell? ⟨w.heap.size + 1, 4, none⟩ = some (.int .i64 0) := (hgr.cell_far ⟨w.heap.size + 1, 4, none⟩ (by simp <;> omega) (by simp [Value.ownBlock] <;> omega)).trans (by simp [go_sem]); have y0 : ∀ o, w'.frozen? ⟨w.heap.size, o, none⟩ = false := (fun o => (hgr.frozen_far ⟨w.heap.size, o, none⟩ (by simp <;> omega) (by simp [Value.ownBlock] <;> omega)).trans (by simp [go_sem])); have y1 : ∀ o, w'.frozen? ⟨w.heap.size + 1, o, none⟩ = false := (fun o => (hgr.frozen_far ⟨w.heap.size + 1, o, none⟩ (by simp <;> omega) (by simp [Value.ownBlock] <;> omega)).trans (by simp [go_sem])); have HG := Lib.hid hgr; have HO := Lib.hid (show OwnsF cCell 194 2 w' (w.heap.size + 1 + 1) v' l from by simpa [OwnsF] using ho); obtain ⟨ua, uc, rfl⟩ := slice_of HO.out)
    refine bodyPost_ret (v := .agg #[.string ⟨kd.toArray⟩, .bool on, .bool br, .slice ua l.length uc, .int .i64 cnt]) (by simp [results, Tryz.results152, go_sem, cell_set_at, cell_set_ne, q0, q1, q2, q3, q4, r0, r1, r2, r3, r4]) rfl ?_
    refine ⟨_, rfl, ⟨_, rfl, ?_⟩, ?_⟩
    · refine ownsF_base (B := w.heap.size + 1 + 1) ?_ (by omega)
      repeat (with_reducible refine ownsF_set ?_ (by simp; try omega))
      exact HO.out
    · repeat (with_reducible refine Below.setCell ?_ (by simp; try omega) _)
      exact (HB3.out _ _ _).grown HG.out (by simp; omega) (fun k h => by simp [Value.ownBlock] at h; omega)
end Go.Proofs.YtlkpinlkbikokabGreat
