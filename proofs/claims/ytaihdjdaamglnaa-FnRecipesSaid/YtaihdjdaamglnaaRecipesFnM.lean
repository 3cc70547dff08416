/- FnRecipes: a recipe can be made exactly if each adapter finds what it needs; the part is valid, and has this recipe and face, at every code that is drawn from. No condition. -/
import Derived.Test.YtaihdjdaamglnaaRecipesFnM2
import Derived.Test.YtaihdjdaamglnaaRecipesFnM1
import Derived.Test.YtaihdjdaamglnaaRecipesFnM0
import Derived.HandedShaped
import Derived.Deep.CutRange
import Derived.Deep.QuietTactic
import Derived.BigQuiet
/- Contracts of chapter 4: MakePart, the model's. Written by gen/ch4mk.py. -/
namespace Go.Proofs.Ytaihdjdaamglnaa
set_option linter.unusedVariables false
set_option linter.unusedSimpArgs false
open Go.RowKit
set_option maxRecDepth 100000 in
set_option maxHeartbeats 3200000 in
theorem specMake_nil (a : Option Addr) (c : Nat) (w : World) :
    Calls Try.prog 120 #[.slice a 0 c] w fun e w' => GivesOPR zeroP ⟨7, 0, [], 0, 0⟩ w e w' := by
  unfold GivesOPR zeroP vReply
  have BS := Lib.hid (bx_start2 w [.string ⟨#[]⟩, .bool false, .bool false, .slice none 0 0, .int .i64 0, .slice none 0 0] [.int .i64 0, .int .i64 0, .string ⟨#[]⟩, .int .i64 0, .int .i64 0] 29 33)
  have B2 := Lib.hid BS.out.1
  have B3 := Lib.hid BS.out.2.1
  go_enter Try.func120, Try.ntmps120
  go_wp2_with fail
  exact bodyPost_ret (v := .tuple #[.agg #[.string ⟨#[]⟩, .bool false, .bool false, .slice none 0 0, .int .i64 0, .slice none 0 0], .agg #[.int .i64 7, .int .i64 0, .string ⟨#[]⟩, .int .i64 0, .int .i64 0]]) (by simp [results, Try.results120, go_sem]) rfl ⟨_, rfl, ⟨_, _, rfl, ownsF_nil _ _ _ _ _, ownsF_nil _ _ _ _ _⟩, (bx_start2 w [.string ⟨#[]⟩, .bool false, .bool false, .slice none 0 0, .int .i64 0, .slice none 0 0] [.int .i64 7, .int .i64 0, .string ⟨#[]⟩, .int .i64 0, .int .i64 0] 29 33).2.2⟩
set_option maxRecDepth 100000 in
set_option maxHeartbeats 3200000 in
theorem specMake_bad (b o c : Nat) (k : List UInt8) (r : List (List UInt8)) (w : World) (hR : RowAt w (.slice (some ⟨b, o, none⟩) (r.length + 1) c) ((k :: r).map strV)) (hz : ∀ s ∈ k :: r, s.length ≤ 1048576) (hc : r.length + 1 ≤ c) (hm : r.length + 1 ≤ maxLen) (hk : ¬ 0 ≤ kindI k) :
    Calls Try.prog 120 #[.slice (some ⟨b, o, none⟩) (r.length + 1) c] w fun e w' => GivesOPR zeroP ⟨7, 0, [], 0, 0⟩ w e w' := by
  have d0 := rowAt_cellS hR 0 (by simp)
  simp only [List.map_cons, List.getElem_cons_zero, strV, Nat.add_zero] at d0
  have hbw : b < w.heap.size := by
    obtain ⟨b', o', e, hlt, _⟩ := rowAt_cell hR 0 (by simp)
    injection e with e; injection e with e1 e2; subst e1; exact hlt
  have HNP := Lib.hid (fun W => specNewPart_own ⟨k.toArray⟩ W (by have := hz k (List.mem_cons_self ..); simpa [ByteArray.size] using this))
  simp only [GivesNPO, vNP] at HNP
  have HR := Lib.hid hR
  have HZ := Lib.hid hz
  have HM := Lib.hid hm
  clear hR hz hm
  unfold GivesOPR zeroP vReply
  rw [show decide (0 ≤ kindI (⟨k.toArray⟩ : ByteArray).data.toList) = false from decide_eq_false hk] at HNP
  generalize nmK (⟨k.toArray⟩ : ByteArray).data.toList = nk at *
  have BS := Lib.hid (bx_start2 w [.string ⟨#[]⟩, .bool false, .bool false, .slice none 0 0, .int .i64 0, .slice none 0 0] [.int .i64 0, .int .i64 0, .string ⟨#[]⟩, .int .i64 0, .int .i64 0] 29 33)
  have HD := Lib.hid d0
  clear d0
  have d0 := (BS.out.2.2.cell (p := ⟨b, o, none⟩) hbw).trans HD.out
  go_enter Try.func120, Try.ntmps120
  go_wp2_with fail
  refine (HNP.out _).mono ?_
  rintro e w1 ⟨a1, c1, rfl, ho, hb⟩
  have HB1 := Lib.hid ((belS BS.out.2.2 hb).alloc (belS BS.out.2.2 hb).size (.cells #[.string ⟨nk.toArray⟩, .bool false, .bool false, .slice a1 0 c1, .int .i64 0, .slice none 0 0] 29))
  have B2 := Lib.hid ((BS.out.1.below hb).alloc (.cells #[.string ⟨nk.toArray⟩, .bool false, .bool false, .slice a1 0 c1, .int .i64 0, .slice none 0 0] 29))
  have B3 := Lib.hid ((BS.out.2.1.below hb).alloc (.cells #[.string ⟨nk.toArray⟩, .bool false, .bool false, .slice a1 0 c1, .int .i64 0, .slice none 0 0] 29))
  clear ho hb d0
  have r0 := B2.out.cell 0 (by simp)
  have r1 := B2.out.cell 1 (by simp)
  have r2 := B2.out.cell 2 (by simp)
  have r3 := B2.out.cell 3 (by simp)
  have r4 := B2.out.cell 4 (by simp)
  have r5 := B2.out.cell 5 (by simp)
  simp only [List.getElem_cons_zero, List.getElem_cons_succ] at r0 r1 r2 r3 r4 r5
  have z0 := B2.out.froz 0 (by simp)
  have z1 := B2.out.froz 1 (by simp)
  have z2 := B2.out.froz 2 (by simp)
  have z3 := B2.out.froz 3 (by simp)
  have z4 := B2.out.froz 4 (by simp)
  have z5 := B2.out.froz 5 (by simp)
  have s0 := B3.out.cell 0 (by simp)
  have s1 := B3.out.cell 1 (by simp)
  have s2 := B3.out.cell 2 (by simp)
  have s3 := B3.out.cell 3 (by simp)
  have s4 := B3.out.cell 4 (by simp)
  simp only [List.getElem_cons_zero, List.getElem_cons_succ] at s0 s1 s2 s3 s4
  have y0 := B3.out.froz 0 (by simp)
  have y1 := B3.out.froz 1 (by simp)
  have y2 := B3.out.froz 2 (by simp)
  have y3 := B3.out.froz 3 (by simp)
  have y4 := B3.out.froz 4 (by simp)
  go_wp2_with fail
  clear r0 r1 r2 r3 r4 r5 z0 z1 z2 z3 z4 z5 s0 s1 s2 s3 s4 y0 y1 y2 y3 y4
  have E4 := Lib.hid ((B2.out.put6 (.string ⟨#[]⟩) (.bool false) (.bool false) (.slice none 0 0) (.int .i64 0) (.slice none 0 0)).put5o (c := w.heap.size + 1) (by omega) (.int .i64 7) (.int .i64 0) (.string ⟨#[]⟩) (.int .i64 0) (.int .i64 0))
  have E5 := Lib.hid ((B3.out.put6o (c := w.heap.size) (by omega) (.string ⟨#[]⟩) (.bool false) (.bool false) (.slice none 0 0) (.int .i64 0) (.slice none 0 0)).put5 (.int .i64 7) (.int .i64 0) (.string ⟨#[]⟩) (.int .i64 0) (.int .i64 0))
  have EB := Lib.hid (below_put5 (below_put6 HB1.out w.heap.size (by omega) (.string ⟨#[]⟩) (.bool false) (.bool false) (.slice none 0 0) (.int .i64 0) (.slice none 0 0)) (w.heap.size + 1) (by omega) (.int .i64 7) (.int .i64 0) (.string ⟨#[]⟩) (.int .i64 0) (.int .i64 0))
  generalize ((((((((((((w1.alloc (.cells #[.string ⟨nk.toArray⟩, .bool false, .bool false, .slice a1 0 c1, .int .i64 0, .slice none 0 0] 29)).setCell ⟨w.heap.size, 0, none⟩ (.string ⟨#[]⟩)).setCell ⟨w.heap.size, 1, none⟩ (.bool false)).setCell ⟨w.heap.size, 2, none⟩ (.bool false)).setCell ⟨w.heap.size, 3, none⟩ (.slice none 0 0)).setCell ⟨w.heap.size, 4, none⟩ (.int .i64 0)).setCell ⟨w.heap.size, 5, none⟩ (.slice none 0 0)).setCell ⟨w.heap.size + 1, 0, none⟩ (.int .i64 7)).setCell ⟨w.heap.size + 1, 1, none⟩ (.int .i64 0)).setCell ⟨w.heap.size + 1, 2, none⟩ (.string ⟨#[]⟩)).setCell ⟨w.heap.size + 1, 3, none⟩ (.int .i64 0)).setCell ⟨w.heap.size + 1, 4, none⟩ (.int .i64 0)) = WE at *
  have r0 := E4.out.cell 0 (by simp)
  have r1 := E4.out.cell 1 (by simp)
  have r2 := E4.out.cell 2 (by simp)
  have r3 := E4.out.cell 3 (by simp)
  have r4 := E4.out.cell 4 (by simp)
  have r5 := E4.out.cell 5 (by simp)
  simp only [List.getElem_cons_zero, List.getElem_cons_succ] at r0 r1 r2 r3 r4 r5
  have s0 := E5.out.cell 0 (by simp)
  have s1 := E5.out.cell 1 (by simp)
  have s2 := E5.out.cell 2 (by simp)
  have s3 := E5.out.cell 3 (by simp)
  have s4 := E5.out.cell 4 (by simp)
  simp only [List.getElem_cons_zero, List.getElem_cons_succ] at s0 s1 s2 s3 s4
  exact bodyPost_ret (v := .tuple #[.agg #[.string ⟨#[]⟩, .bool false, .bool false, .slice none 0 0, .int .i64 0, .slice none 0 0], .agg #[.int .i64 7, .int .i64 0, .string ⟨#[]⟩, .int .i64 0, .int .i64 0]]) (by simp [results, Try.results120, go_sem, r0, r1, r2, r3, r4, r5, s0, s1, s2, s3, s4]) rfl ⟨_, rfl, ⟨_, _, rfl, ownsF_nil _ _ _ _ _, ownsF_nil _ _ _ _ _⟩, EB.out⟩
set_option maxRecDepth 100000 in
set_option maxHeartbeats 3200000 in
theorem specMake_one (b o c : Nat) (k : List UInt8) (r : List (List UInt8)) (w : World) (hR : RowAt w (.slice (some ⟨b, o, none⟩) (r.length + 1) c) ((k :: r).map strV)) (hz : ∀ s ∈ k :: r, s.length ≤ 1048576) (hc : r.length + 1 ≤ c) (hm : r.length + 1 ≤ maxLen) (h1 : c = 1) (hk : 0 ≤ kindI k) :
    Calls Try.prog 120 #[.slice (some ⟨b, o, none⟩) (r.length + 1) c] w fun e w' => GivesOPR (makeGo (newP k) r).1 (makeGo (newP k) r).2 w e w' := by
  have d0 := rowAt_cellS hR 0 (by simp)
  simp only [List.map_cons, List.getElem_cons_zero, strV, Nat.add_zero] at d0
  have hbw : b < w.heap.size := by
    obtain ⟨b', o', e, hlt, _⟩ := rowAt_cell hR 0 (by simp)
    injection e with e; injection e with e1 e2; subst e1; exact hlt
  have HNP := Lib.hid (fun W => specNewPart_own ⟨k.toArray⟩ W (by have := hz k (List.mem_cons_self ..); simpa [ByteArray.size] using this))
  simp only [GivesNPO, vNP] at HNP
  have HR := Lib.hid hR
  have HZ := Lib.hid hz
  have HM := Lib.hid hm
  clear hR hz hm
  rw [show decide (0 ≤ kindI (⟨k.toArray⟩ : ByteArray).data.toList) = true from decide_eq_true hk, show nmK (⟨k.toArray⟩ : ByteArray).data.toList = k from if_pos hk] at HNP
  subst h1
  obtain rfl : r = [] := List.eq_nil_of_length_eq_zero (by omega)
  simp only [List.length_nil, Nat.zero_add] at *
  rw [show makeGo (newP k) [] = (newP k, ⟨0, faceP (newP k), [], 0, 0⟩) from rfl]
  unfold GivesOPR vReply
  simp only
  generalize hp0 : newP k = p
  have HPK := Lib.hid hp0
  clear hp0
  generalize hfp : faceP p = fp
  have HFP := Lib.hid hfp
  clear hfp
  have BS := Lib.hid (bx_start2 w [.string ⟨#[]⟩, .bool false, .bool false, .slice none 0 0, .int .i64 0, .slice none 0 0] [.int .i64 0, .int .i64 0, .string ⟨#[]⟩, .int .i64 0, .int .i64 0] 29 33)
  have HD := Lib.hid d0
  clear d0
  have d0 := (BS.out.2.2.cell (p := ⟨b, o, none⟩) hbw).trans HD.out
  go_enter Try.func120, Try.ntmps120
  go_wp2_with fail
  refine (HNP.out _).mono ?_
  rintro e w1 ⟨a1, c1, rfl, ho, hb⟩
  have HB1 := Lib.hid ((belS BS.out.2.2 hb).alloc (belS BS.out.2.2 hb).size (.cells #[.string ⟨k.toArray⟩, .bool false, .bool false, .slice a1 0 c1, .int .i64 0, .slice none 0 0] 29))
  have h1s := hb.size
  simp at h1s
  have ST0 := Lib.hid (show MkSt w w1.heap.size p (w1.alloc (.cells #[.string ⟨k.toArray⟩, .bool false, .bool false, .slice a1 0 c1, .int .i64 0, .slice none 0 0] 29)) by rw [← HPK.out]; exact ⟨newP_small (HZ.out k (List.mem_cons_self ..)), rfl, ⟨_, Bx.new w1 [.string ⟨k.toArray⟩, .bool false, .bool false, .slice a1 0 c1, .int .i64 0, .slice none 0 0] 29, _, _, rfl, ownsF_alloc (ownsF_base ho (by simp)) _, ownsF_nil _ _ _ _ _⟩, (BS.out.1.below hb).alloc (.cells #[.string ⟨k.toArray⟩, .bool false, .bool false, .slice a1 0 c1, .int .i64 0, .slice none 0 0] 29), (BS.out.2.1.below hb).alloc (.cells #[.string ⟨k.toArray⟩, .bool false, .bool false, .slice a1 0 c1, .int .i64 0, .slice none 0 0] 29), HB1.out⟩)
  clear ho hb d0
  go_wp2_with fail
  generalize w1.alloc (.cells #[.string ⟨k.toArray⟩, .bool false, .bool false, .slice a1 0 c1, .int .i64 0, .slice none 0 0] 29) = wr at *
  have hst := ST0.out
  obtain ⟨hsm, hbare, ⟨cs, hq, hown⟩, hr2, hr3, hbw2⟩ := hst
  refine wp_loop_rounds 1 ?_
  rw [rounds_succ]
  obtain ⟨⟨a0, a1, a2, a3, a4⟩, l⟩ := p
  obtain rfl : a3 = [] := hbare
  obtain ⟨u3, u5, rfl, ho3, ho5⟩ := hown
  simp only at ho3 ho5 hq
  obtain ⟨ga, gc, rfl⟩ := slice_of ho3
  obtain ⟨ua, uc, rfl⟩ := slice_of ho5
  simp only [List.length_nil] at *
  have O3 := Lib.hid ho3
  have O5 := Lib.hid ho5
  have HSM := Lib.hid hsm
  have BQ := Lib.hid hq
  have B2 := Lib.hid hr2
  have B3 := Lib.hid hr3
  have HBr := Lib.hid hbw2
  have hlq := hq.lt
  have hls := hbw2.size
  clear hsm ho3 ho5 hq hr2 hr3 hbw2
  have HRP := Lib.hid (fun W (hb : Below wr.heap.size wr W) => (show rPart 0 W [.string ⟨a0.toArray⟩, .bool a1, .bool a2, .slice ga 0 gc, .int .i64 a4, .slice ua l.length uc] (⟨⟨a0, a1, a2, [], a4⟩, l⟩ : PartD) from goodPart.mono (oPart_r ⟨_, _, rfl, ownsF_below O3.out hb (Nat.le_refl _), ownsF_below O5.out hb (Nat.le_refl _)⟩ HSM.out) (Nat.zero_le _)))
  have HFO := Lib.hid (fun W (h : rPart 0 W [.string ⟨a0.toArray⟩, .bool a1, .bool a2, .slice ga 0 gc, .int .i64 a4, .slice ua l.length uc] (⟨⟨a0, a1, a2, [], a4⟩, l⟩ : PartD)) => (show Calls Try.prog 41 #[.agg #[.string ⟨a0.toArray⟩, .bool a1, .bool a2, .slice ga 0 gc, .int .i64 a4, .slice ua l.length uc]] W fun e w' => e = .returned (.int .i64 (faceP (⟨⟨a0, a1, a2, [], a4⟩, l⟩ : PartD))) ∧ Below W.heap.size W w' from specFaceOf_any (.agg #[.string ⟨a0.toArray⟩, .bool a1, .bool a2, .slice ga 0 gc, .int .i64 a4, .slice ua l.length uc]) (⟨⟨a0, a1, a2, [], a4⟩, l⟩ : PartD) W ⟨[.string ⟨a0.toArray⟩, .bool a1, .bool a2, .slice ga 0 gc, .int .i64 a4, .slice ua l.length uc], rfl, h⟩))
  rw [HFP.out] at HFO
  have BQd := Lib.hid (bx_dr BQ.out)
  have B2d := Lib.hid (bx_dr B2.out)
  have B3d := Lib.hid (bx_dr B3.out)
  have q0 := BQd.out.cell 0 (by simp)
  have q1 := BQd.out.cell 1 (by simp)
  have q2 := BQd.out.cell 2 (by simp)
  have q3 := BQd.out.cell 3 (by simp)
  have q4 := BQd.out.cell 4 (by simp)
  have q5 := BQd.out.cell 5 (by simp)
  simp only [List.getElem_cons_zero, List.getElem_cons_succ] at q0 q1 q2 q3 q4 q5
  go_wp2_with fail
  go_region_with (first
      | (go_at_call 41; (with_reducible refine (HFO.out _ (HRP.out _ (bel_dr (Below.refl _ _)))).mono ?_); rintro e w6 ⟨rfl, hb6⟩; have BQ6 := Lib.hid (BQd.out.below hb6); have B26 := Lib.hid (B2d.out.below hb6); have B36 := Lib.hid (B3d.out.below hb6); have q0' := BQ6.out.cell 0 (by simp); have q1' := BQ6.out.cell 1 (by simp); have q2' := BQ6.out.cell 2 (by simp); have q3' := BQ6.out.cell 3 (by simp); have q4' := BQ6.out.cell 4 (by simp); have q5' := BQ6.out.cell 5 (by simp); have r0 := B26.out.cell 0 (by simp); have z0 := B26.out.froz 0 (by simp); have r1 := B26.out.cell 1 (by simp); have z1 := B26.out.froz 1 (by simp); have r2 := B26.out.cell 2 (by simp); have z2 := B26.out.froz 2 (by simp); have r3 := B26.out.cell 3 (by simp); have z3 := B26.out.froz 3 (by simp); have r4 := B26.out.cell 4 (by simp); have z4 := B26.out.froz 4 (by simp); have r5 := B26.out.cell 5 (by simp); have z5 := B26.out.froz 5 (by simp); have s0 := B36.out.cell 0 (by simp); have y0 := B36.out.froz 0 (by simp); have s1 := B36.out.cell 1 (by simp); have y1 := B36.out.froz 1 (by simp); have s2 := B36.out.cell 2 (by simp); have y2 := B36.out.froz 2 (by simp); have s3 := B36.out.cell 3 (by simp); have y3 := B36.out.froz 3 (by simp); have s4 := B36.out.cell 4 (by simp); have y4 := B36.out.froz 4 (by simp); simp only [List.getElem_cons_zero, List.getElem_cons_succ] at q0' q1' q2' q3' q4' q5' r0 r1 r2 r3 r4 r5 s0 s1 s2 s3 s4))
  all_goals (try go_wp2_with fail)
  all_goals
    have HB6 := Lib.hid (belS (bel_dr HBr.out) hb6)
    have T3 := Lib.hid (ownsF_below (ownsF_drew O3.out) hb6 (Nat.le_refl _))
    have T5 := Lib.hid (ownsF_below (ownsF_drew O5.out) hb6 (Nat.le_refl _))
    refine bodyPost_ret (v := .tuple #[.agg #[.string ⟨a0.toArray⟩, .bool a1, .bool a2, .slice ga 0 gc, .int .i64 a4, .slice ua l.length uc], .agg #[.int .i64 0, .int .i64 fp, .string ⟨#[]⟩, .int .i64 0, .int .i64 0]]) (by simp [results, Try.results120, go_sem, cell_set_at, cell_set_ne, r0, r1, r2, r3, r4, r5, s0, s1, s2, s3, s4]) rfl ⟨_, rfl, ⟨_, _, rfl, ?_, ?_⟩, ?_⟩
    · refine ownsF_base (B := ((w.heap.size + 1) + 1)) ?_ (by omega)
      repeat (first | with_reducible exact T3.out | with_reducible refine ownsF_set ?_ (by simp; try omega) | with_reducible refine ownsF_drew ?_)
    · refine ownsF_base (B := ((w.heap.size + 1) + 1)) ?_ (by omega)
      repeat (first | with_reducible exact T5.out | with_reducible refine ownsF_set ?_ (by simp; try omega) | with_reducible refine ownsF_drew ?_)
    · repeat (first | with_reducible exact HB6.out | with_reducible refine Below.setCell ?_ (by simp; try omega) _ | with_reducible refine Below.drew ?_)
set_option maxRecDepth 100000 in
set_option maxHeartbeats 3200000 in
theorem specMake_go (b o c : Nat) (k : List UInt8) (r : List (List UInt8)) (w : World) (hR : RowAt w (.slice (some ⟨b, o, none⟩) (r.length + 1) c) ((k :: r).map strV)) (hz : ∀ s ∈ k :: r, s.length ≤ 1048576) (hc : r.length + 1 ≤ c) (hm : r.length + 1 ≤ maxLen) (h1 : ¬ (c : Int) = 1) (hk : 0 ≤ kindI k) :
    Calls Try.prog 120 #[.slice (some ⟨b, o, none⟩) (r.length + 1) c] w fun e w' => GivesOPR (makeGo (newP k) r).1 (makeGo (newP k) r).2 w e w' := by
  have d0 := rowAt_cellS hR 0 (by simp)
  simp only [List.map_cons, List.getElem_cons_zero, strV, Nat.add_zero] at d0
  have hbw : b < w.heap.size := by
    obtain ⟨b', o', e, hlt, _⟩ := rowAt_cell hR 0 (by simp)
    injection e with e; injection e with e1 e2; subst e1; exact hlt
  have HNP := Lib.hid (fun W => specNewPart_own ⟨k.toArray⟩ W (by have := hz k (List.mem_cons_self ..); simpa [ByteArray.size] using this))
  simp only [GivesNPO, vNP] at HNP
  have HR := Lib.hid hR
  have HZ := Lib.hid hz
  have HM := Lib.hid hm
  clear hR hz hm
  rw [show decide (0 ≤ kindI (⟨k.toArray⟩ : ByteArray).data.toList) = true from decide_eq_true hk, show nmK (⟨k.toArray⟩ : ByteArray).data.toList = k from if_pos hk] at HNP
  generalize hp0 : newP k = p0
  have HPK := Lib.hid hp0
  clear hp0
  generalize hres : makeGo p0 r = res
  obtain ⟨rp, t0, fp, t2, t3, t4⟩ := res
  have HRES := Lib.hid hres.symm
  clear hres
  unfold GivesOPR vReply
  simp only
  have BS := Lib.hid (bx_start2 w [.string ⟨#[]⟩, .bool false, .bool false, .slice none 0 0, .int .i64 0, .slice none 0 0] [.int .i64 0, .int .i64 0, .string ⟨#[]⟩, .int .i64 0, .int .i64 0] 29 33)
  have HD := Lib.hid d0
  clear d0
  have d0 := (BS.out.2.2.cell (p := ⟨b, o, none⟩) hbw).trans HD.out
  go_enter Try.func120, Try.ntmps120
  go_wp2_with fail
  refine (HNP.out _).mono ?_
  rintro e w1 ⟨a1, c1, rfl, ho, hb⟩
  have HB1 := Lib.hid ((belS BS.out.2.2 hb).alloc (belS BS.out.2.2 hb).size (.cells #[.string ⟨k.toArray⟩, .bool false, .bool false, .slice a1 0 c1, .int .i64 0, .slice none 0 0] 29))
  have h1s := hb.size
  simp at h1s
  have ST0 := Lib.hid (show MkSt w w1.heap.size p0 (w1.alloc (.cells #[.string ⟨k.toArray⟩, .bool false, .bool false, .slice a1 0 c1, .int .i64 0, .slice none 0 0] 29)) by rw [← HPK.out]; exact ⟨newP_small (HZ.out k (List.mem_cons_self ..)), rfl, ⟨_, Bx.new w1 [.string ⟨k.toArray⟩, .bool false, .bool false, .slice a1 0 c1, .int .i64 0, .slice none 0 0] 29, _, _, rfl, ownsF_alloc (ownsF_base ho (by simp)) _, ownsF_nil _ _ _ _ _⟩, (BS.out.1.below hb).alloc (.cells #[.string ⟨k.toArray⟩, .bool false, .bool false, .slice a1 0 c1, .int .i64 0, .slice none 0 0] 29), (BS.out.2.1.below hb).alloc (.cells #[.string ⟨k.toArray⟩, .bool false, .bool false, .slice a1 0 c1, .int .i64 0, .slice none 0 0] 29), HB1.out⟩)
  clear ho hb d0
  go_wp2_with fail
  have HRT := Lib.hid (fun W (hb : Below w.heap.size w W) => RowAt.below HR.out hb (Nat.le_refl _))
  generalize w1.alloc (.cells #[.string ⟨k.toArray⟩, .bool false, .bool false, .slice a1 0 c1, .int .i64 0, .slice none 0 0] 29) = w2 at *
  go_loopw [7, 8, 9, 29] (fun _ _ _ i wr => ∃ j : Nat, ∃ p : PartD, j ≤ r.length ∧ i = .int .i64 j ∧ (rp, (⟨t0, fp, t2, t3, t4⟩ : ReplyD)) = makeGo p (r.drop j) ∧ MkSt w w1.heap.size p wr) (fun _ _ _ i _ => r.length - (intOf i).toNat)
  case atStart => exact ⟨0, p0, Nat.zero_le _, rfl, HRES.out, ST0.out⟩
  case round =>
    obtain ⟨j, p, hj, rfl, hgo, hst⟩ := hrel
    obtain ⟨hsm, hbare, ⟨cs, hq, hown⟩, hr2, hr3, hbw2⟩ := hst
    by_cases hlt : j < r.length
    · have d1 := rowAt_cellS (HRT.out _ hbw2) (j + 1) (by simp; omega)
      simp only [List.map_cons, List.getElem_cons_succ, List.getElem_map, strV] at d1
      rw [show o + (j + 1) = o + 1 + j by omega] at d1
      have hzs := HZ.out (r[j]) (List.mem_cons_of_mem _ (List.getElem_mem hlt))
      have hdr : r.drop j = r[j] :: r.drop (j + 1) := List.drop_eq_getElem_cons hlt
      rw [hdr] at hgo
      clear hdr
      generalize r[j] = s at *
      have HW := Lib.hid (fun cs W (h : rPart 0 W cs p) => (show Calls Try.prog 113 #[.agg cs.toArray, .string ⟨s.toArray⟩] W fun e w' => GivesOPR (wrapP p s) (wrapR p s) W e w' from specWrap_any (.agg cs.toArray) p ⟨s.toArray⟩ W ⟨cs, rfl, h⟩ hsm (by rw [hbare]; intro c hc; cases hc) (by simpa [ByteArray.size] using hzs)))
      have HSM2 := Lib.hid (wrapP_small hsm s)
      have hb2 : (wrapP p s).fCore.fCells = [] := by rw [wrapP_core]; exact hbare
      have hyes : wrapI p s = 0 → (rp, (⟨t0, fp, t2, t3, t4⟩ : ReplyD)) = makeGo (wrapP p s) (r.drop (j + 1)) := fun h => hgo.trans (makeGo_on h)
      have hno : ¬ wrapI p s = 0 → (rp, (⟨t0, fp, t2, t3, t4⟩ : ReplyD)) = (zeroP, wrapR p s) := fun h => hgo.trans (makeGo_stop h)
      obtain ⟨m1, m3, m4, hrr⟩ : ∃ m1 m3 m4, wrapR p s = ⟨wrapI p s, m1, [], m3, m4⟩ := ⟨_, _, _, rfl⟩
      simp only [hrr] at HW hno
      unfold GivesOPR vReply at HW
      simp only at HW
      clear hgo hrr
      generalize wrapI p s = m0 at *
      generalize wrapP p s = p2 at *
      obtain ⟨⟨a0, a1, a2, a3, a4⟩, l⟩ := p
      obtain rfl : a3 = [] := hbare
      obtain ⟨u3, u5, rfl, ho3, ho5⟩ := hown
      simp only at ho3 ho5 hq
      obtain ⟨ga, gc, rfl⟩ := slice_of ho3
      obtain ⟨ua, uc, rfl⟩ := slice_of ho5
      simp only [List.length_nil] at *
      have O3 := Lib.hid ho3
      have O5 := Lib.hid ho5
      have HSM := Lib.hid hsm
      have BQ := Lib.hid hq
      have B2 := Lib.hid hr2
      have B3 := Lib.hid hr3
      have HBr := Lib.hid hbw2
      have hlq := hq.lt
      have hls := hbw2.size
      clear hsm ho3 ho5 hq hr2 hr3 hbw2
      have HRP := Lib.hid (goodPart.mono (oPart_r ⟨_, _, rfl, O3.out, O5.out⟩ HSM.out) (Nat.zero_le _))
      have HYES := Lib.hid hyes
      have HNO := Lib.hid hno
      have hjr : (j : Int) < (r.length : Int) := by omega
      have hml := HM.out
      unfold maxLen at hml
      clear hyes hno
      have q0 := BQ.out.cell 0 (by simp)
      have q1 := BQ.out.cell 1 (by simp)
      have q2 := BQ.out.cell 2 (by simp)
      have q3 := BQ.out.cell 3 (by simp)
      have q4 := BQ.out.cell 4 (by simp)
      have q5 := BQ.out.cell 5 (by simp)
      simp only [List.getElem_cons_zero, List.getElem_cons_succ] at q0 q1 q2 q3 q4 q5
      go_wp2_with fail
      refine (HW.out _ _ HRP.out).mono ?_
      rintro e w4 ⟨_, rfl, ho, hb⟩
      obtain ⟨⟨b0, b1, b2, b3, b4⟩, l2⟩ := p2
      obtain rfl : b3 = [] := hb2
      obtain ⟨u3, u5, rfl, ho3, ho5⟩ := ho
      simp only at ho3 ho5
      obtain ⟨ha, hc2, rfl⟩ := slice_of ho3
      obtain ⟨va, vc, rfl⟩ := slice_of ho5
      simp only [List.length_nil] at *
      have N3 := Lib.hid ho3
      have N5 := Lib.hid ho5
      have HB4 := Lib.hid (belS HBr.out hb)
      have BQ4 := Lib.hid (BQ.out.below hb)
      have B24 := Lib.hid (B2.out.below hb)
      have B34 := Lib.hid (B3.out.below hb)
      have hs4 := hb.size
      have hq4 := BQ4.out.lt
      clear hb ho3 ho5 q0 q1 q2 q3 q4 q5 BQ B2 B3
      by_cases hcd : m0 = 0
      · subst hcd
        have HG := Lib.hid (HYES.out rfl)
        clear HNO HYES
        have q0 := BQ4.out.cell 0 (by simp)
        have q1 := BQ4.out.cell 1 (by simp)
        have q2 := BQ4.out.cell 2 (by simp)
        have q3 := BQ4.out.cell 3 (by simp)
        have q4 := BQ4.out.cell 4 (by simp)
        have q5 := BQ4.out.cell 5 (by simp)
        simp only [List.getElem_cons_zero, List.getElem_cons_succ] at q0 q1 q2 q3 q4 q5
        have p0 := BQ4.out.froz 0 (by simp)
        have p1 := BQ4.out.froz 1 (by simp)
        have p2 := BQ4.out.froz 2 (by simp)
        have p3 := BQ4.out.froz 3 (by simp)
        have p4 := BQ4.out.froz 4 (by simp)
        have p5 := BQ4.out.froz 5 (by simp)
        go_wp2_with fail
        refine ⟨⟨j + 1, ⟨⟨b0, b1, b2, [], b4⟩, l2⟩, by omega, by go_num, HG.out, ?_⟩, by simp [intOf]; omega⟩
        exact ⟨HSM2.out, rfl, ⟨_, ((BQ4.out.put6 (.string ⟨b0.toArray⟩) (.bool b1) (.bool b2) (.slice ha 0 hc2) (.int .i64 b4) (.slice va l2.length vc)).alloc _).alloc _, _, _, rfl, ownsF_alloc (ownsF_alloc (ownsF_base (ownsF_put6 N3.out w1.heap.size hlq (.string ⟨b0.toArray⟩) (.bool b1) (.bool b2) (.slice ha 0 hc2) (.int .i64 b4) (.slice va l2.length vc)) (by omega)) _) _, ownsF_alloc (ownsF_alloc (ownsF_base (ownsF_put6 N5.out w1.heap.size hlq (.string ⟨b0.toArray⟩) (.bool b1) (.bool b2) (.slice ha 0 hc2) (.int .i64 b4) (.slice va l2.length vc)) (by omega)) _) _⟩,
          ((B24.out.put6o (c := w1.heap.size) (by omega) (.string ⟨b0.toArray⟩) (.bool b1) (.bool b2) (.slice ha 0 hc2) (.int .i64 b4) (.slice va l2.length vc)).alloc _).alloc _, ((B34.out.put6o (c := w1.heap.size) (by omega) (.string ⟨b0.toArray⟩) (.bool b1) (.bool b2) (.slice ha 0 hc2) (.int .i64 b4) (.slice va l2.length vc)).alloc _).alloc _,
          belS (belS (below_put6 HB4.out w1.heap.size (by omega) (.string ⟨b0.toArray⟩) (.bool b1) (.bool b2) (.slice ha 0 hc2) (.int .i64 b4) (.slice va l2.length vc)) (bx_box _ _)) (bx_box _ _)⟩
      · have HG := Lib.hid (HNO.out hcd)
        have hg := HG.out
        simp only [Prod.mk.injEq, ReplyD.mk.injEq] at hg
        obtain ⟨g1, g2, g3, g4, g5, g6⟩ := hg
        subst g1
        subst g4
        have g2 := g2.symm
        have g3 := g3.symm
        have g5 := g5.symm
        have g6 := g6.symm
        subst g2
        subst g3
        subst g5
        subst g6
        clear HNO HYES HG
        have B25 := Lib.hid ((B24.out.alloc (.cells #[.string ⟨b0.toArray⟩, .bool b1, .bool b2, .slice ha 0 hc2, .int .i64 b4, .slice va l2.length vc] 29)).alloc (.cells #[.int .i64 m0, .int .i64 m1, .string ⟨#[]⟩, .int .i64 m3, .int .i64 m4] 33))
        have B35 := Lib.hid ((B34.out.alloc (.cells #[.string ⟨b0.toArray⟩, .bool b1, .bool b2, .slice ha 0 hc2, .int .i64 b4, .slice va l2.length vc] 29)).alloc (.cells #[.int .i64 m0, .int .i64 m1, .string ⟨#[]⟩, .int .i64 m3, .int .i64 m4] 33))
        have r0 := B25.out.cell 0 (by simp)
        have r1 := B25.out.cell 1 (by simp)
        have r2 := B25.out.cell 2 (by simp)
        have r3 := B25.out.cell 3 (by simp)
        have r4 := B25.out.cell 4 (by simp)
        have r5 := B25.out.cell 5 (by simp)
        simp only [List.getElem_cons_zero, List.getElem_cons_succ] at r0 r1 r2 r3 r4 r5
        have z0 := B25.out.froz 0 (by simp)
        have z1 := B25.out.froz 1 (by simp)
        have z2 := B25.out.froz 2 (by simp)
        have z3 := B25.out.froz 3 (by simp)
        have z4 := B25.out.froz 4 (by simp)
        have z5 := B25.out.froz 5 (by simp)
        have s0 := B35.out.cell 0 (by simp)
        have s1 := B35.out.cell 1 (by simp)
        have s2 := B35.out.cell 2 (by simp)
        have s3 := B35.out.cell 3 (by simp)
        have s4 := B35.out.cell 4 (by simp)
        simp only [List.getElem_cons_zero, List.getElem_cons_succ] at s0 s1 s2 s3 s4
        have y0 := B35.out.froz 0 (by simp)
        have y1 := B35.out.froz 1 (by simp)
        have y2 := B35.out.froz 2 (by simp)
        have y3 := B35.out.froz 3 (by simp)
        have y4 := B35.out.froz 4 (by simp)
        go_wp2_with fail
        go_region
        all_goals (try go_wp2_with fail)
        all_goals
          refine bodyPost_ret (v := .tuple #[.agg #[.string ⟨#[]⟩, .bool false, .bool false, .slice none 0 0, .int .i64 0, .slice none 0 0], .agg #[.int .i64 m0, .int .i64 m1, .string ⟨#[]⟩, .int .i64 m3, .int .i64 m4]]) (by simp [results, Try.results120, go_sem, cell_set_at, cell_set_ne, r0, r1, r2, r3, r4, r5, s0, s1, s2, s3, s4]) rfl ⟨_, rfl, ⟨_, _, rfl, ownsF_nil _ _ _ _ _, ownsF_nil _ _ _ _ _⟩, ?_⟩
          repeat (first | with_reducible exact HB4.out | with_reducible refine Below.setCell ?_ (by simp; try omega) _ | with_reducible refine Below.alloc ?_ (by first | omega | (simp; omega)) _ | with_reducible refine Below.drew ?_)
    · rw [show r.drop j = [] from List.drop_eq_nil_of_le (by omega)] at hgo
      replace hgo : (rp, (⟨t0, fp, t2, t3, t4⟩ : ReplyD)) = (p, ⟨0, faceP p, [], 0, 0⟩) := hgo
      simp only [Prod.mk.injEq, ReplyD.mk.injEq] at hgo
      obtain ⟨g1, g2, g3, g4, g5, g6⟩ := hgo
      have g1 := g1.symm
      subst g1
      subst g2
      subst g4
      subst g5
      subst g6
      have HFP := Lib.hid g3.symm
      clear g3
      have hjr : ¬ (j : Int) < (r.length : Int) := by omega
      obtain ⟨⟨a0, a1, a2, a3, a4⟩, l⟩ := p
      obtain rfl : a3 = [] := hbare
      obtain ⟨u3, u5, rfl, ho3, ho5⟩ := hown
      simp only at ho3 ho5 hq
      obtain ⟨ga, gc, rfl⟩ := slice_of ho3
      obtain ⟨ua, uc, rfl⟩ := slice_of ho5
      simp only [List.length_nil] at *
      have O3 := Lib.hid ho3
      have O5 := Lib.hid ho5
      have HSM := Lib.hid hsm
      have BQ := Lib.hid hq
      have B2 := Lib.hid hr2
      have B3 := Lib.hid hr3
      have HBr := Lib.hid hbw2
      have hlq := hq.lt
      have hls := hbw2.size
      clear hsm ho3 ho5 hq hr2 hr3 hbw2
      have HRP := Lib.hid (fun W (hb : Below wr.heap.size wr W) => (show rPart 0 W [.string ⟨a0.toArray⟩, .bool a1, .bool a2, .slice ga 0 gc, .int .i64 a4, .slice ua l.length uc] (⟨⟨a0, a1, a2, [], a4⟩, l⟩ : PartD) from goodPart.mono (oPart_r ⟨_, _, rfl, ownsF_below O3.out hb (Nat.le_refl _), ownsF_below O5.out hb (Nat.le_refl _)⟩ HSM.out) (Nat.zero_le _)))
      have HFO := Lib.hid (fun W (h : rPart 0 W [.string ⟨a0.toArray⟩, .bool a1, .bool a2, .slice ga 0 gc, .int .i64 a4, .slice ua l.length uc] (⟨⟨a0, a1, a2, [], a4⟩, l⟩ : PartD)) => (show Calls Try.prog 41 #[.agg #[.string ⟨a0.toArray⟩, .bool a1, .bool a2, .slice ga 0 gc, .int .i64 a4, .slice ua l.length uc]] W fun e w' => e = .returned (.int .i64 (faceP (⟨⟨a0, a1, a2, [], a4⟩, l⟩ : PartD))) ∧ Below W.heap.size W w' from specFaceOf_any (.agg #[.string ⟨a0.toArray⟩, .bool a1, .bool a2, .slice ga 0 gc, .int .i64 a4, .slice ua l.length uc]) (⟨⟨a0, a1, a2, [], a4⟩, l⟩ : PartD) W ⟨[.string ⟨a0.toArray⟩, .bool a1, .bool a2, .slice ga 0 gc, .int .i64 a4, .slice ua l.length uc], rfl, h⟩))
      rw [HFP.out] at HFO
      have BQd := Lib.hid (bx_dr BQ.out)
      have B2d := Lib.hid (bx_dr B2.out)
      have B3d := Lib.hid (bx_dr B3.out)
      have q0 := BQd.out.cell 0 (by simp)
      have q1 := BQd.out.cell 1 (by simp)
      have q2 := BQd.out.cell 2 (by simp)
      have q3 := BQd.out.cell 3 (by simp)
      have q4 := BQd.out.cell 4 (by simp)
      have q5 := BQd.out.cell 5 (by simp)
      simp only [List.getElem_cons_zero, List.getElem_cons_succ] at q0 q1 q2 q3 q4 q5
      go_wp2_with fail
      go_region_with (first
          | (go_at_call 41; (with_reducible refine (HFO.out _ (HRP.out _ (bel_dr (Below.refl _ _)))).mono ?_); rintro e w6 ⟨rfl, hb6⟩; have BQ6 := Lib.hid (BQd.out.below hb6); have B26 := Lib.hid (B2d.out.below hb6); have B36 := Lib.hid (B3d.out.below hb6); have q0' := BQ6.out.cell 0 (by simp); have q1' := BQ6.out.cell 1 (by simp); have q2' := BQ6.out.cell 2 (by simp); have q3' := BQ6.out.cell 3 (by simp); have q4' := BQ6.out.cell 4 (by simp); have q5' := BQ6.out.cell 5 (by simp); have r0 := B26.out.cell 0 (by simp); have z0 := B26.out.froz 0 (by simp); have r1 := B26.out.cell 1 (by simp); have z1 := B26.out.froz 1 (by simp); have r2 := B26.out.cell 2 (by simp); have z2 := B26.out.froz 2 (by simp); have r3 := B26.out.cell 3 (by simp); have z3 := B26.out.froz 3 (by simp); have r4 := B26.out.cell 4 (by simp); have z4 := B26.out.froz 4 (by simp); have r5 := B26.out.cell 5 (by simp); have z5 := B26.out.froz 5 (by simp); have s0 := B36.out.cell 0 (by simp); have y0 := B36.out.froz 0 (by simp); have s1 := B36.out.cell 1 (by simp); have y1 := B36.out.froz 1 (by simp); have s2 := B36.out.cell 2 (by simp); have y2 := B36.out.froz 2 (by simp); have s3 := B36.out.cell 3 (by simp); have y3 := B36.out.froz 3 (by simp); have s4 := B36.out.cell 4 (by simp); have y4 := B36.out.froz 4 (by simp); simp only [List.getElem_cons_zero, List.getElem_cons_succ] at q0' q1' q2' q3' q4' q5' r0 r1 r2 r3 r4 r5 s0 s1 s2 s3 s4))
      all_goals (try go_wp2_with fail)
      all_goals
        have HB6 := Lib.hid (belS (bel_dr HBr.out) hb6)
        have T3 := Lib.hid (ownsF_below (ownsF_drew O3.out) hb6 (Nat.le_refl _))
        have T5 := Lib.hid (ownsF_below (ownsF_drew O5.out) hb6 (Nat.le_refl _))
        refine bodyPost_ret (v := .tuple #[.agg #[.string ⟨a0.toArray⟩, .bool a1, .bool a2, .slice ga 0 gc, .int .i64 a4, .slice ua l.length uc], .agg #[.int .i64 0, .int .i64 fp, .string ⟨#[]⟩, .int .i64 0, .int .i64 0]]) (by simp [results, Try.results120, go_sem, cell_set_at, cell_set_ne, r0, r1, r2, r3, r4, r5, s0, s1, s2, s3, s4]) rfl ⟨_, rfl, ⟨_, _, rfl, ?_, ?_⟩, ?_⟩
        · refine ownsF_base (B := ((w.heap.size + 1) + 1)) ?_ (by omega)
          repeat (first | with_reducible exact T3.out | with_reducible refine ownsF_set ?_ (by simp; try omega) | with_reducible refine ownsF_drew ?_)
        · refine ownsF_base (B := ((w.heap.size + 1) + 1)) ?_ (by omega)
          repeat (first | with_reducible exact T5.out | with_reducible refine ownsF_set ?_ (by simp; try omega) | with_reducible refine ownsF_drew ?_)
        · repeat (first | with_reducible exact HB6.out | with_reducible refine Below.setCell ?_ (by simp; try omega) _ | with_reducible refine Below.drew ?_)
theorem specMakePart_any (v : Value) (x : List (List UInt8)) (w : World) (hR : RowAt w v (x.map strV)) (hz : ∀ s ∈ x, s.length ≤ 1048576) :
    Calls Try.prog 120 #[v] w fun e w' => GivesOPR (makePR x).1 (makePR x).2 w e w' := by
  obtain ⟨a, c, rfl, hl, hcap⟩ := rowAt_cap hR
  cases x with
  | nil => exact specMake_nil a c w
  | cons k r =>
    obtain ⟨b, o, rfl, hbw, _⟩ := rowAt_cell hR 0 (by simp)
    simp only [List.length_map, List.length_cons] at hR hl hcap ⊢
    by_cases hk : 0 ≤ kindI k
    · rw [show makePR (k :: r) = makeGo (newP k) r from if_pos hk]
      by_cases h1 : c = 1
      · exact specMake_one b o c k r w hR hz hcap hl h1 hk
      · exact specMake_go b o c k r w hR hz hcap hl (by omega) hk
    · rw [show makePR (k :: r) = (zeroP, ⟨7, 0, [], 0, 0⟩) from if_neg hk]
      exact specMake_bad b o c k r w hR hz hcap hl hk
set_option maxRecDepth 100000 in
set_option maxHeartbeats 1600000 in
theorem specRecipeFace_any (v : Value) (x : List (List UInt8)) (w : World) (hR : RowAt w v (x.map strV)) (hz : ∀ s ∈ x, s.length ≤ 1048576) :
    Calls Try.prog 96 #[v] w fun e w' => e = .returned (.tuple #[.int .i64 (recI x), .bool (recB x)]) ∧ Below w.heap.size w w' := by
  have HMK := Lib.hid (specMakePart_any v x w hR hz)
  have HSM := Lib.hid (makePR_small hz)
  have HV := Lib.hid (@makePR_val x)
  unfold recI recB
  generalize makePR x = res at *
  obtain ⟨⟨⟨a0, a1, a2, a3, a4⟩, l⟩, m0, m1, m2, m3, m4⟩ := res
  unfold GivesOPR vReply at HMK
  simp only at HMK HSM ⊢
  have HFO := Lib.hid (fun cs W (h : rPart 0 W cs ⟨⟨a0, a1, a2, a3, a4⟩, l⟩) => specFaceOf_any (.agg cs.toArray) ⟨⟨a0, a1, a2, a3, a4⟩, l⟩ W ⟨cs, rfl, h⟩)
  generalize hfp : faceP ⟨⟨a0, a1, a2, a3, a4⟩, l⟩ = fp at *
  clear hfp hR hz
  by_cases hc : m0 = 0
  · subst hc
    have hv : m1 = fp := HV.out rfl
    subst hv
    simp only [if_true, decide_true]
    clear HV
    go_enter Try.func96, Try.ntmps96
    go_wp2_with fail
    refine HMK.out.mono ?_
    rintro e w1 ⟨_, rfl, ⟨u3, u5, rfl, ho3, ho5⟩, hb⟩
    simp only at ho3 ho5
    obtain ⟨ga, gc, rfl⟩ := slice_of ho3
    obtain ⟨ua, uc, rfl⟩ := slice_of ho5
    have HB1 := Lib.hid (belS (belS hb (bx_box w1 (.cells #[.string ⟨a0.toArray⟩, .bool a1, .bool a2, .slice ga a3.length gc, .int .i64 a4, .slice ua l.length uc] 29))) (bx_box _ (.cells #[.int .i64 0, .int .i64 m1, .string ⟨m2.toArray⟩, .int .i64 m3, .int .i64 m4] 33)))
    have O3 := Lib.hid (ownsF_alloc (ownsF_alloc ho3 (.cells #[.string ⟨a0.toArray⟩, .bool a1, .bool a2, .slice ga a3.length gc, .int .i64 a4, .slice ua l.length uc] 29)) (.cells #[.int .i64 0, .int .i64 m1, .string ⟨m2.toArray⟩, .int .i64 m3, .int .i64 m4] 33))
    have O5 := Lib.hid (ownsF_alloc (ownsF_alloc ho5 (.cells #[.string ⟨a0.toArray⟩, .bool a1, .bool a2, .slice ga a3.length gc, .int .i64 a4, .slice ua l.length uc] 29)) (.cells #[.int .i64 0, .int .i64 m1, .string ⟨m2.toArray⟩, .int .i64 m3, .int .i64 m4] 33))
    have HRP := Lib.hid (show rPart 0 ((w1.alloc (.cells #[.string ⟨a0.toArray⟩, .bool a1, .bool a2, .slice ga a3.length gc, .int .i64 a4, .slice ua l.length uc] 29)).alloc (.cells #[.int .i64 0, .int .i64 m1, .string ⟨m2.toArray⟩, .int .i64 m3, .int .i64 m4] 33)) [.string ⟨a0.toArray⟩, .bool a1, .bool a2, .slice ga a3.length gc, .int .i64 a4, .slice ua l.length uc] ⟨⟨a0, a1, a2, a3, a4⟩, l⟩ from goodPart.mono (oPart_r ⟨_, _, rfl, O3.out, O5.out⟩ HSM.out) (Nat.zero_le _))
    clear ho3 ho5 hb
    go_wp2_with fail
    exact bodyPost_ret (v := .tuple #[.int .i64 m1, .bool true]) (by simp [results, Try.results96, go_sem]) rfl ⟨rfl, HB1.out⟩
  · simp only [if_neg hc, decide_eq_false hc]
    clear HV
    go_enter Try.func96, Try.ntmps96
    go_wp2_with fail
    refine HMK.out.mono ?_
    rintro e w1 ⟨_, rfl, ⟨u3, u5, rfl, ho3, ho5⟩, hb⟩
    simp only at ho3 ho5
    obtain ⟨ga, gc, rfl⟩ := slice_of ho3
    obtain ⟨ua, uc, rfl⟩ := slice_of ho5
    have HB1 := Lib.hid (belS (belS hb (bx_box w1 (.cells #[.string ⟨a0.toArray⟩, .bool a1, .bool a2, .slice ga a3.length gc, .int .i64 a4, .slice ua l.length uc] 29))) (bx_box _ (.cells #[.int .i64 m0, .int .i64 m1, .string ⟨m2.toArray⟩, .int .i64 m3, .int .i64 m4] 33)))
    clear ho3 ho5 hb
    go_wp2_with fail
    exact bodyPost_ret (v := .tuple #[.int .i64 0, .bool false]) (by simp [results, Try.results96, go_sem]) rfl ⟨rfl, HB1.out⟩
end Go.Proofs.Ytaihdjdaamglnaa
/- The draws of chapter 4: names of adapters, recipes. -/
namespace Go.Proofs.Ytaihdjdaamglnaa
set_option linter.unusedVariables false
set_option linter.unusedSimpArgs false
open Go.RowKit
set_option maxRecDepth 100000 in
set_option maxHeartbeats 800000 in
theorem l4Name_any (b : Nat) (v : Value) (l : List UInt8) (w : World) (hC : Cur w b v l) :
    Calls Try.prog 42 #[.pointer (some ⟨b, 0, none⟩)] w fun e w' => DrawnStr (fun x => x.size ≤ 9) b v l w e w' := by
  have HC0 := Lib.hid hC
  clear hC
  go_enter Try.func42, Try.ntmps42
  go_wp2_with fail
  refine (l1Once_any b v l _ w HC0.out (by omega) (by omega)).mono ?_
  rintro e w1 ⟨x, rfl, hg, hC⟩
  have HG1 := Lib.hid (hg)
  have HC1 := Lib.hid hC
  clear hg hC
  cases x
  all_goals
    go_wp2_with fail
    refine (l1Str_new b v l w1 _ _ _ _ 9 HC1.out (by rfl) (by decide) (by decide) (by decide)).mono ?_
    rintro e w2 ⟨x, rfl, hx, hg1, hC1⟩
    have HG := Lib.hid (grown_trans HG1.out hg1)
    have HC2 := Lib.hid hC1
    clear hg1 hC1
    go_wp2_with fail
    go_ret
    exact ⟨_, rfl, hx, HG.out, HC2.out⟩
set_option maxRecDepth 100000 in
set_option maxHeartbeats 3200000 in
theorem l4Fitting_any (b : Nat) (v : Value) (l : List UInt8) (f : Int) (w : World) (hC : Cur w b v l) :
    Calls Try.prog 40 #[.pointer (some ⟨b, 0, none⟩), .int .i64 f] w fun e w' => DrawnStr (fun x => x.size ≤ 9) b v l w e w' := by
  have BG := Lib.hid (bag_start hC)
  clear hC
  go_enter Try.func40, Try.ntmps40
  go_wp2_with fail
  refine (l4Name_any b v l _ BG.out.cur).mono ?_
  rintro e w1 ⟨s, rfl, hs, hg, hC⟩
  replace BG := Lib.hid (BG.out.draw hg hC)
  clear hg hC
  go_wp2_with fail
  go_loopw [5, 6, 7, 8] (fun sv iv _ _ wr => ∃ (s : ByteArray) (i : Nat), sv = .string s ∧ s.size ≤ 9 ∧ iv = .int .i64 i ∧ i ≤ 6 ∧ Bag w w.heap.size b v l [] [] wr) (fun _ iv _ _ _ => 6 - (intOf iv).toNat)
  case atStart => exact ⟨s, 0, rfl, hs, rfl, by omega, BG.out⟩
  case round =>
    clear BG hs
    obtain ⟨s, i, rfl, hs, rfl, hi, hbg⟩ := hrel
    have BG := Lib.hid hbg
    have HS := Lib.hid hs
    clear hbg hs
    by_cases hlt : i < 6
    · have HLN := Lib.hid (fun W => specLayerNeeds_any s W)
      unfold ndV at HLN
      generalize decide (0 ≤ layI s.data.toList) = q at *
      generalize needI (layI s.data.toList) = n at *
      have HOF := Lib.hid (fun W => specOffers_any f n W)
      generalize offersF f n = o at *
      go_wp2_with fail
      refine (HLN.out _).mono ?_
      rintro e w2 ⟨rfl, hb⟩
      replace BG := Lib.hid (BG.out.below hb)
      clear hb
      cases q
      case false =>
        go_wp2_with fail
        all_goals (first
          | (go_ret; exact ⟨_, rfl, HS.out, BG.out.grown, BG.out.cur⟩)
          | (refine (l4Name_any b v l _ BG.out.cur).mono ?_; rintro e w3 ⟨z, rfl, hz, hg, hC⟩; replace BG := Lib.hid (BG.out.draw hg hC); clear hg hC; go_wp2_with fail; exact ⟨⟨z, i + 1, rfl, hz, by go_num, by omega, BG.out⟩, by simp [intOf]; omega⟩))
      case true =>
        go_wp2_with fail
        refine (HOF.out _).mono ?_
        rintro e w' ⟨rfl, rfl⟩
        cases o
        all_goals go_wp2_with fail
        all_goals (first
          | (go_ret; exact ⟨_, rfl, HS.out, BG.out.grown, BG.out.cur⟩)
          | (refine (l4Name_any b v l _ BG.out.cur).mono ?_; rintro e w3 ⟨z, rfl, hz, hg, hC⟩; replace BG := Lib.hid (BG.out.draw hg hC); clear hg hC; go_wp2_with fail; exact ⟨⟨z, i + 1, rfl, hz, by go_num, by omega, BG.out⟩, by simp [intOf]; omega⟩))
    · go_wp2_with fail
      go_ret
      exact ⟨_, rfl, HS.out, BG.out.grown, BG.out.cur⟩
def rS (w : World) (u : Value) (x : List (List UInt8)) : Held := hRow cStr 9 1 w.heap.size u x
theorem rS_row {w wx : World} {u : Value} {x : List (List UInt8)} (h : (rS w u x).P wx) (hm : x.length ≤ 1000) : RowAt wx u (x.map strV) := row_of_flat (ownsF_at (show OwnsF cStr 9 1 wx w.heap.size u x from h) (by omega))
def DrawnStrs (b : Nat) (v : Value) (l : List UInt8) (w : World) (e : Ending) (w' : World) : Prop := ∃ u x, e = .returned u ∧ OwnsF cStr 9 1 w' w.heap.size u x ∧ x.length ≤ 4 ∧ (∀ s ∈ x, s.length ≤ 9) ∧ w.grownBy w' (some b) ∧ Cur w' b v l
theorem str_new (w : World) (y : List UInt8) (blk : Nat) (h : blk = w.heap.size) : ∀ j, j < 1 → (w.alloc (.cells #[.string ⟨y.toArray⟩] 9)).cell? ⟨blk, j, none⟩ = (cStr y)[j]? := by
  subst h
  intro j hj
  rw [cell_of_row _ _ _ _ 9 (0, 0) (heap_alloc_new w _)]
  simp [cStr, strV]
set_option maxRecDepth 100000 in
set_option maxHeartbeats 3200000 in
theorem l4Recipe_any (b : Nat) (v : Value) (l : List UInt8) (w : World) (hC : Cur w b v l) :
    Calls Try.prog 55 #[.pointer (some ⟨b, 0, none⟩)] w fun e w' => DrawnStrs b v l w e w' := by
  have BG := Lib.hid (bag_start hC)
  clear hC
  go_enter Try.func55, Try.ntmps55
  go_wp2_with fail
  refine (l3Kind_any b v l _ BG.out.cur).mono ?_
  rintro e w1 ⟨z, rfl, hz, hg, hC⟩
  obtain ⟨⟨kl⟩⟩ := z
  have hkl : kl.length ≤ 9 := hz
  replace BG := Lib.hid (BG.out.draw hg hC)
  clear hg hC hz
  have HO := Lib.hid (ownsF_lit (f := cStr) (E := 9) (k := 1) w1 w1.heap.size #[.string ⟨kl.toArray⟩] [kl] rfl cStr_len (by simp) (Nat.le_refl _))
  replace BG := Lib.hid (BG.out.made (bx_box w1 (.cells #[.string ⟨kl.toArray⟩] 9)) (rS w (.slice (some ⟨w1.heap.size, 0, none⟩) 1 1) [kl]) (ownsF_base HO.out BG.out.size) (fun g e => (World.ownsRow.lt HO.out g e).1))
  clear HO
  go_wp2_with fail
  generalize w1.alloc (.cells #[.string ⟨kl.toArray⟩] 9) = w2 at *
  generalize w1.heap.size = B1 at *
  refine (l1Below_any b v l _ _ BG.out.cur (by omega) (by omega)).mono ?_
  rintro e w3 ⟨n, rfl, ⟨n0, n1, n2⟩, hg, hC⟩
  have n3 := n2 (by omega)
  replace BG := Lib.hid (BG.out.draw hg hC)
  clear hg hC n1 n2
  go_wp2_with fail
  go_loopw [3, 4, 5, 6] (fun uv nv _ _ wr => ∃ (u : Value) (x : List (List UInt8)) (n : Int), uv = u ∧ nv = .int .i64 n ∧ 0 ≤ n ∧ (x.length : Int) + n ≤ 4 ∧ (∀ s ∈ x, s.length ≤ 9) ∧ Bag w w.heap.size b v l [] [rS w u x] wr) (fun _ nv _ _ _ => (intOf nv).toNat)
  case atStart => exact ⟨_, [kl], n, rfl, rfl, n0, by simp; omega, by simpa using hkl, BG.out⟩
  case round =>
    clear BG
    obtain ⟨u, x, n, rfl, rfl, hn0, hn4, hx, hbg⟩ := hrel
    have BG := Lib.hid hbg
    have HX := Lib.hid hx
    clear hbg hx
    by_cases hp : 0 < n
    · have HRF := Lib.hid (specRecipeFace_any u3 x wr (rS_row (BG.out.row _ (List.mem_cons_self ..)) (by omega)) (fun s hs => Nat.le_trans (HX.out s hs) (by decide)))
      generalize recI x = rf at *
      generalize recB x = rb at *
      go_wp2_with fail
      refine HRF.out.mono ?_
      rintro e w4 ⟨rfl, hb⟩
      replace BG := Lib.hid (BG.out.below hb)
      clear hb HRF
      go_wp2_with fail
      refine (l4Fitting_any b v l _ _ BG.out.cur).mono ?_
      rintro e w5 ⟨z, rfl, hz, hg, hC⟩
      obtain ⟨⟨zl⟩⟩ := z
      have hzl : zl.length ≤ 9 := hz
      replace BG := Lib.hid (BG.out.draw hg hC)
      clear hg hC hz
      have HX2 := Lib.hid (show ∀ s ∈ x ++ [zl], s.length ≤ 9 from fun s hs => by
        rcases List.mem_append.1 hs with h | h
        · exact HX.out s h
        · rw [List.mem_singleton.1 h]; exact hzl)
      have HRW := Lib.hid (show OwnsF cStr 9 1 w5 w.heap.size u3 x from BG.out.row _ (List.mem_cons_self ..))
      have hsz := BG.out.size
      have BP := Lib.hid (BG.out.past (.cells #[.string ⟨zl.toArray⟩] 9))
      go_wp2_with (at_builtin; refine append_flatN cStr_len cStr_one infoStrB rfl (by decide) (by decide) Try.underlying44 rfl _ _ rfl w.heap.size u3 x zl (w5.alloc (.cells #[.string ⟨zl.toArray⟩] 9)) w5.heap.size rfl (ownsF_alloc HRW.out _) rfl (str_new w5 zl _ rfl) (by omega) (by simp; omega) ?_; intro v' w6 ho hgr hne; have BN := Lib.hid (BP.out.app 0 rfl hgr ho hne); clear ho hgr hne)
      exact ⟨⟨_, x ++ [zl], n - 1, rfl, by go_num, by omega, by simp; omega, HX2.out, BN.out⟩, by simp [intOf]; omega⟩
    · go_wp2_with fail
      go_ret
      exact ⟨_, x, rfl, BG.out.row _ (List.mem_cons_self ..), by omega, HX.out, BG.out.grown, BG.out.cur⟩
def GivesStrs (w : World) (e : Ending) (w' : World) : Prop := ∃ (u : Value) (x : List (List UInt8)), e = .returned u ∧ RowAt w' u (x.map strV) ∧ x.length ≤ 6 ∧ (∀ s ∈ x, s.length ≤ 9) ∧ Below w.heap.size w w'
theorem rowS_of {w : World} {B : Nat} {u : Value} {x : List (List UInt8)} (h : OwnsF cStr 9 1 w B u x) (hm : x.length ≤ 1000) : RowAt w u (x.map strV) := row_of_flat (ownsF_at h (by omega))
set_option maxRecDepth 100000 in
set_option maxHeartbeats 3200000 in
theorem drawMakePart_any (v : Value) (l : List UInt8) (w : World) (hR : RowAt w v (Lib.byteCells l)) :
    Calls Try.prog 19 #[v] w fun e w' => GivesStrs w e w' := by
  have HN := Lib.hid (l1New_any v l w hR)
  have hcode := Lib.hid (bag_code hR)
  clear hR
  go_enter Try.func19, Try.ntmps19
  go_wp2_with fail
  refine HN.out.mono ?_
  rintro e w1 ⟨b, rfl, hb, hB, hC⟩
  have BG := Lib.hid (bag_new (bs := []) (Below.refl w.heap.size w) (by simp) List.Pairwise.nil hb hB hC hcode.out)
  clear hB hC hcode HN
  go_wp2_with fail
  refine (l4Recipe_any b v l _ BG.out.cur).mono ?_
  rintro e w2 ⟨u, x, rfl, ho, hx4, hx9, hg, hC⟩
  have HX := Lib.hid hx9
  replace BG := Lib.hid (BG.out.drawn hg hC (rS w u x) (ownsF_base ho BG.out.size) (fun g e => (World.ownsRow.lt ho g e).1))
  clear ho hg hC hx9
  go_wp2_with fail
  refine (l1Below_any b v l _ _ BG.out.cur (by omega) (by omega)).mono ?_
  rintro e w3 ⟨k, rfl, ⟨k0, k1, k2⟩, hg, hC⟩
  replace BG := Lib.hid (BG.out.draw hg hC)
  clear hg hC k1 k2
  by_cases e0 : k = 0
  · subst e0
    have hBE := Lib.hid ((BG.out.bel hb).alloc (Nat.le_trans (Nat.le_refl _) BG.out.size) (.cells #[] 9))
    have HO := Lib.hid (ownsF_new cStr 9 1 w3)
    go_wp2_with fail
    go_ret
    exact ⟨_, [], rfl, rowS_of HO.out (by simp), by simp, by simp, hBE.out⟩
  have E0 : (k == 0) = false := by simpa using e0
  by_cases e1 : k = 1
  · subst e1
    have HRW := Lib.hid (show OwnsF cStr 9 1 w3 w.heap.size u x from BG.out.row _ (List.mem_cons_self ..))
    have hsz := BG.out.size
    have BP := Lib.hid (BG.out.past (.cells #[.string ⟨#[114, 117, 110, 115]⟩, .string ⟨#[114, 117, 110, 115]⟩] 9))
    have HCL := Lib.hid (show ∀ j u, ([[114, 117, 110, 115], [114, 117, 110, 115]].flatMap cStr)[j]? = some u → (w3.alloc (.cells #[.string ⟨#[114, 117, 110, 115]⟩, .string ⟨#[114, 117, 110, 115]⟩] 9)).cell? ⟨w3.heap.size, j, none⟩ = some u from fun j u hj => by
      rw [cell_of_row _ _ _ _ 9 (0, 0) (heap_alloc_new w3 _)]; simpa [cStr, strV] using hj)
    have HX2 := Lib.hid (show ∀ s ∈ x ++ [[114, 117, 110, 115], [114, 117, 110, 115]], s.length ≤ 9 from fun s hs => by
      rcases List.mem_append.1 hs with h | h
      · exact HX.out s h
      · simp only [List.mem_cons, List.not_mem_nil, or_false] at h; rcases h with rfl | rfl <;> decide)
    go_wp2_with (at_builtin; refine append_flatM cStr_len cStr_one infoStrB rfl (by decide) (by decide) Try.underlying44 rfl _ _ rfl w.heap.size u x [[114, 117, 110, 115], [114, 117, 110, 115]] (w3.alloc (.cells #[.string ⟨#[114, 117, 110, 115]⟩, .string ⟨#[114, 117, 110, 115]⟩] 9)) w3.heap.size 2 2 rfl (ownsF_alloc HRW.out _) rfl rfl (by decide) HCL.out (by simp; omega) (by simp; omega) ?_; intro v' w6 ho hgr hne; have BN := Lib.hid (BP.out.app 0 rfl hgr ho hne); clear ho hgr hne)
    go_ret
    exact ⟨_, x ++ [[114, 117, 110, 115], [114, 117, 110, 115]], rfl, rowS_of (BN.out.row _ (List.mem_cons_self ..)) (by simp; omega), by simp; omega, HX2.out, BN.out.bel hb⟩
  have E1 : (k == 1) = false := by simpa using e1
  clear e0 e1
  have HRW := Lib.hid (show OwnsF cStr 9 1 w3 w.heap.size u x from BG.out.row _ (List.mem_cons_self ..))
  go_wp2_with fail
  go_ret
  exact ⟨_, x, rfl, rowS_of HRW.out (by omega), by omega, HX.out, BG.out.bel hb⟩
end Go.Proofs.Ytaihdjdaamglnaa
/- Contracts of chapter 4: RecipeOf, both sides. -/
namespace Go.Proofs.Ytaihdjdaamglnaa
set_option linter.unusedVariables false
set_option linter.unusedSimpArgs false
open Go.RowKit
def recL (x : PartD) : List (List UInt8) := x.fCore.fKind :: x.fLayers.map (·.fName)
theorem owns_oneL (w : World) (B : Nat) (a : List UInt8) (h : B ≤ w.heap.size) : Owns (w.alloc (.cells #[.string ⟨a.toArray⟩] 9)) B (.slice (some ⟨w.heap.size, 0, none⟩) 1 1) [a] :=
  ⟨rfl, .inr ⟨w.heap.size, 1, #[.string ⟨a.toArray⟩], rfl, h, heap_alloc_new w _, Nat.le_refl _, by decide, rfl, by simp [strV]⟩⟩
theorem rec_len (k : List UInt8) (l : List LayerD) (n : Nat) : (k :: (l.take n).map (·.fName)).length ≤ l.length + 1 := by simp; omega
theorem rec_step (k : List UInt8) (l : List LayerD) (n : Nat) (h : n < l.length) : k :: (l.take (n + 1)).map (·.fName) = (k :: (l.take n).map (·.fName)) ++ [(l[n]).fName] := by
  rw [List.take_succ_eq_append_getElem h, List.map_append]; rfl
set_option maxRecDepth 100000 in
set_option maxHeartbeats 1600000 in
theorem implRecipe_any (v : Value) (x : PartD) (w : World) (hx : ValAt rPart 0 w v x) (hs : SmallP x) :
    Calls Try.prog 23 #[v] w fun e w' => GivesRow (recL x) w e w' := by
  obtain ⟨_, rfl, hx⟩ := hx
  have HR := Lib.hid (show recL x = x.fCore.fKind :: x.fLayers.map (·.fName) from rfl)
  obtain ⟨⟨a0, a1, a2, a3, a4⟩, l⟩ := x
  obtain ⟨v3, v5, rfl, h3, h5⟩ := hx
  have HN := Lib.hid hs.names
  have hm := hs.lays
  have HK := Lib.hid (fun W => copyText_any ⟨a0.toArray⟩ W (by have := hs.kind; rw [← size_list]; simp only at this; simp; omega))
  simp only [List.toList_toArray] at h3 h5 HN hm HR
  obtain ⟨ra, rc, rfl, _⟩ := sliceAt_len h3
  obtain ⟨sa, sc, rfl, hl⟩ := sliceAt_len h5
  have H5 := Lib.hid h5
  unfold maxLen at hl
  generalize recL ⟨⟨a0, a1, a2, a3, a4⟩, l⟩ = res at *
  have HS0 := Lib.hid (Bx.new w [.string ⟨a0.toArray⟩, .bool a1, .bool a2, .slice ra a3.length rc, .int .i64 a4, .slice sa l.length sc] 29)
  have HB0 := Lib.hid (bx_box w (.cells #[.string ⟨a0.toArray⟩, .bool a1, .bool a2, .slice ra a3.length rc, .int .i64 a4, .slice sa l.length sc] 29))
  clear h3 h5 hs
  go_enter Try.func23, Try.ntmps23
  go_wp2_with fail
  refine (HK.out _).mono ?_
  rintro e w1 ⟨rfl, hb⟩
  have HB1 := Lib.hid (belS HB0.out hb)
  have BX1 := Lib.hid (HS0.out.below hb)
  clear hb
  have BX2 := Lib.hid (BX1.out.alloc (.cells #[.string ⟨a0.toArray⟩] 9))
  have HB2 := Lib.hid (belS HB1.out (bx_box w1 (.cells #[.string ⟨a0.toArray⟩] 9)))
  have HO0 := Lib.hid (owns_oneL w1 w.heap.size a0 HB1.out.size)
  have e5 := BX1.out.cell 5 (by simp)
  simp only [List.getElem_cons_zero, List.getElem_cons_succ] at e5
  have hlt1 := BX1.out.lt
  have hne : ¬ w.heap.size = w1.heap.size := by omega
  go_wp2_with fail
  clear e5 hlt1 hne
  go_loopw [3, 14] (fun u i wr => ∃ k : Nat, k ≤ l.length ∧ i = .int .i64 k ∧ Owns wr w.heap.size u (a0 :: (l.take k).map (·.fName)) ∧ Below w.heap.size w wr) (fun _ i _ => l.length - (intOf i).toNat)
  case atStart => exact ⟨0, Nat.zero_le _, rfl, HO0.out, HB2.out⟩
  case round =>
    obtain ⟨k, hk2, rfl, hO, hb⟩ := hrel
    have HO := Lib.hid hO
    have HB := Lib.hid hb
    have HXr := Lib.hid (SliceAt.below H5.out (good_flat cLayer_len) hb (Nat.le_refl _))
    clear hO hb
    by_cases hlt : k < l.length
    · obtain ⟨b, o, cs, rfl, hbl, hat, hd⟩ := sliceAt_cell HXr.out k hlt
      have HSN := Lib.hid (rec_step a0 l k hlt)
      have HLN := Lib.hid (rec_len a0 l k)
      have hks := HN.out l[k] (List.getElem_mem hlt)
      generalize l[k] = p at *
      obtain ⟨b0, b1⟩ := p
      simp only [rFlat, cLayer] at hat
      subst hat
      have d0 := hd 0 (by decide)
      have d1 := hd 1 (by decide)
      simp only [List.getElem?_cons_zero, List.getElem?_cons_succ, Nat.add_zero] at d0 d1 hks
      have HCT := Lib.hid (fun W => copyText_any ⟨b0.toArray⟩ W (by rw [← size_list]; simp; omega))
      have HW := Lib.hid (belS HB.out (bx_box wr (.cells #[.string ⟨b0.toArray⟩, .int .i64 b1] 81)))
      generalize a0 :: (l.take k).map (·.fName) = ys at *
      clear hks hd
      go_wp2_with fail
      refine (HCT.out _).mono ?_
      rintro e w2 ⟨rfl, hb⟩
      have HB3 := Lib.hid (belS HW.out hb)
      have HO3 := Lib.hid (owns_below (owns_alloc HO.out _) hb (Nat.le_refl _))
      have hys := HLN.out
      clear hb
      go_wp2_with (at_builtin; (refine append_strs rfl _ _ rfl w.heap.size u3 ys b0 _ w2.heap.size (by rfl) (owns_alloc HO3.out _) rfl (cell_new _ _ _) (by omega) (by have := HB3.out.size; simp; omega) ?_; intro v' w3 hO1 hg1))
      have HB4 := Lib.hid (below_append (HB3.out.alloc HB3.out.size _) (owns_alloc HO3.out _) hg1 (by have := HB3.out.size; simp; omega))
      exact ⟨⟨k + 1, by omega, by go_num, by rw [HSN.out]; exact hO1, HB4.out⟩, by simp [intOf]; omega⟩
    · have HE := Lib.hid (show a0 :: (l.take k).map (·.fName) = res by rw [HR.out, List.take_of_length_le (by omega)])
      go_wp2
      go_ret
      exact ⟨u3, rfl, by rw [← HE.out]; exact HO.out, HB.out⟩
end Go.Proofs.Ytaihdjdaamglnaa
/- Recipes, plain: what is made is valid, has the recipe and the face, and each beginning of it can be made. -/
namespace Go.Proofs.Ytaihdjdaamglnaa
set_option linter.unusedVariables false
set_option linter.unusedSimpArgs false
open Go.RowKit
theorem getD_app {α : Type} (l ys : List α) (d : α) (i : Nat) (h : i < l.length) : (l ++ ys).getD i d = l.getD i d := by
  rw [List.getD_eq_getElem?_getD, List.getD_eq_getElem?_getD, List.getElem?_append_left h]
theorem faceN_app (c : CoreD) (ls ys : List LayerD) (i : Nat) (h : i ≤ ls.length) : faceN ⟨c, ls ++ ys⟩ i = faceN ⟨c, ls⟩ i := by
  cases i with
  | zero => rfl
  | succ i =>
    show giveI (layI ((ls ++ ys).getD i default).fName) = giveI (layI (ls.getD i default).fName)
    rw [getD_app _ _ _ _ (by omega)]
theorem layOk_app (c : CoreD) (ls ys : List LayerD) (i : Nat) (h : i < ls.length) : layOk ⟨c, ls ++ ys⟩ i = layOk ⟨c, ls⟩ i := by
  unfold layOk
  rw [faceN_app c ls ys i (by omega)]
  simp only
  rw [getD_app _ _ _ _ h]
theorem wrapI_zero {p : PartD} {s : List UInt8} (h : wrapI p s = 0) : partB p = true ∧ 0 ≤ layI s ∧ p.fLayers.length ≠ 3 ∧ offersF (faceP p) (needI (layI s)) = true := by
  unfold wrapI at h
  by_cases h1 : partB p = true ∧ 0 ≤ layI s
  · rw [if_pos h1] at h
    by_cases h2 : p.fLayers.length = 3
    · rw [if_pos h2] at h; cases h
    · rw [if_neg h2] at h
      by_cases h3 : offersF (faceP p) (needI (layI s)) = true
      · exact ⟨h1.1, h1.2, h2, h3⟩
      · rw [if_neg h3] at h; cases h
  · rw [if_neg h1] at h; cases h
theorem wrapP_zero {p : PartD} {s : List UInt8} (h : wrapI p s = 0) : wrapP p s = ⟨p.fCore, p.fLayers ++ [⟨s, 0⟩]⟩ := by unfold wrapP; rw [if_pos h]
theorem wrap_part {p : PartD} {s : List UInt8} (h : wrapI p s = 0) : partB (wrapP p s) = true := by
  obtain ⟨h1, h2, h3, h4⟩ := wrapI_zero h
  rw [wrapP_zero h]
  obtain ⟨c, ls⟩ := p
  simp only at h3 ⊢
  have hc := partB_core h1
  have hl := partB_len h1
  have hk := partB_lay h1
  simp only at hc hl hk
  unfold partB
  rw [Bool.and_eq_true, Bool.and_eq_true]
  refine ⟨⟨hc, decide_eq_true (by simp; omega)⟩, ?_⟩
  unfold layTo
  rw [List.all_eq_true]
  intro i hi
  rw [List.mem_range] at hi
  simp only [List.length_append, List.length_cons, List.length_nil] at hi
  by_cases hlt : i < ls.length
  · rw [layOk_app c ls _ i hlt]; exact hk i hlt
  · obtain rfl : i = ls.length := by omega
    rw [layOk_of ⟨c, ls ++ [(⟨s, 0⟩ : LayerD)]⟩ ls.length (by simp) (⟨s, 0⟩ : LayerD) (by simp), faceN_app c ls _ _ (Nat.le_refl _)]
    rw [Bool.and_eq_true, Bool.and_eq_true]
    refine ⟨⟨decide_eq_true h2, h4⟩, ?_⟩
    unfold cntB
    split
    · show numB 0 = true
      decide
    · rfl
theorem newP_part {k : List UInt8} (h : 0 ≤ kindI k) : partB (newP k) = true := by
  unfold partB newP coreB
  rw [show decide (0 ≤ kindI k) = true from decide_eq_true h]
  rfl
theorem makeGo_ok (r : List (List UInt8)) : ∀ {p : PartD}, (partB p = true) → (makeGo p r).2.fCode = 0 → partB (makeGo p r).1 = true ∧ (makeGo p r).1.fCore = p.fCore ∧ (makeGo p r).1.fLayers.map (·.fName) = p.fLayers.map (·.fName) ++ r ∧
    ∀ j (hj : j < r.length), (makeGo p (r.take j)).2.fCode = 0 ∧ 0 ≤ layI r[j] ∧ offersF (faceP (makeGo p (r.take j)).1) (needI (layI r[j])) = true := by
  induction r with
  | nil => intro p hp h; exact ⟨hp, rfl, by simp [makeGo], fun j hj => absurd hj (Nat.not_lt_zero _)⟩
  | cons s r ih =>
    intro p hp h
    by_cases hi : wrapI p s = 0
    · rw [makeGo_on hi] at h ⊢
      obtain ⟨h1, h2, h3, h4⟩ := ih (wrap_part hi) h
      obtain ⟨w1, w2, w3, w4⟩ := wrapI_zero hi
      refine ⟨h1, h2.trans (wrapP_core p s), ?_, fun j hj => ?_⟩
      · rw [h3, wrapP_zero hi]; simp
      · cases j with
        | zero => exact ⟨rfl, w2, w4⟩
        | succ j =>
          rw [List.take_succ_cons, makeGo_on hi]
          exact h4 j (by simpa using hj)
    · rw [makeGo_stop hi] at h
      exact absurd h hi
theorem makeGo_no (r : List (List UInt8)) : ∀ {p : PartD}, (makeGo p r).2.fCode ≠ 0 → (makeGo p r).1 = zeroP := by
  induction r with
  | nil => intro p h; exact absurd rfl h
  | cons s r ih =>
    intro p h
    by_cases hi : wrapI p s = 0
    · rw [makeGo_on hi] at h ⊢; exact ih h
    · rw [makeGo_stop hi]
theorem make_no {l : List (List UInt8)} (h : recB l = false) : (makePR l).1 = zeroP ∧ recI l = 0 := by
  unfold recB at h
  have hc : (makePR l).2.fCode ≠ 0 := of_decide_eq_false h
  refine ⟨?_, by unfold recI; rw [if_neg hc]⟩
  cases l with
  | nil => rfl
  | cons k r =>
    by_cases hk : 0 ≤ kindI k
    · have e : makePR (k :: r) = makeGo (newP k) r := if_pos hk
      rw [e] at hc ⊢; exact makeGo_no r hc
    · have e : makePR (k :: r) = (zeroP, ⟨7, 0, [], 0, 0⟩) := if_neg hk
      rw [e]
theorem make_ok {l : List (List UInt8)} (h : recB l = true) : partB (makePR l).1 = true ∧ recL (makePR l).1 = l ∧ faceP (makePR l).1 = recI l ∧ (makePR l).2.fValue = recI l ∧ (makePR l).2.fCode = 0 ∧
    ∀ i (hi : i < l.length), 1 ≤ i → recB (l.take i) = true ∧ 0 ≤ layI l[i] ∧ offersF (recI (l.take i)) (needI (layI l[i])) = true := by
  unfold recB at h
  have hc : (makePR l).2.fCode = 0 := of_decide_eq_true h
  have hI : recI l = faceP (makePR l).1 := if_pos hc
  refine ⟨?_, ?_, hI.symm, by rw [hI]; exact makePR_val hc, hc, ?_⟩
  all_goals
    cases l with
    | nil => cases hc
    | cons k r =>
      by_cases hk : 0 ≤ kindI k
      · have e : makePR (k :: r) = makeGo (newP k) r := if_pos hk
        rw [e] at hc
        obtain ⟨h1, h2, h3, h4⟩ := makeGo_ok r (newP_part hk) hc
        first
          | (rw [e]; exact h1)
          | (rw [e]; unfold recL; rw [h2, h3]; rfl)
          | (intro i hi h1i
             obtain ⟨j, rfl⟩ : ∃ j, i = j + 1 := ⟨i - 1, by omega⟩
             have hj : j < r.length := by simpa using hi
             obtain ⟨q1, q2, q3⟩ := h4 j hj
             have e2 : makePR ((k :: r).take (j + 1)) = makeGo (newP k) (r.take j) := by rw [List.take_succ_cons]; exact if_pos hk
             refine ⟨by unfold recB; rw [e2]; exact decide_eq_true q1, by simpa using q2, ?_⟩
             have e3 : recI ((k :: r).take (j + 1)) = faceP (makeGo (newP k) (r.take j)).1 := by unfold recI; rw [e2, if_pos q1]
             rw [e3]; simpa using q3)
      · have e : makePR (k :: r) = (zeroP, ⟨7, 0, [], 0, 0⟩) := if_neg hk
        rw [e] at hc; cases hc
end Go.Proofs.Ytaihdjdaamglnaa
/- Contracts of chapter 4: Wrap, the program's. Written by gen/ch4wr.py. -/
namespace Go.Proofs.Ytaihdjdaamglnaa
set_option linter.unusedVariables false
set_option linter.unusedSimpArgs false
open Go.RowKit
set_option maxRecDepth 100000 in
set_option maxHeartbeats 3200000 in
theorem implWrap_bad1 (v : Value) (x : PartD) (s : ByteArray) (w : World) (hx : ValAt rPart 0 w v x) (hs : SmallP x) (hk : ∀ c ∈ x.fCore.fCells, c.fKey.length ≤ maxLen) (hz : s.size ≤ 1048576) (hc : ¬ 0 ≤ layI s.data.toList) :
    Calls Try.prog 11 #[v, .string s] w fun e w' => GivesOPR (wrapP x s.data.toList) (wrapR x s.data.toList) w e w' := by
  obtain ⟨hwp, hwr⟩ := wrap_bad (x := x) (s := s.data.toList) (fun h => hc h.2)
  rw [hwp, hwr]
  clear hwp hwr
  have HTX := Lib.hid (fun W => copyText_any s W (by omega))
  obtain ⟨_, rfl, hx⟩ := hx
  have HX := Lib.hid (fun W (hb : Below w.heap.size w W) => goodPart.keep hx (kept_below hb (Nat.le_refl _)))
  have HIP := Lib.hid (fun cs W (h : rPart 0 W cs x) => implIsPart_any (.agg cs.toArray) x W ⟨cs, rfl, h⟩ hk)
  have HCP := Lib.hid (fun cs W (h : rPart 0 W cs x) => copyPart_c (.agg cs.toArray) x W ⟨cs, rfl, h⟩ hs)
  have HLN := Lib.hid (fun W => implLayerNeeds_any s W)
  have HSZ := Lib.hid hs.lays
  unfold ndV at HLN
  unfold GivesOPR vReply
  unfold GivesOP at HCP
  rw [show decide (0 ≤ layI s.data.toList) = false from decide_eq_false hc] at HLN
  generalize needI (layI s.data.toList) = nd at *
  obtain ⟨⟨a0, a1, a2, a3, a4⟩, l⟩ := x
  obtain ⟨v3, v5, rfl, h3, h5⟩ := hx
  simp only at h3 h5 HSZ
  obtain ⟨ra, rc, rfl, _⟩ := sliceAt_len h3
  obtain ⟨sa, sc, rfl, hl, hcap⟩ := sliceAt_cap h5
  clear h3 h5 hs hk hcap hl
  have BS := Lib.hid (bx_start3 w [.string ⟨a0.toArray⟩, .bool a1, .bool a2, .slice ra a3.length rc, .int .i64 a4, .slice sa l.length sc] [.string ⟨#[]⟩, .bool false, .bool false, .slice none 0 0, .int .i64 0, .slice none 0 0] [.int .i64 0, .int .i64 0, .string ⟨#[]⟩, .int .i64 0, .int .i64 0] 29 29 33)
  have HR0 := Lib.hid (HX.out _ BS.out.2.2.2)
  clear hc
  go_enter Try.func11, Try.ntmps11
  go_wp2_with fail
  refine (HCP.out _ _ HR0.out).mono ?_
  rintro e w1 ⟨_, rfl, ⟨u3, u5, rfl, ho3, ho5⟩, hb⟩
  have HPQ := Lib.hid (fun (hsm : SmallP (⟨⟨a0, a1, a2, a3, a4⟩, l⟩ : PartD)) => oPart_r ⟨u3, u5, rfl, ho3, ho5⟩ hsm)
  simp only at ho3 ho5
  obtain ⟨ga, gc, rfl⟩ := slice_of ho3
  obtain ⟨ua, uc, rfl⟩ := slice_of ho5
  have HB1 := Lib.hid ((belS BS.out.2.2.2 hb).alloc (belS BS.out.2.2.2 hb).size (.cells #[.string ⟨a0.toArray⟩, .bool a1, .bool a2, .slice ga a3.length gc, .int .i64 a4, .slice ua l.length uc] 29))
  have B41 := Lib.hid ((BS.out.2.1.below hb).alloc (.cells #[.string ⟨a0.toArray⟩, .bool a1, .bool a2, .slice ga a3.length gc, .int .i64 a4, .slice ua l.length uc] 29))
  have B51 := Lib.hid ((BS.out.2.2.1.below hb).alloc (.cells #[.string ⟨a0.toArray⟩, .bool a1, .bool a2, .slice ga a3.length gc, .int .i64 a4, .slice ua l.length uc] 29))
  have BQ1 := Lib.hid (Bx.new w1 [.string ⟨a0.toArray⟩, .bool a1, .bool a2, .slice ga a3.length gc, .int .i64 a4, .slice ua l.length uc] 29)
  have O3 := Lib.hid (ownsF_alloc (ownsF_base (B' := w.heap.size + 1 + 1 + 1) ho3 (by simp)) (.cells #[.string ⟨a0.toArray⟩, .bool a1, .bool a2, .slice ga a3.length gc, .int .i64 a4, .slice ua l.length uc] 29))
  have O5 := Lib.hid (ownsF_alloc (ownsF_base (B' := w.heap.size + 1 + 1 + 1) ho5 (by simp)) (.cells #[.string ⟨a0.toArray⟩, .bool a1, .bool a2, .slice ga a3.length gc, .int .i64 a4, .slice ua l.length uc] 29))
  have h3s := hb.size
  simp at h3s
  clear hb ho3 ho5 BS
  go_wp2_with fail
  refine (HLN.out _).mono ?_
  rintro e w2 ⟨rfl, rfl⟩
  have q0 := BQ1.out.cell 0 (by simp)
  have q1 := BQ1.out.cell 1 (by simp)
  have q2 := BQ1.out.cell 2 (by simp)
  have q3 := BQ1.out.cell 3 (by simp)
  have q4 := BQ1.out.cell 4 (by simp)
  have q5 := BQ1.out.cell 5 (by simp)
  simp only [List.getElem_cons_zero, List.getElem_cons_succ] at q0 q1 q2 q3 q4 q5
  have r0 := B41.out.cell 0 (by simp)
  have r1 := B41.out.cell 1 (by simp)
  have r2 := B41.out.cell 2 (by simp)
  have r3 := B41.out.cell 3 (by simp)
  have r4 := B41.out.cell 4 (by simp)
  have r5 := B41.out.cell 5 (by simp)
  simp only [List.getElem_cons_zero, List.getElem_cons_succ] at r0 r1 r2 r3 r4 r5
  have z0 := B41.out.froz 0 (by simp)
  have z1 := B41.out.froz 1 (by simp)
  have z2 := B41.out.froz 2 (by simp)
  have z3 := B41.out.froz 3 (by simp)
  have z4 := B41.out.froz 4 (by simp)
  have z5 := B41.out.froz 5 (by simp)
  have s0 := B51.out.cell 0 (by simp)
  have s1 := B51.out.cell 1 (by simp)
  have s2 := B51.out.cell 2 (by simp)
  have s3 := B51.out.cell 3 (by simp)
  have s4 := B51.out.cell 4 (by simp)
  simp only [List.getElem_cons_zero, List.getElem_cons_succ] at s0 s1 s2 s3 s4
  have y0 := B51.out.froz 0 (by simp)
  have y1 := B51.out.froz 1 (by simp)
  have y2 := B51.out.froz 2 (by simp)
  have y3 := B51.out.froz 3 (by simp)
  have y4 := B51.out.froz 4 (by simp)
  go_wp2_with fail
  clear q0 q1 q2 q3 q4 q5
  clear r0 r1 r2 r3 r4 r5 z0 z1 z2 z3 z4 z5 s0 s1 s2 s3 s4 y0 y1 y2 y3 y4
  have E4 := Lib.hid ((B41.out.put6 (.string ⟨a0.toArray⟩) (.bool a1) (.bool a2) (.slice ga a3.length gc) (.int .i64 a4) (.slice ua l.length uc)).put5o (c := w.heap.size + 1 + 1) (by omega) (.int .i64 7) (.int .i64 0) (.string ⟨#[]⟩) (.int .i64 0) (.int .i64 0))
  have E5 := Lib.hid ((B51.out.put6o (c := w.heap.size + 1) (by omega) (.string ⟨a0.toArray⟩) (.bool a1) (.bool a2) (.slice ga a3.length gc) (.int .i64 a4) (.slice ua l.length uc)).put5 (.int .i64 7) (.int .i64 0) (.string ⟨#[]⟩) (.int .i64 0) (.int .i64 0))
  have EB := Lib.hid (below_put5 (below_put6 HB1.out (w.heap.size + 1) (by omega) (.string ⟨a0.toArray⟩) (.bool a1) (.bool a2) (.slice ga a3.length gc) (.int .i64 a4) (.slice ua l.length uc)) (w.heap.size + 1 + 1) (by omega) (.int .i64 7) (.int .i64 0) (.string ⟨#[]⟩) (.int .i64 0) (.int .i64 0))
  have OC := Lib.hid (ownsF_put5 (ownsF_put6 O3.out (w.heap.size + 1) (by omega) (.string ⟨a0.toArray⟩) (.bool a1) (.bool a2) (.slice ga a3.length gc) (.int .i64 a4) (.slice ua l.length uc)) (w.heap.size + 1 + 1) (by omega) (.int .i64 7) (.int .i64 0) (.string ⟨#[]⟩) (.int .i64 0) (.int .i64 0))
  have OL := Lib.hid (ownsF_put5 (ownsF_put6 O5.out (w.heap.size + 1) (by omega) (.string ⟨a0.toArray⟩) (.bool a1) (.bool a2) (.slice ga a3.length gc) (.int .i64 a4) (.slice ua l.length uc)) (w.heap.size + 1 + 1) (by omega) (.int .i64 7) (.int .i64 0) (.string ⟨#[]⟩) (.int .i64 0) (.int .i64 0))
  generalize ((((((((((((w1.alloc (.cells #[.string ⟨a0.toArray⟩, .bool a1, .bool a2, .slice ga a3.length gc, .int .i64 a4, .slice ua l.length uc] 29)).setCell ⟨w.heap.size + 1, 0, none⟩ (.string ⟨a0.toArray⟩)).setCell ⟨w.heap.size + 1, 1, none⟩ (.bool a1)).setCell ⟨w.heap.size + 1, 2, none⟩ (.bool a2)).setCell ⟨w.heap.size + 1, 3, none⟩ (.slice ga a3.length gc)).setCell ⟨w.heap.size + 1, 4, none⟩ (.int .i64 a4)).setCell ⟨w.heap.size + 1, 5, none⟩ (.slice ua l.length uc)).setCell ⟨w.heap.size + 1 + 1, 0, none⟩ (.int .i64 7)).setCell ⟨w.heap.size + 1 + 1, 1, none⟩ (.int .i64 0)).setCell ⟨w.heap.size + 1 + 1, 2, none⟩ (.string ⟨#[]⟩)).setCell ⟨w.heap.size + 1 + 1, 3, none⟩ (.int .i64 0)).setCell ⟨w.heap.size + 1 + 1, 4, none⟩ (.int .i64 0)) = WE at *
  have r0 := E4.out.cell 0 (by simp)
  have r1 := E4.out.cell 1 (by simp)
  have r2 := E4.out.cell 2 (by simp)
  have r3 := E4.out.cell 3 (by simp)
  have r4 := E4.out.cell 4 (by simp)
  have r5 := E4.out.cell 5 (by simp)
  simp only [List.getElem_cons_zero, List.getElem_cons_succ] at r0 r1 r2 r3 r4 r5
  have s0 := E5.out.cell 0 (by simp)
  have s1 := E5.out.cell 1 (by simp)
  have s2 := E5.out.cell 2 (by simp)
  have s3 := E5.out.cell 3 (by simp)
  have s4 := E5.out.cell 4 (by simp)
  simp only [List.getElem_cons_zero, List.getElem_cons_succ] at s0 s1 s2 s3 s4
  exact bodyPost_ret (v := .tuple #[.agg #[.string ⟨a0.toArray⟩, .bool a1, .bool a2, .slice ga a3.length gc, .int .i64 a4, .slice ua l.length uc], .agg #[.int .i64 7, .int .i64 0, .string ⟨#[]⟩, .int .i64 0, .int .i64 0]]) (by simp [results, Try.results11, go_sem, r0, r1, r2, r3, r4, r5, s0, s1, s2, s3, s4]) rfl ⟨_, rfl, ⟨_, _, rfl, ownsF_base OC.out (by omega), ownsF_base OL.out (by omega)⟩, EB.out⟩
set_option maxRecDepth 100000 in
set_option maxHeartbeats 3200000 in
theorem implWrap_bad2 (v : Value) (x : PartD) (s : ByteArray) (w : World) (hx : ValAt rPart 0 w v x) (hs : SmallP x) (hk : ∀ c ∈ x.fCore.fCells, c.fKey.length ≤ maxLen) (hz : s.size ≤ 1048576) (hc : 0 ≤ layI s.data.toList) (hp : partB x = false) :
    Calls Try.prog 11 #[v, .string s] w fun e w' => GivesOPR (wrapP x s.data.toList) (wrapR x s.data.toList) w e w' := by
  obtain ⟨hwp, hwr⟩ := wrap_bad (x := x) (s := s.data.toList) (fun h => by rw [hp] at h; exact absurd h.1 (by decide))
  rw [hwp, hwr]
  clear hwp hwr
  have HTX := Lib.hid (fun W => copyText_any s W (by omega))
  obtain ⟨_, rfl, hx⟩ := hx
  have HX := Lib.hid (fun W (hb : Below w.heap.size w W) => goodPart.keep hx (kept_below hb (Nat.le_refl _)))
  have HIP := Lib.hid (fun cs W (h : rPart 0 W cs x) => implIsPart_any (.agg cs.toArray) x W ⟨cs, rfl, h⟩ hk)
  have HCP := Lib.hid (fun cs W (h : rPart 0 W cs x) => copyPart_c (.agg cs.toArray) x W ⟨cs, rfl, h⟩ hs)
  have HLN := Lib.hid (fun W => implLayerNeeds_any s W)
  have HSZ := Lib.hid hs.lays
  unfold ndV at HLN
  unfold GivesOPR vReply
  unfold GivesOP at HCP
  rw [show decide (0 ≤ layI s.data.toList) = true from decide_eq_true hc] at HLN
  rw [hp] at HIP
  generalize needI (layI s.data.toList) = nd at *
  have HSP := Lib.hid hs
  obtain ⟨⟨a0, a1, a2, a3, a4⟩, l⟩ := x
  obtain ⟨v3, v5, rfl, h3, h5⟩ := hx
  simp only at h3 h5 HSZ
  obtain ⟨ra, rc, rfl, _⟩ := sliceAt_len h3
  obtain ⟨sa, sc, rfl, hl, hcap⟩ := sliceAt_cap h5
  clear h3 h5 hs hk hcap hl
  have BS := Lib.hid (bx_start3 w [.string ⟨a0.toArray⟩, .bool a1, .bool a2, .slice ra a3.length rc, .int .i64 a4, .slice sa l.length sc] [.string ⟨#[]⟩, .bool false, .bool false, .slice none 0 0, .int .i64 0, .slice none 0 0] [.int .i64 0, .int .i64 0, .string ⟨#[]⟩, .int .i64 0, .int .i64 0] 29 29 33)
  have HR0 := Lib.hid (HX.out _ BS.out.2.2.2)
  clear hc hp
  go_enter Try.func11, Try.ntmps11
  go_wp2_with fail
  refine (HCP.out _ _ HR0.out).mono ?_
  rintro e w1 ⟨_, rfl, ⟨u3, u5, rfl, ho3, ho5⟩, hb⟩
  simp only at ho3 ho5
  obtain ⟨ga, gc, rfl⟩ := slice_of ho3
  obtain ⟨ua, uc, rfl⟩ := slice_of ho5
  have HB1 := Lib.hid ((belS BS.out.2.2.2 hb).alloc (belS BS.out.2.2.2 hb).size (.cells #[.string ⟨a0.toArray⟩, .bool a1, .bool a2, .slice ga a3.length gc, .int .i64 a4, .slice ua l.length uc] 29))
  have B41 := Lib.hid ((BS.out.2.1.below hb).alloc (.cells #[.string ⟨a0.toArray⟩, .bool a1, .bool a2, .slice ga a3.length gc, .int .i64 a4, .slice ua l.length uc] 29))
  have B51 := Lib.hid ((BS.out.2.2.1.below hb).alloc (.cells #[.string ⟨a0.toArray⟩, .bool a1, .bool a2, .slice ga a3.length gc, .int .i64 a4, .slice ua l.length uc] 29))
  have BQ1 := Lib.hid (Bx.new w1 [.string ⟨a0.toArray⟩, .bool a1, .bool a2, .slice ga a3.length gc, .int .i64 a4, .slice ua l.length uc] 29)
  have O3 := Lib.hid (ownsF_alloc (ownsF_base (B' := w.heap.size + 1 + 1 + 1) ho3 (by simp)) (.cells #[.string ⟨a0.toArray⟩, .bool a1, .bool a2, .slice ga a3.length gc, .int .i64 a4, .slice ua l.length uc] 29))
  have O5 := Lib.hid (ownsF_alloc (ownsF_base (B' := w.heap.size + 1 + 1 + 1) ho5 (by simp)) (.cells #[.string ⟨a0.toArray⟩, .bool a1, .bool a2, .slice ga a3.length gc, .int .i64 a4, .slice ua l.length uc] 29))
  have h3s := hb.size
  simp at h3s
  clear hb ho3 ho5 BS
  go_wp2_with fail
  refine (HLN.out _).mono ?_
  rintro e w2 ⟨rfl, rfl⟩
  have q0 := BQ1.out.cell 0 (by simp)
  have q1 := BQ1.out.cell 1 (by simp)
  have q2 := BQ1.out.cell 2 (by simp)
  have q3 := BQ1.out.cell 3 (by simp)
  have q4 := BQ1.out.cell 4 (by simp)
  have q5 := BQ1.out.cell 5 (by simp)
  simp only [List.getElem_cons_zero, List.getElem_cons_succ] at q0 q1 q2 q3 q4 q5
  have HRQ := Lib.hid (show rPart 0 (w1.alloc (.cells #[.string ⟨a0.toArray⟩, .bool a1, .bool a2, .slice ga a3.length gc, .int .i64 a4, .slice ua l.length uc] 29)) [.string ⟨a0.toArray⟩, .bool a1, .bool a2, .slice ga a3.length gc, .int .i64 a4, .slice ua l.length uc] ⟨⟨a0, a1, a2, a3, a4⟩, l⟩ from goodPart.mono (oPart_r ⟨_, _, rfl, O3.out, O5.out⟩ HSP.out) (Nat.zero_le _))
  go_wp2_with fail
  refine (HIP.out _ _ HRQ.out).mono ?_
  rintro e w2 ⟨rfl, hb⟩
  have HB2 := Lib.hid (belS HB1.out hb)
  have B42 := Lib.hid (B41.out.below hb)
  have B52 := Lib.hid (B51.out.below hb)
  have BQ2 := Lib.hid (BQ1.out.below hb)
  have P3 := Lib.hid (ownsF_below O3.out hb (Nat.le_refl _))
  have P5 := Lib.hid (ownsF_below O5.out hb (Nat.le_refl _))
  have h4s := hb.size
  simp at h4s
  clear hb q0 q1 q2 q3 q4 q5
  have q0 := BQ2.out.cell 0 (by simp)
  have q1 := BQ2.out.cell 1 (by simp)
  have q2 := BQ2.out.cell 2 (by simp)
  have q3 := BQ2.out.cell 3 (by simp)
  have q4 := BQ2.out.cell 4 (by simp)
  have q5 := BQ2.out.cell 5 (by simp)
  simp only [List.getElem_cons_zero, List.getElem_cons_succ] at q0 q1 q2 q3 q4 q5
  have r0 := B42.out.cell 0 (by simp)
  have r1 := B42.out.cell 1 (by simp)
  have r2 := B42.out.cell 2 (by simp)
  have r3 := B42.out.cell 3 (by simp)
  have r4 := B42.out.cell 4 (by simp)
  have r5 := B42.out.cell 5 (by simp)
  simp only [List.getElem_cons_zero, List.getElem_cons_succ] at r0 r1 r2 r3 r4 r5
  have z0 := B42.out.froz 0 (by simp)
  have z1 := B42.out.froz 1 (by simp)
  have z2 := B42.out.froz 2 (by simp)
  have z3 := B42.out.froz 3 (by simp)
  have z4 := B42.out.froz 4 (by simp)
  have z5 := B42.out.froz 5 (by simp)
  have s0 := B52.out.cell 0 (by simp)
  have s1 := B52.out.cell 1 (by simp)
  have s2 := B52.out.cell 2 (by simp)
  have s3 := B52.out.cell 3 (by simp)
  have s4 := B52.out.cell 4 (by simp)
  simp only [List.getElem_cons_zero, List.getElem_cons_succ] at s0 s1 s2 s3 s4
  have y0 := B52.out.froz 0 (by simp)
  have y1 := B52.out.froz 1 (by simp)
  have y2 := B52.out.froz 2 (by simp)
  have y3 := B52.out.froz 3 (by simp)
  have y4 := B52.out.froz 4 (by simp)
  go_wp2_with fail
  clear q0 q1 q2 q3 q4 q5
  clear r0 r1 r2 r3 r4 r5 z0 z1 z2 z3 z4 z5 s0 s1 s2 s3 s4 y0 y1 y2 y3 y4
  have E4 := Lib.hid ((B42.out.put6 (.string ⟨a0.toArray⟩) (.bool a1) (.bool a2) (.slice ga a3.length gc) (.int .i64 a4) (.slice ua l.length uc)).put5o (c := w.heap.size + 1 + 1) (by omega) (.int .i64 7) (.int .i64 0) (.string ⟨#[]⟩) (.int .i64 0) (.int .i64 0))
  have E5 := Lib.hid ((B52.out.put6o (c := w.heap.size + 1) (by omega) (.string ⟨a0.toArray⟩) (.bool a1) (.bool a2) (.slice ga a3.length gc) (.int .i64 a4) (.slice ua l.length uc)).put5 (.int .i64 7) (.int .i64 0) (.string ⟨#[]⟩) (.int .i64 0) (.int .i64 0))
  have EB := Lib.hid (below_put5 (below_put6 HB2.out (w.heap.size + 1) (by omega) (.string ⟨a0.toArray⟩) (.bool a1) (.bool a2) (.slice ga a3.length gc) (.int .i64 a4) (.slice ua l.length uc)) (w.heap.size + 1 + 1) (by omega) (.int .i64 7) (.int .i64 0) (.string ⟨#[]⟩) (.int .i64 0) (.int .i64 0))
  have OC := Lib.hid (ownsF_put5 (ownsF_put6 P3.out (w.heap.size + 1) (by omega) (.string ⟨a0.toArray⟩) (.bool a1) (.bool a2) (.slice ga a3.length gc) (.int .i64 a4) (.slice ua l.length uc)) (w.heap.size + 1 + 1) (by omega) (.int .i64 7) (.int .i64 0) (.string ⟨#[]⟩) (.int .i64 0) (.int .i64 0))
  have OL := Lib.hid (ownsF_put5 (ownsF_put6 P5.out (w.heap.size + 1) (by omega) (.string ⟨a0.toArray⟩) (.bool a1) (.bool a2) (.slice ga a3.length gc) (.int .i64 a4) (.slice ua l.length uc)) (w.heap.size + 1 + 1) (by omega) (.int .i64 7) (.int .i64 0) (.string ⟨#[]⟩) (.int .i64 0) (.int .i64 0))
  generalize (((((((((((w2.setCell ⟨w.heap.size + 1, 0, none⟩ (.string ⟨a0.toArray⟩)).setCell ⟨w.heap.size + 1, 1, none⟩ (.bool a1)).setCell ⟨w.heap.size + 1, 2, none⟩ (.bool a2)).setCell ⟨w.heap.size + 1, 3, none⟩ (.slice ga a3.length gc)).setCell ⟨w.heap.size + 1, 4, none⟩ (.int .i64 a4)).setCell ⟨w.heap.size + 1, 5, none⟩ (.slice ua l.length uc)).setCell ⟨w.heap.size + 1 + 1, 0, none⟩ (.int .i64 7)).setCell ⟨w.heap.size + 1 + 1, 1, none⟩ (.int .i64 0)).setCell ⟨w.heap.size + 1 + 1, 2, none⟩ (.string ⟨#[]⟩)).setCell ⟨w.heap.size + 1 + 1, 3, none⟩ (.int .i64 0)).setCell ⟨w.heap.size + 1 + 1, 4, none⟩ (.int .i64 0)) = WE at *
  have r0 := E4.out.cell 0 (by simp)
  have r1 := E4.out.cell 1 (by simp)
  have r2 := E4.out.cell 2 (by simp)
  have r3 := E4.out.cell 3 (by simp)
  have r4 := E4.out.cell 4 (by simp)
  have r5 := E4.out.cell 5 (by simp)
  simp only [List.getElem_cons_zero, List.getElem_cons_succ] at r0 r1 r2 r3 r4 r5
  have s0 := E5.out.cell 0 (by simp)
  have s1 := E5.out.cell 1 (by simp)
  have s2 := E5.out.cell 2 (by simp)
  have s3 := E5.out.cell 3 (by simp)
  have s4 := E5.out.cell 4 (by simp)
  simp only [List.getElem_cons_zero, List.getElem_cons_succ] at s0 s1 s2 s3 s4
  exact bodyPost_ret (v := .tuple #[.agg #[.string ⟨a0.toArray⟩, .bool a1, .bool a2, .slice ga a3.length gc, .int .i64 a4, .slice ua l.length uc], .agg #[.int .i64 7, .int .i64 0, .string ⟨#[]⟩, .int .i64 0, .int .i64 0]]) (by simp [results, Try.results11, go_sem, r0, r1, r2, r3, r4, r5, s0, s1, s2, s3, s4]) rfl ⟨_, rfl, ⟨_, _, rfl, ownsF_base OC.out (by omega), ownsF_base OL.out (by omega)⟩, EB.out⟩
set_option maxRecDepth 100000 in
set_option maxHeartbeats 3200000 in
theorem implWrap_full (v : Value) (x : PartD) (s : ByteArray) (w : World) (hx : ValAt rPart 0 w v x) (hs : SmallP x) (hk : ∀ c ∈ x.fCore.fCells, c.fKey.length ≤ maxLen) (hz : s.size ≤ 1048576) (hc : 0 ≤ layI s.data.toList) (hp : partB x = true) (h3 : x.fLayers.length = 3) :
    Calls Try.prog 11 #[v, .string s] w fun e w' => GivesOPR (wrapP x s.data.toList) (wrapR x s.data.toList) w e w' := by
  obtain ⟨hwp, hwr⟩ := wrap_full (x := x) (s := s.data.toList) ⟨hp, hc⟩ h3
  rw [hwp, hwr]
  clear hwp hwr
  have HTX := Lib.hid (fun W => copyText_any s W (by omega))
  have H3 := Lib.hid h3
  clear h3
  obtain ⟨_, rfl, hx⟩ := hx
  have HX := Lib.hid (fun W (hb : Below w.heap.size w W) => goodPart.keep hx (kept_below hb (Nat.le_refl _)))
  have HIP := Lib.hid (fun cs W (h : rPart 0 W cs x) => implIsPart_any (.agg cs.toArray) x W ⟨cs, rfl, h⟩ hk)
  have HCP := Lib.hid (fun cs W (h : rPart 0 W cs x) => copyPart_c (.agg cs.toArray) x W ⟨cs, rfl, h⟩ hs)
  have HLN := Lib.hid (fun W => implLayerNeeds_any s W)
  have HSZ := Lib.hid hs.lays
  unfold ndV at HLN
  unfold GivesOPR vReply
  unfold GivesOP at HCP
  rw [show decide (0 ≤ layI s.data.toList) = true from decide_eq_true hc] at HLN
  rw [hp] at HIP
  generalize needI (layI s.data.toList) = nd at *
  have HSP := Lib.hid hs
  obtain ⟨⟨a0, a1, a2, a3, a4⟩, l⟩ := x
  obtain ⟨v3, v5, rfl, h3, h5⟩ := hx
  simp only at h3 h5 HSZ
  obtain ⟨ra, rc, rfl, _⟩ := sliceAt_len h3
  obtain ⟨sa, sc, rfl, hl, hcap⟩ := sliceAt_cap h5
  clear h3 h5 hs hk hcap hl
  have BS := Lib.hid (bx_start3 w [.string ⟨a0.toArray⟩, .bool a1, .bool a2, .slice ra a3.length rc, .int .i64 a4, .slice sa l.length sc] [.string ⟨#[]⟩, .bool false, .bool false, .slice none 0 0, .int .i64 0, .slice none 0 0] [.int .i64 0, .int .i64 0, .string ⟨#[]⟩, .int .i64 0, .int .i64 0] 29 29 33)
  have HR0 := Lib.hid (HX.out _ BS.out.2.2.2)
  clear hc hp
  go_enter Try.func11, Try.ntmps11
  go_wp2_with fail
  refine (HCP.out _ _ HR0.out).mono ?_
  rintro e w1 ⟨_, rfl, ⟨u3, u5, rfl, ho3, ho5⟩, hb⟩
  simp only at ho3 ho5
  obtain ⟨ga, gc, rfl⟩ := slice_of ho3
  obtain ⟨ua, uc, rfl⟩ := slice_of ho5
  have HB1 := Lib.hid ((belS BS.out.2.2.2 hb).alloc (belS BS.out.2.2.2 hb).size (.cells #[.string ⟨a0.toArray⟩, .bool a1, .bool a2, .slice ga a3.length gc, .int .i64 a4, .slice ua l.length uc] 29))
  have B41 := Lib.hid ((BS.out.2.1.below hb).alloc (.cells #[.string ⟨a0.toArray⟩, .bool a1, .bool a2, .slice ga a3.length gc, .int .i64 a4, .slice ua l.length uc] 29))
  have B51 := Lib.hid ((BS.out.2.2.1.below hb).alloc (.cells #[.string ⟨a0.toArray⟩, .bool a1, .bool a2, .slice ga a3.length gc, .int .i64 a4, .slice ua l.length uc] 29))
  have BQ1 := Lib.hid (Bx.new w1 [.string ⟨a0.toArray⟩, .bool a1, .bool a2, .slice ga a3.length gc, .int .i64 a4, .slice ua l.length uc] 29)
  have O3 := Lib.hid (ownsF_alloc (ownsF_base (B' := w.heap.size + 1 + 1 + 1) ho3 (by simp)) (.cells #[.string ⟨a0.toArray⟩, .bool a1, .bool a2, .slice ga a3.length gc, .int .i64 a4, .slice ua l.length uc] 29))
  have O5 := Lib.hid (ownsF_alloc (ownsF_base (B' := w.heap.size + 1 + 1 + 1) ho5 (by simp)) (.cells #[.string ⟨a0.toArray⟩, .bool a1, .bool a2, .slice ga a3.length gc, .int .i64 a4, .slice ua l.length uc] 29))
  have h3s := hb.size
  simp at h3s
  clear hb ho3 ho5 BS
  go_wp2_with fail
  refine (HLN.out _).mono ?_
  rintro e w2 ⟨rfl, rfl⟩
  have q0 := BQ1.out.cell 0 (by simp)
  have q1 := BQ1.out.cell 1 (by simp)
  have q2 := BQ1.out.cell 2 (by simp)
  have q3 := BQ1.out.cell 3 (by simp)
  have q4 := BQ1.out.cell 4 (by simp)
  have q5 := BQ1.out.cell 5 (by simp)
  simp only [List.getElem_cons_zero, List.getElem_cons_succ] at q0 q1 q2 q3 q4 q5
  have HRQ := Lib.hid (show rPart 0 (w1.alloc (.cells #[.string ⟨a0.toArray⟩, .bool a1, .bool a2, .slice ga a3.length gc, .int .i64 a4, .slice ua l.length uc] 29)) [.string ⟨a0.toArray⟩, .bool a1, .bool a2, .slice ga a3.length gc, .int .i64 a4, .slice ua l.length uc] ⟨⟨a0, a1, a2, a3, a4⟩, l⟩ from goodPart.mono (oPart_r ⟨_, _, rfl, O3.out, O5.out⟩ HSP.out) (Nat.zero_le _))
  go_wp2_with fail
  refine (HIP.out _ _ HRQ.out).mono ?_
  rintro e w2 ⟨rfl, hb⟩
  have HB2 := Lib.hid (belS HB1.out hb)
  have B42 := Lib.hid (B41.out.below hb)
  have B52 := Lib.hid (B51.out.below hb)
  have BQ2 := Lib.hid (BQ1.out.below hb)
  have P3 := Lib.hid (ownsF_below O3.out hb (Nat.le_refl _))
  have P5 := Lib.hid (ownsF_below O5.out hb (Nat.le_refl _))
  have h4s := hb.size
  simp at h4s
  clear hb q0 q1 q2 q3 q4 q5
  have h3 := H3.out
  try simp only at h3
  have hl3 : ((l.length : Int) == 3) = true := by rw [h3]; rfl
  clear h3
  have q0 := BQ2.out.cell 0 (by simp)
  have q1 := BQ2.out.cell 1 (by simp)
  have q2 := BQ2.out.cell 2 (by simp)
  have q3 := BQ2.out.cell 3 (by simp)
  have q4 := BQ2.out.cell 4 (by simp)
  have q5 := BQ2.out.cell 5 (by simp)
  simp only [List.getElem_cons_zero, List.getElem_cons_succ] at q0 q1 q2 q3 q4 q5
  have r0 := B42.out.cell 0 (by simp)
  have r1 := B42.out.cell 1 (by simp)
  have r2 := B42.out.cell 2 (by simp)
  have r3 := B42.out.cell 3 (by simp)
  have r4 := B42.out.cell 4 (by simp)
  have r5 := B42.out.cell 5 (by simp)
  simp only [List.getElem_cons_zero, List.getElem_cons_succ] at r0 r1 r2 r3 r4 r5
  have z0 := B42.out.froz 0 (by simp)
  have z1 := B42.out.froz 1 (by simp)
  have z2 := B42.out.froz 2 (by simp)
  have z3 := B42.out.froz 3 (by simp)
  have z4 := B42.out.froz 4 (by simp)
  have z5 := B42.out.froz 5 (by simp)
  have s0 := B52.out.cell 0 (by simp)
  have s1 := B52.out.cell 1 (by simp)
  have s2 := B52.out.cell 2 (by simp)
  have s3 := B52.out.cell 3 (by simp)
  have s4 := B52.out.cell 4 (by simp)
  simp only [List.getElem_cons_zero, List.getElem_cons_succ] at s0 s1 s2 s3 s4
  have y0 := B52.out.froz 0 (by simp)
  have y1 := B52.out.froz 1 (by simp)
  have y2 := B52.out.froz 2 (by simp)
  have y3 := B52.out.froz 3 (by simp)
  have y4 := B52.out.froz 4 (by simp)
  go_wp2_with fail
  clear q0 q1 q2 q3 q4 q5
  clear r0 r1 r2 r3 r4 r5 z0 z1 z2 z3 z4 z5 s0 s1 s2 s3 s4 y0 y1 y2 y3 y4
  have E4 := Lib.hid ((B42.out.put6 (.string ⟨a0.toArray⟩) (.bool a1) (.bool a2) (.slice ga a3.length gc) (.int .i64 a4) (.slice ua l.length uc)).put5o (c := w.heap.size + 1 + 1) (by omega) (.int .i64 5) (.int .i64 0) (.string ⟨#[]⟩) (.int .i64 0) (.int .i64 0))
  have E5 := Lib.hid ((B52.out.put6o (c := w.heap.size + 1) (by omega) (.string ⟨a0.toArray⟩) (.bool a1) (.bool a2) (.slice ga a3.length gc) (.int .i64 a4) (.slice ua l.length uc)).put5 (.int .i64 5) (.int .i64 0) (.string ⟨#[]⟩) (.int .i64 0) (.int .i64 0))
  have EB := Lib.hid (below_put5 (below_put6 HB2.out (w.heap.size + 1) (by omega) (.string ⟨a0.toArray⟩) (.bool a1) (.bool a2) (.slice ga a3.length gc) (.int .i64 a4) (.slice ua l.length uc)) (w.heap.size + 1 + 1) (by omega) (.int .i64 5) (.int .i64 0) (.string ⟨#[]⟩) (.int .i64 0) (.int .i64 0))
  have OC := Lib.hid (ownsF_put5 (ownsF_put6 P3.out (w.heap.size + 1) (by omega) (.string ⟨a0.toArray⟩) (.bool a1) (.bool a2) (.slice ga a3.length gc) (.int .i64 a4) (.slice ua l.length uc)) (w.heap.size + 1 + 1) (by omega) (.int .i64 5) (.int .i64 0) (.string ⟨#[]⟩) (.int .i64 0) (.int .i64 0))
  have OL := Lib.hid (ownsF_put5 (ownsF_put6 P5.out (w.heap.size + 1) (by omega) (.string ⟨a0.toArray⟩) (.bool a1) (.bool a2) (.slice ga a3.length gc) (.int .i64 a4) (.slice ua l.length uc)) (w.heap.size + 1 + 1) (by omega) (.int .i64 5) (.int .i64 0) (.string ⟨#[]⟩) (.int .i64 0) (.int .i64 0))
  generalize (((((((((((w2.setCell ⟨w.heap.size + 1, 0, none⟩ (.string ⟨a0.toArray⟩)).setCell ⟨w.heap.size + 1, 1, none⟩ (.bool a1)).setCell ⟨w.heap.size + 1, 2, none⟩ (.bool a2)).setCell ⟨w.heap.size + 1, 3, none⟩ (.slice ga a3.length gc)).setCell ⟨w.heap.size + 1, 4, none⟩ (.int .i64 a4)).setCell ⟨w.heap.size + 1, 5, none⟩ (.slice ua l.length uc)).setCell ⟨w.heap.size + 1 + 1, 0, none⟩ (.int .i64 5)).setCell ⟨w.heap.size + 1 + 1, 1, none⟩ (.int .i64 0)).setCell ⟨w.heap.size + 1 + 1, 2, none⟩ (.string ⟨#[]⟩)).setCell ⟨w.heap.size + 1 + 1, 3, none⟩ (.int .i64 0)).setCell ⟨w.heap.size + 1 + 1, 4, none⟩ (.int .i64 0)) = WE at *
  have r0 := E4.out.cell 0 (by simp)
  have r1 := E4.out.cell 1 (by simp)
  have r2 := E4.out.cell 2 (by simp)
  have r3 := E4.out.cell 3 (by simp)
  have r4 := E4.out.cell 4 (by simp)
  have r5 := E4.out.cell 5 (by simp)
  simp only [List.getElem_cons_zero, List.getElem_cons_succ] at r0 r1 r2 r3 r4 r5
  have s0 := E5.out.cell 0 (by simp)
  have s1 := E5.out.cell 1 (by simp)
  have s2 := E5.out.cell 2 (by simp)
  have s3 := E5.out.cell 3 (by simp)
  have s4 := E5.out.cell 4 (by simp)
  simp only [List.getElem_cons_zero, List.getElem_cons_succ] at s0 s1 s2 s3 s4
  exact bodyPost_ret (v := .tuple #[.agg #[.string ⟨a0.toArray⟩, .bool a1, .bool a2, .slice ga a3.length gc, .int .i64 a4, .slice ua l.length uc], .agg #[.int .i64 5, .int .i64 0, .string ⟨#[]⟩, .int .i64 0, .int .i64 0]]) (by simp [results, Try.results11, go_sem, r0, r1, r2, r3, r4, r5, s0, s1, s2, s3, s4]) rfl ⟨_, rfl, ⟨_, _, rfl, ownsF_base OC.out (by omega), ownsF_base OL.out (by omega)⟩, EB.out⟩
set_option maxRecDepth 100000 in
set_option maxHeartbeats 3200000 in
theorem implWrap_fail (v : Value) (x : PartD) (s : ByteArray) (w : World) (hx : ValAt rPart 0 w v x) (hs : SmallP x) (hk : ∀ c ∈ x.fCore.fCells, c.fKey.length ≤ maxLen) (hz : s.size ≤ 1048576) (hc : 0 ≤ layI s.data.toList) (hp : partB x = true) (h3 : ¬ x.fLayers.length = 3) (ho : offersF (faceP x) (needI (layI s.data.toList)) = false) :
    Calls Try.prog 11 #[v, .string s] w fun e w' => GivesOPR (wrapP x s.data.toList) (wrapR x s.data.toList) w e w' := by
  obtain ⟨hwp, hwr⟩ := wrap_fail (x := x) (s := s.data.toList) ⟨hp, hc⟩ h3 ho
  rw [hwp, hwr]
  clear hwp hwr
  have HTX := Lib.hid (fun W => copyText_any s W (by omega))
  have H3 := Lib.hid h3
  clear h3
  obtain ⟨q, hq1, hq2, hq3⟩ : ∃ q : Nat, layI s.data.toList = q ∧ q < 9 ∧ layN q = s.data.toList := by
    rcases layI_bd s.data.toList with h1 | h1
    · omega
    · exact h1
  have hn : needI (layI s.data.toList) = needN q := by rw [hq1]; unfold needI; rw [if_neg (by omega)]; rfl
  have hg : giveI (layI s.data.toList) = giveN q := by rw [hq1]; unfold giveI; rw [if_neg (by omega)]; rfl
  rw [hn] at ho
  rw [hn]
  have HWP := Lib.hid (fun b0 cs W (h : rPart 0 W cs x) (hb : Bx W b0 cs) => wholePart_c b0 cs x W h hb hp)
  have HNM := Lib.hid (show Value.string s = .string ⟨(layN q).toArray⟩ by rw [hq3])
  have HNS := Lib.hid hq3
  have HO := Lib.hid ho
  have HQ := Lib.hid hq2
  clear hq1 hn hg ho
  obtain ⟨_, rfl, hx⟩ := hx
  have HX := Lib.hid (fun W (hb : Below w.heap.size w W) => goodPart.keep hx (kept_below hb (Nat.le_refl _)))
  have HIP := Lib.hid (fun cs W (h : rPart 0 W cs x) => implIsPart_any (.agg cs.toArray) x W ⟨cs, rfl, h⟩ hk)
  have HCP := Lib.hid (fun cs W (h : rPart 0 W cs x) => copyPart_c (.agg cs.toArray) x W ⟨cs, rfl, h⟩ hs)
  have HLN := Lib.hid (fun W => implLayerNeeds_any s W)
  have HSZ := Lib.hid hs.lays
  unfold ndV at HLN
  unfold GivesOPR vReply
  unfold GivesOP at HCP
  rw [show decide (0 ≤ layI s.data.toList) = true from decide_eq_true hc] at HLN
  rw [hp] at HIP
  generalize needI (layI s.data.toList) = nd at HLN
  generalize faceP x = fp at *
  have HSP := Lib.hid hs
  obtain ⟨⟨a0, a1, a2, a3, a4⟩, l⟩ := x
  obtain ⟨v3, v5, rfl, h3, h5⟩ := hx
  simp only at h3 h5 HSZ
  obtain ⟨ra, rc, rfl, _⟩ := sliceAt_len h3
  obtain ⟨sa, sc, rfl, hl, hcap⟩ := sliceAt_cap h5
  clear h3 h5 hs hk hcap hl
  have BS := Lib.hid (bx_start3 w [.string ⟨a0.toArray⟩, .bool a1, .bool a2, .slice ra a3.length rc, .int .i64 a4, .slice sa l.length sc] [.string ⟨#[]⟩, .bool false, .bool false, .slice none 0 0, .int .i64 0, .slice none 0 0] [.int .i64 0, .int .i64 0, .string ⟨#[]⟩, .int .i64 0, .int .i64 0] 29 29 33)
  have HR0 := Lib.hid (HX.out _ BS.out.2.2.2)
  clear hc hp
  go_enter Try.func11, Try.ntmps11
  go_wp2_with fail
  refine (HCP.out _ _ HR0.out).mono ?_
  rintro e w1 ⟨_, rfl, ⟨u3, u5, rfl, ho3, ho5⟩, hb⟩
  simp only at ho3 ho5
  obtain ⟨ga, gc, rfl⟩ := slice_of ho3
  obtain ⟨ua, uc, rfl⟩ := slice_of ho5
  have HB1 := Lib.hid ((belS BS.out.2.2.2 hb).alloc (belS BS.out.2.2.2 hb).size (.cells #[.string ⟨a0.toArray⟩, .bool a1, .bool a2, .slice ga a3.length gc, .int .i64 a4, .slice ua l.length uc] 29))
  have B41 := Lib.hid ((BS.out.2.1.below hb).alloc (.cells #[.string ⟨a0.toArray⟩, .bool a1, .bool a2, .slice ga a3.length gc, .int .i64 a4, .slice ua l.length uc] 29))
  have B51 := Lib.hid ((BS.out.2.2.1.below hb).alloc (.cells #[.string ⟨a0.toArray⟩, .bool a1, .bool a2, .slice ga a3.length gc, .int .i64 a4, .slice ua l.length uc] 29))
  have BQ1 := Lib.hid (Bx.new w1 [.string ⟨a0.toArray⟩, .bool a1, .bool a2, .slice ga a3.length gc, .int .i64 a4, .slice ua l.length uc] 29)
  have O3 := Lib.hid (ownsF_alloc (ownsF_base (B' := w.heap.size + 1 + 1 + 1) ho3 (by simp)) (.cells #[.string ⟨a0.toArray⟩, .bool a1, .bool a2, .slice ga a3.length gc, .int .i64 a4, .slice ua l.length uc] 29))
  have O5 := Lib.hid (ownsF_alloc (ownsF_base (B' := w.heap.size + 1 + 1 + 1) ho5 (by simp)) (.cells #[.string ⟨a0.toArray⟩, .bool a1, .bool a2, .slice ga a3.length gc, .int .i64 a4, .slice ua l.length uc] 29))
  have h3s := hb.size
  simp at h3s
  clear hb ho3 ho5 BS
  go_wp2_with fail
  refine (HLN.out _).mono ?_
  rintro e w2 ⟨rfl, rfl⟩
  have q0 := BQ1.out.cell 0 (by simp)
  have q1 := BQ1.out.cell 1 (by simp)
  have q2 := BQ1.out.cell 2 (by simp)
  have q3 := BQ1.out.cell 3 (by simp)
  have q4 := BQ1.out.cell 4 (by simp)
  have q5 := BQ1.out.cell 5 (by simp)
  simp only [List.getElem_cons_zero, List.getElem_cons_succ] at q0 q1 q2 q3 q4 q5
  have HRQ := Lib.hid (show rPart 0 (w1.alloc (.cells #[.string ⟨a0.toArray⟩, .bool a1, .bool a2, .slice ga a3.length gc, .int .i64 a4, .slice ua l.length uc] 29)) [.string ⟨a0.toArray⟩, .bool a1, .bool a2, .slice ga a3.length gc, .int .i64 a4, .slice ua l.length uc] ⟨⟨a0, a1, a2, a3, a4⟩, l⟩ from goodPart.mono (oPart_r ⟨_, _, rfl, O3.out, O5.out⟩ HSP.out) (Nat.zero_le _))
  go_wp2_with fail
  refine (HIP.out _ _ HRQ.out).mono ?_
  rintro e w2 ⟨rfl, hb⟩
  have HB2 := Lib.hid (belS HB1.out hb)
  have B42 := Lib.hid (B41.out.below hb)
  have B52 := Lib.hid (B51.out.below hb)
  have BQ2 := Lib.hid (BQ1.out.below hb)
  have P3 := Lib.hid (ownsF_below O3.out hb (Nat.le_refl _))
  have P5 := Lib.hid (ownsF_below O5.out hb (Nat.le_refl _))
  have h4s := hb.size
  simp at h4s
  clear hb q0 q1 q2 q3 q4 q5
  have h3 := H3.out
  try simp only at h3
  have hl3 : ¬ (l.length : Int) = 3 := by omega
  clear h3
  have q0 := BQ2.out.cell 0 (by simp)
  have q1 := BQ2.out.cell 1 (by simp)
  have q2 := BQ2.out.cell 2 (by simp)
  have q3 := BQ2.out.cell 3 (by simp)
  have q4 := BQ2.out.cell 4 (by simp)
  have q5 := BQ2.out.cell 5 (by simp)
  simp only [List.getElem_cons_zero, List.getElem_cons_succ] at q0 q1 q2 q3 q4 q5
  go_wp2_with fail
  refine (HTX.out _).mono ?_
  rintro e w3 ⟨rfl, hb⟩
  have HB3 := Lib.hid ((belS HB2.out hb).alloc (belS HB2.out hb).size (.cells #[.string s, .int .i64 0] 81))
  have B43 := Lib.hid ((B42.out.below hb).alloc (.cells #[.string s, .int .i64 0] 81))
  have B53 := Lib.hid ((B52.out.below hb).alloc (.cells #[.string s, .int .i64 0] 81))
  have BQ3 := Lib.hid ((BQ2.out.below hb).alloc (.cells #[.string s, .int .i64 0] 81))
  have BL3 := Lib.hid (Bx.new w3 [.string s, .int .i64 0] 81)
  have R3 := Lib.hid (ownsF_alloc (ownsF_below P3.out hb (Nat.le_refl _)) (.cells #[.string s, .int .i64 0] 81))
  have R5 := Lib.hid (ownsF_alloc (ownsF_below P5.out hb (Nat.le_refl _)) (.cells #[.string s, .int .i64 0] 81))
  have h5s := hb.size
  clear hb q0 q1 q2 q3 q4 q5
  have HRW := Lib.hid (show rPart 0 (w3.alloc (.cells #[.string s, .int .i64 0] 81)) [.string ⟨a0.toArray⟩, .bool a1, .bool a2, .slice ga a3.length gc, .int .i64 a4, .slice ua l.length uc] ⟨⟨a0, a1, a2, a3, a4⟩, l⟩ from goodPart.mono (oPart_r ⟨_, _, rfl, R3.out, R5.out⟩ HSP.out) (Nat.zero_le _))
  go_wp2_with fail
  refine (HWP.out _ _ _ HRW.out BQ3.out).mono ?_
  rintro e w4 ⟨pv, rfl, hpv, hb⟩
  have HB4 := Lib.hid (belS HB3.out hb)
  have B44 := Lib.hid (B43.out.below hb)
  have B54 := Lib.hid (B53.out.below hb)
  have BQ4 := Lib.hid (BQ3.out.below hb)
  have BL4 := Lib.hid (BL3.out.below hb)
  have S3 := Lib.hid (ownsF_below R3.out hb (Nat.le_refl _))
  have S5 := Lib.hid (ownsF_below R5.out hb (Nat.le_refl _))
  have h6s := hb.size
  simp at h6s
  have HPV := Lib.hid hpv
  have l0 := BL4.out.cell 0 (by simp)
  simp only [List.getElem_cons_zero] at l0
  rw [HNM.out] at l0
  have HWI := Lib.hid (wrapIn_c w3.heap.size 0 q HQ.out pv fp w4 l0 HPV.out)
  clear hb hpv l0
  go_wp2_with fail
  refine HWI.out.mono ?_
  rintro e w5 ⟨hb, hres⟩
  obtain rfl : e = .returned (.tuple #[pv, vReply ⟨1, 0, [], needN q, fp⟩]) := by
    rcases hres with ⟨h, _⟩ | ⟨_, h⟩
    · rw [HO.out] at h; cases h
    · exact h
  unfold vReply
  have HB5 := Lib.hid ((belS HB4.out hb).alloc (belS HB4.out hb).size (.cells #[.int .i64 1, .int .i64 0, .string ⟨#[]⟩, .int .i64 (needN q), .int .i64 fp] 33))
  have B45 := Lib.hid ((B44.out.below hb).alloc (.cells #[.int .i64 1, .int .i64 0, .string ⟨#[]⟩, .int .i64 (needN q), .int .i64 fp] 33))
  have B55 := Lib.hid ((B54.out.below hb).alloc (.cells #[.int .i64 1, .int .i64 0, .string ⟨#[]⟩, .int .i64 (needN q), .int .i64 fp] 33))
  have BQ5 := Lib.hid ((BQ4.out.below hb).alloc (.cells #[.int .i64 1, .int .i64 0, .string ⟨#[]⟩, .int .i64 (needN q), .int .i64 fp] 33))
  have BL5 := Lib.hid ((BL4.out.below hb).alloc (.cells #[.int .i64 1, .int .i64 0, .string ⟨#[]⟩, .int .i64 (needN q), .int .i64 fp] 33))
  have BR5 := Lib.hid (Bx.new w5 [.int .i64 1, .int .i64 0, .string ⟨#[]⟩, .int .i64 (needN q), .int .i64 fp] 33)
  have T3 := Lib.hid (ownsF_alloc (ownsF_below S3.out hb (Nat.le_refl _)) (.cells #[.int .i64 1, .int .i64 0, .string ⟨#[]⟩, .int .i64 (needN q), .int .i64 fp] 33))
  have T5 := Lib.hid (ownsF_alloc (ownsF_below S5.out hb (Nat.le_refl _)) (.cells #[.int .i64 1, .int .i64 0, .string ⟨#[]⟩, .int .i64 (needN q), .int .i64 fp] 33))
  have h7s := hb.size
  clear hb hres
  have t0 := BR5.out.cell 0 (by simp)
  have t1 := BR5.out.cell 1 (by simp)
  have t2 := BR5.out.cell 2 (by simp)
  have t3 := BR5.out.cell 3 (by simp)
  have t4 := BR5.out.cell 4 (by simp)
  simp only [List.getElem_cons_zero, List.getElem_cons_succ] at t0 t1 t2 t3 t4
  go_wp2_with fail
  clear t0 t1 t2 t3 t4
  have t0 := BR5.out.cell 0 (by simp)
  have t1 := BR5.out.cell 1 (by simp)
  have t2 := BR5.out.cell 2 (by simp)
  have t3 := BR5.out.cell 3 (by simp)
  have t4 := BR5.out.cell 4 (by simp)
  simp only [List.getElem_cons_zero, List.getElem_cons_succ] at t0 t1 t2 t3 t4
  have q0 := BQ5.out.cell 0 (by simp)
  have q1 := BQ5.out.cell 1 (by simp)
  have q2 := BQ5.out.cell 2 (by simp)
  have q3 := BQ5.out.cell 3 (by simp)
  have q4 := BQ5.out.cell 4 (by simp)
  have q5 := BQ5.out.cell 5 (by simp)
  simp only [List.getElem_cons_zero, List.getElem_cons_succ] at q0 q1 q2 q3 q4 q5
  have r0 := B45.out.cell 0 (by simp)
  have r1 := B45.out.cell 1 (by simp)
  have r2 := B45.out.cell 2 (by simp)
  have r3 := B45.out.cell 3 (by simp)
  have r4 := B45.out.cell 4 (by simp)
  have r5 := B45.out.cell 5 (by simp)
  simp only [List.getElem_cons_zero, List.getElem_cons_succ] at r0 r1 r2 r3 r4 r5
  have z0 := B45.out.froz 0 (by simp)
  have z1 := B45.out.froz 1 (by simp)
  have z2 := B45.out.froz 2 (by simp)
  have z3 := B45.out.froz 3 (by simp)
  have z4 := B45.out.froz 4 (by simp)
  have z5 := B45.out.froz 5 (by simp)
  have s0 := B55.out.cell 0 (by simp)
  have s1 := B55.out.cell 1 (by simp)
  have s2 := B55.out.cell 2 (by simp)
  have s3 := B55.out.cell 3 (by simp)
  have s4 := B55.out.cell 4 (by simp)
  simp only [List.getElem_cons_zero, List.getElem_cons_succ] at s0 s1 s2 s3 s4
  have y0 := B55.out.froz 0 (by simp)
  have y1 := B55.out.froz 1 (by simp)
  have y2 := B55.out.froz 2 (by simp)
  have y3 := B55.out.froz 3 (by simp)
  have y4 := B55.out.froz 4 (by simp)
  go_region
  all_goals (try go_wp2_with fail)
  all_goals
    refine bodyPost_ret (v := .tuple #[.agg #[.string ⟨a0.toArray⟩, .bool a1, .bool a2, .slice ga a3.length gc, .int .i64 a4, .slice ua l.length uc], .agg #[.int .i64 1, .int .i64 0, .string ⟨#[]⟩, .int .i64 (needN q), .int .i64 fp]]) (by simp [results, Try.results11, go_sem, cell_set_at, cell_set_ne, t0, t1, t2, t3, t4, r0, r1, r2, r3, r4, r5, s0, s1, s2, s3, s4]) rfl ⟨_, rfl, ⟨_, _, rfl, ?_, ?_⟩, ?_⟩
    · refine ownsF_base (B := (((w.heap.size + 1) + 1) + 1)) ?_ (by omega)
      repeat (first | with_reducible refine ownsF_set ?_ (by simp; try omega) | with_reducible refine ownsF_drew ?_)
      have h := T3.out
      simpa using h
    · refine ownsF_base (B := (((w.heap.size + 1) + 1) + 1)) ?_ (by omega)
      repeat (first | with_reducible refine ownsF_set ?_ (by simp; try omega) | with_reducible refine ownsF_drew ?_)
      have h := T5.out
      simpa using h
    · repeat (first | with_reducible exact HB5.out | with_reducible refine Below.setCell ?_ (by simp; try omega) _ | with_reducible refine Below.drew ?_)
set_option maxRecDepth 100000 in
set_option maxHeartbeats 3200000 in
theorem implWrap_ok (v : Value) (x : PartD) (s : ByteArray) (w : World) (hx : ValAt rPart 0 w v x) (hs : SmallP x) (hk : ∀ c ∈ x.fCore.fCells, c.fKey.length ≤ maxLen) (hz : s.size ≤ 1048576) (hc : 0 ≤ layI s.data.toList) (hp : partB x = true) (h3 : ¬ x.fLayers.length = 3) (ho : offersF (faceP x) (needI (layI s.data.toList)) = true) :
    Calls Try.prog 11 #[v, .string s] w fun e w' => GivesOPR (wrapP x s.data.toList) (wrapR x s.data.toList) w e w' := by
  obtain ⟨hwp, hwr⟩ := wrap_ok (x := x) (s := s.data.toList) ⟨hp, hc⟩ h3 ho
  rw [hwp, hwr]
  clear hwp hwr
  have HTX := Lib.hid (fun W => copyText_any s W (by omega))
  have H3 := Lib.hid h3
  clear h3
  obtain ⟨q, hq1, hq2, hq3⟩ : ∃ q : Nat, layI s.data.toList = q ∧ q < 9 ∧ layN q = s.data.toList := by
    rcases layI_bd s.data.toList with h1 | h1
    · omega
    · exact h1
  have hn : needI (layI s.data.toList) = needN q := by rw [hq1]; unfold needI; rw [if_neg (by omega)]; rfl
  have hg : giveI (layI s.data.toList) = giveN q := by rw [hq1]; unfold giveI; rw [if_neg (by omega)]; rfl
  rw [hn] at ho
  rw [hg]
  have HWP := Lib.hid (fun b0 cs W (h : rPart 0 W cs x) (hb : Bx W b0 cs) => wholePart_c b0 cs x W h hb hp)
  have HNM := Lib.hid (show Value.string s = .string ⟨(layN q).toArray⟩ by rw [hq3])
  have HNS := Lib.hid hq3
  have HO := Lib.hid ho
  have HQ := Lib.hid hq2
  clear hq1 hn hg ho
  obtain ⟨_, rfl, hx⟩ := hx
  have HX := Lib.hid (fun W (hb : Below w.heap.size w W) => goodPart.keep hx (kept_below hb (Nat.le_refl _)))
  have HIP := Lib.hid (fun cs W (h : rPart 0 W cs x) => implIsPart_any (.agg cs.toArray) x W ⟨cs, rfl, h⟩ hk)
  have HCP := Lib.hid (fun cs W (h : rPart 0 W cs x) => copyPart_c (.agg cs.toArray) x W ⟨cs, rfl, h⟩ hs)
  have HLN := Lib.hid (fun W => implLayerNeeds_any s W)
  have HSZ := Lib.hid hs.lays
  unfold ndV at HLN
  unfold GivesOPR vReply
  unfold GivesOP at HCP
  rw [show decide (0 ≤ layI s.data.toList) = true from decide_eq_true hc] at HLN
  rw [hp] at HIP
  generalize needI (layI s.data.toList) = nd at HLN
  generalize faceP x = fp at *
  have HSP := Lib.hid hs
  obtain ⟨⟨a0, a1, a2, a3, a4⟩, l⟩ := x
  obtain ⟨v3, v5, rfl, h3, h5⟩ := hx
  simp only at h3 h5 HSZ
  obtain ⟨ra, rc, rfl, _⟩ := sliceAt_len h3
  obtain ⟨sa, sc, rfl, hl, hcap⟩ := sliceAt_cap h5
  clear h3 h5 hs hk hcap hl
  have BS := Lib.hid (bx_start3 w [.string ⟨a0.toArray⟩, .bool a1, .bool a2, .slice ra a3.length rc, .int .i64 a4, .slice sa l.length sc] [.string ⟨#[]⟩, .bool false, .bool false, .slice none 0 0, .int .i64 0, .slice none 0 0] [.int .i64 0, .int .i64 0, .string ⟨#[]⟩, .int .i64 0, .int .i64 0] 29 29 33)
  have HR0 := Lib.hid (HX.out _ BS.out.2.2.2)
  clear hc hp
  go_enter Try.func11, Try.ntmps11
  go_wp2_with fail
  refine (HCP.out _ _ HR0.out).mono ?_
  rintro e w1 ⟨_, rfl, ⟨u3, u5, rfl, ho3, ho5⟩, hb⟩
  simp only at ho3 ho5
  obtain ⟨ga, gc, rfl⟩ := slice_of ho3
  obtain ⟨ua, uc, rfl⟩ := slice_of ho5
  have HB1 := Lib.hid ((belS BS.out.2.2.2 hb).alloc (belS BS.out.2.2.2 hb).size (.cells #[.string ⟨a0.toArray⟩, .bool a1, .bool a2, .slice ga a3.length gc, .int .i64 a4, .slice ua l.length uc] 29))
  have B41 := Lib.hid ((BS.out.2.1.below hb).alloc (.cells #[.string ⟨a0.toArray⟩, .bool a1, .bool a2, .slice ga a3.length gc, .int .i64 a4, .slice ua l.length uc] 29))
  have B51 := Lib.hid ((BS.out.2.2.1.below hb).alloc (.cells #[.string ⟨a0.toArray⟩, .bool a1, .bool a2, .slice ga a3.length gc, .int .i64 a4, .slice ua l.length uc] 29))
  have BQ1 := Lib.hid (Bx.new w1 [.string ⟨a0.toArray⟩, .bool a1, .bool a2, .slice ga a3.length gc, .int .i64 a4, .slice ua l.length uc] 29)
  have O3 := Lib.hid (ownsF_alloc (ownsF_base (B' := w.heap.size + 1 + 1 + 1) ho3 (by simp)) (.cells #[.string ⟨a0.toArray⟩, .bool a1, .bool a2, .slice ga a3.length gc, .int .i64 a4, .slice ua l.length uc] 29))
  have O5 := Lib.hid (ownsF_alloc (ownsF_base (B' := w.heap.size + 1 + 1 + 1) ho5 (by simp)) (.cells #[.string ⟨a0.toArray⟩, .bool a1, .bool a2, .slice ga a3.length gc, .int .i64 a4, .slice ua l.length uc] 29))
  have h3s := hb.size
  simp at h3s
  have HU5 := Lib.hid (fun g (h : (Value.slice ua l.length uc).ownBlock = some g) => (show w.heap.size + 1 + 1 + 1 ≤ g ∧ g < w1.heap.size from ⟨by have := (World.ownsRow.lt ho5 g h).1; simpa using this, (World.ownsRow.lt ho5 g h).2⟩))
  have HU3 := Lib.hid (fun g (h : (Value.slice ga a3.length gc).ownBlock = some g) => (show g < w1.heap.size from (World.ownsRow.lt ho3 g h).2))
  clear hb ho3 ho5 BS
  go_wp2_with fail
  refine (HLN.out _).mono ?_
  rintro e w2 ⟨rfl, rfl⟩
  have q0 := BQ1.out.cell 0 (by simp)
  have q1 := BQ1.out.cell 1 (by simp)
  have q2 := BQ1.out.cell 2 (by simp)
  have q3 := BQ1.out.cell 3 (by simp)
  have q4 := BQ1.out.cell 4 (by simp)
  have q5 := BQ1.out.cell 5 (by simp)
  simp only [List.getElem_cons_zero, List.getElem_cons_succ] at q0 q1 q2 q3 q4 q5
  have HRQ := Lib.hid (show rPart 0 (w1.alloc (.cells #[.string ⟨a0.toArray⟩, .bool a1, .bool a2, .slice ga a3.length gc, .int .i64 a4, .slice ua l.length uc] 29)) [.string ⟨a0.toArray⟩, .bool a1, .bool a2, .slice ga a3.length gc, .int .i64 a4, .slice ua l.length uc] ⟨⟨a0, a1, a2, a3, a4⟩, l⟩ from goodPart.mono (oPart_r ⟨_, _, rfl, O3.out, O5.out⟩ HSP.out) (Nat.zero_le _))
  go_wp2_with fail
  refine (HIP.out _ _ HRQ.out).mono ?_
  rintro e w2 ⟨rfl, hb⟩
  have HB2 := Lib.hid (belS HB1.out hb)
  have B42 := Lib.hid (B41.out.below hb)
  have B52 := Lib.hid (B51.out.below hb)
  have BQ2 := Lib.hid (BQ1.out.below hb)
  have P3 := Lib.hid (ownsF_below O3.out hb (Nat.le_refl _))
  have P5 := Lib.hid (ownsF_below O5.out hb (Nat.le_refl _))
  have h4s := hb.size
  simp at h4s
  clear hb q0 q1 q2 q3 q4 q5
  have h3 := H3.out
  try simp only at h3
  have hl3 : ¬ (l.length : Int) = 3 := by omega
  clear h3
  have q0 := BQ2.out.cell 0 (by simp)
  have q1 := BQ2.out.cell 1 (by simp)
  have q2 := BQ2.out.cell 2 (by simp)
  have q3 := BQ2.out.cell 3 (by simp)
  have q4 := BQ2.out.cell 4 (by simp)
  have q5 := BQ2.out.cell 5 (by simp)
  simp only [List.getElem_cons_zero, List.getElem_cons_succ] at q0 q1 q2 q3 q4 q5
  go_wp2_with fail
  refine (HTX.out _).mono ?_
  rintro e w3 ⟨rfl, hb⟩
  have HB3 := Lib.hid ((belS HB2.out hb).alloc (belS HB2.out hb).size (.cells #[.string s, .int .i64 0] 81))
  have B43 := Lib.hid ((B42.out.below hb).alloc (.cells #[.string s, .int .i64 0] 81))
  have B53 := Lib.hid ((B52.out.below hb).alloc (.cells #[.string s, .int .i64 0] 81))
  have BQ3 := Lib.hid ((BQ2.out.below hb).alloc (.cells #[.string s, .int .i64 0] 81))
  have BL3 := Lib.hid (Bx.new w3 [.string s, .int .i64 0] 81)
  have R3 := Lib.hid (ownsF_alloc (ownsF_below P3.out hb (Nat.le_refl _)) (.cells #[.string s, .int .i64 0] 81))
  have R5 := Lib.hid (ownsF_alloc (ownsF_below P5.out hb (Nat.le_refl _)) (.cells #[.string s, .int .i64 0] 81))
  have h5s := hb.size
  clear hb q0 q1 q2 q3 q4 q5
  have HRW := Lib.hid (show rPart 0 (w3.alloc (.cells #[.string s, .int .i64 0] 81)) [.string ⟨a0.toArray⟩, .bool a1, .bool a2, .slice ga a3.length gc, .int .i64 a4, .slice ua l.length uc] ⟨⟨a0, a1, a2, a3, a4⟩, l⟩ from goodPart.mono (oPart_r ⟨_, _, rfl, R3.out, R5.out⟩ HSP.out) (Nat.zero_le _))
  go_wp2_with fail
  refine (HWP.out _ _ _ HRW.out BQ3.out).mono ?_
  rintro e w4 ⟨pv, rfl, hpv, hb⟩
  have HB4 := Lib.hid (belS HB3.out hb)
  have B44 := Lib.hid (B43.out.below hb)
  have B54 := Lib.hid (B53.out.below hb)
  have BQ4 := Lib.hid (BQ3.out.below hb)
  have BL4 := Lib.hid (BL3.out.below hb)
  have S3 := Lib.hid (ownsF_below R3.out hb (Nat.le_refl _))
  have S5 := Lib.hid (ownsF_below R5.out hb (Nat.le_refl _))
  have h6s := hb.size
  simp at h6s
  have HPV := Lib.hid hpv
  have l0 := BL4.out.cell 0 (by simp)
  simp only [List.getElem_cons_zero] at l0
  rw [HNM.out] at l0
  have HWI := Lib.hid (wrapIn_c w3.heap.size 0 q HQ.out pv fp w4 l0 HPV.out)
  clear hb hpv l0
  go_wp2_with fail
  refine HWI.out.mono ?_
  rintro e w5 ⟨hb, hres⟩
  obtain rfl : e = .returned (.tuple #[wrapV w3.heap.size 0 pv q, vReply ⟨0, giveN q, [], 0, 0⟩]) := by
    rcases hres with ⟨_, h⟩ | ⟨h, _⟩
    · exact h
    · rw [HO.out] at h; cases h
  generalize wrapV w3.heap.size 0 pv q = nv at *
  unfold vReply
  have HB5 := Lib.hid ((belS HB4.out hb).alloc (belS HB4.out hb).size (.cells #[.int .i64 0, .int .i64 (giveN q), .string ⟨#[]⟩, .int .i64 0, .int .i64 0] 33))
  have B45 := Lib.hid ((B44.out.below hb).alloc (.cells #[.int .i64 0, .int .i64 (giveN q), .string ⟨#[]⟩, .int .i64 0, .int .i64 0] 33))
  have B55 := Lib.hid ((B54.out.below hb).alloc (.cells #[.int .i64 0, .int .i64 (giveN q), .string ⟨#[]⟩, .int .i64 0, .int .i64 0] 33))
  have BQ5 := Lib.hid ((BQ4.out.below hb).alloc (.cells #[.int .i64 0, .int .i64 (giveN q), .string ⟨#[]⟩, .int .i64 0, .int .i64 0] 33))
  have BL5 := Lib.hid ((BL4.out.below hb).alloc (.cells #[.int .i64 0, .int .i64 (giveN q), .string ⟨#[]⟩, .int .i64 0, .int .i64 0] 33))
  have BR5 := Lib.hid (Bx.new w5 [.int .i64 0, .int .i64 (giveN q), .string ⟨#[]⟩, .int .i64 0, .int .i64 0] 33)
  have T3 := Lib.hid (ownsF_alloc (ownsF_below S3.out hb (Nat.le_refl _)) (.cells #[.int .i64 0, .int .i64 (giveN q), .string ⟨#[]⟩, .int .i64 0, .int .i64 0] 33))
  have T5 := Lib.hid (ownsF_alloc (ownsF_below S5.out hb (Nat.le_refl _)) (.cells #[.int .i64 0, .int .i64 (giveN q), .string ⟨#[]⟩, .int .i64 0, .int .i64 0] 33))
  have h7s := hb.size
  clear hb hres
  have t0 := BR5.out.cell 0 (by simp)
  have t1 := BR5.out.cell 1 (by simp)
  have t2 := BR5.out.cell 2 (by simp)
  have t3 := BR5.out.cell 3 (by simp)
  have t4 := BR5.out.cell 4 (by simp)
  simp only [List.getElem_cons_zero, List.getElem_cons_succ] at t0 t1 t2 t3 t4
  have hcl : ∀ j, j < 2 → ((w5.alloc (.cells #[.int .i64 0, .int .i64 (giveN q), .string ⟨#[]⟩, .int .i64 0, .int .i64 0] 33)).alloc (.cells #[.string s, .int .i64 0] 81)).cell? ⟨w5.heap.size + 1, j, none⟩ = (cLayer ⟨s.data.toList, 0⟩)[j]? := cell_newL (w5.alloc (.cells #[.int .i64 0, .int .i64 (giveN q), .string ⟨#[]⟩, .int .i64 0, .int .i64 0] 33)) ⟨s.data.toList, 0⟩ _ (by simp)
  have hlen : (l ++ [(⟨s.data.toList, 0⟩ : LayerD)]).length = l.length + 1 := by simp
  have hcap : l.length ≤ 4194304 := by have := HSZ.out; omega
  have hBs : w.heap.size + 1 + 1 + 1 ≤ ((w5.alloc (.cells #[.int .i64 0, .int .i64 (giveN q), .string ⟨#[]⟩, .int .i64 0, .int .i64 0] 33)).alloc (.cells #[.string s, .int .i64 0] 81)).heap.size := by simp; omega
  have m0 := BL5.out.cell 0 (by simp)
  have m1 := BL5.out.cell 1 (by simp)
  simp only [List.getElem_cons_zero, List.getElem_cons_succ] at m0 m1
  have q0 := BQ5.out.cell 0 (by simp)
  have q1 := BQ5.out.cell 1 (by simp)
  have q2 := BQ5.out.cell 2 (by simp)
  have q3 := BQ5.out.cell 3 (by simp)
  have q4 := BQ5.out.cell 4 (by simp)
  have q5 := BQ5.out.cell 5 (by simp)
  simp only [List.getElem_cons_zero, List.getElem_cons_succ] at q0 q1 q2 q3 q4 q5
  have p0 := BQ5.out.froz 0 (by simp)
  have p1 := BQ5.out.froz 1 (by simp)
  have p2 := BQ5.out.froz 2 (by simp)
  have p3 := BQ5.out.froz 3 (by simp)
  have p4 := BQ5.out.froz 4 (by simp)
  have p5 := BQ5.out.froz 5 (by simp)
  go_wp2_with (at_builtin; refine append_lay rfl _ _ rfl (w.heap.size + 1 + 1 + 1) (.slice ua l.length uc) l ⟨s.data.toList, 0⟩ ((w5.alloc (.cells #[.int .i64 0, .int .i64 (giveN q), .string ⟨#[]⟩, .int .i64 0, .int .i64 0] 33)).alloc (.cells #[.string s, .int .i64 0] 81)) (w5.heap.size + 1) rfl (ownsF_alloc T5.out _) rfl hcl hcap hBs ?_; intro v6 w6 hO6 hg6; obtain ⟨va, vc, rfl⟩ := slice_lenW hO6 hlen; have HO6 := Lib.hid hO6; clear hO6; have HG6 := Lib.hid hg6; clear hg6; have QX := Lib.hid ((BQ5.out.alloc (.cells #[.string s, .int .i64 0] 81)).grown HG6.out (fun e => by have := HU5.out _ e; omega)); have q5' := QX.out.cell 5 (by simp); have p5' := QX.out.froz 5 (by simp); simp only [List.getElem_cons_zero, List.getElem_cons_succ] at q5')
  have B46 := Lib.hid ((B45.out.alloc (.cells #[.string s, .int .i64 0] 81)).grown HG6.out (fun e => by have := HU5.out _ e; omega))
  have B56 := Lib.hid ((B55.out.alloc (.cells #[.string s, .int .i64 0] 81)).grown HG6.out (fun e => by have := HU5.out _ e; omega))
  have BR6 := Lib.hid ((BR5.out.alloc (.cells #[.string s, .int .i64 0] 81)).grown HG6.out (fun e => by have := HU5.out _ e; omega))
  have HB6 := Lib.hid (below_appendF (HB5.out.alloc HB5.out.size _) (ownsF_base (B' := w.heap.size) (ownsF_alloc T5.out _) (by omega)) HG6.out (Nat.le_trans (by omega) hBs))
  have U3 := Lib.hid (ownsF_keptF (ownsF_alloc T3.out _) (ownsF_alloc T5.out _) HG6.out (by decide))
  have hnb : (Value.slice va (l.length + 1) vc).ownBlock ≠ some w1.heap.size := lay_not_bool HO6.out (by rw [hlen]; omega) (QX.out.cell 1 (by simp))
  have B47 := Lib.hid (B46.out.other (c := w1.heap.size) (by omega) 5 (.slice va (l.length + 1) vc))
  have B57 := Lib.hid (B56.out.other (c := w1.heap.size) (by omega) 5 (.slice va (l.length + 1) vc))
  have BR7 := Lib.hid (BR6.out.other (c := w1.heap.size) (by omega) 5 (.slice va (l.length + 1) vc))
  have BQ7 := Lib.hid (QX.out.set 5 (by simp) (.slice va (l.length + 1) vc))
  have HB7 := Lib.hid (HB6.out.setCell (p := ⟨w1.heap.size, 5, none⟩) (by simp; omega) (.slice va (l.length + 1) vc))
  have V3 := Lib.hid (ownsF_setNe (p := ⟨w1.heap.size, 5, none⟩) (u := .slice va (l.length + 1) vc) U3.out (fun e => Nat.lt_irrefl _ (HU3.out _ e)))
  have V5 := Lib.hid (ownsF_setNe (p := ⟨w1.heap.size, 5, none⟩) (u := .slice va (l.length + 1) vc) HO6.out hnb)
  simp only [List.set_cons_succ, List.set_cons_zero] at BQ7
  clear q0 q1 q2 q3 q4 q5 p0 p1 p2 p3 p4 p5 m0 m1 t0 t1 t2 t3 t4 q5' p5' QX HG6 BL5 BQ5 B45 B55 BR5 B46 B56 BR6
  generalize w6.setCell ⟨w1.heap.size, 5, none⟩ (.slice va (l.length + 1) vc) = w7 at *
  have q0 := BQ7.out.cell 0 (by simp)
  have q1 := BQ7.out.cell 1 (by simp)
  have q2 := BQ7.out.cell 2 (by simp)
  have q3 := BQ7.out.cell 3 (by simp)
  have q4 := BQ7.out.cell 4 (by simp)
  have q5 := BQ7.out.cell 5 (by simp)
  simp only [List.getElem_cons_zero, List.getElem_cons_succ] at q0 q1 q2 q3 q4 q5
  have t0 := BR7.out.cell 0 (by simp)
  have t1 := BR7.out.cell 1 (by simp)
  have t2 := BR7.out.cell 2 (by simp)
  have t3 := BR7.out.cell 3 (by simp)
  have t4 := BR7.out.cell 4 (by simp)
  simp only [List.getElem_cons_zero, List.getElem_cons_succ] at t0 t1 t2 t3 t4
  have r0 := B47.out.cell 0 (by simp)
  have r1 := B47.out.cell 1 (by simp)
  have r2 := B47.out.cell 2 (by simp)
  have r3 := B47.out.cell 3 (by simp)
  have r4 := B47.out.cell 4 (by simp)
  have r5 := B47.out.cell 5 (by simp)
  simp only [List.getElem_cons_zero, List.getElem_cons_succ] at r0 r1 r2 r3 r4 r5
  have z0 := B47.out.froz 0 (by simp)
  have z1 := B47.out.froz 1 (by simp)
  have z2 := B47.out.froz 2 (by simp)
  have z3 := B47.out.froz 3 (by simp)
  have z4 := B47.out.froz 4 (by simp)
  have z5 := B47.out.froz 5 (by simp)
  have s0 := B57.out.cell 0 (by simp)
  have s1 := B57.out.cell 1 (by simp)
  have s2 := B57.out.cell 2 (by simp)
  have s3 := B57.out.cell 3 (by simp)
  have s4 := B57.out.cell 4 (by simp)
  simp only [List.getElem_cons_zero, List.getElem_cons_succ] at s0 s1 s2 s3 s4
  have y0 := B57.out.froz 0 (by simp)
  have y1 := B57.out.froz 1 (by simp)
  have y2 := B57.out.froz 2 (by simp)
  have y3 := B57.out.froz 3 (by simp)
  have y4 := B57.out.froz 4 (by simp)
  go_region
  all_goals (try go_wp2_with fail)
  all_goals
    refine bodyPost_ret (v := .tuple #[.agg #[.string ⟨a0.toArray⟩, .bool a1, .bool a2, .slice ga a3.length gc, .int .i64 a4, .slice va (l.length + 1) vc], .agg #[.int .i64 0, .int .i64 (giveN q), .string ⟨#[]⟩, .int .i64 0, .int .i64 0]]) (by simp [results, Try.results11, go_sem, cell_set_at, cell_set_ne, t0, t1, t2, t3, t4, r0, r1, r2, r3, r4, r5, s0, s1, s2, s3, s4]) rfl ⟨_, rfl, ⟨_, _, rfl, ?_, ?_⟩, ?_⟩
    · refine ownsF_base (B := (((w.heap.size + 1) + 1) + 1)) ?_ (by omega)
      repeat (first | with_reducible refine ownsF_set ?_ (by simp; try omega) | with_reducible refine ownsF_drew ?_)
      have h := V3.out
      simpa using h
    · refine ownsF_base (B := (((w.heap.size + 1) + 1) + 1)) ?_ (by omega)
      repeat (first | with_reducible refine ownsF_set ?_ (by simp; try omega) | with_reducible refine ownsF_drew ?_)
      have h := V5.out
      simpa using h
    · repeat (first | with_reducible exact HB7.out | with_reducible refine Below.setCell ?_ (by simp; try omega) _ | with_reducible refine Below.drew ?_)
theorem implWrap_any (v : Value) (x : PartD) (s : ByteArray) (w : World) (hx : ValAt rPart 0 w v x) (hs : SmallP x) (hk : ∀ c ∈ x.fCore.fCells, c.fKey.length ≤ maxLen) (hz : s.size ≤ 1048576) :
    Calls Try.prog 11 #[v, .string s] w fun e w' => GivesOPR (wrapP x s.data.toList) (wrapR x s.data.toList) w e w' := by
  by_cases hc : 0 ≤ layI s.data.toList
  · cases hp : partB x with
    | false => exact implWrap_bad2 v x s w hx hs hk hz hc hp
    | true =>
      by_cases h3 : x.fLayers.length = 3
      · exact implWrap_full v x s w hx hs hk hz hc hp h3
      · cases ho : offersF (faceP x) (needI (layI s.data.toList)) with
        | false => exact implWrap_fail v x s w hx hs hk hz hc hp h3 ho
        | true => exact implWrap_ok v x s w hx hs hk hz hc hp h3 ho
  · exact implWrap_bad1 v x s w hx hs hk hz hc
end Go.Proofs.Ytaihdjdaamglnaa
/- Contracts of chapter 4: MakePart, the program's. Written by gen/ch4mk.py. -/
namespace Go.Proofs.Ytaihdjdaamglnaa
set_option linter.unusedVariables false
set_option linter.unusedSimpArgs false
open Go.RowKit
set_option maxRecDepth 100000 in
set_option maxHeartbeats 3200000 in
theorem implMake_nil (a : Option Addr) (c : Nat) (w : World) :
    Calls Try.prog 20 #[.slice a 0 c] w fun e w' => GivesOPR zeroP ⟨7, 0, [], 0, 0⟩ w e w' := by
  unfold GivesOPR zeroP vReply
  have BS := Lib.hid (bx_start2 w [.string ⟨#[]⟩, .bool false, .bool false, .slice none 0 0, .int .i64 0, .slice none 0 0] [.int .i64 0, .int .i64 0, .string ⟨#[]⟩, .int .i64 0, .int .i64 0] 29 33)
  have B2 := Lib.hid BS.out.1
  have B3 := Lib.hid BS.out.2.1
  go_enter Try.func20, Try.ntmps20
  go_wp2_with fail
  exact bodyPost_ret (v := .tuple #[.agg #[.string ⟨#[]⟩, .bool false, .bool false, .slice none 0 0, .int .i64 0, .slice none 0 0], .agg #[.int .i64 7, .int .i64 0, .string ⟨#[]⟩, .int .i64 0, .int .i64 0]]) (by simp [results, Try.results20, go_sem]) rfl ⟨_, rfl, ⟨_, _, rfl, ownsF_nil _ _ _ _ _, ownsF_nil _ _ _ _ _⟩, (bx_start2 w [.string ⟨#[]⟩, .bool false, .bool false, .slice none 0 0, .int .i64 0, .slice none 0 0] [.int .i64 7, .int .i64 0, .string ⟨#[]⟩, .int .i64 0, .int .i64 0] 29 33).2.2⟩
set_option maxRecDepth 100000 in
set_option maxHeartbeats 3200000 in
theorem implMake_bad (b o c : Nat) (k : List UInt8) (r : List (List UInt8)) (w : World) (hR : RowAt w (.slice (some ⟨b, o, none⟩) (r.length + 1) c) ((k :: r).map strV)) (hz : ∀ s ∈ k :: r, s.length ≤ 1048576) (hc : r.length + 1 ≤ c) (hm : r.length + 1 ≤ maxLen) (hk : ¬ 0 ≤ kindI k) :
    Calls Try.prog 20 #[.slice (some ⟨b, o, none⟩) (r.length + 1) c] w fun e w' => GivesOPR zeroP ⟨7, 0, [], 0, 0⟩ w e w' := by
  have d0 := rowAt_cellS hR 0 (by simp)
  simp only [List.map_cons, List.getElem_cons_zero, strV, Nat.add_zero] at d0
  have hbw : b < w.heap.size := by
    obtain ⟨b', o', e, hlt, _⟩ := rowAt_cell hR 0 (by simp)
    injection e with e; injection e with e1 e2; subst e1; exact hlt
  have HNP := Lib.hid (fun W => implNewPart_own ⟨k.toArray⟩ W (by have := hz k (List.mem_cons_self ..); simpa [ByteArray.size] using this))
  simp only [GivesNPO, vNP] at HNP
  have HR := Lib.hid hR
  have HZ := Lib.hid hz
  have HM := Lib.hid hm
  clear hR hz hm
  unfold GivesOPR zeroP vReply
  rw [show decide (0 ≤ kindI (⟨k.toArray⟩ : ByteArray).data.toList) = false from decide_eq_false hk] at HNP
  generalize nmK (⟨k.toArray⟩ : ByteArray).data.toList = nk at *
  have BS := Lib.hid (bx_start2 w [.string ⟨#[]⟩, .bool false, .bool false, .slice none 0 0, .int .i64 0, .slice none 0 0] [.int .i64 0, .int .i64 0, .string ⟨#[]⟩, .int .i64 0, .int .i64 0] 29 33)
  have HD := Lib.hid d0
  clear d0
  have d0 := (BS.out.2.2.cell (p := ⟨b, o, none⟩) hbw).trans HD.out
  go_enter Try.func20, Try.ntmps20
  go_wp2_with fail
  refine (HNP.out _).mono ?_
  rintro e w1 ⟨a1, c1, rfl, ho, hb⟩
  have HB1 := Lib.hid ((belS BS.out.2.2 hb).alloc (belS BS.out.2.2 hb).size (.cells #[.string ⟨nk.toArray⟩, .bool false, .bool false, .slice a1 0 c1, .int .i64 0, .slice none 0 0] 29))
  have B2 := Lib.hid ((BS.out.1.below hb).alloc (.cells #[.string ⟨nk.toArray⟩, .bool false, .bool false, .slice a1 0 c1, .int .i64 0, .slice none 0 0] 29))
  have B3 := Lib.hid ((BS.out.2.1.below hb).alloc (.cells #[.string ⟨nk.toArray⟩, .bool false, .bool false, .slice a1 0 c1, .int .i64 0, .slice none 0 0] 29))
  clear ho hb d0
  have r0 := B2.out.cell 0 (by simp)
  have r1 := B2.out.cell 1 (by simp)
  have r2 := B2.out.cell 2 (by simp)
  have r3 := B2.out.cell 3 (by simp)
  have r4 := B2.out.cell 4 (by simp)
  have r5 := B2.out.cell 5 (by simp)
  simp only [List.getElem_cons_zero, List.getElem_cons_succ] at r0 r1 r2 r3 r4 r5
  have z0 := B2.out.froz 0 (by simp)
  have z1 := B2.out.froz 1 (by simp)
  have z2 := B2.out.froz 2 (by simp)
  have z3 := B2.out.froz 3 (by simp)
  have z4 := B2.out.froz 4 (by simp)
  have z5 := B2.out.froz 5 (by simp)
  have s0 := B3.out.cell 0 (by simp)
  have s1 := B3.out.cell 1 (by simp)
  have s2 := B3.out.cell 2 (by simp)
  have s3 := B3.out.cell 3 (by simp)
  have s4 := B3.out.cell 4 (by simp)
  simp only [List.getElem_cons_zero, List.getElem_cons_succ] at s0 s1 s2 s3 s4
  have y0 := B3.out.froz 0 (by simp)
  have y1 := B3.out.froz 1 (by simp)
  have y2 := B3.out.froz 2 (by simp)
  have y3 := B3.out.froz 3 (by simp)
  have y4 := B3.out.froz 4 (by simp)
  go_wp2_with fail
  clear r0 r1 r2 r3 r4 r5 z0 z1 z2 z3 z4 z5 s0 s1 s2 s3 s4 y0 y1 y2 y3 y4
  have E4 := Lib.hid ((B2.out.put6 (.string ⟨#[]⟩) (.bool false) (.bool false) (.slice none 0 0) (.int .i64 0) (.slice none 0 0)).put5o (c := w.heap.size + 1) (by omega) (.int .i64 7) (.int .i64 0) (.string ⟨#[]⟩) (.int .i64 0) (.int .i64 0))
  have E5 := Lib.hid ((B3.out.put6o (c := w.heap.size) (by omega) (.string ⟨#[]⟩) (.bool false) (.bool false) (.slice none 0 0) (.int .i64 0) (.slice none 0 0)).put5 (.int .i64 7) (.int .i64 0) (.string ⟨#[]⟩) (.int .i64 0) (.int .i64 0))
  have EB := Lib.hid (below_put5 (below_put6 HB1.out w.heap.size (by omega) (.string ⟨#[]⟩) (.bool false) (.bool false) (.slice none 0 0) (.int .i64 0) (.slice none 0 0)) (w.heap.size + 1) (by omega) (.int .i64 7) (.int .i64 0) (.string ⟨#[]⟩) (.int .i64 0) (.int .i64 0))
  generalize ((((((((((((w1.alloc (.cells #[.string ⟨nk.toArray⟩, .bool false, .bool false, .slice a1 0 c1, .int .i64 0, .slice none 0 0] 29)).setCell ⟨w.heap.size, 0, none⟩ (.string ⟨#[]⟩)).setCell ⟨w.heap.size, 1, none⟩ (.bool false)).setCell ⟨w.heap.size, 2, none⟩ (.bool false)).setCell ⟨w.heap.size, 3, none⟩ (.slice none 0 0)).setCell ⟨w.heap.size, 4, none⟩ (.int .i64 0)).setCell ⟨w.heap.size, 5, none⟩ (.slice none 0 0)).setCell ⟨w.heap.size + 1, 0, none⟩ (.int .i64 7)).setCell ⟨w.heap.size + 1, 1, none⟩ (.int .i64 0)).setCell ⟨w.heap.size + 1, 2, none⟩ (.string ⟨#[]⟩)).setCell ⟨w.heap.size + 1, 3, none⟩ (.int .i64 0)).setCell ⟨w.heap.size + 1, 4, none⟩ (.int .i64 0)) = WE at *
  have r0 := E4.out.cell 0 (by simp)
  have r1 := E4.out.cell 1 (by simp)
  have r2 := E4.out.cell 2 (by simp)
  have r3 := E4.out.cell 3 (by simp)
  have r4 := E4.out.cell 4 (by simp)
  have r5 := E4.out.cell 5 (by simp)
  simp only [List.getElem_cons_zero, List.getElem_cons_succ] at r0 r1 r2 r3 r4 r5
  have s0 := E5.out.cell 0 (by simp)
  have s1 := E5.out.cell 1 (by simp)
  have s2 := E5.out.cell 2 (by simp)
  have s3 := E5.out.cell 3 (by simp)
  have s4 := E5.out.cell 4 (by simp)
  simp only [List.getElem_cons_zero, List.getElem_cons_succ] at s0 s1 s2 s3 s4
  exact bodyPost_ret (v := .tuple #[.agg #[.string ⟨#[]⟩, .bool false, .bool false, .slice none 0 0, .int .i64 0, .slice none 0 0], .agg #[.int .i64 7, .int .i64 0, .string ⟨#[]⟩, .int .i64 0, .int .i64 0]]) (by simp [results, Try.results20, go_sem, r0, r1, r2, r3, r4, r5, s0, s1, s2, s3, s4]) rfl ⟨_, rfl, ⟨_, _, rfl, ownsF_nil _ _ _ _ _, ownsF_nil _ _ _ _ _⟩, EB.out⟩
set_option maxRecDepth 100000 in
set_option maxHeartbeats 3200000 in
theorem implMake_one (b o c : Nat) (k : List UInt8) (r : List (List UInt8)) (w : World) (hR : RowAt w (.slice (some ⟨b, o, none⟩) (r.length + 1) c) ((k :: r).map strV)) (hz : ∀ s ∈ k :: r, s.length ≤ 1048576) (hc : r.length + 1 ≤ c) (hm : r.length + 1 ≤ maxLen) (h1 : c = 1) (hk : 0 ≤ kindI k) :
    Calls Try.prog 20 #[.slice (some ⟨b, o, none⟩) (r.length + 1) c] w fun e w' => GivesOPR (makeGo (newP k) r).1 (makeGo (newP k) r).2 w e w' := by
  have d0 := rowAt_cellS hR 0 (by simp)
  simp only [List.map_cons, List.getElem_cons_zero, strV, Nat.add_zero] at d0
  have hbw : b < w.heap.size := by
    obtain ⟨b', o', e, hlt, _⟩ := rowAt_cell hR 0 (by simp)
    injection e with e; injection e with e1 e2; subst e1; exact hlt
  have HNP := Lib.hid (fun W => implNewPart_own ⟨k.toArray⟩ W (by have := hz k (List.mem_cons_self ..); simpa [ByteArray.size] using this))
  simp only [GivesNPO, vNP] at HNP
  have HR := Lib.hid hR
  have HZ := Lib.hid hz
  have HM := Lib.hid hm
  clear hR hz hm
  rw [show decide (0 ≤ kindI (⟨k.toArray⟩ : ByteArray).data.toList) = true from decide_eq_true hk, show nmK (⟨k.toArray⟩ : ByteArray).data.toList = k from if_pos hk] at HNP
  subst h1
  obtain rfl : r = [] := List.eq_nil_of_length_eq_zero (by omega)
  simp only [List.length_nil, Nat.zero_add] at *
  rw [show makeGo (newP k) [] = (newP k, ⟨0, faceP (newP k), [], 0, 0⟩) from rfl]
  unfold GivesOPR vReply
  simp only
  generalize hp0 : newP k = p
  have HPK := Lib.hid hp0
  clear hp0
  generalize hfp : faceP p = fp
  have HFP := Lib.hid hfp
  clear hfp
  have BS := Lib.hid (bx_start2 w [.string ⟨#[]⟩, .bool false, .bool false, .slice none 0 0, .int .i64 0, .slice none 0 0] [.int .i64 0, .int .i64 0, .string ⟨#[]⟩, .int .i64 0, .int .i64 0] 29 33)
  have HD := Lib.hid d0
  clear d0
  have d0 := (BS.out.2.2.cell (p := ⟨b, o, none⟩) hbw).trans HD.out
  go_enter Try.func20, Try.ntmps20
  go_wp2_with fail
  refine (HNP.out _).mono ?_
  rintro e w1 ⟨a1, c1, rfl, ho, hb⟩
  have HB1 := Lib.hid ((belS BS.out.2.2 hb).alloc (belS BS.out.2.2 hb).size (.cells #[.string ⟨k.toArray⟩, .bool false, .bool false, .slice a1 0 c1, .int .i64 0, .slice none 0 0] 29))
  have h1s := hb.size
  simp at h1s
  have ST0 := Lib.hid (show MkSt w w1.heap.size p (w1.alloc (.cells #[.string ⟨k.toArray⟩, .bool false, .bool false, .slice a1 0 c1, .int .i64 0, .slice none 0 0] 29)) by rw [← HPK.out]; exact ⟨newP_small (HZ.out k (List.mem_cons_self ..)), rfl, ⟨_, Bx.new w1 [.string ⟨k.toArray⟩, .bool false, .bool false, .slice a1 0 c1, .int .i64 0, .slice none 0 0] 29, _, _, rfl, ownsF_alloc (ownsF_base ho (by simp)) _, ownsF_nil _ _ _ _ _⟩, (BS.out.1.below hb).alloc (.cells #[.string ⟨k.toArray⟩, .bool false, .bool false, .slice a1 0 c1, .int .i64 0, .slice none 0 0] 29), (BS.out.2.1.below hb).alloc (.cells #[.string ⟨k.toArray⟩, .bool false, .bool false, .slice a1 0 c1, .int .i64 0, .slice none 0 0] 29), HB1.out⟩)
  clear ho hb d0
  go_wp2_with fail
  generalize w1.alloc (.cells #[.string ⟨k.toArray⟩, .bool false, .bool false, .slice a1 0 c1, .int .i64 0, .slice none 0 0] 29) = wr at *
  have hst := ST0.out
  obtain ⟨hsm, hbare, ⟨cs, hq, hown⟩, hr2, hr3, hbw2⟩ := hst
  refine wp_loop_rounds 1 ?_
  rw [rounds_succ]
  obtain ⟨⟨a0, a1, a2, a3, a4⟩, l⟩ := p
  obtain rfl : a3 = [] := hbare
  obtain ⟨u3, u5, rfl, ho3, ho5⟩ := hown
  simp only at ho3 ho5 hq
  obtain ⟨ga, gc, rfl⟩ := slice_of ho3
  obtain ⟨ua, uc, rfl⟩ := slice_of ho5
  simp only [List.length_nil] at *
  have O3 := Lib.hid ho3
  have O5 := Lib.hid ho5
  have HSM := Lib.hid hsm
  have BQ := Lib.hid hq
  have B2 := Lib.hid hr2
  have B3 := Lib.hid hr3
  have HBr := Lib.hid hbw2
  have hlq := hq.lt
  have hls := hbw2.size
  clear hsm ho3 ho5 hq hr2 hr3 hbw2
  have HRP := Lib.hid (fun W (hb : Below wr.heap.size wr W) => (show rPart 0 W [.string ⟨a0.toArray⟩, .bool a1, .bool a2, .slice ga 0 gc, .int .i64 a4, .slice ua l.length uc] (⟨⟨a0, a1, a2, [], a4⟩, l⟩ : PartD) from goodPart.mono (oPart_r ⟨_, _, rfl, ownsF_below O3.out hb (Nat.le_refl _), ownsF_below O5.out hb (Nat.le_refl _)⟩ HSM.out) (Nat.zero_le _)))
  have HFO := Lib.hid (fun W (h : rPart 0 W [.string ⟨a0.toArray⟩, .bool a1, .bool a2, .slice ga 0 gc, .int .i64 a4, .slice ua l.length uc] (⟨⟨a0, a1, a2, [], a4⟩, l⟩ : PartD)) => (show Calls Try.prog 17 #[.agg #[.string ⟨a0.toArray⟩, .bool a1, .bool a2, .slice ga 0 gc, .int .i64 a4, .slice ua l.length uc]] W fun e w' => e = .returned (.int .i64 (faceP (⟨⟨a0, a1, a2, [], a4⟩, l⟩ : PartD))) ∧ Below W.heap.size W w' from implFaceOf_any (.agg #[.string ⟨a0.toArray⟩, .bool a1, .bool a2, .slice ga 0 gc, .int .i64 a4, .slice ua l.length uc]) (⟨⟨a0, a1, a2, [], a4⟩, l⟩ : PartD) W ⟨[.string ⟨a0.toArray⟩, .bool a1, .bool a2, .slice ga 0 gc, .int .i64 a4, .slice ua l.length uc], rfl, h⟩))
  rw [HFP.out] at HFO
  have BQd := Lib.hid (bx_dr BQ.out)
  have B2d := Lib.hid (bx_dr B2.out)
  have B3d := Lib.hid (bx_dr B3.out)
  have q0 := BQd.out.cell 0 (by simp)
  have q1 := BQd.out.cell 1 (by simp)
  have q2 := BQd.out.cell 2 (by simp)
  have q3 := BQd.out.cell 3 (by simp)
  have q4 := BQd.out.cell 4 (by simp)
  have q5 := BQd.out.cell 5 (by simp)
  simp only [List.getElem_cons_zero, List.getElem_cons_succ] at q0 q1 q2 q3 q4 q5
  go_wp2_with fail
  go_region_with (first
      | (go_at_call 17; (with_reducible refine (HFO.out _ (HRP.out _ (bel_dr (Below.refl _ _)))).mono ?_); rintro e w6 ⟨rfl, hb6⟩; have BQ6 := Lib.hid (BQd.out.below hb6); have B26 := Lib.hid (B2d.out.below hb6); have B36 := Lib.hid (B3d.out.below hb6); have q0' := BQ6.out.cell 0 (by simp); have q1' := BQ6.out.cell 1 (by simp); have q2' := BQ6.out.cell 2 (by simp); have q3' := BQ6.out.cell 3 (by simp); have q4' := BQ6.out.cell 4 (by simp); have q5' := BQ6.out.cell 5 (by simp); have r0 := B26.out.cell 0 (by simp); have z0 := B26.out.froz 0 (by simp); have r1 := B26.out.cell 1 (by simp); have z1 := B26.out.froz 1 (by simp); have r2 := B26.out.cell 2 (by simp); have z2 := B26.out.froz 2 (by simp); have r3 := B26.out.cell 3 (by simp); have z3 := B26.out.froz 3 (by simp); have r4 := B26.out.cell 4 (by simp); have z4 := B26.out.froz 4 (by simp); have r5 := B26.out.cell 5 (by simp); have z5 := B26.out.froz 5 (by simp); have s0 := B36.out.cell 0 (by simp); have y0 := B36.out.froz 0 (by simp); have s1 := B36.out.cell 1 (by simp); have y1 := B36.out.froz 1 (by simp); have s2 := B36.out.cell 2 (by simp); have y2 := B36.out.froz 2 (by simp); have s3 := B36.out.cell 3 (by simp); have y3 := B36.out.froz 3 (by simp); have s4 := B36.out.cell 4 (by simp); have y4 := B36.out.froz 4 (by simp); simp only [List.getElem_cons_zero, List.getElem_cons_succ] at q0' q1' q2' q3' q4' q5' r0 r1 r2 r3 r4 r5 s0 s1 s2 s3 s4))
  all_goals (try go_wp2_with fail)
  all_goals
    have HB6 := Lib.hid (belS (bel_dr HBr.out) hb6)
    have T3 := Lib.hid (ownsF_below (ownsF_drew O3.out) hb6 (Nat.le_refl _))
    have T5 := Lib.hid (ownsF_below (ownsF_drew O5.out) hb6 (Nat.le_refl _))
    refine bodyPost_ret (v := .tuple #[.agg #[.string ⟨a0.toArray⟩, .bool a1, .bool a2, .slice ga 0 gc, .int .i64 a4, .slice ua l.length uc], .agg #[.int .i64 0, .int .i64 fp, .string ⟨#[]⟩, .int .i64 0, .int .i64 0]]) (by simp [results, Try.results20, go_sem, cell_set_at, cell_set_ne, r0, r1, r2, r3, r4, r5, s0, s1, s2, s3, s4]) rfl ⟨_, rfl, ⟨_, _, rfl, ?_, ?_⟩, ?_⟩
    · refine ownsF_base (B := ((w.heap.size + 1) + 1)) ?_ (by omega)
      repeat (first | with_reducible exact T3.out | with_reducible refine ownsF_set ?_ (by simp; try omega) | with_reducible refine ownsF_drew ?_)
    · refine ownsF_base (B := ((w.heap.size + 1) + 1)) ?_ (by omega)
      repeat (first | with_reducible exact T5.out | with_reducible refine ownsF_set ?_ (by simp; try omega) | with_reducible refine ownsF_drew ?_)
    · repeat (first | with_reducible exact HB6.out | with_reducible refine Below.setCell ?_ (by simp; try omega) _ | with_reducible refine Below.drew ?_)
set_option maxRecDepth 100000 in
set_option maxHeartbeats 3200000 in
theorem implMake_go (b o c : Nat) (k : List UInt8) (r : List (List UInt8)) (w : World) (hR : RowAt w (.slice (some ⟨b, o, none⟩) (r.length + 1) c) ((k :: r).map strV)) (hz : ∀ s ∈ k :: r, s.length ≤ 1048576) (hc : r.length + 1 ≤ c) (hm : r.length + 1 ≤ maxLen) (h1 : ¬ (c : Int) = 1) (hk : 0 ≤ kindI k) :
    Calls Try.prog 20 #[.slice (some ⟨b, o, none⟩) (r.length + 1) c] w fun e w' => GivesOPR (makeGo (newP k) r).1 (makeGo (newP k) r).2 w e w' := by
  have d0 := rowAt_cellS hR 0 (by simp)
  simp only [List.map_cons, List.getElem_cons_zero, strV, Nat.add_zero] at d0
  have hbw : b < w.heap.size := by
    obtain ⟨b', o', e, hlt, _⟩ := rowAt_cell hR 0 (by simp)
    injection e with e; injection e with e1 e2; subst e1; exact hlt
  have HNP := Lib.hid (fun W => implNewPart_own ⟨k.toArray⟩ W (by have := hz k (List.mem_cons_self ..); simpa [ByteArray.size] using this))
  simp only [GivesNPO, vNP] at HNP
  have HR := Lib.hid hR
  have HZ := Lib.hid hz
  have HM := Lib.hid hm
  clear hR hz hm
  rw [show decide (0 ≤ kindI (⟨k.toArray⟩ : ByteArray).data.toList) = true from decide_eq_true hk, show nmK (⟨k.toArray⟩ : ByteArray).data.toList = k from if_pos hk] at HNP
  generalize hp0 : newP k = p0
  have HPK := Lib.hid hp0
  clear hp0
  generalize hres : makeGo p0 r = res
  obtain ⟨rp, t0, fp, t2, t3, t4⟩ := res
  have HRES := Lib.hid hres.symm
  clear hres
  unfold GivesOPR vReply
  simp only
  have BS := Lib.hid (bx_start2 w [.string ⟨#[]⟩, .bool false, .bool false, .slice none 0 0, .int .i64 0, .slice none 0 0] [.int .i64 0, .int .i64 0, .string ⟨#[]⟩, .int .i64 0, .int .i64 0] 29 33)
  have HD := Lib.hid d0
  clear d0
  have d0 := (BS.out.2.2.cell (p := ⟨b, o, none⟩) hbw).trans HD.out
  go_enter Try.func20, Try.ntmps20
  go_wp2_with fail
  refine (HNP.out _).mono ?_
  rintro e w1 ⟨a1, c1, rfl, ho, hb⟩
  have HB1 := Lib.hid ((belS BS.out.2.2 hb).alloc (belS BS.out.2.2 hb).size (.cells #[.string ⟨k.toArray⟩, .bool false, .bool false, .slice a1 0 c1, .int .i64 0, .slice none 0 0] 29))
  have h1s := hb.size
  simp at h1s
  have ST0 := Lib.hid (show MkSt w w1.heap.size p0 (w1.alloc (.cells #[.string ⟨k.toArray⟩, .bool false, .bool false, .slice a1 0 c1, .int .i64 0, .slice none 0 0] 29)) by rw [← HPK.out]; exact ⟨newP_small (HZ.out k (List.mem_cons_self ..)), rfl, ⟨_, Bx.new w1 [.string ⟨k.toArray⟩, .bool false, .bool false, .slice a1 0 c1, .int .i64 0, .slice none 0 0] 29, _, _, rfl, ownsF_alloc (ownsF_base ho (by simp)) _, ownsF_nil _ _ _ _ _⟩, (BS.out.1.below hb).alloc (.cells #[.string ⟨k.toArray⟩, .bool false, .bool false, .slice a1 0 c1, .int .i64 0, .slice none 0 0] 29), (BS.out.2.1.below hb).alloc (.cells #[.string ⟨k.toArray⟩, .bool false, .bool false, .slice a1 0 c1, .int .i64 0, .slice none 0 0] 29), HB1.out⟩)
  clear ho hb d0
  go_wp2_with fail
  have HRT := Lib.hid (fun W (hb : Below w.heap.size w W) => RowAt.below HR.out hb (Nat.le_refl _))
  generalize w1.alloc (.cells #[.string ⟨k.toArray⟩, .bool false, .bool false, .slice a1 0 c1, .int .i64 0, .slice none 0 0] 29) = w2 at *
  go_loopw [7, 8, 9, 29] (fun _ _ _ i wr => ∃ j : Nat, ∃ p : PartD, j ≤ r.length ∧ i = .int .i64 j ∧ (rp, (⟨t0, fp, t2, t3, t4⟩ : ReplyD)) = makeGo p (r.drop j) ∧ MkSt w w1.heap.size p wr) (fun _ _ _ i _ => r.length - (intOf i).toNat)
  case atStart => exact ⟨0, p0, Nat.zero_le _, rfl, HRES.out, ST0.out⟩
  case round =>
    obtain ⟨j, p, hj, rfl, hgo, hst⟩ := hrel
    obtain ⟨hsm, hbare, ⟨cs, hq, hown⟩, hr2, hr3, hbw2⟩ := hst
    by_cases hlt : j < r.length
    · have d1 := rowAt_cellS (HRT.out _ hbw2) (j + 1) (by simp; omega)
      simp only [List.map_cons, List.getElem_cons_succ, List.getElem_map, strV] at d1
      rw [show o + (j + 1) = o + 1 + j by omega] at d1
      have hzs := HZ.out (r[j]) (List.mem_cons_of_mem _ (List.getElem_mem hlt))
      have hdr : r.drop j = r[j] :: r.drop (j + 1) := List.drop_eq_getElem_cons hlt
      rw [hdr] at hgo
      clear hdr
      generalize r[j] = s at *
      have HW := Lib.hid (fun cs W (h : rPart 0 W cs p) => (show Calls Try.prog 11 #[.agg cs.toArray, .string ⟨s.toArray⟩] W fun e w' => GivesOPR (wrapP p s) (wrapR p s) W e w' from implWrap_any (.agg cs.toArray) p ⟨s.toArray⟩ W ⟨cs, rfl, h⟩ hsm (by rw [hbare]; intro c hc; cases hc) (by simpa [ByteArray.size] using hzs)))
      have HSM2 := Lib.hid (wrapP_small hsm s)
      have hb2 : (wrapP p s).fCore.fCells = [] := by rw [wrapP_core]; exact hbare
      have hyes : wrapI p s = 0 → (rp, (⟨t0, fp, t2, t3, t4⟩ : ReplyD)) = makeGo (wrapP p s) (r.drop (j + 1)) := fun h => hgo.trans (makeGo_on h)
      have hno : ¬ wrapI p s = 0 → (rp, (⟨t0, fp, t2, t3, t4⟩ : ReplyD)) = (zeroP, wrapR p s) := fun h => hgo.trans (makeGo_stop h)
      obtain ⟨m1, m3, m4, hrr⟩ : ∃ m1 m3 m4, wrapR p s = ⟨wrapI p s, m1, [], m3, m4⟩ := ⟨_, _, _, rfl⟩
      simp only [hrr] at HW hno
      unfold GivesOPR vReply at HW
      simp only at HW
      clear hgo hrr
      generalize wrapI p s = m0 at *
      generalize wrapP p s = p2 at *
      obtain ⟨⟨a0, a1, a2, a3, a4⟩, l⟩ := p
      obtain rfl : a3 = [] := hbare
      obtain ⟨u3, u5, rfl, ho3, ho5⟩ := hown
      simp only at ho3 ho5 hq
      obtain ⟨ga, gc, rfl⟩ := slice_of ho3
      obtain ⟨ua, uc, rfl⟩ := slice_of ho5
      simp only [List.length_nil] at *
      have O3 := Lib.hid ho3
      have O5 := Lib.hid ho5
      have HSM := Lib.hid hsm
      have BQ := Lib.hid hq
      have B2 := Lib.hid hr2
      have B3 := Lib.hid hr3
      have HBr := Lib.hid hbw2
      have hlq := hq.lt
      have hls := hbw2.size
      clear hsm ho3 ho5 hq hr2 hr3 hbw2
      have HRP := Lib.hid (goodPart.mono (oPart_r ⟨_, _, rfl, O3.out, O5.out⟩ HSM.out) (Nat.zero_le _))
      have HYES := Lib.hid hyes
      have HNO := Lib.hid hno
      have hjr : (j : Int) < (r.length : Int) := by omega
      have hml := HM.out
      unfold maxLen at hml
      clear hyes hno
      have q0 := BQ.out.cell 0 (by simp)
      have q1 := BQ.out.cell 1 (by simp)
      have q2 := BQ.out.cell 2 (by simp)
      have q3 := BQ.out.cell 3 (by simp)
      have q4 := BQ.out.cell 4 (by simp)
      have q5 := BQ.out.cell 5 (by simp)
      simp only [List.getElem_cons_zero, List.getElem_cons_succ] at q0 q1 q2 q3 q4 q5
      go_wp2_with fail
      refine (HW.out _ _ HRP.out).mono ?_
      rintro e w4 ⟨_, rfl, ho, hb⟩
      obtain ⟨⟨b0, b1, b2, b3, b4⟩, l2⟩ := p2
      obtain rfl : b3 = [] := hb2
      obtain ⟨u3, u5, rfl, ho3, ho5⟩ := ho
      simp only at ho3 ho5
      obtain ⟨ha, hc2, rfl⟩ := slice_of ho3
      obtain ⟨va, vc, rfl⟩ := slice_of ho5
      simp only [List.length_nil] at *
      have N3 := Lib.hid ho3
      have N5 := Lib.hid ho5
      have HB4 := Lib.hid (belS HBr.out hb)
      have BQ4 := Lib.hid (BQ.out.below hb)
      have B24 := Lib.hid (B2.out.below hb)
      have B34 := Lib.hid (B3.out.below hb)
      have hs4 := hb.size
      have hq4 := BQ4.out.lt
      clear hb ho3 ho5 q0 q1 q2 q3 q4 q5 BQ B2 B3
      by_cases hcd : m0 = 0
      · subst hcd
        have HG := Lib.hid (HYES.out rfl)
        clear HNO HYES
        have q0 := BQ4.out.cell 0 (by simp)
        have q1 := BQ4.out.cell 1 (by simp)
        have q2 := BQ4.out.cell 2 (by simp)
        have q3 := BQ4.out.cell 3 (by simp)
        have q4 := BQ4.out.cell 4 (by simp)
        have q5 := BQ4.out.cell 5 (by simp)
        simp only [List.getElem_cons_zero, List.getElem_cons_succ] at q0 q1 q2 q3 q4 q5
        have p0 := BQ4.out.froz 0 (by simp)
        have p1 := BQ4.out.froz 1 (by simp)
        have p2 := BQ4.out.froz 2 (by simp)
        have p3 := BQ4.out.froz 3 (by simp)
        have p4 := BQ4.out.froz 4 (by simp)
        have p5 := BQ4.out.froz 5 (by simp)
        go_wp2_with fail
        refine ⟨⟨j + 1, ⟨⟨b0, b1, b2, [], b4⟩, l2⟩, by omega, by go_num, HG.out, ?_⟩, by simp [intOf]; omega⟩
        exact ⟨HSM2.out, rfl, ⟨_, ((BQ4.out.put6 (.string ⟨b0.toArray⟩) (.bool b1) (.bool b2) (.slice ha 0 hc2) (.int .i64 b4) (.slice va l2.length vc)).alloc _).alloc _, _, _, rfl, ownsF_alloc (ownsF_alloc (ownsF_base (ownsF_put6 N3.out w1.heap.size hlq (.string ⟨b0.toArray⟩) (.bool b1) (.bool b2) (.slice ha 0 hc2) (.int .i64 b4) (.slice va l2.length vc)) (by omega)) _) _, ownsF_alloc (ownsF_alloc (ownsF_base (ownsF_put6 N5.out w1.heap.size hlq (.string ⟨b0.toArray⟩) (.bool b1) (.bool b2) (.slice ha 0 hc2) (.int .i64 b4) (.slice va l2.length vc)) (by omega)) _) _⟩,
          ((B24.out.put6o (c := w1.heap.size) (by omega) (.string ⟨b0.toArray⟩) (.bool b1) (.bool b2) (.slice ha 0 hc2) (.int .i64 b4) (.slice va l2.length vc)).alloc _).alloc _, ((B34.out.put6o (c := w1.heap.size) (by omega) (.string ⟨b0.toArray⟩) (.bool b1) (.bool b2) (.slice ha 0 hc2) (.int .i64 b4) (.slice va l2.length vc)).alloc _).alloc _,
          belS (belS (below_put6 HB4.out w1.heap.size (by omega) (.string ⟨b0.toArray⟩) (.bool b1) (.bool b2) (.slice ha 0 hc2) (.int .i64 b4) (.slice va l2.length vc)) (bx_box _ _)) (bx_box _ _)⟩
      · have HG := Lib.hid (HNO.out hcd)
        have hg := HG.out
        simp only [Prod.mk.injEq, ReplyD.mk.injEq] at hg
        obtain ⟨g1, g2, g3, g4, g5, g6⟩ := hg
        subst g1
        subst g4
        have g2 := g2.symm
        have g3 := g3.symm
        have g5 := g5.symm
        have g6 := g6.symm
        subst g2
        subst g3
        subst g5
        subst g6
        clear HNO HYES HG
        have B25 := Lib.hid ((B24.out.alloc (.cells #[.string ⟨b0.toArray⟩, .bool b1, .bool b2, .slice ha 0 hc2, .int .i64 b4, .slice va l2.length vc] 29)).alloc (.cells #[.int .i64 m0, .int .i64 m1, .string ⟨#[]⟩, .int .i64 m3, .int .i64 m4] 33))
        have B35 := Lib.hid ((B34.out.alloc (.cells #[.string ⟨b0.toArray⟩, .bool b1, .bool b2, .slice ha 0 hc2, .int .i64 b4, .slice va l2.length vc] 29)).alloc (.cells #[.int .i64 m0, .int .i64 m1, .string ⟨#[]⟩, .int .i64 m3, .int .i64 m4] 33))
        have r0 := B25.out.cell 0 (by simp)
        have r1 := B25.out.cell 1 (by simp)
        have r2 := B25.out.cell 2 (by simp)
        have r3 := B25.out.cell 3 (by simp)
        have r4 := B25.out.cell 4 (by simp)
        have r5 := B25.out.cell 5 (by simp)
        simp only [List.getElem_cons_zero, List.getElem_cons_succ] at r0 r1 r2 r3 r4 r5
        have z0 := B25.out.froz 0 (by simp)
        have z1 := B25.out.froz 1 (by simp)
        have z2 := B25.out.froz 2 (by simp)
        have z3 := B25.out.froz 3 (by simp)
        have z4 := B25.out.froz 4 (by simp)
        have z5 := B25.out.froz 5 (by simp)
        have s0 := B35.out.cell 0 (by simp)
        have s1 := B35.out.cell 1 (by simp)
        have s2 := B35.out.cell 2 (by simp)
        have s3 := B35.out.cell 3 (by simp)
        have s4 := B35.out.cell 4 (by simp)
        simp only [List.getElem_cons_zero, List.getElem_cons_succ] at s0 s1 s2 s3 s4
        have y0 := B35.out.froz 0 (by simp)
        have y1 := B35.out.froz 1 (by simp)
        have y2 := B35.out.froz 2 (by simp)
        have y3 := B35.out.froz 3 (by simp)
        have y4 := B35.out.froz 4 (by simp)
        go_wp2_with fail
        go_region
        all_goals (try go_wp2_with fail)
        all_goals
          refine bodyPost_ret (v := .tuple #[.agg #[.string ⟨#[]⟩, .bool false, .bool false, .slice none 0 0, .int .i64 0, .slice none 0 0], .agg #[.int .i64 m0, .int .i64 m1, .string ⟨#[]⟩, .int .i64 m3, .int .i64 m4]]) (by simp [results, Try.results20, go_sem, cell_set_at, cell_set_ne, r0, r1, r2, r3, r4, r5, s0, s1, s2, s3, s4]) rfl ⟨_, rfl, ⟨_, _, rfl, ownsF_nil _ _ _ _ _, ownsF_nil _ _ _ _ _⟩, ?_⟩
          repeat (first | with_reducible exact HB4.out | with_reducible refine Below.setCell ?_ (by simp; try omega) _ | with_reducible refine Below.alloc ?_ (by first | omega | (simp; omega)) _ | with_reducible refine Below.drew ?_)
    · rw [show r.drop j = [] from List.drop_eq_nil_of_le (by omega)] at hgo
      replace hgo : (rp, (⟨t0, fp, t2, t3, t4⟩ : ReplyD)) = (p, ⟨0, faceP p, [], 0, 0⟩) := hgo
      simp only [Prod.mk.injEq, ReplyD.mk.injEq] at hgo
      obtain ⟨g1, g2, g3, g4, g5, g6⟩ := hgo
      have g1 := g1.symm
      subst g1
      subst g2
      subst g4
      subst g5
      subst g6
      have HFP := Lib.hid g3.symm
      clear g3
      have hjr : ¬ (j : Int) < (r.length : Int) := by omega
      obtain ⟨⟨a0, a1, a2, a3, a4⟩, l⟩ := p
      obtain rfl : a3 = [] := hbare
      obtain ⟨u3, u5, rfl, ho3, ho5⟩ := hown
      simp only at ho3 ho5 hq
      obtain ⟨ga, gc, rfl⟩ := slice_of ho3
      obtain ⟨ua, uc, rfl⟩ := slice_of ho5
      simp only [List.length_nil] at *
      have O3 := Lib.hid ho3
      have O5 := Lib.hid ho5
      have HSM := Lib.hid hsm
      have BQ := Lib.hid hq
      have B2 := Lib.hid hr2
      have B3 := Lib.hid hr3
      have HBr := Lib.hid hbw2
      have hlq := hq.lt
      have hls := hbw2.size
      clear hsm ho3 ho5 hq hr2 hr3 hbw2
      have HRP := Lib.hid (fun W (hb : Below wr.heap.size wr W) => (show rPart 0 W [.string ⟨a0.toArray⟩, .bool a1, .bool a2, .slice ga 0 gc, .int .i64 a4, .slice ua l.length uc] (⟨⟨a0, a1, a2, [], a4⟩, l⟩ : PartD) from goodPart.mono (oPart_r ⟨_, _, rfl, ownsF_below O3.out hb (Nat.le_refl _), ownsF_below O5.out hb (Nat.le_refl _)⟩ HSM.out) (Nat.zero_le _)))
      have HFO := Lib.hid (fun W (h : rPart 0 W [.string ⟨a0.toArray⟩, .bool a1, .bool a2, .slice ga 0 gc, .int .i64 a4, .slice ua l.length uc] (⟨⟨a0, a1, a2, [], a4⟩, l⟩ : PartD)) => (show Calls Try.prog 17 #[.agg #[.string ⟨a0.toArray⟩, .bool a1, .bool a2, .slice ga 0 gc, .int .i64 a4, .slice ua l.length uc]] W fun e w' => e = .returned (.int .i64 (faceP (⟨⟨a0, a1, a2, [], a4⟩, l⟩ : PartD))) ∧ Below W.heap.size W w' from implFaceOf_any (.agg #[.string ⟨a0.toArray⟩, .bool a1, .bool a2, .slice ga 0 gc, .int .i64 a4, .slice ua l.length uc]) (⟨⟨a0, a1, a2, [], a4⟩, l⟩ : PartD) W ⟨[.string ⟨a0.toArray⟩, .bool a1, .bool a2, .slice ga 0 gc, .int .i64 a4, .slice ua l.length uc], rfl, h⟩))
      rw [HFP.out] at HFO
      have BQd := Lib.hid (bx_dr BQ.out)
      have B2d := Lib.hid (bx_dr B2.out)
      have B3d := Lib.hid (bx_dr B3.out)
      have q0 := BQd.out.cell 0 (by simp)
      have q1 := BQd.out.cell 1 (by simp)
      have q2 := BQd.out.cell 2 (by simp)
      have q3 := BQd.out.cell 3 (by simp)
      have q4 := BQd.out.cell 4 (by simp)
      have q5 := BQd.out.cell 5 (by simp)
      simp only [List.getElem_cons_zero, List.getElem_cons_succ] at q0 q1 q2 q3 q4 q5
      go_wp2_with fail
      go_region_with (first
          | (go_at_call 17; (with_reducible refine (HFO.out _ (HRP.out _ (bel_dr (Below.refl _ _)))).mono ?_); rintro e w6 ⟨rfl, hb6⟩; have BQ6 := Lib.hid (BQd.out.below hb6); have B26 := Lib.hid (B2d.out.below hb6); have B36 := Lib.hid (B3d.out.below hb6); have q0' := BQ6.out.cell 0 (by simp); have q1' := BQ6.out.cell 1 (by simp); have q2' := BQ6.out.cell 2 (by simp); have q3' := BQ6.out.cell 3 (by simp); have q4' := BQ6.out.cell 4 (by simp); have q5' := BQ6.out.cell 5 (by simp); have r0 := B26.out.cell 0 (by simp); have z0 := B26.out.froz 0 (by simp); have r1 := B26.out.cell 1 (by simp); have z1 := B26.out.froz 1 (by simp); have r2 := B26.out.cell 2 (by simp); have z2 := B26.out.froz 2 (by simp); have r3 := B26.out.cell 3 (by simp); have z3 := B26.out.froz 3 (by simp); have r4 := B26.out.cell 4 (by simp); have z4 := B26.out.froz 4 (by simp); have r5 := B26.out.cell 5 (by simp); have z5 := B26.out.froz 5 (by simp); have s0 := B36.out.cell 0 (by simp); have y0 := B36.out.froz 0 (by simp); have s1 := B36.out.cell 1 (by simp); have y1 := B36.out.froz 1 (by simp); have s2 := B36.out.cell 2 (by simp); have y2 := B36.out.froz 2 (by simp); have s3 := B36.out.cell 3 (by simp); have y3 := B36.out.froz 3 (by simp); have s4 := B36.out.cell 4 (by simp); have y4 := B36.out.froz 4 (by simp); simp only [List.getElem_cons_zero, List.getElem_cons_succ] at q0' q1' q2' q3' q4' q5' r0 r1 r2 r3 r4 r5 s0 s1 s2 s3 s4))
      all_goals (try go_wp2_with fail)
      all_goals
        have HB6 := Lib.hid (belS (bel_dr HBr.out) hb6)
        have T3 := Lib.hid (ownsF_below (ownsF_drew O3.out) hb6 (Nat.le_refl _))
        have T5 := Lib.hid (ownsF_below (ownsF_drew O5.out) hb6 (Nat.le_refl _))
        refine bodyPost_ret (v := .tuple #[.agg #[.string ⟨a0.toArray⟩, .bool a1, .bool a2, .slice ga 0 gc, .int .i64 a4, .slice ua l.length uc], .agg #[.int .i64 0, .int .i64 fp, .string ⟨#[]⟩, .int .i64 0, .int .i64 0]]) (by simp [results, Try.results20, go_sem, cell_set_at, cell_set_ne, r0, r1, r2, r3, r4, r5, s0, s1, s2, s3, s4]) rfl ⟨_, rfl, ⟨_, _, rfl, ?_, ?_⟩, ?_⟩
        · refine ownsF_base (B := ((w.heap.size + 1) + 1)) ?_ (by omega)
          repeat (first | with_reducible exact T3.out | with_reducible refine ownsF_set ?_ (by simp; try omega) | with_reducible refine ownsF_drew ?_)
        · refine ownsF_base (B := ((w.heap.size + 1) + 1)) ?_ (by omega)
          repeat (first | with_reducible exact T5.out | with_reducible refine ownsF_set ?_ (by simp; try omega) | with_reducible refine ownsF_drew ?_)
        · repeat (first | with_reducible exact HB6.out | with_reducible refine Below.setCell ?_ (by simp; try omega) _ | with_reducible refine Below.drew ?_)
theorem implMakePart_any (v : Value) (x : List (List UInt8)) (w : World) (hR : RowAt w v (x.map strV)) (hz : ∀ s ∈ x, s.length ≤ 1048576) :
    Calls Try.prog 20 #[v] w fun e w' => GivesOPR (makePR x).1 (makePR x).2 w e w' := by
  obtain ⟨a, c, rfl, hl, hcap⟩ := rowAt_cap hR
  cases x with
  | nil => exact implMake_nil a c w
  | cons k r =>
    obtain ⟨b, o, rfl, hbw, _⟩ := rowAt_cell hR 0 (by simp)
    simp only [List.length_map, List.length_cons] at hR hl hcap ⊢
    by_cases hk : 0 ≤ kindI k
    · rw [show makePR (k :: r) = makeGo (newP k) r from if_pos hk]
      by_cases h1 : c = 1
      · exact implMake_one b o c k r w hR hz hcap hl h1 hk
      · exact implMake_go b o c k r w hR hz hcap hl (by omega) hk
    · rw [show makePR (k :: r) = (zeroP, ⟨7, 0, [], 0, 0⟩) from if_neg hk]
      exact implMake_bad b o c k r w hR hz hcap hl hk
set_option maxRecDepth 100000 in
set_option maxHeartbeats 1600000 in
theorem implRecipeFace_any (v : Value) (x : List (List UInt8)) (w : World) (hR : RowAt w v (x.map strV)) (hz : ∀ s ∈ x, s.length ≤ 1048576) :
    Calls Try.prog 21 #[v] w fun e w' => e = .returned (.tuple #[.int .i64 (recI x), .bool (recB x)]) ∧ Below w.heap.size w w' := by
  have HMK := Lib.hid (implMakePart_any v x w hR hz)
  have HSM := Lib.hid (makePR_small hz)
  have HV := Lib.hid (@makePR_val x)
  unfold recI recB
  generalize makePR x = res at *
  obtain ⟨⟨⟨a0, a1, a2, a3, a4⟩, l⟩, m0, m1, m2, m3, m4⟩ := res
  unfold GivesOPR vReply at HMK
  simp only at HMK HSM ⊢
  have HFO := Lib.hid (fun cs W (h : rPart 0 W cs ⟨⟨a0, a1, a2, a3, a4⟩, l⟩) => implFaceOf_any (.agg cs.toArray) ⟨⟨a0, a1, a2, a3, a4⟩, l⟩ W ⟨cs, rfl, h⟩)
  generalize hfp : faceP ⟨⟨a0, a1, a2, a3, a4⟩, l⟩ = fp at *
  clear hfp hR hz
  by_cases hc : m0 = 0
  · subst hc
    have hv : m1 = fp := HV.out rfl
    subst hv
    simp only [if_true, decide_true]
    clear HV
    go_enter Try.func21, Try.ntmps21
    go_wp2_with fail
    refine HMK.out.mono ?_
    rintro e w1 ⟨_, rfl, ⟨u3, u5, rfl, ho3, ho5⟩, hb⟩
    simp only at ho3 ho5
    obtain ⟨ga, gc, rfl⟩ := slice_of ho3
    obtain ⟨ua, uc, rfl⟩ := slice_of ho5
    have HB1 := Lib.hid (belS (belS hb (bx_box w1 (.cells #[.string ⟨a0.toArray⟩, .bool a1, .bool a2, .slice ga a3.length gc, .int .i64 a4, .slice ua l.length uc] 29))) (bx_box _ (.cells #[.int .i64 0, .int .i64 m1, .string ⟨m2.toArray⟩, .int .i64 m3, .int .i64 m4] 33)))
    have O3 := Lib.hid (ownsF_alloc (ownsF_alloc ho3 (.cells #[.string ⟨a0.toArray⟩, .bool a1, .bool a2, .slice ga a3.length gc, .int .i64 a4, .slice ua l.length uc] 29)) (.cells #[.int .i64 0, .int .i64 m1, .string ⟨m2.toArray⟩, .int .i64 m3, .int .i64 m4] 33))
    have O5 := Lib.hid (ownsF_alloc (ownsF_alloc ho5 (.cells #[.string ⟨a0.toArray⟩, .bool a1, .bool a2, .slice ga a3.length gc, .int .i64 a4, .slice ua l.length uc] 29)) (.cells #[.int .i64 0, .int .i64 m1, .string ⟨m2.toArray⟩, .int .i64 m3, .int .i64 m4] 33))
    have HRP := Lib.hid (show rPart 0 ((w1.alloc (.cells #[.string ⟨a0.toArray⟩, .bool a1, .bool a2, .slice ga a3.length gc, .int .i64 a4, .slice ua l.length uc] 29)).alloc (.cells #[.int .i64 0, .int .i64 m1, .string ⟨m2.toArray⟩, .int .i64 m3, .int .i64 m4] 33)) [.string ⟨a0.toArray⟩, .bool a1, .bool a2, .slice ga a3.length gc, .int .i64 a4, .slice ua l.length uc] ⟨⟨a0, a1, a2, a3, a4⟩, l⟩ from goodPart.mono (oPart_r ⟨_, _, rfl, O3.out, O5.out⟩ HSM.out) (Nat.zero_le _))
    clear ho3 ho5 hb
    go_wp2_with fail
    refine (HFO.out _ _ HRP.out).mono ?_
    rintro e w2 ⟨rfl, hb2⟩
    have HB2 := Lib.hid (belS HB1.out hb2)
    clear hb2
    go_wp2_with fail
    exact bodyPost_ret (v := .tuple #[.int .i64 m1, .bool true]) (by simp [results, Try.results21, go_sem]) rfl ⟨rfl, HB2.out⟩
  · simp only [if_neg hc, decide_eq_false hc]
    clear HV
    go_enter Try.func21, Try.ntmps21
    go_wp2_with fail
    refine HMK.out.mono ?_
    rintro e w1 ⟨_, rfl, ⟨u3, u5, rfl, ho3, ho5⟩, hb⟩
    simp only at ho3 ho5
    obtain ⟨ga, gc, rfl⟩ := slice_of ho3
    obtain ⟨ua, uc, rfl⟩ := slice_of ho5
    have HB1 := Lib.hid (belS (belS hb (bx_box w1 (.cells #[.string ⟨a0.toArray⟩, .bool a1, .bool a2, .slice ga a3.length gc, .int .i64 a4, .slice ua l.length uc] 29))) (bx_box _ (.cells #[.int .i64 m0, .int .i64 m1, .string ⟨m2.toArray⟩, .int .i64 m3, .int .i64 m4] 33)))
    clear ho3 ho5 hb
    go_wp2_with fail
    exact bodyPost_ret (v := .tuple #[.int .i64 0, .bool false]) (by simp [results, Try.results21, go_sem]) rfl ⟨rfl, HB1.out⟩
end Go.Proofs.Ytaihdjdaamglnaa
/- Contracts of chapter 3: slices.Equal of cells; SameCore, the program's and the model's. -/
namespace Go.Proofs.Ytaihdjdaamglnaa
set_option linter.unusedVariables false
open Go.RowKit
theorem belE {B : Nat} {a w : World} (h : Below B a w) (n : Nat) : Below B a (w.drewN n) := ⟨h.os, h.tape, h.output, h.size, h.block⟩
set_option maxRecDepth 100000 in
set_option maxHeartbeats 1600000 in
theorem equalCells_any (v u : Value) (x y : List CellD) (w : World) (hx : FlatAt cCell 2 w v x) (hy : FlatAt cCell 2 w u y) :
    Calls Try.prog 93 #[v, u] w fun e w' => e = .returned (.bool (decide (x = y))) ∧ Below w.heap.size w w' := by
  obtain ⟨a, c, rfl, hl⟩ := flatAt_len hx
  obtain ⟨a2, c2, rfl, hl2⟩ := flatAt_len hy
  have HX := Lib.hid hx
  have HY := Lib.hid hy
  clear hx hy
  unfold maxLen at hl hl2
  by_cases he : x.length = y.length
  · have hb : ((x.length : Int) == y.length) = true := beq_iff_eq.2 (by omega)
    have hbn : ((x.length : Int) != y.length) = false := by rw [bne_eq_false_iff_eq]; omega
    have HE := Lib.hid he
    clear he
    go_enter Try.func93, Try.ntmps93
    go_wp2
    go_loopw [5, 13] (fun _ i wr => ∃ k : Nat, k ≤ x.length ∧ i = .int .i64 k ∧ x.take k = y.take k ∧ Below w.heap.size w wr) (fun _ i _ => x.length - (intOf i).toNat)
    case atStart => exact ⟨0, Nat.zero_le _, rfl, rfl, Below.refl _ _⟩
    case round =>
      obtain ⟨k, hk, rfl, ht, hbr⟩ := hrel
      have HT := Lib.hid ht
      have HB := Lib.hid hbr
      have HXr := Lib.hid (FlatAt.below HX.out hbr (Nat.le_refl _))
      have HYr := Lib.hid (FlatAt.below HY.out hbr (Nat.le_refl _))
      clear ht hbr
      by_cases hlt : k < x.length
      · have hky : k < y.length := by have := HE.out; omega
        obtain ⟨b, o, rfl, _, hd⟩ := flatAt_cell cCell_len HXr.out k hlt (by decide)
        obtain ⟨b2, o2, rfl, _, hd2⟩ := flatAt_cell cCell_len HYr.out k hky (by decide)
        have d0 := hd 0 (by decide)
        have d1 := hd 1 (by decide)
        have q0 := hd2 0 (by decide)
        have q1 := hd2 1 (by decide)
        clear hd hd2
        have HS := Lib.hid (take_eq_step x y HE.out k hlt HT.out)
        have HD := Lib.hid (show x[k] ≠ y[k] → ¬ x = y from fun h e => h (by subst e; rfl))
        generalize x[k] = p at *
        generalize y[k] = q at *
        obtain ⟨a0, a1⟩ := p
        obtain ⟨b0, b1⟩ := q
        simp only [cCell, List.getElem?_cons_zero, List.getElem?_cons_succ, Nat.add_zero] at d0 d1 q0 q1
        have hk0 : (0 : Int) ≤ (k : Int) := by omega
        have hk1 : (k : Int) < (x.length : Int) := by omega
        have hk2 : (k : Int) < (y.length : Int) := by omega
        by_cases heq : (⟨a0, a1⟩ : CellD) = ⟨b0, b1⟩
        · have HN := Lib.hid (HS.out heq)
          injection heq with e0 e1
          subst e0 e1
          clear HS HD
          go_wp2
          go_quiet (fail)
          go_wp2_with fail
          exact ⟨⟨k + 1, by omega, by go_num, HN.out, belE HB.out _⟩, by simp [intOf]; omega⟩
        · have HN := Lib.hid (HD.out heq)
          by_cases e0 : a0 = b0
          · have e1 : ¬ a1 = b1 := fun e => heq (by rw [e0, e])
            have hn1 : (a1 == b1) = false := by simpa using e1
            subst e0
            clear HS HD heq e1
            go_wp2
            go_quiet (fail)
            go_wp2_with fail
            go_ret
            exact ⟨ret_bool (by simp [HN.out]), belE HB.out _⟩
          · have hn0 : (a0 == b0) = false := by simpa using e0
            clear HS HD heq e0
            go_wp2
            go_quiet (fail)
            go_wp2_with fail
            go_ret
            exact ⟨ret_bool (by simp [HN.out]), belE HB.out _⟩
      · have HN := Lib.hid (show x = y from by
          have h := HT.out
          rw [List.take_of_length_le (by omega), List.take_of_length_le (by have := HE.out; omega)] at h
          exact h)
        go_wp2
        go_ret
        exact ⟨ret_bool (by simp [HN.out]), HB.out⟩
  · have hb : ((x.length : Int) == y.length) = false := beq_eq_false_iff_ne.2 (by omega)
    have hbn : ((x.length : Int) != y.length) = true := by rw [bne_iff_ne]; omega
    have HN := Lib.hid (show ¬ x = y from fun e => he (by rw [e]))
    clear he
    go_enter Try.func93, Try.ntmps93
    go_wp2
    go_ret
    exact ⟨ret_bool (by simp [HN.out]), Below.refl _ _⟩
set_option maxRecDepth 100000 in
set_option maxHeartbeats 3200000 in
theorem implSame_b (v u : Value) (x y : CoreD) (q : Bool) (hq : decide (x = y) = q) (w : World) (hx : CoreAt w v x) (hy : CoreAt w u y) :
    Calls Try.prog 50 #[v, u] w fun e w' => e = .returned (.bool q) ∧ Below w.heap.size w w' := by
  obtain ⟨cv, rfl, hx⟩ := hx
  obtain ⟨cu, rfl, hy⟩ := hy
  have hex := coreD_ext x y
  obtain ⟨a0, a1, a2, a3, a4⟩ := x
  obtain ⟨b0, b1, b2, b3, b4⟩ := y
  unfold vCore
  simp only at *
  have B2 := Lib.hid (show ∀ o1 o2, Below w.heap.size w ((w.alloc o1).alloc o2) from fun o1 o2 => ((Below.refl _ _).alloc (Nat.le_refl _) _).alloc (by simp) _)
  have HX := Lib.hid hx
  have HY := Lib.hid hy
  have HN := Lib.hid (show ¬ (a0 = b0 ∧ a1 = b1 ∧ a2 = b2 ∧ a3 = b3 ∧ a4 = b4) → false = q from fun h => by rw [← hq]; symm; rw [decide_eq_false_iff_not, hex]; exact h)
  have HQ := Lib.hid (show a0 = b0 → a1 = b1 → a2 = b2 → a4 = b4 → decide (a3 = b3) = q from fun h0 h1 h2 h4 => by
    rw [← hq]
    by_cases h3 : a3 = b3
    · rw [decide_eq_true h3, decide_eq_true (hex.2 ⟨h0, h1, h2, h3, h4⟩)]
    · rw [decide_eq_false h3, decide_eq_false (fun e => h3 (hex.1 e).2.2.2.1)])
  have HC := Lib.hid (fun o1 o2 => equalCells_any cv cu a3 b3 ((w.alloc o1).alloc o2) (HX.out.below (B2.out o1 o2) (Nat.le_refl _)) (HY.out.below (B2.out o1 o2) (Nat.le_refl _)))
  clear hx hy hq hex
  by_cases h0 : a0 = b0
  case neg =>
    have HF := Lib.hid (HN.out fun e => h0 e.1)
    have hne : (a0 == b0) = false := by simpa using h0
    have hnf : (a0 != b0) = true := by simpa using h0
    clear h0
    go_enter Try.func50, Try.ntmps50
    go_wp2_with fail
    go_ret
    exact ⟨ret_bool HF.out, B2.out _ _⟩
  case pos =>
    by_cases h1 : a1 = b1
    case neg =>
      have HF := Lib.hid (HN.out fun e => h1 e.2.1)
      subst h0
      cases a1 <;> cases b1
      all_goals first
        | exact absurd rfl h1
        | (clear h1
           go_enter Try.func50, Try.ntmps50
           go_wp2_with fail
           go_ret
           exact ⟨ret_bool HF.out, B2.out _ _⟩)
    case pos =>
      by_cases h2 : a2 = b2
      case neg =>
        have HF := Lib.hid (HN.out fun e => h2 e.2.2.1)
        subst h0 h1
        cases a1 <;> cases a2 <;> cases b2
        all_goals first
          | exact absurd rfl h2
          | (clear h2
             go_enter Try.func50, Try.ntmps50
             go_wp2_with fail
             go_ret
             exact ⟨ret_bool HF.out, B2.out _ _⟩)
      case pos =>
        by_cases h4 : a4 = b4
        case neg =>
          have HF := Lib.hid (HN.out fun e => h4 e.2.2.2.2)
          have hne : (a4 == b4) = false := by simpa using h4
          have hnf : (a4 != b4) = true := by simpa using h4
          subst h0 h1 h2
          clear h4
          cases a1 <;> cases a2
          all_goals
            go_enter Try.func50, Try.ntmps50
            go_wp2_with fail
            go_ret
            exact ⟨ret_bool HF.out, B2.out _ _⟩
        case pos =>
          have HF := Lib.hid (HQ.out h0 h1 h2 h4)
          subst h0 h1 h2 h4
          obtain ⟨pa, pc, rfl, _⟩ := flatAt_len HX.out
          obtain ⟨qa, qc, rfl, _⟩ := flatAt_len HY.out
          generalize decide (a3 = b3) = eq at *
          cases a1 <;> cases a2
          all_goals
            go_enter Try.func50, Try.ntmps50
            go_wp2_with fail
            refine (HC.out _ _).mono ?_
            rintro e w1 ⟨rfl, hb⟩
            have HB := Lib.hid ((B2.out _ _).trans (hb.mono (B2.out _ _).size))
            clear hb
            go_wp2_with fail
            go_ret
            exact ⟨ret_bool HF.out, HB.out⟩
theorem implSame_any (v u : Value) (x y : CoreD) (w : World) (hx : CoreAt w v x) (hy : CoreAt w u y) :
    Calls Try.prog 50 #[v, u] w fun e w' => e = .returned (.bool (decide (x = y))) ∧ Below w.heap.size w w' := implSame_b v u x y _ rfl w hx hy
end Go.Proofs.Ytaihdjdaamglnaa
/- Contracts of chapter 4: slices.Equal of layers; SamePart, the program's. -/
namespace Go.Proofs.Ytaihdjdaamglnaa
set_option linter.unusedVariables false
set_option linter.unusedSimpArgs false
open Go.RowKit
set_option maxRecDepth 100000 in
set_option maxHeartbeats 1600000 in
theorem equalLayers_any (v u : Value) (x y : List LayerD) (w : World) (hx : FlatAt cLayer 2 w v x) (hy : FlatAt cLayer 2 w u y) :
    Calls Try.prog 51 #[v, u] w fun e w' => e = .returned (.bool (decide (x = y))) ∧ Below w.heap.size w w' := by
  obtain ⟨a, c, rfl, hl⟩ := flatAt_len hx
  obtain ⟨a2, c2, rfl, hl2⟩ := flatAt_len hy
  have HX := Lib.hid hx
  have HY := Lib.hid hy
  clear hx hy
  unfold maxLen at hl hl2
  by_cases he : x.length = y.length
  · have hb : ((x.length : Int) == y.length) = true := beq_iff_eq.2 (by omega)
    have hbn : ((x.length : Int) != y.length) = false := by rw [bne_eq_false_iff_eq]; omega
    have HE := Lib.hid he
    clear he
    go_enter Try.func51, Try.ntmps51
    go_wp2
    go_loopw [5, 13] (fun _ i wr => ∃ k : Nat, k ≤ x.length ∧ i = .int .i64 k ∧ x.take k = y.take k ∧ Below w.heap.size w wr) (fun _ i _ => x.length - (intOf i).toNat)
    case atStart => exact ⟨0, Nat.zero_le _, rfl, rfl, Below.refl _ _⟩
    case round =>
      obtain ⟨k, hk, rfl, ht, hbr⟩ := hrel
      have HT := Lib.hid ht
      have HB := Lib.hid hbr
      have HXr := Lib.hid (FlatAt.below HX.out hbr (Nat.le_refl _))
      have HYr := Lib.hid (FlatAt.below HY.out hbr (Nat.le_refl _))
      clear ht hbr
      by_cases hlt : k < x.length
      · have hky : k < y.length := by have := HE.out; omega
        obtain ⟨b, o, rfl, _, hd⟩ := flatAt_cell cLayer_len HXr.out k hlt (by decide)
        obtain ⟨b2, o2, rfl, _, hd2⟩ := flatAt_cell cLayer_len HYr.out k hky (by decide)
        have d0 := hd 0 (by decide)
        have d1 := hd 1 (by decide)
        have q0 := hd2 0 (by decide)
        have q1 := hd2 1 (by decide)
        clear hd hd2
        have HS := Lib.hid (take_eq_step x y HE.out k hlt HT.out)
        have HD := Lib.hid (show x[k] ≠ y[k] → ¬ x = y from fun h e => h (by subst e; rfl))
        generalize x[k] = p at *
        generalize y[k] = q at *
        obtain ⟨a0, a1⟩ := p
        obtain ⟨b0, b1⟩ := q
        simp only [cLayer, List.getElem?_cons_zero, List.getElem?_cons_succ, Nat.add_zero] at d0 d1 q0 q1
        have hk0 : (0 : Int) ≤ (k : Int) := by omega
        have hk1 : (k : Int) < (x.length : Int) := by omega
        have hk2 : (k : Int) < (y.length : Int) := by omega
        by_cases heq : (⟨a0, a1⟩ : LayerD) = ⟨b0, b1⟩
        · have HN := Lib.hid (HS.out heq)
          injection heq with e0 e1
          subst e0 e1
          clear HS HD
          go_wp2
          go_quiet (fail)
          go_wp2_with fail
          exact ⟨⟨k + 1, by omega, by go_num, HN.out, belE HB.out _⟩, by simp [intOf]; omega⟩
        · have HN := Lib.hid (HD.out heq)
          by_cases e0 : a0 = b0
          · have e1 : ¬ a1 = b1 := fun e => heq (by rw [e0, e])
            have hn1 : (a1 == b1) = false := by simpa using e1
            subst e0
            clear HS HD heq e1
            go_wp2
            go_quiet (fail)
            go_wp2_with fail
            go_ret
            exact ⟨ret_bool (by simp [HN.out]), belE HB.out _⟩
          · have hn0 : (a0 == b0) = false := by simpa using e0
            clear HS HD heq e0
            go_wp2
            go_quiet (fail)
            go_wp2_with fail
            go_ret
            exact ⟨ret_bool (by simp [HN.out]), belE HB.out _⟩
      · have HN := Lib.hid (show x = y from by
          have h := HT.out
          rw [List.take_of_length_le (by omega), List.take_of_length_le (by have := HE.out; omega)] at h
          exact h)
        go_wp2
        go_ret
        exact ⟨ret_bool (by simp [HN.out]), HB.out⟩
  · have hb : ((x.length : Int) == y.length) = false := beq_eq_false_iff_ne.2 (by omega)
    have hbn : ((x.length : Int) != y.length) = true := by rw [bne_iff_ne]; omega
    have HN := Lib.hid (show ¬ x = y from fun e => he (by rw [e]))
    clear he
    go_enter Try.func51, Try.ntmps51
    go_wp2
    go_ret
    exact ⟨ret_bool (by simp [HN.out]), Below.refl _ _⟩

theorem part_eq (x y : PartD) : decide (x = y) = (decide (x.fCore = y.fCore) && decide (x.fLayers = y.fLayers)) := by rw [Bool.eq_iff_iff]; cases x; cases y; simp
set_option maxRecDepth 100000 in
set_option maxHeartbeats 1600000 in
theorem implSamePart_any (v u : Value) (x y : PartD) (w : World) (hx : ValAt rPart 0 w v x) (hy : ValAt rPart 0 w u y) :
    Calls Try.prog 15 #[v, u] w fun e w' => e = .returned (.bool (decide (x = y))) ∧ Below w.heap.size w w' := by
  rw [part_eq]
  obtain ⟨_, rfl, hx⟩ := hx
  obtain ⟨_, rfl, hy⟩ := hy
  obtain ⟨⟨a0, a1, a2, a3, a4⟩, ls⟩ := x
  obtain ⟨⟨b0, b1, b2, b3, b4⟩, ms⟩ := y
  obtain ⟨v3, v5, rfl, h3, h5⟩ := hx
  obtain ⟨u3, u5, rfl, k3, k5⟩ := hy
  simp only at h3 h5 k3 k5 ⊢
  have HC := Lib.hid (fun w1 (hw : Below w.heap.size w w1) => implSame_any (.agg #[.string ⟨a0.toArray⟩, .bool a1, .bool a2, v3, .int .i64 a4]) (.agg #[.string ⟨b0.toArray⟩, .bool b1, .bool b2, u3, .int .i64 b4]) ⟨a0, a1, a2, a3, a4⟩ ⟨b0, b1, b2, b3, b4⟩ w1 ⟨v3, rfl, (flatAt_of_slice cCell_len (by decide) h3).below hw (Nat.le_refl _)⟩ ⟨u3, rfl, (flatAt_of_slice cCell_len (by decide) k3).below hw (Nat.le_refl _)⟩)
  have HL := Lib.hid (fun w1 (hw : Below w.heap.size w w1) => equalLayers_any v5 u5 ls ms w1 ((flatAt_of_slice cLayer_len (by decide) h5).below hw (Nat.le_refl _)) ((flatAt_of_slice cLayer_len (by decide) k5).below hw (Nat.le_refl _)))
  obtain ⟨ra, rc, rfl, _⟩ := sliceAt_len h3
  obtain ⟨sa, sc, rfl, _⟩ := sliceAt_len h5
  obtain ⟨pa, pc, rfl, _⟩ := sliceAt_len k3
  obtain ⟨qa, qc, rfl, _⟩ := sliceAt_len k5
  have HS := Lib.hid (bx_start2 w [.string ⟨a0.toArray⟩, .bool a1, .bool a2, .slice ra a3.length rc, .int .i64 a4, .slice sa ls.length sc] [.string ⟨b0.toArray⟩, .bool b1, .bool b2, .slice pa b3.length pc, .int .i64 b4, .slice qa ms.length qc] 29 29)
  generalize decide ((⟨a0, a1, a2, a3, a4⟩ : CoreD) = ⟨b0, b1, b2, b3, b4⟩) = p at *
  generalize decide (ls = ms) = q at *
  clear h3 h5 k3 k5
  cases p with
  | false =>
    go_enter Try.func15, Try.ntmps15
    go_wp2_with fail
    refine (HC.out _ HS.out.2.2).mono ?_
    rintro e w1 ⟨rfl, hb⟩
    have HB := Lib.hid (belS (w := w) HS.out.2.2 hb)
    clear hb
    go_wp2_with fail
    go_ret
    exact ⟨rfl, HB.out⟩
  | true =>
    go_enter Try.func15, Try.ntmps15
    go_wp2_with fail
    refine (HC.out _ HS.out.2.2).mono ?_
    rintro e w1 ⟨rfl, hb⟩
    have HB := Lib.hid (belS (w := w) HS.out.2.2 hb)
    have BA := Lib.hid (HS.out.1.below hb)
    have BB := Lib.hid (HS.out.2.1.below hb)
    clear hb
    have eA := BA.out.cell 5 (by simp)
    have eB := BB.out.cell 5 (by simp)
    simp only [List.getElem_cons_zero, List.getElem_cons_succ] at eA eB
    go_wp2_with fail
    refine (HL.out _ HB.out).mono ?_
    rintro e w2 ⟨rfl, hb⟩
    have HB := Lib.hid (belS (w := w) HB.out hb)
    clear hb eA eB
    go_wp2_with fail
    go_ret
    exact ⟨ret_bool (by simp), HB.out⟩
end Go.Proofs.Ytaihdjdaamglnaa
namespace Go.Proofs.Ytaihdjdaamglnaa
set_option linter.unusedVariables false
set_option linter.unusedSimpArgs false
open Go.ChangeShapes Go.WideShapes Go.ChangeAt Go.RowKit Go.WideMaps Go.WideElems
open Go.ChangeMaps (open_string shut_string)
theorem rpB {w w' : World} {B : Nat} {cs : List Value} {x : PartD} (h : rPart 0 w cs x) (hb : Below B w w') (hB : w.heap.size ≤ B) : rPart 0 w' cs x := goodPart.keep h (kept_below hb hB)
theorem rowAt_takeB {w : World} {a : Option Addr} {n c : Nat} {ys : List Value} (h : RowAt w (.slice a n c) ys) (i : Nat) (hi : i ≤ ys.length) (hc : i ≤ c) : RowAt w (.slice a i c) (ys.take i) := by
  obtain ⟨a', c', e, hl, hr⟩ := h
  injection e with e1 e2 e3
  subst e1
  have hlen : (ys.take i).length = i := by rw [List.length_take]; omega
  refine ⟨a, c - i, by rw [hlen, Nat.add_sub_of_le hc], by omega, ?_⟩
  rcases hr with hr | ⟨b, o, rfl, hb, hcell⟩
  · left; subst hr; simp
  · right
    refine ⟨b, o, rfl, hb, fun j hj => ?_⟩
    rw [hlen] at hj
    rw [hcell j (by omega), List.getElem?_take, if_pos hj]
theorem belL {a w w' : World} {B : Nat} (h : Below a.heap.size a w) (hb : Below B w w') (hB : w.heap.size ≤ B) : Below a.heap.size a w' := h.trans (hb.mono (Nat.le_trans h.size hB))
theorem cellL {w w' : World} {B : Nat} {p : Addr} {v : Value} (h : w.cell? p = some v) (hb : Below B w w') (hB : w.heap.size ≤ B) : w'.cell? p = some v := (hb.cell (Nat.lt_of_lt_of_le (World.block_lt_of_cell? w _ h) hB)).trans h
set_option maxRecDepth 100000 in
set_option maxHeartbeats 6400000 in
theorem fnRecipes_any (v : Value) (l : List UInt8) (w : World) (hR : RowAt w v (Lib.byteCells l)) :
    Calls Try.prog 4 #[v] w fun e w' => e = .returned (.bool true) ∧ Below w.heap.size w w' := by
  have HR := Lib.hid hR
  have HBG := Lib.hid (big_any v l w hR)
  clear hR
  go_enter Try.func4, Try.ntmps4
  go_wp2_with fail
  refine HBG.out.mono ?_
  rintro e w' ⟨rfl, rfl⟩
  by_cases hbig : 4096 < l.length
  · go_wp2_with fail
    go_ret
    exact ⟨rfl, Below.refl _ _⟩
  have hd : decide (4096 < l.length) = false := by simpa using hbig
  clear hbig
  rw [hd]
  clear hd HBG
  go_wp2_with fail
  refine (drawMakePart_any v l _ HR.out).mono ?_
  rintro e w1 ⟨u, x, rfl, hrow, hx6, hx9, hb⟩
  have HB := Lib.hid hb
  have HRW := Lib.hid hrow
  have HZ := Lib.hid (show ∀ s ∈ x, s.length ≤ 1048576 from fun s hs => Nat.le_trans (hx9 s hs) (by decide))
  clear hb hrow hx9
  obtain ⟨ua, uc, rfl, hul, hucap⟩ := rowAt_cap HRW.out
  simp only [List.length_map] at *
  have HMK := Lib.hid (fun W (h : RowAt W (.slice ua x.length uc) (x.map strV)) => implMakePart_any (.slice ua x.length uc) x W h HZ.out)
  have HRF := Lib.hid (fun W (h : RowAt W (.slice ua x.length uc) (x.map strV)) => implRecipeFace_any (.slice ua x.length uc) x W h HZ.out)
  have HNO := Lib.hid (@make_no x)
  have HOK := Lib.hid (@make_ok x)
  have HSM := Lib.hid (makePR_small HZ.out)
  have HRB := Lib.hid (show recB x = decide ((makePR x).2.fCode = 0) from rfl)
  generalize hrb : recB x = rb at *
  generalize hri : recI x = ri at *
  generalize makePR x = pr at *
  obtain ⟨p, c0, c1, c2, c3, c4⟩ := pr
  simp only at HMK HNO HOK HSM HRB
  unfold GivesOPR vReply at HMK
  simp only at HMK
  clear hrb hri
  go_wp2_with fail
  refine (HMK.out _ HRW.out).mono ?_
  rintro e w2 ⟨_, rfl, ho, hb⟩
  replace HRW := Lib.hid (RowAt.below HRW.out hb (Nat.le_refl _))
  replace HB := Lib.hid (belS HB.out hb)
  clear hb
  obtain ⟨⟨pk, pon, pbr, pce, pct⟩, pl⟩ := p
  obtain ⟨v3, v5, rfl, ho3, ho5⟩ := ho
  simp only at ho3 ho5
  obtain ⟨ca, cc, rfl⟩ := slice_of ho3
  obtain ⟨la, lc, rfl⟩ := slice_of ho5
  have HPP := Lib.hid (show rPart 0 _ [.string ⟨pk.toArray⟩, .bool pon, .bool pbr, .slice ca pce.length cc, .int .i64 pct, .slice la pl.length lc] ⟨⟨pk, pon, pbr, pce, pct⟩, pl⟩ from goodPart.mono (oPart_r ⟨_, _, rfl, ho3, ho5⟩ HSM.out) (Nat.zero_le _))
  clear ho3 ho5
  go_upto_region 5 with fail
  have hbn := Bx.new (w2) [.string ⟨pk.toArray⟩, .bool pon, .bool pbr, .slice ca pce.length cc, .int .i64 pct, .slice la pl.length lc] 29
  have hbb := bx_box (w2) (.cells #[.string ⟨pk.toArray⟩, .bool pon, .bool pbr, .slice ca pce.length cc, .int .i64 pct, .slice la pl.length lc] 29)
  have Vb_p := Lib.hid hbn
  clear hbn
  replace HRW := Lib.hid (RowAt.below HRW.out hbb (Nat.le_refl _))
  replace HPP := Lib.hid (rpB HPP.out hbb (Nat.le_refl _))
  replace HB := Lib.hid (belS HB.out hbb)
  clear hbb
  have hbn := Bx.new ((w2).alloc (.cells #[.string ⟨pk.toArray⟩, .bool pon, .bool pbr, .slice ca pce.length cc, .int .i64 pct, .slice la pl.length lc] 29)) [.int .i64 c0, .int .i64 c1, .string ⟨c2.toArray⟩, .int .i64 c3, .int .i64 c4] 33
  have hbb := bx_box ((w2).alloc (.cells #[.string ⟨pk.toArray⟩, .bool pon, .bool pbr, .slice ca pce.length cc, .int .i64 pct, .slice la pl.length lc] 29)) (.cells #[.int .i64 c0, .int .i64 c1, .string ⟨c2.toArray⟩, .int .i64 c3, .int .i64 c4] 33)
  rw [show ((w2).alloc (.cells #[.string ⟨pk.toArray⟩, .bool pon, .bool pbr, .slice ca pce.length cc, .int .i64 pct, .slice la pl.length lc] 29)).heap.size = w2.heap.size + 1 by simp] at hbn
  have Vb_r := Lib.hid hbn
  clear hbn
  replace Vb_p := Lib.hid (Vb_p.out.below hbb)
  replace HRW := Lib.hid (RowAt.below HRW.out hbb (Nat.le_refl _))
  replace HPP := Lib.hid (rpB HPP.out hbb (Nat.le_refl _))
  replace HB := Lib.hid (belS HB.out hbb)
  clear hbb
  generalize ((w2).alloc (.cells #[.string ⟨pk.toArray⟩, .bool pon, .bool pbr, .slice ca pce.length cc, .int .i64 pct, .slice la pl.length lc] 29)).alloc (.cells #[.int .i64 c0, .int .i64 c1, .string ⟨c2.toArray⟩, .int .i64 c3, .int .i64 c4] 33) = w5 at *
  go_wp2_with fail
  refine (HRF.out _ HRW.out).mono ?_
  rintro e w6 ⟨rfl, hb⟩
  replace Vb_p := Lib.hid (Vb_p.out.below hb)
  replace Vb_r := Lib.hid (Vb_r.out.below hb)
  replace HRW := Lib.hid (RowAt.below HRW.out hb (Nat.le_refl _))
  replace HPP := Lib.hid (rpB HPP.out hb (Nat.le_refl _))
  replace HB := Lib.hid (belS HB.out hb)
  clear hb
  have hcb : (c0 == 0) = rb := by rw [HRB.out]; rfl
  clear HRB
  cases rb
  case false =>
    obtain ⟨hz, rfl⟩ := HNO.out rfl
    injection hz with e1 e2
    injection e1 with e1 e3 e4 e5 e6
    subst e2; subst e1; subst e3; subst e4; subst e5; subst e6
    clear HNO HOK
    have HSP := Lib.hid (fun W (h : rPart 0 W [.string ⟨([] : List UInt8).toArray⟩, .bool false, .bool false, .slice ca 0 cc, .int .i64 0, .slice la 0 lc] zeroP) => implSamePart_any (.agg #[.string ⟨([] : List UInt8).toArray⟩, .bool false, .bool false, .slice ca 0 cc, .int .i64 0, .slice la 0 lc]) (.agg #[.string ⟨#[]⟩, .bool false, .bool false, .slice none 0 0, .int .i64 0, .slice none 0 0]) zeroP zeroP W ⟨_, rfl, h⟩ ⟨_, rfl, _, _, rfl, sliceAt_nil _ _, sliceAt_nil _ _⟩)
    simp only [decide_true] at HSP
    have B_p := Vb_p.out
    have p_0 := Vb_p.out.cell 0 (by simp)
    have p_1 := Vb_p.out.cell 1 (by simp)
    have p_2 := Vb_p.out.cell 2 (by simp)
    have p_3 := Vb_p.out.cell 3 (by simp)
    have p_4 := Vb_p.out.cell 4 (by simp)
    have p_5 := Vb_p.out.cell 5 (by simp)
    simp only [List.getElem_cons_zero, List.getElem_cons_succ] at p_0 p_1 p_2 p_3 p_4 p_5
    have p_l := Vb_p.out.lt
    clear B_p
    have B_r := Vb_r.out
    have r_0 := Vb_r.out.cell 0 (by simp)
    have r_1 := Vb_r.out.cell 1 (by simp)
    have r_2 := Vb_r.out.cell 2 (by simp)
    have r_3 := Vb_r.out.cell 3 (by simp)
    have r_4 := Vb_r.out.cell 4 (by simp)
    simp only [List.getElem_cons_zero, List.getElem_cons_succ] at r_0 r_1 r_2 r_3 r_4
    have r_l := Vb_r.out.lt
    clear B_r
    go_wp2_with fail
    clear p_0 p_1 p_2 p_3 p_4 p_5 p_l r_0 r_1 r_2 r_3 r_4 r_l
    refine (HSP.out _ HPP.out).mono ?_
    rintro e w7 ⟨rfl, hb⟩
    replace Vb_p := Lib.hid (Vb_p.out.below hb)
    replace Vb_r := Lib.hid (Vb_r.out.below hb)
    replace HRW := Lib.hid (RowAt.below HRW.out hb (Nat.le_refl _))
    replace HPP := Lib.hid (rpB HPP.out hb (Nat.le_refl _))
    replace HB := Lib.hid (belS HB.out hb)
    clear hb
    go_wp2_with fail
    go_ret
    exact ⟨rfl, HB.out⟩
  case true =>
    obtain ⟨k1, k2, k3, k4, k5, k6⟩ := HOK.out (by first | rfl | trivial)
    have hc1 := k4
    have HPB := Lib.hid k1
    have HRL := Lib.hid k2
    have HFP := Lib.hid k3
    have HBE := Lib.hid k6
    subst hc1
    subst k5
    clear k1 k2 k3 k4 k6 HOK HNO
    have HKL := Lib.hid (fun c hc => HSM.out.keys c hc)
    have HIP := Lib.hid (fun W (h : rPart 0 W [.string ⟨pk.toArray⟩, .bool pon, .bool pbr, .slice ca pce.length cc, .int .i64 pct, .slice la pl.length lc] (⟨⟨pk, pon, pbr, pce, pct⟩, pl⟩ : PartD)) => implIsPart_any (.agg #[.string ⟨pk.toArray⟩, .bool pon, .bool pbr, .slice ca pce.length cc, .int .i64 pct, .slice la pl.length lc]) (⟨⟨pk, pon, pbr, pce, pct⟩, pl⟩ : PartD) W (⟨_, rfl, h⟩ : ValAt rPart 0 W (.agg #[.string ⟨pk.toArray⟩, .bool pon, .bool pbr, .slice ca pce.length cc, .int .i64 pct, .slice la pl.length lc]) (⟨⟨pk, pon, pbr, pce, pct⟩, pl⟩ : PartD)) (fun c hc => Nat.le_trans (HSM.out.keys c hc) (by decide)))
    rw [HPB.out] at HIP
    have HRO := Lib.hid (fun W (h : rPart 0 W [.string ⟨pk.toArray⟩, .bool pon, .bool pbr, .slice ca pce.length cc, .int .i64 pct, .slice la pl.length lc] (⟨⟨pk, pon, pbr, pce, pct⟩, pl⟩ : PartD)) => implRecipe_any (.agg #[.string ⟨pk.toArray⟩, .bool pon, .bool pbr, .slice ca pce.length cc, .int .i64 pct, .slice la pl.length lc]) (⟨⟨pk, pon, pbr, pce, pct⟩, pl⟩ : PartD) W (⟨_, rfl, h⟩ : ValAt rPart 0 W (.agg #[.string ⟨pk.toArray⟩, .bool pon, .bool pbr, .slice ca pce.length cc, .int .i64 pct, .slice la pl.length lc]) (⟨⟨pk, pon, pbr, pce, pct⟩, pl⟩ : PartD)) HSM.out)
    rw [HRL.out] at HRO
    unfold GivesRow at HRO
    have HFO := Lib.hid (fun W (h : rPart 0 W [.string ⟨pk.toArray⟩, .bool pon, .bool pbr, .slice ca pce.length cc, .int .i64 pct, .slice la pl.length lc] (⟨⟨pk, pon, pbr, pce, pct⟩, pl⟩ : PartD)) => implFaceOf_any (.agg #[.string ⟨pk.toArray⟩, .bool pon, .bool pbr, .slice ca pce.length cc, .int .i64 pct, .slice la pl.length lc]) (⟨⟨pk, pon, pbr, pce, pct⟩, pl⟩ : PartD) W (⟨_, rfl, h⟩ : ValAt rPart 0 W (.agg #[.string ⟨pk.toArray⟩, .bool pon, .bool pbr, .slice ca pce.length cc, .int .i64 pct, .slice la pl.length lc]) (⟨⟨pk, pon, pbr, pce, pct⟩, pl⟩ : PartD)))
    rw [HFP.out] at HFO
    have HTX := Lib.hid (fun u W (h1 : RowAt W u (x.map strV)) (h2 : RowAt W (.slice ua x.length uc) (x.map strV)) => texts_any u (.slice ua x.length uc) x x W h1 h2)
    rw [show decide (x = x) = true from decide_eq_true rfl] at HTX
    have B_p := Vb_p.out
    have p_0 := Vb_p.out.cell 0 (by simp)
    have p_1 := Vb_p.out.cell 1 (by simp)
    have p_2 := Vb_p.out.cell 2 (by simp)
    have p_3 := Vb_p.out.cell 3 (by simp)
    have p_4 := Vb_p.out.cell 4 (by simp)
    have p_5 := Vb_p.out.cell 5 (by simp)
    simp only [List.getElem_cons_zero, List.getElem_cons_succ] at p_0 p_1 p_2 p_3 p_4 p_5
    have p_l := Vb_p.out.lt
    clear B_p
    have B_r := Vb_r.out
    have r_0 := Vb_r.out.cell 0 (by simp)
    have r_1 := Vb_r.out.cell 1 (by simp)
    have r_2 := Vb_r.out.cell 2 (by simp)
    have r_3 := Vb_r.out.cell 3 (by simp)
    have r_4 := Vb_r.out.cell 4 (by simp)
    simp only [List.getElem_cons_zero, List.getElem_cons_succ] at r_0 r_1 r_2 r_3 r_4
    have r_l := Vb_r.out.lt
    clear B_r
    go_wp2_with fail
    clear p_0 p_1 p_2 p_3 p_4 p_5 p_l r_0 r_1 r_2 r_3 r_4 r_l
    refine (HIP.out _ HPP.out).mono ?_
    rintro e w7 ⟨rfl, hb⟩
    replace Vb_p := Lib.hid (Vb_p.out.below hb)
    replace Vb_r := Lib.hid (Vb_r.out.below hb)
    replace HRW := Lib.hid (RowAt.below HRW.out hb (Nat.le_refl _))
    replace HPP := Lib.hid (rpB HPP.out hb (Nat.le_refl _))
    replace HB := Lib.hid (belS HB.out hb)
    clear hb
    have B_p := Vb_p.out
    have p_0 := Vb_p.out.cell 0 (by simp)
    have p_1 := Vb_p.out.cell 1 (by simp)
    have p_2 := Vb_p.out.cell 2 (by simp)
    have p_3 := Vb_p.out.cell 3 (by simp)
    have p_4 := Vb_p.out.cell 4 (by simp)
    have p_5 := Vb_p.out.cell 5 (by simp)
    simp only [List.getElem_cons_zero, List.getElem_cons_succ] at p_0 p_1 p_2 p_3 p_4 p_5
    have p_l := Vb_p.out.lt
    clear B_p
    go_wp2_with fail
    clear p_0 p_1 p_2 p_3 p_4 p_5 p_l
    refine (HRO.out _ HPP.out).mono ?_
    rintro e w8 ⟨z, rfl, hz, hb⟩
    replace Vb_p := Lib.hid (Vb_p.out.below hb)
    replace Vb_r := Lib.hid (Vb_r.out.below hb)
    replace HRW := Lib.hid (RowAt.below HRW.out hb (Nat.le_refl _))
    replace HPP := Lib.hid (rpB HPP.out hb (Nat.le_refl _))
    replace HB := Lib.hid (belS HB.out hb)
    clear hb
    have HRZ := Lib.hid (row_of_slice (slice_of_owns hz (by omega)))
    clear hz
    go_wp2_with fail
    refine (HTX.out _ _ HRZ.out HRW.out).mono ?_
    rintro e w9 ⟨rfl, hb⟩
    replace Vb_p := Lib.hid (Vb_p.out.below hb)
    replace Vb_r := Lib.hid (Vb_r.out.below hb)
    replace HRW := Lib.hid (RowAt.below HRW.out hb (Nat.le_refl _))
    replace HPP := Lib.hid (rpB HPP.out hb (Nat.le_refl _))
    replace HRZ := Lib.hid (RowAt.below HRZ.out hb (Nat.le_refl _))
    replace HB := Lib.hid (belS HB.out hb)
    clear hb
    clear HRZ
    have B_p := Vb_p.out
    have p_0 := Vb_p.out.cell 0 (by simp)
    have p_1 := Vb_p.out.cell 1 (by simp)
    have p_2 := Vb_p.out.cell 2 (by simp)
    have p_3 := Vb_p.out.cell 3 (by simp)
    have p_4 := Vb_p.out.cell 4 (by simp)
    have p_5 := Vb_p.out.cell 5 (by simp)
    simp only [List.getElem_cons_zero, List.getElem_cons_succ] at p_0 p_1 p_2 p_3 p_4 p_5
    have p_l := Vb_p.out.lt
    clear B_p
    go_wp2_with fail
    clear p_0 p_1 p_2 p_3 p_4 p_5 p_l
    refine (HFO.out _ HPP.out).mono ?_
    rintro e w10 ⟨rfl, hb⟩
    replace Vb_p := Lib.hid (Vb_p.out.below hb)
    replace Vb_r := Lib.hid (Vb_r.out.below hb)
    replace HRW := Lib.hid (RowAt.below HRW.out hb (Nat.le_refl _))
    replace HPP := Lib.hid (rpB HPP.out hb (Nat.le_refl _))
    replace HB := Lib.hid (belS HB.out hb)
    clear hb
    have B_r := Vb_r.out
    have r_0 := Vb_r.out.cell 0 (by simp)
    have r_1 := Vb_r.out.cell 1 (by simp)
    have r_2 := Vb_r.out.cell 2 (by simp)
    have r_3 := Vb_r.out.cell 3 (by simp)
    have r_4 := Vb_r.out.cell 4 (by simp)
    simp only [List.getElem_cons_zero, List.getElem_cons_succ] at r_0 r_1 r_2 r_3 r_4
    have r_l := Vb_r.out.lt
    clear B_r
    go_wp2_with fail
    clear r_0 r_1 r_2 r_3 r_4 r_l
    go_loopw [8, 9, 10, 11, 12] (fun iv _ _ _ _ wr => ∃ i : Nat, 1 ≤ i ∧ iv = .int .i64 i ∧ Below w10.heap.size w10 wr) (fun iv _ _ _ _ _ => x.length - (intOf iv).toNat)
    case atStart => exact ⟨1, Nat.le_refl _, rfl, Below.refl _ _⟩
    case round =>
      obtain ⟨i, hi1, rfl, hb⟩ := hrel
      have HBO := Lib.hid hb
      replace Vb_p := Lib.hid (Vb_p.out.below hb)
      replace Vb_r := Lib.hid (Vb_r.out.below hb)
      replace HRW := Lib.hid (RowAt.below HRW.out hb (Nat.le_refl _))
      replace HPP := Lib.hid (rpB HPP.out hb (Nat.le_refl _))
      replace HB := Lib.hid (belS HB.out hb)
      clear hb
      by_cases hlt : i < x.length
      · skip
        have hic : (i : Int) < (x.length : Int) := by omega
        obtain ⟨q1, q2, q3⟩ := HBE.out i hlt hi1
        obtain ⟨bu, ou, rfl, hbu, _⟩ := rowAt_cell HRW.out i (by simpa using hlt)
        have d0 := rowAt_cellS HRW.out i (by simpa using hlt)
        simp only [List.getElem_map, strV] at d0
        have HD0 := Lib.hid d0
        clear d0
        have HTK := Lib.hid (fun W (h : RowAt W (.slice (some ⟨bu, ou, none⟩) x.length uc) (x.map strV)) => (show RowAt W (.slice (some ⟨bu, ou, none⟩) i uc) ((x.take i).map strV) from by rw [List.map_take]; exact rowAt_takeB h i (by simp; omega) (by omega)))
        have HRT := Lib.hid (fun W (h : RowAt W (.slice (some ⟨bu, ou, none⟩) i uc) ((x.take i).map strV)) => implRecipeFace_any (.slice (some ⟨bu, ou, none⟩) i uc) (x.take i) W h (fun s hs => HZ.out s (List.mem_of_mem_take hs)))
        rw [q1] at HRT
        generalize recI (x.take i) = gi at *
        generalize x[i] = s at *
        have HLN := Lib.hid (implLayerNeeds_any ⟨s.toArray⟩)
        simp only [ndV, List.toList_toArray, decide_eq_true q2] at HLN
        have HOF := Lib.hid (fun W => implOffers_any gi (needI (layI s)) W)
        rw [q3] at HOF
        generalize needI (layI s) = nd at *
        have hiu : i ≤ uc := by omega
        have hml : i ≤ 4611686018427387904 := by omega
        go_wp2_with fail
        refine (HRT.out _ (HTK.out _ HRW.out)).mono ?_
        rintro e w11 ⟨rfl, hb⟩
        replace Vb_p := Lib.hid (Vb_p.out.below hb)
        replace Vb_r := Lib.hid (Vb_r.out.below hb)
        replace HRW := Lib.hid (RowAt.below HRW.out hb (Nat.le_refl _))
        replace HPP := Lib.hid (rpB HPP.out hb (Nat.le_refl _))
        replace HBO := Lib.hid (belL HBO.out hb (Nat.le_refl _))
        replace HD0 := Lib.hid (cellL HD0.out hb (Nat.le_refl _))
        replace HB := Lib.hid (belS HB.out hb)
        clear hb
        have d0 := HD0.out
        go_wp2_with fail
        refine (HLN.out _).mono ?_
        rintro e w' ⟨rfl, rfl⟩
        clear d0
        go_wp2_with fail
        refine (HOF.out _).mono ?_
        rintro e w' ⟨rfl, rfl⟩
        go_wp2_with fail
        exact ⟨⟨i + 1, by omega, by go_num, HBO.out⟩, by simp [intOf]; omega⟩
      · skip
        have hic : ¬ (i : Int) < (x.length : Int) := by omega
        go_wp2_with fail
        go_ret
        exact ⟨rfl, HB.out⟩
set_option maxRecDepth 100000 in
theorem fnRecipes_lifted (os : Os) (started : os.Started) (H : Type) (enc : TypeId × Value → H) :
    ReturnsInHanded {} Try.checked os 4 .any (Rows.fnRecipesSpec.pre6 enc Try.prog Try.f4 Rows.fnRecipesRow.domain false) (Rows.fnRecipesSpec.post enc Try.prog Try.f4 false true false false) := by
  refine returnsInHanded_of_change (C := Try.checked) ownK started (by kernel_rfl) Try.func4
    (ChangeSpec.witness6 (enc := enc) (C := Try.checked) false ⟨#[], #[.slice none 0 0], []⟩ 8 (by kernel_rfl) (by kernel_rfl) (by kernel_rfl) (by kernel_rfl)) ?_
  intro W base args ds gs before hval0 hW _ _
  have hval : ∀ (j : Nat) t v, Try.f4.params[j]? = some t → args[j]? = some v → Value.okWide Try.prog W .any base t v := hval0
  have hW' := hW
  obtain ⟨p, q, hA0, _, rfl, _, _⟩ := hW
  have hA : DataW.TrodAll enc Try.prog W 0 (fun _ => true) true Try.f4.params.toList args.toList ds p := hA0
  rw [Try.params4] at hA hval
  obtain ⟨v0, vs0, d0, ds0, p0, q0, hargs, rfl, rfl, h0, r0⟩ := trodAll_cons hA
  obtain ⟨rfl, rfl, rfl⟩ := trodAll_nil r0
  obtain rfl : args = #[v0] := by cases args; simp_all
  obtain ⟨l0, w0⟩ := open_byteRow Try.underlying22 Try.underlying5 (by kernel_rfl) (hval 0 22 v0 rfl rfl) h0
  clear hA0 hval0
  refine (fnRecipes_any v0 l0 W w0).mono fun e W1 ⟨he, hb⟩ => ?_
  subst he
  exact ⟨_, rfl, law_post laidK rfl (by kernel_rfl) Try.underlying4 (by kernel_rfl) (fun ds h => by match ds, h with | [_], _ => rfl) hW' hb⟩
theorem fnRecipes_closed : joinedFacts Try.prog 4 Try.f4 Rows.fnRecipesSpec Rows.fnRecipesRow = true := by unfold joinedFacts; rw [mayEnter_k, liftsFinal_k, make_k]; kernel_rfl
theorem fnRecipes_holds : Rows.FnRecipesSaid :=
  OpenClaim.holds_of_wide 4 Try.f4 rfl rfl rfl rfl rfl rfl rfl ⟨rfl, rfl, rfl, rfl, rfl⟩ rfl rfl rfl rfl rfl (by kernel_rfl) Try.func4 fnRecipes_closed
    (of_decide_eq_true (by kernel_rfl)) (by unfold Func.isWrapper; first | (rw [if_pos (by decide +kernel)]; kernel_rfl) | (rw [if_neg (by decide +kernel)]; exact ⟨rfl, rfl⟩))
    (fun os started H enc _ => fnRecipes_lifted os started H enc)
end Go.Proofs.Ytaihdjdaamglnaa
