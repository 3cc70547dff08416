/- FnExactMakePart: at every list of texts the program's MakePart answers as the model's, and its answer owns its memory (lists of more than 2^20 texts and signs are not asked). No condition. -/
import Derived.Test.YtlkpinlkbikokaaIsEntryLawM3
import Derived.Test.YtlkpinlkbikokaaIsEntryLawM5
import Derived.Test.YtlkpinlkbikokaaIsEntryLawM2
import Derived.Test.YtlkpinlkbikokaaIsEntryLawM0
import Derived.Test.YtlkpinlkbikokaaIsEntryLawM1
import Derived.Deep.Slices
import Derived.Test.YtlkpinlkbikokaaIsEntryLawM4
/- Contracts of chapter 4: MakePart, the model's. Written by gen/ch4mk.py. -/
namespace Go.Proofs.Ytlkpinlkbikokaa
set_option linter.unusedVariables false
set_option linter.unusedSimpArgs false
open Go.RowKit
set_option maxRecDepth 100000 in
set_option maxHeartbeats 3200000 in
theorem specMake_nil (a : Option Addr) (c : Nat) (w : World) :
    Calls Try.prog 17 #[.slice a 0 c] w fun e w' => GivesOPR zeroP ⟨7, 0, [], 0, 0⟩ w e w' := by
  unfold GivesOPR zeroP vReply
  have BS := Lib.hid (bx_start2 w [.string ⟨#[]⟩, .bool false, .bool false, .slice none 0 0, .int .i64 0, .slice none 0 0] [.int .i64 0, .int .i64 0, .string ⟨#[]⟩, .int .i64 0, .int .i64 0] 34 36)
  have B2 := Lib.hid BS.out.1
  have B3 := Lib.hid BS.out.2.1
  go_enter Try.func17, Try.ntmps17
  go_wp2_with fail
  exact bodyPost_ret (v := .tuple #[.agg #[.string ⟨#[]⟩, .bool false, .bool false, .slice none 0 0, .int .i64 0, .slice none 0 0], .agg #[.int .i64 7, .int .i64 0, .string ⟨#[]⟩, .int .i64 0, .int .i64 0]]) (by simp [results, Try.results17, go_sem]) rfl ⟨_, rfl, ⟨_, _, rfl, ownsF_nil _ _ _ _ _, ownsF_nil _ _ _ _ _⟩, (bx_start2 w [.string ⟨#[]⟩, .bool false, .bool false, .slice none 0 0, .int .i64 0, .slice none 0 0] [.int .i64 7, .int .i64 0, .string ⟨#[]⟩, .int .i64 0, .int .i64 0] 34 36).2.2⟩
set_option maxRecDepth 100000 in
set_option maxHeartbeats 3200000 in
theorem specMake_bad (b o c : Nat) (k : List UInt8) (r : List (List UInt8)) (w : World) (hR : RowAt w (.slice (some ⟨b, o, none⟩) (r.length + 1) c) ((k :: r).map strV)) (hz : ∀ s ∈ k :: r, s.length ≤ 1048576) (hc : r.length + 1 ≤ c) (hm : r.length + 1 ≤ maxLen) (hk : ¬ 0 ≤ kindI k) :
    Calls Try.prog 17 #[.slice (some ⟨b, o, none⟩) (r.length + 1) c] w fun e w' => GivesOPR zeroP ⟨7, 0, [], 0, 0⟩ w e w' := by
  have d0 := rowAt_cellS hR 0 (by simp)
  simp only [List.map_cons, List.getElem_cons_zero, strV, Nat.add_zero] at d0
  have hbw : b < w.heap.size := by
    obtain ⟨b', o', e, hlt, _⟩ := rowAt_cell hR 0 (by simp)
    injection e with e; injection e with e1 e2; subst e1; exact hlt
  have HNP := Lib.hid (fun W => specNewPart_own ⟨k.toArray⟩ W (by have := hz k (List.mem_cons_self ..); simpa [ByteArray.size] using this))
  simp only [GivesNPO, vNP] at HNP
  have HR := Lib.hid hR
  have HZ := Lib.hid hz
  have HM := Lib.hid hm
  clear hR hz hm
  unfold GivesOPR zeroP vReply
  rw [show decide (0 ≤ kindI (⟨k.toArray⟩ : ByteArray).data.toList) = false from decide_eq_false hk] at HNP
  generalize nmK (⟨k.toArray⟩ : ByteArray).data.toList = nk at *
  have BS := Lib.hid (bx_start2 w [.string ⟨#[]⟩, .bool false, .bool false, .slice none 0 0, .int .i64 0, .slice none 0 0] [.int .i64 0, .int .i64 0, .string ⟨#[]⟩, .int .i64 0, .int .i64 0] 34 36)
  have HD := Lib.hid d0
  clear d0
  have d0 := (BS.out.2.2.cell (p := ⟨b, o, none⟩) hbw).trans HD.out
  go_enter Try.func17, Try.ntmps17
  go_wp2_with fail
  refine (HNP.out _).mono ?_
  rintro e w1 ⟨a1, c1, rfl, ho, hb⟩
  have HB1 := Lib.hid ((belS BS.out.2.2 hb).alloc (belS BS.out.2.2 hb).size (.cells #[.string ⟨nk.toArray⟩, .bool false, .bool false, .slice a1 0 c1, .int .i64 0, .slice none 0 0] 34))
  have B2 := Lib.hid ((BS.out.1.below hb).alloc (.cells #[.string ⟨nk.toArray⟩, .bool false, .bool false, .slice a1 0 c1, .int .i64 0, .slice none 0 0] 34))
  have B3 := Lib.hid ((BS.out.2.1.below hb).alloc (.cells #[.string ⟨nk.toArray⟩, .bool false, .bool false, .slice a1 0 c1, .int .i64 0, .slice none 0 0] 34))
  clear ho hb d0
  have r0 := B2.out.cell 0 (by simp)
  have r1 := B2.out.cell 1 (by simp)
  have r2 := B2.out.cell 2 (by simp)
  have r3 := B2.out.cell 3 (by simp)
  have r4 := B2.out.cell 4 (by simp)
  have r5 := B2.out.cell 5 (by simp)
  simp only [List.getElem_cons_zero, List.getElem_cons_succ] at r0 r1 r2 r3 r4 r5
  have z0 := B2.out.froz 0 (by simp)
  have z1 := B2.out.froz 1 (by simp)
  have z2 := B2.out.froz 2 (by simp)
  have z3 := B2.out.froz 3 (by simp)
  have z4 := B2.out.froz 4 (by simp)
  have z5 := B2.out.froz 5 (by simp)
  have s0 := B3.out.cell 0 (by simp)
  have s1 := B3.out.cell 1 (by simp)
  have s2 := B3.out.cell 2 (by simp)
  have s3 := B3.out.cell 3 (by simp)
  have s4 := B3.out.cell 4 (by simp)
  simp only [List.getElem_cons_zero, List.getElem_cons_succ] at s0 s1 s2 s3 s4
  have y0 := B3.out.froz 0 (by simp)
  have y1 := B3.out.froz 1 (by simp)
  have y2 := B3.out.froz 2 (by simp)
  have y3 := B3.out.froz 3 (by simp)
  have y4 := B3.out.froz 4 (by simp)
  go_wp2_with fail
  clear r0 r1 r2 r3 r4 r5 z0 z1 z2 z3 z4 z5 s0 s1 s2 s3 s4 y0 y1 y2 y3 y4
  have E4 := Lib.hid ((B2.out.put6 (.string ⟨#[]⟩) (.bool false) (.bool false) (.slice none 0 0) (.int .i64 0) (.slice none 0 0)).put5o (c := w.heap.size + 1) (by omega) (.int .i64 7) (.int .i64 0) (.string ⟨#[]⟩) (.int .i64 0) (.int .i64 0))
  have E5 := Lib.hid ((B3.out.put6o (c := w.heap.size) (by omega) (.string ⟨#[]⟩) (.bool false) (.bool false) (.slice none 0 0) (.int .i64 0) (.slice none 0 0)).put5 (.int .i64 7) (.int .i64 0) (.string ⟨#[]⟩) (.int .i64 0) (.int .i64 0))
  have EB := Lib.hid (below_put5 (below_put6 HB1.out w.heap.size (by omega) (.string ⟨#[]⟩) (.bool false) (.bool false) (.slice none 0 0) (.int .i64 0) (.slice none 0 0)) (w.heap.size + 1) (by omega) (.int .i64 7) (.int .i64 0) (.string ⟨#[]⟩) (.int .i64 0) (.int .i64 0))
  generalize ((((((((((((w1.alloc (.cells #[.string ⟨nk.toArray⟩, .bool false, .bool false, .slice a1 0 c1, .int .i64 0, .slice none 0 0] 34)).setCell ⟨w.heap.size, 0, none⟩ (.string ⟨#[]⟩)).setCell ⟨w.heap.size, 1, none⟩ (.bool false)).setCell ⟨w.heap.size, 2, none⟩ (.bool false)).setCell ⟨w.heap.size, 3, none⟩ (.slice none 0 0)).setCell ⟨w.heap.size, 4, none⟩ (.int .i64 0)).setCell ⟨w.heap.size, 5, none⟩ (.slice none 0 0)).setCell ⟨w.heap.size + 1, 0, none⟩ (.int .i64 7)).setCell ⟨w.heap.size + 1, 1, none⟩ (.int .i64 0)).setCell ⟨w.heap.size + 1, 2, none⟩ (.string ⟨#[]⟩)).setCell ⟨w.heap.size + 1, 3, none⟩ (.int .i64 0)).setCell ⟨w.heap.size + 1, 4, none⟩ (.int .i64 0)) = WE at *
  have r0 := E4.out.cell 0 (by simp)
  have r1 := E4.out.cell 1 (by simp)
  have r2 := E4.out.cell 2 (by simp)
  have r3 := E4.out.cell 3 (by simp)
  have r4 := E4.out.cell 4 (by simp)
  have r5 := E4.out.cell 5 (by simp)
  simp only [List.getElem_cons_zero, List.getElem_cons_succ] at r0 r1 r2 r3 r4 r5
  have s0 := E5.out.cell 0 (by simp)
  have s1 := E5.out.cell 1 (by simp)
  have s2 := E5.out.cell 2 (by simp)
  have s3 := E5.out.cell 3 (by simp)
  have s4 := E5.out.cell 4 (by simp)
  simp only [List.getElem_cons_zero, List.getElem_cons_succ] at s0 s1 s2 s3 s4
  exact bodyPost_ret (v := .tuple #[.agg #[.string ⟨#[]⟩, .bool false, .bool false, .slice none 0 0, .int .i64 0, .slice none 0 0], .agg #[.int .i64 7, .int .i64 0, .string ⟨#[]⟩, .int .i64 0, .int .i64 0]]) (by simp [results, Try.results17, go_sem, r0, r1, r2, r3, r4, r5, s0, s1, s2, s3, s4]) rfl ⟨_, rfl, ⟨_, _, rfl, ownsF_nil _ _ _ _ _, ownsF_nil _ _ _ _ _⟩, EB.out⟩
set_option maxRecDepth 100000 in
set_option maxHeartbeats 3200000 in
theorem specMake_one (b o c : Nat) (k : List UInt8) (r : List (List UInt8)) (w : World) (hR : RowAt w (.slice (some ⟨b, o, none⟩) (r.length + 1) c) ((k :: r).map strV)) (hz : ∀ s ∈ k :: r, s.length ≤ 1048576) (hc : r.length + 1 ≤ c) (hm : r.length + 1 ≤ maxLen) (h1 : c = 1) (hk : 0 ≤ kindI k) :
    Calls Try.prog 17 #[.slice (some ⟨b, o, none⟩) (r.length + 1) c] w fun e w' => GivesOPR (makeGo (newP k) r).1 (makeGo (newP k) r).2 w e w' := by
  have d0 := rowAt_cellS hR 0 (by simp)
  simp only [List.map_cons, List.getElem_cons_zero, strV, Nat.add_zero] at d0
  have hbw : b < w.heap.size := by
    obtain ⟨b', o', e, hlt, _⟩ := rowAt_cell hR 0 (by simp)
    injection e with e; injection e with e1 e2; subst e1; exact hlt
  have HNP := Lib.hid (fun W => specNewPart_own ⟨k.toArray⟩ W (by have := hz k (List.mem_cons_self ..); simpa [ByteArray.size] using this))
  simp only [GivesNPO, vNP] at HNP
  have HR := Lib.hid hR
  have HZ := Lib.hid hz
  have HM := Lib.hid hm
  clear hR hz hm
  rw [show decide (0 ≤ kindI (⟨k.toArray⟩ : ByteArray).data.toList) = true from decide_eq_true hk, show nmK (⟨k.toArray⟩ : ByteArray).data.toList = k from if_pos hk] at HNP
  subst h1
  obtain rfl : r = [] := List.eq_nil_of_length_eq_zero (by omega)
  simp only [List.length_nil, Nat.zero_add] at *
  rw [show makeGo (newP k) [] = (newP k, ⟨0, faceP (newP k), [], 0, 0⟩) from rfl]
  unfold GivesOPR vReply
  simp only
  generalize hp0 : newP k = p
  have HPK := Lib.hid hp0
  clear hp0
  generalize hfp : faceP p = fp
  have HFP := Lib.hid hfp
  clear hfp
  have BS := Lib.hid (bx_start2 w [.string ⟨#[]⟩, .bool false, .bool false, .slice none 0 0, .int .i64 0, .slice none 0 0] [.int .i64 0, .int .i64 0, .string ⟨#[]⟩, .int .i64 0, .int .i64 0] 34 36)
  have HD := Lib.hid d0
  clear d0
  have d0 := (BS.out.2.2.cell (p := ⟨b, o, none⟩) hbw).trans HD.out
  go_enter Try.func17, Try.ntmps17
  go_wp2_with fail
  refine (HNP.out _).mono ?_
  rintro e w1 ⟨a1, c1, rfl, ho, hb⟩
  have HB1 := Lib.hid ((belS BS.out.2.2 hb).alloc (belS BS.out.2.2 hb).size (.cells #[.string ⟨k.toArray⟩, .bool false, .bool false, .slice a1 0 c1, .int .i64 0, .slice none 0 0] 34))
  have h1s := hb.size
  simp at h1s
  have ST0 := Lib.hid (show MkSt w w1.heap.size p (w1.alloc (.cells #[.string ⟨k.toArray⟩, .bool false, .bool false, .slice a1 0 c1, .int .i64 0, .slice none 0 0] 34)) by rw [← HPK.out]; exact ⟨newP_small (HZ.out k (List.mem_cons_self ..)), rfl, ⟨_, Bx.new w1 [.string ⟨k.toArray⟩, .bool false, .bool false, .slice a1 0 c1, .int .i64 0, .slice none 0 0] 34, _, _, rfl, ownsF_alloc (ownsF_base ho (by simp)) _, ownsF_nil _ _ _ _ _⟩, (BS.out.1.below hb).alloc (.cells #[.string ⟨k.toArray⟩, .bool false, .bool false, .slice a1 0 c1, .int .i64 0, .slice none 0 0] 34), (BS.out.2.1.below hb).alloc (.cells #[.string ⟨k.toArray⟩, .bool false, .bool false, .slice a1 0 c1, .int .i64 0, .slice none 0 0] 34), HB1.out⟩)
  clear ho hb d0
  go_wp2_with fail
  generalize w1.alloc (.cells #[.string ⟨k.toArray⟩, .bool false, .bool false, .slice a1 0 c1, .int .i64 0, .slice none 0 0] 34) = wr at *
  have hst := ST0.out
  obtain ⟨hsm, hbare, ⟨cs, hq, hown⟩, hr2, hr3, hbw2⟩ := hst
  refine wp_loop_rounds 1 ?_
  rw [rounds_succ]
  obtain ⟨⟨a0, a1, a2, a3, a4⟩, l⟩ := p
  obtain rfl : a3 = [] := hbare
  obtain ⟨u3, u5, rfl, ho3, ho5⟩ := hown
  simp only at ho3 ho5 hq
  obtain ⟨ga, gc, rfl⟩ := slice_of ho3
  obtain ⟨ua, uc, rfl⟩ := slice_of ho5
  simp only [List.length_nil] at *
  have O3 := Lib.hid ho3
  have O5 := Lib.hid ho5
  have HSM := Lib.hid hsm
  have BQ := Lib.hid hq
  have B2 := Lib.hid hr2
  have B3 := Lib.hid hr3
  have HBr := Lib.hid hbw2
  have hlq := hq.lt
  have hls := hbw2.size
  clear hsm ho3 ho5 hq hr2 hr3 hbw2
  have HRP := Lib.hid (fun W (hb : Below wr.heap.size wr W) => (show rPart 0 W [.string ⟨a0.toArray⟩, .bool a1, .bool a2, .slice ga 0 gc, .int .i64 a4, .slice ua l.length uc] (⟨⟨a0, a1, a2, [], a4⟩, l⟩ : PartD) from goodPart.mono (oPart_r ⟨_, _, rfl, ownsF_below O3.out hb (Nat.le_refl _), ownsF_below O5.out hb (Nat.le_refl _)⟩ HSM.out) (Nat.zero_le _)))
  have HFO := Lib.hid (fun W (h : rPart 0 W [.string ⟨a0.toArray⟩, .bool a1, .bool a2, .slice ga 0 gc, .int .i64 a4, .slice ua l.length uc] (⟨⟨a0, a1, a2, [], a4⟩, l⟩ : PartD)) => (show Calls Try.prog 40 #[.agg #[.string ⟨a0.toArray⟩, .bool a1, .bool a2, .slice ga 0 gc, .int .i64 a4, .slice ua l.length uc]] W fun e w' => e = .returned (.int .i64 (faceP (⟨⟨a0, a1, a2, [], a4⟩, l⟩ : PartD))) ∧ Below W.heap.size W w' from specFaceOf_any (.agg #[.string ⟨a0.toArray⟩, .bool a1, .bool a2, .slice ga 0 gc, .int .i64 a4, .slice ua l.length uc]) (⟨⟨a0, a1, a2, [], a4⟩, l⟩ : PartD) W ⟨[.string ⟨a0.toArray⟩, .bool a1, .bool a2, .slice ga 0 gc, .int .i64 a4, .slice ua l.length uc], rfl, h⟩))
  rw [HFP.out] at HFO
  have BQd := Lib.hid (bx_dr BQ.out)
  have B2d := Lib.hid (bx_dr B2.out)
  have B3d := Lib.hid (bx_dr B3.out)
  have q0 := BQd.out.cell 0 (by simp)
  have q1 := BQd.out.cell 1 (by simp)
  have q2 := BQd.out.cell 2 (by simp)
  have q3 := BQd.out.cell 3 (by simp)
  have q4 := BQd.out.cell 4 (by simp)
  have q5 := BQd.out.cell 5 (by simp)
  simp only [List.getElem_cons_zero, List.getElem_cons_succ] at q0 q1 q2 q3 q4 q5
  go_wp2_with fail
  go_region_with (first
      | (go_at_call 40; (with_reducible refine (HFO.out _ (HRP.out _ (bel_dr (Below.refl _ _)))).mono ?_); rintro e w6 ⟨rfl, hb6⟩; have BQ6 := Lib.hid (BQd.out.below hb6); have B26 := Lib.hid (B2d.out.below hb6); have B36 := Lib.hid (B3d.out.below hb6); have q0' := BQ6.out.cell 0 (by simp); have q1' := BQ6.out.cell 1 (by simp); have q2' := BQ6.out.cell 2 (by simp); have q3' := BQ6.out.cell 3 (by simp); have q4' := BQ6.out.cell 4 (by simp); have q5' := BQ6.out.cell 5 (by simp); have r0 := B26.out.cell 0 (by simp); have z0 := B26.out.froz 0 (by simp); have r1 := B26.out.cell 1 (by simp); have z1 := B26.out.froz 1 (by simp); have r2 := B26.out.cell 2 (by simp); have z2 := B26.out.froz 2 (by simp); have r3 := B26.out.cell 3 (by simp); have z3 := B26.out.froz 3 (by simp); have r4 := B26.out.cell 4 (by simp); have z4 := B26.out.froz 4 (by simp); have r5 := B26.out.cell 5 (by simp); have z5 := B26.out.froz 5 (by simp); have s0 := B36.out.cell 0 (by simp); have y0 := B36.out.froz 0 (by simp); have s1 := B36.out.cell 1 (by simp); have y1 := B36.out.froz 1 (by simp); have s2 := B36.out.cell 2 (by simp); have y2 := B36.out.froz 2 (by simp); have s3 := B36.out.cell 3 (by simp); have y3 := B36.out.froz 3 (by simp); have s4 := B36.out.cell 4 (by simp); have y4 := B36.out.froz 4 (by simp); simp only [List.getElem_cons_zero, List.getElem_cons_succ] at q0' q1' q2' q3' q4' q5' r0 r1 r2 r3 r4 r5 s0 s1 s2 s3 s4))
  all_goals (try go_wp2_with fail)
  all_goals
    have HB6 := Lib.hid (belS (bel_dr HBr.out) hb6)
    have T3 := Lib.hid (ownsF_below (ownsF_drew O3.out) hb6 (Nat.le_refl _))
    have T5 := Lib.hid (ownsF_below (ownsF_drew O5.out) hb6 (Nat.le_refl _))
    refine bodyPost_ret (v := .tuple #[.agg #[.string ⟨a0.toArray⟩, .bool a1, .bool a2, .slice ga 0 gc, .int .i64 a4, .slice ua l.length uc], .agg #[.int .i64 0, .int .i64 fp, .string ⟨#[]⟩, .int .i64 0, .int .i64 0]]) (by simp [results, Try.results17, go_sem, cell_set_at, cell_set_ne, r0, r1, r2, r3, r4, r5, s0, s1, s2, s3, s4]) rfl ⟨_, rfl, ⟨_, _, rfl, ?_, ?_⟩, ?_⟩
    · refine ownsF_base (B := ((w.heap.size + 1) + 1)) ?_ (by omega)
      repeat (first | with_reducible exact T3.out | with_reducible refine ownsF_set ?_ (by simp; try omega) | with_reducible refine ownsF_drew ?_)
    · refine ownsF_base (B := ((w.heap.size + 1) + 1)) ?_ (by omega)
      repeat (first | with_reducible exact T5.out | with_reducible refine ownsF_set ?_ (by simp; try omega) | with_reducible refine ownsF_drew ?_)
    · repeat (first | with_reducible exact HB6.out | with_reducible refine Below.setCell ?_ (by simp; try omega) _ | with_reducible refine Below.drew ?_)
set_option maxRecDepth 100000 in
set_option maxHeartbeats 3200000 in
theorem specMake_go (b o c : Nat) (k : List UInt8) (r : List (List UInt8)) (w : World) (hR : RowAt w (.slice (some ⟨b, o, none⟩) (r.length + 1) c) ((k :: r).map strV)) (hz : ∀ s ∈ k :: r, s.length ≤ 1048576) (hc : r.length + 1 ≤ c) (hm : r.length + 1 ≤ maxLen) (h1 : ¬ (c : Int) = 1) (hk : 0 ≤ kindI k) :
    Calls Try.prog 17 #[.slice (some ⟨b, o, none⟩) (r.length + 1) c] w fun e w' => GivesOPR (makeGo (newP k) r).1 (makeGo (newP k) r).2 w e w' := by
  have d0 := rowAt_cellS hR 0 (by simp)
  simp only [List.map_cons, List.getElem_cons_zero, strV, Nat.add_zero] at d0
  have hbw : b < w.heap.size := by
    obtain ⟨b', o', e, hlt, _⟩ := rowAt_cell hR 0 (by simp)
    injection e with e; injection e with e1 e2; subst e1; exact hlt
  have HNP := Lib.hid (fun W => specNewPart_own ⟨k.toArray⟩ W (by have := hz k (List.mem_cons_self ..); simpa [ByteArray.size] using this))
  simp only [GivesNPO, vNP] at HNP
  have HR := Lib.hid hR
  have HZ := Lib.hid hz
  have HM := Lib.hid hm
  clear hR hz hm
  rw [show decide (0 ≤ kindI (⟨k.toArray⟩ : ByteArray).data.toList) = true from decide_eq_true hk, show nmK (⟨k.toArray⟩ : ByteArray).data.toList = k from if_pos hk] at HNP
  generalize hp0 : newP k = p0
  have HPK := Lib.hid hp0
  clear hp0
  generalize hres : makeGo p0 r = res
  obtain ⟨rp, t0, fp, t2, t3, t4⟩ := res
  have HRES := Lib.hid hres.symm
  clear hres
  unfold GivesOPR vReply
  simp only
  have BS := Lib.hid (bx_start2 w [.string ⟨#[]⟩, .bool false, .bool false, .slice none 0 0, .int .i64 0, .slice none 0 0] [.int .i64 0, .int .i64 0, .string ⟨#[]⟩, .int .i64 0, .int .i64 0] 34 36)
  have HD := Lib.hid d0
  clear d0
  have d0 := (BS.out.2.2.cell (p := ⟨b, o, none⟩) hbw).trans HD.out
  go_enter Try.func17, Try.ntmps17
  go_wp2_with fail
  refine (HNP.out _).mono ?_
  rintro e w1 ⟨a1, c1, rfl, ho, hb⟩
  have HB1 := Lib.hid ((belS BS.out.2.2 hb).alloc (belS BS.out.2.2 hb).size (.cells #[.string ⟨k.toArray⟩, .bool false, .bool false, .slice a1 0 c1, .int .i64 0, .slice none 0 0] 34))
  have h1s := hb.size
  simp at h1s
  have ST0 := Lib.hid (show MkSt w w1.heap.size p0 (w1.alloc (.cells #[.string ⟨k.toArray⟩, .bool false, .bool false, .slice a1 0 c1, .int .i64 0, .slice none 0 0] 34)) by rw [← HPK.out]; exact ⟨newP_small (HZ.out k (List.mem_cons_self ..)), rfl, ⟨_, Bx.new w1 [.string ⟨k.toArray⟩, .bool false, .bool false, .slice a1 0 c1, .int .i64 0, .slice none 0 0] 34, _, _, rfl, ownsF_alloc (ownsF_base ho (by simp)) _, ownsF_nil _ _ _ _ _⟩, (BS.out.1.below hb).alloc (.cells #[.string ⟨k.toArray⟩, .bool false, .bool false, .slice a1 0 c1, .int .i64 0, .slice none 0 0] 34), (BS.out.2.1.below hb).alloc (.cells #[.string ⟨k.toArray⟩, .bool false, .bool false, .slice a1 0 c1, .int .i64 0, .slice none 0 0] 34), HB1.out⟩)
  clear ho hb d0
  go_wp2_with fail
  have HRT := Lib.hid (fun W (hb : Below w.heap.size w W) => RowAt.below HR.out hb (Nat.le_refl _))
  generalize w1.alloc (.cells #[.string ⟨k.toArray⟩, .bool false, .bool false, .slice a1 0 c1, .int .i64 0, .slice none 0 0] 34) = w2 at *
  go_loopw [7, 8, 9, 29] (fun _ _ _ i wr => ∃ j : Nat, ∃ p : PartD, j ≤ r.length ∧ i = .int .i64 j ∧ (rp, (⟨t0, fp, t2, t3, t4⟩ : ReplyD)) = makeGo p (r.drop j) ∧ MkSt w w1.heap.size p wr) (fun _ _ _ i _ => r.length - (intOf i).toNat)
  case atStart => exact ⟨0, p0, Nat.zero_le _, rfl, HRES.out, ST0.out⟩
  case round =>
    obtain ⟨j, p, hj, rfl, hgo, hst⟩ := hrel
    obtain ⟨hsm, hbare, ⟨cs, hq, hown⟩, hr2, hr3, hbw2⟩ := hst
    by_cases hlt : j < r.length
    · have d1 := rowAt_cellS (HRT.out _ hbw2) (j + 1) (by simp; omega)
      simp only [List.map_cons, List.getElem_cons_succ, List.getElem_map, strV] at d1
      rw [show o + (j + 1) = o + 1 + j by omega] at d1
      have hzs := HZ.out (r[j]) (List.mem_cons_of_mem _ (List.getElem_mem hlt))
      have hdr : r.drop j = r[j] :: r.drop (j + 1) := List.drop_eq_getElem_cons hlt
      rw [hdr] at hgo
      clear hdr
      generalize r[j] = s at *
      have HW := Lib.hid (fun cs W (h : rPart 0 W cs p) => (show Calls Try.prog 9 #[.agg cs.toArray, .string ⟨s.toArray⟩] W fun e w' => GivesOPR (wrapP p s) (wrapR p s) W e w' from specWrap_any (.agg cs.toArray) p ⟨s.toArray⟩ W ⟨cs, rfl, h⟩ hsm (by rw [hbare]; intro c hc; cases hc) (by simpa [ByteArray.size] using hzs)))
      have HSM2 := Lib.hid (wrapP_small hsm s)
      have hb2 : (wrapP p s).fCore.fCells = [] := by rw [wrapP_core]; exact hbare
      have hyes : wrapI p s = 0 → (rp, (⟨t0, fp, t2, t3, t4⟩ : ReplyD)) = makeGo (wrapP p s) (r.drop (j + 1)) := fun h => hgo.trans (makeGo_on h)
      have hno : ¬ wrapI p s = 0 → (rp, (⟨t0, fp, t2, t3, t4⟩ : ReplyD)) = (zeroP, wrapR p s) := fun h => hgo.trans (makeGo_stop h)
      obtain ⟨m1, m3, m4, hrr⟩ : ∃ m1 m3 m4, wrapR p s = ⟨wrapI p s, m1, [], m3, m4⟩ := ⟨_, _, _, rfl⟩
      simp only [hrr] at HW hno
      unfold GivesOPR vReply at HW
      simp only at HW
      clear hgo hrr
      generalize wrapI p s = m0 at *
      generalize wrapP p s = p2 at *
      obtain ⟨⟨a0, a1, a2, a3, a4⟩, l⟩ := p
      obtain rfl : a3 = [] := hbare
      obtain ⟨u3, u5, rfl, ho3, ho5⟩ := hown
      simp only at ho3 ho5 hq
      obtain ⟨ga, gc, rfl⟩ := slice_of ho3
      obtain ⟨ua, uc, rfl⟩ := slice_of ho5
      simp only [List.length_nil] at *
      have O3 := Lib.hid ho3
      have O5 := Lib.hid ho5
      have HSM := Lib.hid hsm
      have BQ := Lib.hid hq
      have B2 := Lib.hid hr2
      have B3 := Lib.hid hr3
      have HBr := Lib.hid hbw2
      have hlq := hq.lt
      have hls := hbw2.size
      clear hsm ho3 ho5 hq hr2 hr3 hbw2
      have HRP := Lib.hid (goodPart.mono (oPart_r ⟨_, _, rfl, O3.out, O5.out⟩ HSM.out) (Nat.zero_le _))
      have HYES := Lib.hid hyes
      have HNO := Lib.hid hno
      have hjr : (j : Int) < (r.length : Int) := by omega
      have hml := HM.out
      unfold maxLen at hml
      clear hyes hno
      have q0 := BQ.out.cell 0 (by simp)
      have q1 := BQ.out.cell 1 (by simp)
      have q2 := BQ.out.cell 2 (by simp)
      have q3 := BQ.out.cell 3 (by simp)
      have q4 := BQ.out.cell 4 (by simp)
      have q5 := BQ.out.cell 5 (by simp)
      simp only [List.getElem_cons_zero, List.getElem_cons_succ] at q0 q1 q2 q3 q4 q5
      go_wp2_with fail
      refine (HW.out _ _ HRP.out).mono ?_
      rintro e w4 ⟨_, rfl, ho, hb⟩
      obtain ⟨⟨b0, b1, b2, b3, b4⟩, l2⟩ := p2
      obtain rfl : b3 = [] := hb2
      obtain ⟨u3, u5, rfl, ho3, ho5⟩ := ho
      simp only at ho3 ho5
      obtain ⟨ha, hc2, rfl⟩ := slice_of ho3
      obtain ⟨va, vc, rfl⟩ := slice_of ho5
      simp only [List.length_nil] at *
      have N3 := Lib.hid ho3
      have N5 := Lib.hid ho5
      have HB4 := Lib.hid (belS HBr.out hb)
      have BQ4 := Lib.hid (BQ.out.below hb)
      have B24 := Lib.hid (B2.out.below hb)
      have B34 := Lib.hid (B3.out.below hb)
      have hs4 := hb.size
      have hq4 := BQ4.out.lt
      clear hb ho3 ho5 q0 q1 q2 q3 q4 q5 BQ B2 B3
      by_cases hcd : m0 = 0
      · subst hcd
        have HG := Lib.hid (HYES.out rfl)
        clear HNO HYES
        have q0 := BQ4.out.cell 0 (by simp)
        have q1 := BQ4.out.cell 1 (by simp)
        have q2 := BQ4.out.cell 2 (by simp)
        have q3 := BQ4.out.cell 3 (by simp)
        have q4 := BQ4.out.cell 4 (by simp)
        have q5 := BQ4.out.cell 5 (by simp)
        simp only [List.getElem_cons_zero, List.getElem_cons_succ] at q0 q1 q2 q3 q4 q5
        have p0 := BQ4.out.froz 0 (by simp)
        have p1 := BQ4.out.froz 1 (by simp)
        have p2 := BQ4.out.froz 2 (by simp)
        have p3 := BQ4.out.froz 3 (by simp)
        have p4 := BQ4.out.froz 4 (by simp)
        have p5 := BQ4.out.froz 5 (by simp)
        go_wp2_with fail
        refine ⟨⟨j + 1, ⟨⟨b0, b1, b2, [], b4⟩, l2⟩, by omega, by go_num, HG.out, ?_⟩, by simp [intOf]; omega⟩
        exact ⟨HSM2.out, rfl, ⟨_, ((BQ4.out.put6 (.string ⟨b0.toArray⟩) (.bool b1) (.bool b2) (.slice ha 0 hc2) (.int .i64 b4) (.slice va l2.length vc)).alloc _).alloc _, _, _, rfl, ownsF_alloc (ownsF_alloc (ownsF_base (ownsF_put6 N3.out w1.heap.size hlq (.string ⟨b0.toArray⟩) (.bool b1) (.bool b2) (.slice ha 0 hc2) (.int .i64 b4) (.slice va l2.length vc)) (by omega)) _) _, ownsF_alloc (ownsF_alloc (ownsF_base (ownsF_put6 N5.out w1.heap.size hlq (.string ⟨b0.toArray⟩) (.bool b1) (.bool b2) (.slice ha 0 hc2) (.int .i64 b4) (.slice va l2.length vc)) (by omega)) _) _⟩,
          ((B24.out.put6o (c := w1.heap.size) (by omega) (.string ⟨b0.toArray⟩) (.bool b1) (.bool b2) (.slice ha 0 hc2) (.int .i64 b4) (.slice va l2.length vc)).alloc _).alloc _, ((B34.out.put6o (c := w1.heap.size) (by omega) (.string ⟨b0.toArray⟩) (.bool b1) (.bool b2) (.slice ha 0 hc2) (.int .i64 b4) (.slice va l2.length vc)).alloc _).alloc _,
          belS (belS (below_put6 HB4.out w1.heap.size (by omega) (.string ⟨b0.toArray⟩) (.bool b1) (.bool b2) (.slice ha 0 hc2) (.int .i64 b4) (.slice va l2.length vc)) (bx_box _ _)) (bx_box _ _)⟩
      · have HG := Lib.hid (HNO.out hcd)
        have hg := HG.out
        simp only [Prod.mk.injEq, ReplyD.mk.injEq] at hg
        obtain ⟨g1, g2, g3, g4, g5, g6⟩ := hg
        subst g1
        subst g4
        have g2 := g2.symm
        have g3 := g3.symm
        have g5 := g5.symm
        have g6 := g6.symm
        subst g2
        subst g3
        subst g5
        subst g6
        clear HNO HYES HG
        have B25 := Lib.hid ((B24.out.alloc (.cells #[.string ⟨b0.toArray⟩, .bool b1, .bool b2, .slice ha 0 hc2, .int .i64 b4, .slice va l2.length vc] 34)).alloc (.cells #[.int .i64 m0, .int .i64 m1, .string ⟨#[]⟩, .int .i64 m3, .int .i64 m4] 36))
        have B35 := Lib.hid ((B34.out.alloc (.cells #[.string ⟨b0.toArray⟩, .bool b1, .bool b2, .slice ha 0 hc2, .int .i64 b4, .slice va l2.length vc] 34)).alloc (.cells #[.int .i64 m0, .int .i64 m1, .string ⟨#[]⟩, .int .i64 m3, .int .i64 m4] 36))
        have r0 := B25.out.cell 0 (by simp)
        have r1 := B25.out.cell 1 (by simp)
        have r2 := B25.out.cell 2 (by simp)
        have r3 := B25.out.cell 3 (by simp)
        have r4 := B25.out.cell 4 (by simp)
        have r5 := B25.out.cell 5 (by simp)
        simp only [List.getElem_cons_zero, List.getElem_cons_succ] at r0 r1 r2 r3 r4 r5
        have z0 := B25.out.froz 0 (by simp)
        have z1 := B25.out.froz 1 (by simp)
        have z2 := B25.out.froz 2 (by simp)
        have z3 := B25.out.froz 3 (by simp)
        have z4 := B25.out.froz 4 (by simp)
        have z5 := B25.out.froz 5 (by simp)
        have s0 := B35.out.cell 0 (by simp)
        have s1 := B35.out.cell 1 (by simp)
        have s2 := B35.out.cell 2 (by simp)
        have s3 := B35.out.cell 3 (by simp)
        have s4 := B35.out.cell 4 (by simp)
        simp only [List.getElem_cons_zero, List.getElem_cons_succ] at s0 s1 s2 s3 s4
        have y0 := B35.out.froz 0 (by simp)
        have y1 := B35.out.froz 1 (by simp)
        have y2 := B35.out.froz 2 (by simp)
        have y3 := B35.out.froz 3 (by simp)
        have y4 := B35.out.froz 4 (by simp)
        go_wp2_with fail
        go_region
        all_goals (try go_wp2_with fail)
        all_goals
          refine bodyPost_ret (v := .tuple #[.agg #[.string ⟨#[]⟩, .bool false, .bool false, .slice none 0 0, .int .i64 0, .slice none 0 0], .agg #[.int .i64 m0, .int .i64 m1, .string ⟨#[]⟩, .int .i64 m3, .int .i64 m4]]) (by simp [results, Try.results17, go_sem, cell_set_at, cell_set_ne, r0, r1, r2, r3, r4, r5, s0, s1, s2, s3, s4]) rfl ⟨_, rfl, ⟨_, _, rfl, ownsF_nil _ _ _ _ _, ownsF_nil _ _ _ _ _⟩, ?_⟩
          repeat (first | with_reducible exact HB4.out | with_reducible refine Below.setCell ?_ (by simp; try omega) _ | with_reducible refine Below.alloc ?_ (by first | omega | (simp; omega)) _ | with_reducible refine Below.drew ?_)
    · rw [show r.drop j = [] from List.drop_eq_nil_of_le (by omega)] at hgo
      replace hgo : (rp, (⟨t0, fp, t2, t3, t4⟩ : ReplyD)) = (p, ⟨0, faceP p, [], 0, 0⟩) := hgo
      simp only [Prod.mk.injEq, ReplyD.mk.injEq] at hgo
      obtain ⟨g1, g2, g3, g4, g5, g6⟩ := hgo
      have g1 := g1.symm
      subst g1
      subst g2
      subst g4
      subst g5
      subst g6
      have HFP := Lib.hid g3.symm
      clear g3
      have hjr : ¬ (j : Int) < (r.length : Int) := by omega
      obtain ⟨⟨a0, a1, a2, a3, a4⟩, l⟩ := p
      obtain rfl : a3 = [] := hbare
      obtain ⟨u3, u5, rfl, ho3, ho5⟩ := hown
      simp only at ho3 ho5 hq
      obtain ⟨ga, gc, rfl⟩ := slice_of ho3
      obtain ⟨ua, uc, rfl⟩ := slice_of ho5
      simp only [List.length_nil] at *
      have O3 := Lib.hid ho3
      have O5 := Lib.hid ho5
      have HSM := Lib.hid hsm
      have BQ := Lib.hid hq
      have B2 := Lib.hid hr2
      have B3 := Lib.hid hr3
      have HBr := Lib.hid hbw2
      have hlq := hq.lt
      have hls := hbw2.size
      clear hsm ho3 ho5 hq hr2 hr3 hbw2
      have HRP := Lib.hid (fun W (hb : Below wr.heap.size wr W) => (show rPart 0 W [.string ⟨a0.toArray⟩, .bool a1, .bool a2, .slice ga 0 gc, .int .i64 a4, .slice ua l.length uc] (⟨⟨a0, a1, a2, [], a4⟩, l⟩ : PartD) from goodPart.mono (oPart_r ⟨_, _, rfl, ownsF_below O3.out hb (Nat.le_refl _), ownsF_below O5.out hb (Nat.le_refl _)⟩ HSM.out) (Nat.zero_le _)))
      have HFO := Lib.hid (fun W (h : rPart 0 W [.string ⟨a0.toArray⟩, .bool a1, .bool a2, .slice ga 0 gc, .int .i64 a4, .slice ua l.length uc] (⟨⟨a0, a1, a2, [], a4⟩, l⟩ : PartD)) => (show Calls Try.prog 40 #[.agg #[.string ⟨a0.toArray⟩, .bool a1, .bool a2, .slice ga 0 gc, .int .i64 a4, .slice ua l.length uc]] W fun e w' => e = .returned (.int .i64 (faceP (⟨⟨a0, a1, a2, [], a4⟩, l⟩ : PartD))) ∧ Below W.heap.size W w' from specFaceOf_any (.agg #[.string ⟨a0.toArray⟩, .bool a1, .bool a2, .slice ga 0 gc, .int .i64 a4, .slice ua l.length uc]) (⟨⟨a0, a1, a2, [], a4⟩, l⟩ : PartD) W ⟨[.string ⟨a0.toArray⟩, .bool a1, .bool a2, .slice ga 0 gc, .int .i64 a4, .slice ua l.length uc], rfl, h⟩))
      rw [HFP.out] at HFO
      have BQd := Lib.hid (bx_dr BQ.out)
      have B2d := Lib.hid (bx_dr B2.out)
      have B3d := Lib.hid (bx_dr B3.out)
      have q0 := BQd.out.cell 0 (by simp)
      have q1 := BQd.out.cell 1 (by simp)
      have q2 := BQd.out.cell 2 (by simp)
      have q3 := BQd.out.cell 3 (by simp)
      have q4 := BQd.out.cell 4 (by simp)
      have q5 := BQd.out.cell 5 (by simp)
      simp only [List.getElem_cons_zero, List.getElem_cons_succ] at q0 q1 q2 q3 q4 q5
      go_wp2_with fail
      go_region_with (first
          | (go_at_call 40; (with_reducible refine (HFO.out _ (HRP.out _ (bel_dr (Below.refl _ _)))).mono ?_); rintro e w6 ⟨rfl, hb6⟩; have BQ6 := Lib.hid (BQd.out.below hb6); have B26 := Lib.hid (B2d.out.below hb6); have B36 := Lib.hid (B3d.out.below hb6); have q0' := BQ6.out.cell 0 (by simp); have q1' := BQ6.out.cell 1 (by simp); have q2' := BQ6.out.cell 2 (by simp); have q3' := BQ6.out.cell 3 (by simp); have q4' := BQ6.out.cell 4 (by simp); have q5' := BQ6.out.cell 5 (by simp); have r0 := B26.out.cell 0 (by simp); have z0 := B26.out.froz 0 (by simp); have r1 := B26.out.cell 1 (by simp); have z1 := B26.out.froz 1 (by simp); have r2 := B26.out.cell 2 (by simp); have z2 := B26.out.froz 2 (by simp); have r3 := B26.out.cell 3 (by simp); have z3 := B26.out.froz 3 (by simp); have r4 := B26.out.cell 4 (by simp); have z4 := B26.out.froz 4 (by simp); have r5 := B26.out.cell 5 (by simp); have z5 := B26.out.froz 5 (by simp); have s0 := B36.out.cell 0 (by simp); have y0 := B36.out.froz 0 (by simp); have s1 := B36.out.cell 1 (by simp); have y1 := B36.out.froz 1 (by simp); have s2 := B36.out.cell 2 (by simp); have y2 := B36.out.froz 2 (by simp); have s3 := B36.out.cell 3 (by simp); have y3 := B36.out.froz 3 (by simp); have s4 := B36.out.cell 4 (by simp); have y4 := B36.out.froz 4 (by simp); simp only [List.getElem_cons_zero, List.getElem_cons_succ] at q0' q1' q2' q3' q4' q5' r0 r1 r2 r3 r4 r5 s0 s1 s2 s3 s4))
      all_goals (try go_wp2_with fail)
      all_goals
        have HB6 := Lib.hid (belS (bel_dr HBr.out) hb6)
        have T3 := Lib.hid (ownsF_below (ownsF_drew O3.out) hb6 (Nat.le_refl _))
        have T5 := Lib.hid (ownsF_below (ownsF_drew O5.out) hb6 (Nat.le_refl _))
        refine bodyPost_ret (v := .tuple #[.agg #[.string ⟨a0.toArray⟩, .bool a1, .bool a2, .slice ga 0 gc, .int .i64 a4, .slice ua l.length uc], .agg #[.int .i64 0, .int .i64 fp, .string ⟨#[]⟩, .int .i64 0, .int .i64 0]]) (by simp [results, Try.results17, go_sem, cell_set_at, cell_set_ne, r0, r1, r2, r3, r4, r5, s0, s1, s2, s3, s4]) rfl ⟨_, rfl, ⟨_, _, rfl, ?_, ?_⟩, ?_⟩
        · refine ownsF_base (B := ((w.heap.size + 1) + 1)) ?_ (by omega)
          repeat (first | with_reducible exact T3.out | with_reducible refine ownsF_set ?_ (by simp; try omega) | with_reducible refine ownsF_drew ?_)
        · refine ownsF_base (B := ((w.heap.size + 1) + 1)) ?_ (by omega)
          repeat (first | with_reducible exact T5.out | with_reducible refine ownsF_set ?_ (by simp; try omega) | with_reducible refine ownsF_drew ?_)
        · repeat (first | with_reducible exact HB6.out | with_reducible refine Below.setCell ?_ (by simp; try omega) _ | with_reducible refine Below.drew ?_)
theorem specMakePart_any (v : Value) (x : List (List UInt8)) (w : World) (hR : RowAt w v (x.map strV)) (hz : ∀ s ∈ x, s.length ≤ 1048576) :
    Calls Try.prog 17 #[v] w fun e w' => GivesOPR (makePR x).1 (makePR x).2 w e w' := by
  obtain ⟨a, c, rfl, hl, hcap⟩ := rowAt_cap hR
  cases x with
  | nil => exact specMake_nil a c w
  | cons k r =>
    obtain ⟨b, o, rfl, hbw, _⟩ := rowAt_cell hR 0 (by simp)
    simp only [List.length_map, List.length_cons] at hR hl hcap ⊢
    by_cases hk : 0 ≤ kindI k
    · rw [show makePR (k :: r) = makeGo (newP k) r from if_pos hk]
      by_cases h1 : c = 1
      · exact specMake_one b o c k r w hR hz hcap hl h1 hk
      · exact specMake_go b o c k r w hR hz hcap hl (by omega) hk
    · rw [show makePR (k :: r) = (zeroP, ⟨7, 0, [], 0, 0⟩) from if_neg hk]
      exact specMake_bad b o c k r w hR hz hcap hl hk
set_option maxRecDepth 100000 in
set_option maxHeartbeats 1600000 in
theorem specRecipeFace_any (v : Value) (x : List (List UInt8)) (w : World) (hR : RowAt w v (x.map strV)) (hz : ∀ s ∈ x, s.length ≤ 1048576) :
    Calls Try.prog 22 #[v] w fun e w' => e = .returned (.tuple #[.int .i64 (recI x), .bool (recB x)]) ∧ Below w.heap.size w w' := by
  have HMK := Lib.hid (specMakePart_any v x w hR hz)
  have HSM := Lib.hid (makePR_small hz)
  have HV := Lib.hid (@makePR_val x)
  unfold recI recB
  generalize makePR x = res at *
  obtain ⟨⟨⟨a0, a1, a2, a3, a4⟩, l⟩, m0, m1, m2, m3, m4⟩ := res
  unfold GivesOPR vReply at HMK
  simp only at HMK HSM ⊢
  have HFO := Lib.hid (fun cs W (h : rPart 0 W cs ⟨⟨a0, a1, a2, a3, a4⟩, l⟩) => specFaceOf_any (.agg cs.toArray) ⟨⟨a0, a1, a2, a3, a4⟩, l⟩ W ⟨cs, rfl, h⟩)
  generalize hfp : faceP ⟨⟨a0, a1, a2, a3, a4⟩, l⟩ = fp at *
  clear hfp hR hz
  by_cases hc : m0 = 0
  · subst hc
    have hv : m1 = fp := HV.out rfl
    subst hv
    simp only [if_true, decide_true]
    clear HV
    go_enter Try.func22, Try.ntmps22
    go_wp2_with fail
    refine HMK.out.mono ?_
    rintro e w1 ⟨_, rfl, ⟨u3, u5, rfl, ho3, ho5⟩, hb⟩
    simp only at ho3 ho5
    obtain ⟨ga, gc, rfl⟩ := slice_of ho3
    obtain ⟨ua, uc, rfl⟩ := slice_of ho5
    have HB1 := Lib.hid (belS (belS hb (bx_box w1 (.cells #[.string ⟨a0.toArray⟩, .bool a1, .bool a2, .slice ga a3.length gc, .int .i64 a4, .slice ua l.length uc] 34))) (bx_box _ (.cells #[.int .i64 0, .int .i64 m1, .string ⟨m2.toArray⟩, .int .i64 m3, .int .i64 m4] 36)))
    have O3 := Lib.hid (ownsF_alloc (ownsF_alloc ho3 (.cells #[.string ⟨a0.toArray⟩, .bool a1, .bool a2, .slice ga a3.length gc, .int .i64 a4, .slice ua l.length uc] 34)) (.cells #[.int .i64 0, .int .i64 m1, .string ⟨m2.toArray⟩, .int .i64 m3, .int .i64 m4] 36))
    have O5 := Lib.hid (ownsF_alloc (ownsF_alloc ho5 (.cells #[.string ⟨a0.toArray⟩, .bool a1, .bool a2, .slice ga a3.length gc, .int .i64 a4, .slice ua l.length uc] 34)) (.cells #[.int .i64 0, .int .i64 m1, .string ⟨m2.toArray⟩, .int .i64 m3, .int .i64 m4] 36))
    have HRP := Lib.hid (show rPart 0 ((w1.alloc (.cells #[.string ⟨a0.toArray⟩, .bool a1, .bool a2, .slice ga a3.length gc, .int .i64 a4, .slice ua l.length uc] 34)).alloc (.cells #[.int .i64 0, .int .i64 m1, .string ⟨m2.toArray⟩, .int .i64 m3, .int .i64 m4] 36)) [.string ⟨a0.toArray⟩, .bool a1, .bool a2, .slice ga a3.length gc, .int .i64 a4, .slice ua l.length uc] ⟨⟨a0, a1, a2, a3, a4⟩, l⟩ from goodPart.mono (oPart_r ⟨_, _, rfl, O3.out, O5.out⟩ HSM.out) (Nat.zero_le _))
    clear ho3 ho5 hb
    go_wp2_with fail
    exact bodyPost_ret (v := .tuple #[.int .i64 m1, .bool true]) (by simp [results, Try.results22, go_sem]) rfl ⟨rfl, HB1.out⟩
  · simp only [if_neg hc, decide_eq_false hc]
    clear HV
    go_enter Try.func22, Try.ntmps22
    go_wp2_with fail
    refine HMK.out.mono ?_
    rintro e w1 ⟨_, rfl, ⟨u3, u5, rfl, ho3, ho5⟩, hb⟩
    simp only at ho3 ho5
    obtain ⟨ga, gc, rfl⟩ := slice_of ho3
    obtain ⟨ua, uc, rfl⟩ := slice_of ho5
    have HB1 := Lib.hid (belS (belS hb (bx_box w1 (.cells #[.string ⟨a0.toArray⟩, .bool a1, .bool a2, .slice ga a3.length gc, .int .i64 a4, .slice ua l.length uc] 34))) (bx_box _ (.cells #[.int .i64 m0, .int .i64 m1, .string ⟨m2.toArray⟩, .int .i64 m3, .int .i64 m4] 36)))
    clear ho3 ho5 hb
    go_wp2_with fail
    exact bodyPost_ret (v := .tuple #[.int .i64 0, .bool false]) (by simp [results, Try.results22, go_sem]) rfl ⟨rfl, HB1.out⟩
end Go.Proofs.Ytlkpinlkbikokaa
/- Parts of one's own: how a law makes them, keeps them beside marks, marks them. Written by gen/ch4om.py. -/
namespace Go.Proofs.Ytlkpinlkbikokaa
set_option linter.unusedVariables false
set_option linter.unusedSimpArgs false
open Go.RowKit
/-- a row of one's own in blocks from F on, said as a reading is -/
structure OSl {α : Type} (f : α → List Value) (E k F : Nat) (w : World) (v : Value) (l : List α) : Prop where
  own : OwnsF f E k w F v l
theorem ownsF_kept {α : Type} {f : α → List Value} {E k : Nat} {w w' : World} {F : Nat} {v : Value} {l : List α} (h : OwnsF f E k w F v l) (hk : Kept F w w') : OwnsF f E k w' F v l := by
  refine ⟨h.1, ?_⟩
  rcases h.2 with h1 | ⟨g, cap, cur, rfl, h2, h3, h4⟩
  · exact Or.inl h1
  · exact Or.inr ⟨g, cap, cur, rfl, h2, (hk.block g h2 (Array.getElem?_eq_some_iff.1 h3).1).trans h3, h4⟩
theorem OSl.keep {α : Type} {f : α → List Value} {E k F m : Nat} {w w' : World} {v : Value} {l : List α} {R : Nat → World → List Value → α → Prop} (h : OSl f E k F w v l) (g : Good R m) (hk : Kept F w w') : OSl f E k F w' v l := ⟨ownsF_kept h.own hk⟩
theorem OSl.below {α : Type} {f : α → List Value} {E k F B m : Nat} {w w' : World} {v : Value} {l : List α} {R : Nat → World → List Value → α → Prop} (h : OSl f E k F w v l) (g : Good R m) (hb : Below B w w') (hB : w.heap.size ≤ B) : OSl f E k F w' v l := ⟨ownsF_below h.own hb hB⟩
theorem OSl.mono {α : Type} {f : α → List Value} {E k F F' m : Nat} {w : World} {v : Value} {l : List α} {R : Nat → World → List Value → α → Prop} (h : OSl f E k F w v l) (g : Good R m) (hF : F' ≤ F) : OSl f E k F' w v l := ⟨ownsF_base h.own hF⟩
theorem toCore_o (v : Value) (x : CoreD) (w : World) (hx : ValAt rCore 0 w v x) (hm : zCore x ≤ 2097152) : Calls Try.prog 41 #[v] w fun e w' => ∃ cs : List Value, e = .returned (.agg cs.toArray) ∧ (∃ v3, cs = [.string ⟨x.fKind.toArray⟩, .bool x.fOn, .bool x.fBroken, v3, .int .i64 x.fCount] ∧ OSl cCell 146 2 w.heap.size w' v3 x.fCells) ∧ Below w.heap.size w w' := by
  obtain ⟨cs, rfl, v3, rfl, h3⟩ := hx
  refine (toCore_any _ x w ⟨v3, rfl, flatAt_of_slice cCell_len (by decide) h3⟩ (by unfold zCore at hm; omega)).mono ?_
  rintro e w' ⟨v, rfl, ⟨cv, rfl, ho⟩, hb⟩
  exact ⟨_, rfl, ⟨cv, rfl, ⟨ho⟩⟩, hb⟩
theorem toLayerS_o (v : Value) (x : List LayerD) (w : World) (hx : SliceAt (rFlat cLayer) 2 0 w v x) (hm : x.length + sumF zLayer x ≤ 2097152) : Calls Try.prog 42 #[v] w fun e w' => ∃ u, e = .returned u ∧ OSl cLayer 80 2 w.heap.size w' u x ∧ Below w.heap.size w w' :=
  (toLayerS_any v x w (flatAt_of_slice cLayer_len (by decide) hx) (by omega)).mono fun e w' h => by
    obtain ⟨h1, h2, h3⟩ := h; exact ⟨_, h1, ⟨h2⟩, h3⟩
set_option maxRecDepth 100000 in
set_option maxHeartbeats 1600000 in
theorem toPart_o (v : Value) (x : PartD) (w : World) (hx : ValAt rPart 0 w v x) (hm : zPart x ≤ 2097152) : Calls Try.prog 10 #[v] w fun e w' => GivesOP x w e w' := by
  obtain ⟨_, rfl, hx⟩ := hx
  obtain ⟨⟨a0_0, a0_1, a0_2, a0_3, a0_4⟩, a1⟩ := x
  obtain ⟨v3, v5, rfl, h3, h5⟩ := hx
  simp only at h3 h5
  simp only [zPart, zCore] at hm
  have HM := Lib.hid hm
  obtain ⟨ra3, rc3, rfl, _⟩ := sliceAt_len h3
  obtain ⟨ra5, rc5, rfl, _⟩ := sliceAt_len h5
  have H3 := Lib.hid h3
  have H5 := Lib.hid h5
  clear hm h3 h5
  have HS := Lib.hid (bx_start3 w [.string ⟨a0_0.toArray⟩, .bool a0_1, .bool a0_2, .slice ra3 a0_3.length rc3, .int .i64 a0_4, .slice ra5 a1.length rc5] [.string ⟨#[]⟩, .bool false, .bool false, .slice none 0 0, .int .i64 0, .slice none 0 0] [.string ⟨#[]⟩, .bool false, .bool false, .slice none 0 0, .int .i64 0, .slice none 0 0] 27 34 34)
  have BA := Lib.hid HS.out.1
  have BB := Lib.hid HS.out.2.1
  have BC := Lib.hid HS.out.2.2.1
  have HB := Lib.hid HS.out.2.2.2
  clear HS
  go_enter Try.func10, Try.ntmps10
  go_wp2_with fail
  generalize ((w.alloc (.cells #[.string ⟨a0_0.toArray⟩, .bool a0_1, .bool a0_2, .slice ra3 a0_3.length rc3, .int .i64 a0_4, .slice ra5 a1.length rc5] 27)).alloc (.cells #[.string ⟨#[]⟩, .bool false, .bool false, .slice none 0 0, .int .i64 0, .slice none 0 0] 34)).alloc (.cells #[.string ⟨#[]⟩, .bool false, .bool false, .slice none 0 0, .int .i64 0, .slice none 0 0] 34) = X1 at *
  refine (toCore_o _ (⟨a0_0, a0_1, a0_2, a0_3, a0_4⟩ : CoreD) _ ⟨_, rfl, _, rfl, (H3.out.below (good_flat cCell_len) HB.out (Nat.le_refl _))⟩ (by simp only [zCore]; have := HM.out; omega)).mono ?_
  rintro e w1 ⟨_, rfl, ⟨u3, rfl, hr3⟩, hb⟩
  have hX : w.heap.size + 3 ≤ X1.heap.size := by have := BC.out.lt; omega
  simp only at hr3
  have R3 := Lib.hid (hr3.mono (good_flat cCell_len) hX)
  obtain ⟨p3, q3, rfl⟩ := slice_of (OSl.own hr3)
  clear hr3
  have BA := Lib.hid (BA.out.below hb)
  have BB := Lib.hid (BB.out.below hb)
  have BC := Lib.hid (BC.out.below hb)
  have HB := Lib.hid (belS (w := w) HB.out hb)
  clear hb hX
  have eA0 := BA.out.cell 0 (by simp)
  have eA1 := BA.out.cell 1 (by simp)
  have eA2 := BA.out.cell 2 (by simp)
  have eA3 := BA.out.cell 3 (by simp)
  have eA4 := BA.out.cell 4 (by simp)
  have eA5 := BA.out.cell 5 (by simp)
  simp only [List.getElem_cons_zero, List.getElem_cons_succ, List.set_cons_zero, List.set_cons_succ] at eA0 eA1 eA2 eA3 eA4 eA5
  have eC0 := BC.out.cell 0 (by simp)
  have fC0 := BC.out.froz 0 (by simp)
  have eC1 := BC.out.cell 1 (by simp)
  have fC1 := BC.out.froz 1 (by simp)
  have eC2 := BC.out.cell 2 (by simp)
  have fC2 := BC.out.froz 2 (by simp)
  have eC3 := BC.out.cell 3 (by simp)
  have fC3 := BC.out.froz 3 (by simp)
  have eC4 := BC.out.cell 4 (by simp)
  have fC4 := BC.out.froz 4 (by simp)
  have eC5 := BC.out.cell 5 (by simp)
  have fC5 := BC.out.froz 5 (by simp)
  simp only [List.getElem_cons_zero, List.getElem_cons_succ, List.set_cons_zero, List.set_cons_succ] at eC0 eC1 eC2 eC3 eC4 eC5
  go_wp2_with fail
  clear eA0 eA1 eA2 eA3 eA4 eA5
  clear eC0 fC0 eC1 fC1 eC2 fC2 eC3 fC3 eC4 fC4 eC5 fC5
  have BC := Lib.hid (BC.out.set 0 (by simp) (.string ⟨a0_0.toArray⟩))
  have BA := Lib.hid (BA.out.other (c := w.heap.size + 1 + 1) (by omega) 0 (.string ⟨a0_0.toArray⟩))
  have BB := Lib.hid (BB.out.other (c := w.heap.size + 1 + 1) (by omega) 0 (.string ⟨a0_0.toArray⟩))
  have HB := Lib.hid (HB.out.setCell (p := ⟨w.heap.size + 1 + 1, 0, none⟩) (by simp; try omega) (.string ⟨a0_0.toArray⟩))
  have BC := Lib.hid (BC.out.set 1 (by simp) (.bool a0_1))
  have BA := Lib.hid (BA.out.other (c := w.heap.size + 1 + 1) (by omega) 1 (.bool a0_1))
  have BB := Lib.hid (BB.out.other (c := w.heap.size + 1 + 1) (by omega) 1 (.bool a0_1))
  have HB := Lib.hid (HB.out.setCell (p := ⟨w.heap.size + 1 + 1, 1, none⟩) (by simp; try omega) (.bool a0_1))
  have BC := Lib.hid (BC.out.set 2 (by simp) (.bool a0_2))
  have BA := Lib.hid (BA.out.other (c := w.heap.size + 1 + 1) (by omega) 2 (.bool a0_2))
  have BB := Lib.hid (BB.out.other (c := w.heap.size + 1 + 1) (by omega) 2 (.bool a0_2))
  have HB := Lib.hid (HB.out.setCell (p := ⟨w.heap.size + 1 + 1, 2, none⟩) (by simp; try omega) (.bool a0_2))
  have BC := Lib.hid (BC.out.set 3 (by simp) (.slice p3 a0_3.length q3))
  have BA := Lib.hid (BA.out.other (c := w.heap.size + 1 + 1) (by omega) 3 (.slice p3 a0_3.length q3))
  have BB := Lib.hid (BB.out.other (c := w.heap.size + 1 + 1) (by omega) 3 (.slice p3 a0_3.length q3))
  have HB := Lib.hid (HB.out.setCell (p := ⟨w.heap.size + 1 + 1, 3, none⟩) (by simp; try omega) (.slice p3 a0_3.length q3))
  have BC := Lib.hid (BC.out.set 4 (by simp) (.int .i64 a0_4))
  have BA := Lib.hid (BA.out.other (c := w.heap.size + 1 + 1) (by omega) 4 (.int .i64 a0_4))
  have BB := Lib.hid (BB.out.other (c := w.heap.size + 1 + 1) (by omega) 4 (.int .i64 a0_4))
  have HB := Lib.hid (HB.out.setCell (p := ⟨w.heap.size + 1 + 1, 4, none⟩) (by simp; try omega) (.int .i64 a0_4))
  have R3 := Lib.hid (R3.out.keep (good_flat cCell_len) ((((((Kept.refl _ _).setCell (p := ⟨w.heap.size + 1 + 1, 0, none⟩) (by simp) (.string ⟨a0_0.toArray⟩)).setCell (p := ⟨w.heap.size + 1 + 1, 1, none⟩) (by simp) (.bool a0_1)).setCell (p := ⟨w.heap.size + 1 + 1, 2, none⟩) (by simp) (.bool a0_2)).setCell (p := ⟨w.heap.size + 1 + 1, 3, none⟩) (by simp) (.slice p3 a0_3.length q3)).setCell (p := ⟨w.heap.size + 1 + 1, 4, none⟩) (by simp) (.int .i64 a0_4)))
  simp only [List.set_cons_zero, List.set_cons_succ] at BC
  generalize (((((w1).setCell ⟨w.heap.size + 1 + 1, 0, none⟩ (.string ⟨a0_0.toArray⟩)).setCell ⟨w.heap.size + 1 + 1, 1, none⟩ (.bool a0_1)).setCell ⟨w.heap.size + 1 + 1, 2, none⟩ (.bool a0_2)).setCell ⟨w.heap.size + 1 + 1, 3, none⟩ (.slice p3 a0_3.length q3)).setCell ⟨w.heap.size + 1 + 1, 4, none⟩ (.int .i64 a0_4) = X2 at *
  refine (toLayerS_o _ a1 _ (H5.out.below (good_flat cLayer_len) HB.out (Nat.le_refl _)) (by have := HM.out; omega)).mono ?_
  rintro e w2 ⟨u5, rfl, hr5, hb⟩
  have hX : w.heap.size + 3 ≤ X2.heap.size := by have := BC.out.lt; omega
  have R3 := Lib.hid (R3.out.keep (good_flat cCell_len) (kept_below hb (Nat.le_refl _)))
  have R5 := Lib.hid (hr5.mono (good_flat cLayer_len) hX)
  obtain ⟨p5, q5, rfl⟩ := slice_of (OSl.own hr5)
  clear hr5
  have BA := Lib.hid (BA.out.below hb)
  have BB := Lib.hid (BB.out.below hb)
  have BC := Lib.hid (BC.out.below hb)
  have HB := Lib.hid (belS (w := w) HB.out hb)
  clear hb hX
  have eA0 := BA.out.cell 0 (by simp)
  have eA1 := BA.out.cell 1 (by simp)
  have eA2 := BA.out.cell 2 (by simp)
  have eA3 := BA.out.cell 3 (by simp)
  have eA4 := BA.out.cell 4 (by simp)
  have eA5 := BA.out.cell 5 (by simp)
  simp only [List.getElem_cons_zero, List.getElem_cons_succ, List.set_cons_zero, List.set_cons_succ] at eA0 eA1 eA2 eA3 eA4 eA5
  have eC0 := BC.out.cell 0 (by simp)
  have fC0 := BC.out.froz 0 (by simp)
  have eC1 := BC.out.cell 1 (by simp)
  have fC1 := BC.out.froz 1 (by simp)
  have eC2 := BC.out.cell 2 (by simp)
  have fC2 := BC.out.froz 2 (by simp)
  have eC3 := BC.out.cell 3 (by simp)
  have fC3 := BC.out.froz 3 (by simp)
  have eC4 := BC.out.cell 4 (by simp)
  have fC4 := BC.out.froz 4 (by simp)
  have eC5 := BC.out.cell 5 (by simp)
  have fC5 := BC.out.froz 5 (by simp)
  simp only [List.getElem_cons_zero, List.getElem_cons_succ, List.set_cons_zero, List.set_cons_succ] at eC0 eC1 eC2 eC3 eC4 eC5
  have eB0 := BB.out.cell 0 (by simp)
  have fB0 := BB.out.froz 0 (by simp)
  have eB1 := BB.out.cell 1 (by simp)
  have fB1 := BB.out.froz 1 (by simp)
  have eB2 := BB.out.cell 2 (by simp)
  have fB2 := BB.out.froz 2 (by simp)
  have eB3 := BB.out.cell 3 (by simp)
  have fB3 := BB.out.froz 3 (by simp)
  have eB4 := BB.out.cell 4 (by simp)
  have fB4 := BB.out.froz 4 (by simp)
  have eB5 := BB.out.cell 5 (by simp)
  have fB5 := BB.out.froz 5 (by simp)
  simp only [List.getElem_cons_zero, List.getElem_cons_succ, List.set_cons_zero, List.set_cons_succ] at eB0 eB1 eB2 eB3 eB4 eB5
  go_wp2_with fail
  clear eA0 eA1 eA2 eA3 eA4 eA5
  clear eC0 fC0 eC1 fC1 eC2 fC2 eC3 fC3 eC4 fC4 eC5 fC5
  clear eB0 fB0 eB1 fB1 eB2 fB2 eB3 fB3 eB4 fB4 eB5 fB5
  have BC := Lib.hid (BC.out.set 5 (by simp) (.slice p5 a1.length q5))
  have BA := Lib.hid (BA.out.other (c := w.heap.size + 1 + 1) (by omega) 5 (.slice p5 a1.length q5))
  have BB := Lib.hid (BB.out.other (c := w.heap.size + 1 + 1) (by omega) 5 (.slice p5 a1.length q5))
  have HB := Lib.hid (HB.out.setCell (p := ⟨w.heap.size + 1 + 1, 5, none⟩) (by simp; try omega) (.slice p5 a1.length q5))
  have R3 := Lib.hid (R3.out.keep (good_flat cCell_len) ((Kept.refl _ _).setCell (p := ⟨w.heap.size + 1 + 1, 5, none⟩) (by simp) (.slice p5 a1.length q5)))
  have R5 := Lib.hid (R5.out.keep (good_flat cLayer_len) ((Kept.refl _ _).setCell (p := ⟨w.heap.size + 1 + 1, 5, none⟩) (by simp) (.slice p5 a1.length q5)))
  simp only [List.set_cons_zero, List.set_cons_succ] at BC
  have BB := Lib.hid (BB.out.set 0 (by simp) (.string ⟨a0_0.toArray⟩))
  have HB := Lib.hid (HB.out.setCell (p := ⟨w.heap.size + 1, 0, none⟩) (by simp; try omega) (.string ⟨a0_0.toArray⟩))
  have BB := Lib.hid (BB.out.set 1 (by simp) (.bool a0_1))
  have HB := Lib.hid (HB.out.setCell (p := ⟨w.heap.size + 1, 1, none⟩) (by simp; try omega) (.bool a0_1))
  have BB := Lib.hid (BB.out.set 2 (by simp) (.bool a0_2))
  have HB := Lib.hid (HB.out.setCell (p := ⟨w.heap.size + 1, 2, none⟩) (by simp; try omega) (.bool a0_2))
  have BB := Lib.hid (BB.out.set 3 (by simp) (.slice p3 a0_3.length q3))
  have HB := Lib.hid (HB.out.setCell (p := ⟨w.heap.size + 1, 3, none⟩) (by simp; try omega) (.slice p3 a0_3.length q3))
  have BB := Lib.hid (BB.out.set 4 (by simp) (.int .i64 a0_4))
  have HB := Lib.hid (HB.out.setCell (p := ⟨w.heap.size + 1, 4, none⟩) (by simp; try omega) (.int .i64 a0_4))
  have BB := Lib.hid (BB.out.set 5 (by simp) (.slice p5 a1.length q5))
  have HB := Lib.hid (HB.out.setCell (p := ⟨w.heap.size + 1, 5, none⟩) (by simp; try omega) (.slice p5 a1.length q5))
  have R3 := Lib.hid ((R3.out.keep (good_flat cCell_len) (((((((Kept.refl _ _).setCell (p := ⟨w.heap.size + 1, 0, none⟩) (by simp) (.string ⟨a0_0.toArray⟩)).setCell (p := ⟨w.heap.size + 1, 1, none⟩) (by simp) (.bool a0_1)).setCell (p := ⟨w.heap.size + 1, 2, none⟩) (by simp) (.bool a0_2)).setCell (p := ⟨w.heap.size + 1, 3, none⟩) (by simp) (.slice p3 a0_3.length q3)).setCell (p := ⟨w.heap.size + 1, 4, none⟩) (by simp) (.int .i64 a0_4)).setCell (p := ⟨w.heap.size + 1, 5, none⟩) (by simp) (.slice p5 a1.length q5))).mono (good_flat cCell_len) (show w.heap.size ≤ w.heap.size + 3 by omega))
  have R5 := Lib.hid ((R5.out.keep (good_flat cLayer_len) (((((((Kept.refl _ _).setCell (p := ⟨w.heap.size + 1, 0, none⟩) (by simp) (.string ⟨a0_0.toArray⟩)).setCell (p := ⟨w.heap.size + 1, 1, none⟩) (by simp) (.bool a0_1)).setCell (p := ⟨w.heap.size + 1, 2, none⟩) (by simp) (.bool a0_2)).setCell (p := ⟨w.heap.size + 1, 3, none⟩) (by simp) (.slice p3 a0_3.length q3)).setCell (p := ⟨w.heap.size + 1, 4, none⟩) (by simp) (.int .i64 a0_4)).setCell (p := ⟨w.heap.size + 1, 5, none⟩) (by simp) (.slice p5 a1.length q5))).mono (good_flat cLayer_len) (show w.heap.size ≤ w.heap.size + 3 by omega))
  simp only [List.set_cons_zero, List.set_cons_succ] at BB
  generalize (((((((w2).setCell ⟨w.heap.size + 1 + 1, 5, none⟩ (.slice p5 a1.length q5)).setCell ⟨w.heap.size + 1, 0, none⟩ (.string ⟨a0_0.toArray⟩)).setCell ⟨w.heap.size + 1, 1, none⟩ (.bool a0_1)).setCell ⟨w.heap.size + 1, 2, none⟩ (.bool a0_2)).setCell ⟨w.heap.size + 1, 3, none⟩ (.slice p3 a0_3.length q3)).setCell ⟨w.heap.size + 1, 4, none⟩ (.int .i64 a0_4)).setCell ⟨w.heap.size + 1, 5, none⟩ (.slice p5 a1.length q5) = WE at *
  have eB0 := BB.out.cell 0 (by simp)
  have eB1 := BB.out.cell 1 (by simp)
  have eB2 := BB.out.cell 2 (by simp)
  have eB3 := BB.out.cell 3 (by simp)
  have eB4 := BB.out.cell 4 (by simp)
  have eB5 := BB.out.cell 5 (by simp)
  simp only [List.getElem_cons_zero, List.getElem_cons_succ, List.set_cons_zero, List.set_cons_succ] at eB0 eB1 eB2 eB3 eB4 eB5
  exact bodyPost_ret (v := .agg #[.string ⟨a0_0.toArray⟩, .bool a0_1, .bool a0_2, .slice p3 a0_3.length q3, .int .i64 a0_4, .slice p5 a1.length q5]) (by simp [results, Try.results10, go_sem, eB0, eB1, eB2, eB3, eB4, eB5]) rfl ⟨_, rfl, ⟨_, _, rfl, ownsF_base (OSl.own R3.out) (by omega), ownsF_base (OSl.own R5.out) (by omega)⟩, HB.out⟩
/-- a part of one's own, in the blocks from lo on and below hi -/
def OwnP (w : World) (lo hi : Nat) (cs : List Value) (x : PartD) : Prop := ∃ v3 v5, cs = [.string ⟨x.fCore.fKind.toArray⟩, .bool x.fCore.fOn, .bool x.fCore.fBroken, v3, .int .i64 x.fCore.fCount, v5] ∧ OwnR cCell 146 2 w lo hi v3 x.fCore.fCells ∧ OwnR cLayer 80 2 w lo hi v5 x.fLayers
theorem ownP_of {w : World} {lo : Nat} {cs : List Value} {x : PartD} (h : oPart w lo cs x) : OwnP w lo w.heap.size cs x := by
  obtain ⟨v3, v5, rfl, h3, h5⟩ := h; exact ⟨v3, v5, rfl, ownR_of h3, ownR_of h5⟩
theorem ownP_below {w w' : World} {lo hi B' : Nat} {cs : List Value} {x : PartD} (h : OwnP w lo hi cs x) (hb : Below B' w w') (hB : w.heap.size ≤ B') : OwnP w' lo hi cs x := by
  obtain ⟨v3, v5, rfl, h3, h5⟩ := h; exact ⟨v3, v5, rfl, ownR_below h3 hb hB, ownR_below h5 hb hB⟩
theorem ownP_betw {w w' : World} {lo hi lo2 hi2 : Nat} {cs : List Value} {x : PartD} (h : OwnP w lo hi cs x) (hb : Betw lo2 hi2 w w') (hd : hi ≤ lo2 ∨ hi2 ≤ lo) : OwnP w' lo hi cs x := by
  obtain ⟨v3, v5, rfl, h3, h5⟩ := h; exact ⟨v3, v5, rfl, ownR_betw h3 hb hd, ownR_betw h5 hb hd⟩
theorem ownP_at {w : World} {lo hi : Nat} {cs : List Value} {x : PartD} (h : OwnP w lo hi cs x) (h1 : x.fCore.fCells.length ≤ 4194304) (h2 : x.fLayers.length ≤ 4194304) : rPart 0 w cs x := by
  obtain ⟨v3, v5, rfl, h3, h5⟩ := h
  exact ⟨v3, v5, rfl, (sliceAt_of_owns cCell_len h3.1 h1).mono (good_flat cCell_len) (Nat.zero_le _), (sliceAt_of_owns cLayer_len h5.1 h2).mono (good_flat cLayer_len) (Nat.zero_le _)⟩
/-- what marks make of a part -/
def marksP (k : Int) (x : PartD) : PartD := ⟨{ x.fCore with fCells := marksCell k x.fCore.fCells.length }, marksLayer (k + x.fCore.fCells.length * 2) x.fLayers.length⟩
def countP (x : PartD) : Int := x.fCore.fCells.length * 2 + x.fLayers.length * 2
end Go.Proofs.Ytlkpinlkbikokaa
/- Marks of a part, and what holds them. -/
namespace Go.Proofs.Ytlkpinlkbikokaa
set_option linter.unusedVariables false
set_option linter.unusedSimpArgs false
open Go.RowKit
theorem betw_grown {lo hi : Nat} {w w' : World} {r : Option Nat} (h : w.grownBy w' r) (hr : ∀ g, r = some g → lo ≤ g ∧ g < hi) : Betw lo hi w w' :=
  ⟨h.os, h.tape, h.output, h.size, fun k hk hd => h.block k hk (fun e => by have := hr k e.symm; omega)⟩
theorem betw_trans {lo hi : Nat} {a b c : World} (h : Betw lo hi a b) (k : Betw lo hi b c) : Betw lo hi a c :=
  ⟨k.os.trans h.os, k.tape.trans h.tape, k.output.trans h.output, Nat.le_trans h.size k.size, fun i hi hd => (k.block i (Nat.lt_of_lt_of_le hi h.size) hd).trans (h.block i hi hd)⟩
theorem betw_alloc {lo hi : Nat} (w : World) (o : Obj) : Betw lo hi w (w.alloc o) := ⟨(bx_box w o).os, (bx_box w o).tape, (bx_box w o).output, (bx_box w o).size, fun k hk _ => (bx_box w o).block k hk⟩
theorem ownR_mk {α : Type} {f : α → List Value} {E k : Nat} {w : World} {lo hi : Nat} {v : Value} {l : List α} (h : OwnsF f E k w lo v l) (h2 : ∀ g, v.ownBlock = some g → g < hi) : OwnR f E k w lo hi v l := ⟨h, h2⟩
theorem own_loP {w : World} {B : Nat} {cs : List Value} {x : PartD} (ho : oPart w B cs x) : ∃ L, L = B ∧ oPart w L cs x := ⟨B, rfl, ho⟩
theorem oPart_0 {w : World} {B : Nat} {cs : List Value} {x : PartD} (h : oPart w B cs x) (hs : SmallP x) : rPart 0 w cs x := goodPart.mono (oPart_r h hs) (Nat.zero_le _)
set_option maxRecDepth 100000 in
set_option maxHeartbeats 1600000 in
theorem markPart_o (lo hi : Nat) (cs : List Value) (x : PartD) (k : Int) (w : World) (h : OwnP w lo hi cs x) (hm : x.fCore.fCells.length ≤ 1048576) (hm2 : x.fLayers.length ≤ 1048576) (h0 : 1 ≤ k) (h1 : k ≤ 8388608) :
    Calls Try.prog 14 #[.agg cs.toArray, .int .i64 k] w fun e w' => e = .returned (.int .i64 (k + x.fCore.fCells.length * 2 + x.fLayers.length * 2)) ∧ OwnP w' lo hi cs (marksP k x) ∧ Betw lo hi w w' := by
  obtain ⟨v3, v5, rfl, h3, h5⟩ := h
  obtain ⟨⟨a0, a1, a2, a3, a4⟩, l⟩ := x
  unfold OwnP marksP
  simp only at h3 h5 hm hm2 ⊢
  obtain ⟨ra, rc, rfl⟩ := slice_of h3.1
  obtain ⟨sa, sc, rfl⟩ := slice_of h5.1
  have HA := Lib.hid (bx_box w (.cells #[.string ⟨a0.toArray⟩, .bool a1, .bool a2, .slice ra a3.length rc, .int .i64 a4, .slice sa l.length sc] 34))
  have BX := Lib.hid (Bx.new w [.string ⟨a0.toArray⟩, .bool a1, .bool a2, .slice ra a3.length rc, .int .i64 a4, .slice sa l.length sc] 34)
  have H3 := Lib.hid (ownsF_below h3.1 HA.out (Nat.le_refl _))
  have H5 := Lib.hid (ownsF_below h5.1 HA.out (Nat.le_refl _))
  have L3 := Lib.hid (fun g e => And.intro (World.ownsRow.lt h3.1 g e).1 (h3.2 g e))
  have L5 := Lib.hid (fun g e => And.intro (World.ownsRow.lt h5.1 g e).1 (h5.2 g e))
  have N3 := Lib.hid (show (Value.slice ra a3.length rc).ownBlock ≠ some w.heap.size from fun e => by have := (World.ownsRow.lt h3.1 _ e).2; omega)
  have HMC := Lib.hid (fun W (hO : OwnsF cCell 146 2 W lo (.slice ra a3.length rc) a3) => markCore_c lo (.slice ra a3.length rc) ⟨a0, a1, a2, a3, a4⟩ k W hO (by simp only; omega) h0 (by omega))
  unfold vCore at HMC
  simp only at HMC
  clear h3 h5
  have hk2 : k + (a3.length : Int) * 2 ≤ 16777216 := by omega
  have hk3 : 1 ≤ k + (a3.length : Int) * 2 := by omega
  go_enter Try.func14, Try.ntmps14
  go_wp2_with fail
  refine (HMC.out _ H3.out).mono ?_
  rintro e w1 ⟨rfl, ho, hg⟩
  have O3 := Lib.hid ho
  have O5 := Lib.hid (ownsF_keptF H5.out H3.out hg (by decide))
  have BX1 := Lib.hid (BX.out.grown hg N3.out)
  have BT := Lib.hid (betw_trans (betw_alloc w _) (betw_grown hg L3.out))
  clear ho hg
  have e5 := BX1.out.cell 5 (by simp)
  simp only [List.getElem_cons_zero, List.getElem_cons_succ] at e5
  go_wp2_with fail
  clear e5
  refine (markLayerS_any lo _ l (k + (a3.length : Int) * 2) _ O5.out (by omega) hk3 hk2).mono ?_
  rintro e w2 ⟨rfl, ho, hg⟩
  have P5 := Lib.hid ho
  have P3 := Lib.hid (ownsF_keptF O3.out O5.out hg (by decide))
  have BT2 := Lib.hid (betw_trans BT.out (betw_grown hg L5.out))
  clear ho hg
  go_wp2_with fail
  go_ret
  exact ⟨rfl, ⟨_, _, by simp, ⟨P3.out, fun g e => (L3.out g e).2⟩, ⟨P5.out, fun g e => (L5.out g e).2⟩⟩, BT2.out⟩
set_option maxRecDepth 100000 in
set_option maxHeartbeats 1600000 in
theorem heldPart_o (cs : List Value) (x : PartD) (k : Int) (w : World) (h : rPart 0 w cs (marksP k x)) (hm : x.fCore.fCells.length ≤ 1048576) (hm2 : x.fLayers.length ≤ 1048576) (h0 : 1 ≤ k) (h1 : k ≤ 8388608) :
    Calls Try.prog 15 #[.agg cs.toArray, .int .i64 k] w fun e w' => e = .returned (.int .i64 (k + x.fCore.fCells.length * 2 + x.fLayers.length * 2)) ∧ Below w.heap.size w w' := by
  obtain ⟨v3, v5, rfl, h3, h5⟩ := h
  obtain ⟨⟨a0, a1, a2, a3, a4⟩, l⟩ := x
  unfold marksP at h3 h5 ⊢
  simp only at h3 h5 hm hm2 ⊢
  obtain ⟨ra, rc, rfl, _⟩ := sliceAt_len h3
  obtain ⟨sa, sc, rfl, _⟩ := sliceAt_len h5
  have HA := Lib.hid (bx_box w (.cells #[.string ⟨a0.toArray⟩, .bool a1, .bool a2, .slice ra (marksCell k a3.length).length rc, .int .i64 a4, .slice sa (marksLayer (k + (a3.length : Int) * 2) l.length).length sc] 34))
  have BX := Lib.hid (Bx.new w [.string ⟨a0.toArray⟩, .bool a1, .bool a2, .slice ra (marksCell k a3.length).length rc, .int .i64 a4, .slice sa (marksLayer (k + (a3.length : Int) * 2) l.length).length sc] 34)
  have H5 := Lib.hid h5
  have HH := Lib.hid (fun W (hb : Below w.heap.size w W) => heldCore_any (vCore ⟨a0, a1, a2, marksCell k a3.length, a4⟩ (.slice ra (marksCell k a3.length).length rc)) ⟨a0, a1, a2, [], a4⟩ a3.length k W ⟨_, rfl, FlatAt.below (flatAt_of_slice cCell_len (by decide) h3) hb (Nat.le_refl _)⟩ (by omega) h0 (by omega))
  unfold vCore at HH
  simp only at HH
  clear h3 h5
  have hk2 : k + (a3.length : Int) * 2 ≤ 16777216 := by omega
  have hk3 : 1 ≤ k + (a3.length : Int) * 2 := by omega
  generalize (marksCell k a3.length).length = n3 at *
  have HL := Lib.hid (fun W (hb : Below w.heap.size w W) => heldLayerS_any (.slice sa (marksLayer (k + (a3.length : Int) * 2) l.length).length sc) l.length (k + (a3.length : Int) * 2) W (flatAt_of_slice cLayer_len (by decide) (SliceAt.below H5.out (good_flat cLayer_len) hb (Nat.le_refl _))) (by omega) hk3 hk2)
  generalize (marksLayer (k + (a3.length : Int) * 2) l.length).length = n5 at *
  go_enter Try.func15, Try.ntmps15
  go_wp2_with fail
  refine (HH.out _ HA.out).mono ?_
  rintro e w1 ⟨rfl, hb⟩
  have HB := Lib.hid (belS HA.out hb)
  have BX1 := Lib.hid (BX.out.below hb)
  clear hb
  have e5 := BX1.out.cell 5 (by simp)
  simp only [List.getElem_cons_zero, List.getElem_cons_succ] at e5
  go_wp2_with fail
  clear e5
  refine (HL.out _ HB.out).mono ?_
  rintro e w2 ⟨rfl, hb⟩
  have HB2 := Lib.hid (belS HB.out hb)
  clear hb
  go_wp2_with fail
  go_ret
  exact ⟨rfl, HB2.out⟩
end Go.Proofs.Ytlkpinlkbikokaa
/- Rows of texts as rows of flat elements: the laws' helpers in that form. -/
namespace Go.Proofs.Ytlkpinlkbikokaa
set_option linter.unusedVariables false
open Go.RowKit
theorem ownsF_str {w : World} {B : Nat} {v : Value} {x : List (List UInt8)} (h : Owns w B v x) : OwnsF cStr 9 1 w B v x := by unfold OwnsF; rw [cStr_map]; exact h
theorem owns_strF {w : World} {B : Nat} {v : Value} {x : List (List UInt8)} (h : OwnsF cStr 9 1 w B v x) : Owns w B v x := by unfold OwnsF at h; rw [cStr_map] at h; exact h
theorem givesF_str {x : List (List UInt8)} {w : World} {e : Ending} {w' : World} (h : GivesRow x w e w') : GivesF cStr 9 1 x w e w' := by
  obtain ⟨v, h1, h2, h3⟩ := h; exact ⟨v, h1, ownsF_str h2, h3⟩
theorem eqStringS_f (v u : Value) (x y : List (List UInt8)) (w : World) (hx : FlatAt cStr 1 w v x) (hy : FlatAt cStr 1 w u y) : Calls Try.prog 20 #[v, u] w fun e w' => e = .returned (.bool (decide (x = y))) ∧ Below w.heap.size w w' :=
  eqStringS_any v u x y w (row_of_flat hx) (row_of_flat hy)
theorem marksString_len (k : Int) (n : Nat) : (marks k n).length = n := marks_len k n
theorem markStringS_f (B : Nat) (v : Value) (x : List (List UInt8)) (k : Int) (w : World) (hO : OwnsF cStr 9 1 w B v x) (hm : x.length ≤ 4194304) (h0 : 1 ≤ k) (h1 : k ≤ 4194304) :
    Calls Try.prog 21 #[v, .int .i64 k] w fun e w' => e = .returned (.int .i64 (k + x.length)) ∧ OwnsF cStr 9 1 w' B v (marks k x.length) ∧ w.grownBy w' v.ownBlock :=
  (markStringS_any B v x k w (owns_strF hO) hm h0 h1).mono fun e w' ⟨h1, h2, h3⟩ => ⟨h1, ownsF_str h2, h3⟩
theorem szStringS_f (v : Value) (x : List (List UInt8)) (left : Int) (w : World) (hx : FlatAt cStr 1 w v x) (hs : ∀ s ∈ x, s.length ≤ maxLen) (h0 : 0 ≤ left) (h1 : left ≤ 1099511627776) :
    Calls Try.prog 16 #[v, .int .i64 left] w fun e w' => SzF ((x.length + sumF List.length x : Nat) : Int) left w e w' :=
  (szStringS_any v x left w (row_of_flat hx) hs h0 h1).mono fun e w' ⟨r, h1, h2, h3, h4⟩ => ⟨r, h1, h2, fun h => by rw [← total_sum]; have := h3 h; push_cast; omega, by subst h4; exact Below.refl _ _⟩
theorem toStringS_f (v : Value) (x : List (List UInt8)) (w : World) (hx : FlatAt cStr 1 w v x) (hm : x.length ≤ 2097152) :
    Calls Try.prog 18 #[v] w fun e w' => e = .returned (.slice (some ⟨w.heap.size, 0, none⟩) x.length x.length) ∧ OwnsF cStr 9 1 w' w.heap.size (.slice (some ⟨w.heap.size, 0, none⟩) x.length x.length) x ∧ Below w.heap.size w w' :=
  (toStringS_any v x w (row_of_flat hx) hm).mono fun e w' ⟨h1, h2, h3⟩ => ⟨h1, ownsF_str h2, h3⟩
theorem toStringS_g (v : Value) (x : List (List UInt8)) (w : World) (hx : FlatAt cStr 1 w v x) (hm : x.length ≤ 2097152) :
    Calls Try.prog 18 #[v] w fun e w' => GivesF cStr 9 1 x w e w' :=
  (toStringS_f v x w hx hm).mono fun e w' ⟨h1, h2, h3⟩ => ⟨_, h1, h2, h3⟩
end Go.Proofs.Ytlkpinlkbikokaa
/- Arguments opened: structs by value, slices of structs. -/
namespace Go.Proofs.Ytlkpinlkbikokaa
set_option linter.unusedVariables false
open Go.ChangeShapes Go.WideShapes Go.ChangeAt Go.RowKit Go.WideMaps Go.WideElems
open Go.Deep
section
variable {H : Type} {enc : TypeId × Value → H} {P : Program} {W : World}
theorem leaf_str {n : Nat} {t : TypeId} {c : Value} {x : DataW H × List MemPlace} (ht : P.underlying t = some .string) (h : DataW.trod enc P W 0 (fun _ => true) true n t [c] = some x) : ∃ l : List UInt8, c = .string ⟨l.toArray⟩ ∧ l.length ≤ maxLen := by
  obtain ⟨s, h1, _, h3⟩ := DataW.trod_string ht h
  injection h1 with h1
  exact ⟨s.data.toList, by rw [h1], by rw [Array.length_toList]; exact h3⟩
theorem leaf_int {n : Nat} {t : TypeId} {c : Value} {x : DataW H × List MemPlace} (ht : P.underlying t = some (.int .i64)) (h : DataW.trod enc P W 0 (fun _ => true) true n t [c] = some x) : ∃ z : Int, c = .int .i64 z ∧ -9223372036854775808 ≤ z ∧ z ≤ 9223372036854775807 := by
  obtain ⟨z, h1, _, h3⟩ := DataW.trod_int ht h
  injection h1 with h1
  exact ⟨z, h1, bounds_i64 h3⟩
theorem leaf_bool {n : Nat} {t : TypeId} {c : Value} {x : DataW H × List MemPlace} (ht : P.underlying t = some .bool) (h : DataW.trod enc P W 0 (fun _ => true) true n t [c] = some x) : ∃ b : Bool, c = .bool b := by
  obtain ⟨b, h1, _⟩ := DataW.trod_bool ht h
  injection h1 with h1
  exact ⟨b, h1⟩
theorem field_at {fs : Array Field} {n : Nat} {cs : List Value} {xs : List (DataW H × List MemPlace)} (hl : xs.length = fs.size)
    (hf : ∀ (i : Nat) (f : Field), fs[i]? = some f → DataW.trod enc P W 0 (fun _ => true) true n f.type ((cs.drop f.offset).take (P.cellsOf f.type)) = xs[i]?) (i : Nat) (f : Field) (h : fs[i]? = some f) :
    ∃ x, DataW.trod enc P W 0 (fun _ => true) true n f.type ((cs.drop f.offset).take (P.cellsOf f.type)) = some x := by
  have hi : i < fs.size := (Array.getElem?_eq_some_iff.1 h).1
  exact ⟨xs[i]'(by omega), by rw [hf i f h, List.getElem?_eq_getElem]⟩
theorem field_one {fs : Array Field} {n : Nat} {cs : List Value} {xs : List (DataW H × List MemPlace)} (hl : xs.length = fs.size)
    (hf : ∀ (i : Nat) (f : Field), fs[i]? = some f → DataW.trod enc P W 0 (fun _ => true) true n f.type ((cs.drop f.offset).take (P.cellsOf f.type)) = xs[i]?) (i : Nat) (f : Field) (T o : Nat) (c : Value) (r : List Value) (h : fs[i]? = some f) (hT : f.type = T) (ho : f.offset = o) (hc : P.cellsOf T = 1) (hd : cs.drop o = c :: r) :
    ∃ x, DataW.trod enc P W 0 (fun _ => true) true n T [c] = some x := by
  obtain ⟨x, hx⟩ := field_at hl hf i f h
  subst hT; subst ho
  rw [hc, hd] at hx
  exact ⟨x, hx⟩
/-- a slice of structs of texts and numbers -/
theorem open_flat {α : Type} [Inhabited α] {f : α → List Value} {k : Nat} {G : α → Prop} (hk : ∀ x, (f x).length = k) (hk0 : 0 < k) {t e : TypeId} {n : Nat} {v : Value} {x : DataW H × List MemPlace} (ht : P.underlying t = some (.slice e)) (hc : P.cellsOf e = k)
    (hel : ∀ n cs x, DataW.trod enc P W 0 (fun _ => true) true n e cs = some x → ∃ d, cs = f d ∧ G d) (h : DataW.trod enc P W 0 (fun _ => true) true n t [v] = some x) :
    ∃ l : List α, FlatAt f k W v l ∧ ∀ d ∈ l, G d := by
  rcases open_slice ht h with ⟨h0, _⟩ | ⟨a, len, cap, m, n', D, Pl, hcs, _, hl, hm, hmm, _, hx⟩
  · injection h0 with h0
    subst h0
    exact ⟨[], ⟨none, 0, rfl, by simp, Nat.zero_le _, Or.inl rfl⟩, by simp⟩
  · injection hcs with hcs
    subst hcs
    simp only [if_true] at hmm
    subst hmm
    obtain ⟨F, hF⟩ := choose_lt (α := α) (p := fun i d => (∀ j, j < k → W.cell? ((a.add (i * k)).add j) = (f d)[j]?) ∧ G d) (n := m) (fun i hi => by
      obtain ⟨cs', h1, h2⟩ := hx i hi
      obtain ⟨d, rfl, hg⟩ := hel _ _ _ h2
      rw [hc] at h1
      obtain ⟨_, _, h3⟩ := World.cells?_some h1
      exact ⟨d, h3, hg⟩)
    refine ⟨(List.range len).map F, ?_, ?_⟩
    · obtain ⟨ab, ao, spot⟩ := a
      refine ⟨some ⟨ab, ao, spot⟩, m - len, by simp; omega, by rw [flat_len f k hk, List.length_map], by simp; omega, ?_⟩
      rcases Nat.eq_zero_or_pos len with h0 | hpos
      · left; simp [h0]
      · right
        have g0 := (hF 0 (by omega)).1 0 hk0
        have hlen0 : 0 < (f (F 0)).length := by rw [hk]; exact hk0
        rw [List.getElem?_eq_getElem hlen0] at g0
        have hspot : spot = none := by
          have := World.cell?_spot g0
          simpa [Addr.add] using this
        subst hspot
        have hlt : ab < W.heap.size := by
          simp only [Addr.add_lit, Nat.zero_mul, Nat.add_zero] at g0
          exact World.block_lt_of_cell? W _ g0
        refine ⟨ab, ao, rfl, hlt, fun i hi => ?_⟩
        rw [List.length_map, List.length_range] at hi
        have hq : i / k < len := Nat.div_lt_of_lt_mul (by rw [Nat.mul_comm]; exact hi)
        have hr : i % k < k := Nat.mod_lt _ hk0
        have h1 := (hF (i / k) (by omega)).1 (i % k) hr
        rw [Addr.add_lit, Addr.add_lit] at h1
        have e1 : i / k * k + i % k = i := by rw [Nat.mul_comm]; exact Nat.div_add_mod i k
        rw [show ao + i / k * k + i % k = ao + i by omega] at h1
        rw [h1, ← e1, flat_get f k hk _ (i / k) (by simpa using hq) (i % k) hr]
        simp [e1]
    · intro d hd
      obtain ⟨i, hi, rfl⟩ := List.mem_map.1 hd
      exact (hF i (by have := List.mem_range.1 hi; omega)).2
theorem two_of {α : Type} {l : List α} (h : l.length = 2) : ∃ a b, l = [a, b] := by match l, h with | [a, b], _ => exact ⟨a, b, rfl⟩
theorem three_of {α : Type} {l : List α} (h : l.length = 3) : ∃ a b c, l = [a, b, c] := by match l, h with | [a, b, c], _ => exact ⟨a, b, c, rfl⟩
theorem four_of {α : Type} {l : List α} (h : l.length = 4) : ∃ a b c d, l = [a, b, c, d] := by match l, h with | [a, b, c, d], _ => exact ⟨a, b, c, d, rfl⟩
theorem five_of {α : Type} {l : List α} (h : l.length = 5) : ∃ a b c d e, l = [a, b, c, d, e] := by match l, h with | [a, b, c, d, e], _ => exact ⟨a, b, c, d, e, rfl⟩
end
section
variable {H : Type} {enc : TypeId × Value → H} {W : World}
set_option maxRecDepth 100000 in
theorem open_Cell {n : Nat} {cs : List Value} {x : DataW H × List MemPlace} (h : DataW.trod enc Try.prog W 0 (fun _ => true) true n 148 cs = some x) : ∃ d : CellD, cs = cCell d ∧ okCell d := by
  obtain ⟨xs, m, rfl, _, hl, hn, hf⟩ := DataW.trod_struct Try.underlying148 h
  rw [show Try.prog.cellsOf 148 = 2 by kernel_rfl] at hl
  obtain ⟨c0, c1, rfl⟩ := two_of hl
  obtain ⟨y0, k0⟩ := field_one hn hf 0 _ 9 0 _ _ rfl rfl rfl (by kernel_rfl) rfl
  obtain ⟨y1, k1⟩ := field_one hn hf 1 _ 3 1 _ _ rfl rfl rfl (by kernel_rfl) rfl
  obtain ⟨l0, rfl, b0⟩ := leaf_str Try.underlying9 k0
  obtain ⟨l1, rfl, b1⟩ := leaf_int Try.underlying3 k1
  exact ⟨⟨l0, l1⟩, rfl, b0, b1⟩
set_option maxRecDepth 100000 in
theorem openS_Cell {n : Nat} {v : Value} {x : DataW H × List MemPlace} (h : DataW.trod enc Try.prog W 0 (fun _ => true) true n 22 [v] = some x) : ∃ l : List CellD, FlatAt cCell 2 W v l ∧ ∀ d ∈ l, okCell d :=
  haveI : Inhabited CellD := ⟨⟨[], 0⟩⟩
  open_flat cCell_len (by decide) Try.underlying22 (by kernel_rfl) (fun _ _ _ h => open_Cell h) h
set_option maxRecDepth 100000 in
theorem argS_Cell {base : Nat} {v : Value} {d : DataW H} {p : List MemPlace} (hval : Value.okWide Try.prog W .any base 22 v) (h : DataW.Trod enc Try.prog W 0 (fun _ => true) true 22 v d p) : ∃ l : List CellD, FlatAt cCell 2 W v l ∧ ∀ d ∈ l, okCell d := by
  obtain ⟨a1, len, cap, rfl⟩ := okWide_slice Try.underlying22 hval
  obtain ⟨fuel, hf⟩ := h
  exact openS_Cell hf
end
end Go.Proofs.Ytlkpinlkbikokaa
/- Arguments opened: cores. -/
namespace Go.Proofs.Ytlkpinlkbikokaa
set_option linter.unusedVariables false
open Go.ChangeShapes Go.WideShapes Go.ChangeAt Go.RowKit Go.WideMaps Go.WideElems
open Go.Deep
section
variable {H : Type} {enc : TypeId × Value → H} {W : World}
set_option maxRecDepth 100000 in
theorem open_Core {n : Nat} {cs : List Value} {x : DataW H × List MemPlace} (h : DataW.trod enc Try.prog W 0 (fun _ => true) true n 24 cs = some x) :
    ∃ (d : CoreD) (cv : Value), cs = [.string ⟨d.fKind.toArray⟩, .bool d.fOn, .bool d.fBroken, cv, .int .i64 d.fCount] ∧ FlatAt cCell 2 W cv d.fCells ∧ okCore d := by
  obtain ⟨xs, m, rfl, _, hl, hn, hf⟩ := DataW.trod_struct Try.underlying24 h
  rw [show Try.prog.cellsOf 24 = 5 by kernel_rfl] at hl
  obtain ⟨c0, c1, c2, c3, c4, rfl⟩ := five_of hl
  obtain ⟨y0, k0⟩ := field_one hn hf 0 _ 9 0 _ _ rfl rfl rfl (by kernel_rfl) rfl
  obtain ⟨y1, k1⟩ := field_one hn hf 1 _ 4 1 _ _ rfl rfl rfl (by kernel_rfl) rfl
  obtain ⟨y2, k2⟩ := field_one hn hf 2 _ 4 2 _ _ rfl rfl rfl (by kernel_rfl) rfl
  obtain ⟨y3, k3⟩ := field_one hn hf 3 _ 22 3 _ _ rfl rfl rfl (by kernel_rfl) rfl
  obtain ⟨y4, k4⟩ := field_one hn hf 4 _ 3 4 _ _ rfl rfl rfl (by kernel_rfl) rfl
  obtain ⟨l0, rfl, b0⟩ := leaf_str Try.underlying9 k0
  obtain ⟨l1, rfl⟩ := leaf_bool Try.underlying4 k1
  obtain ⟨l2, rfl⟩ := leaf_bool Try.underlying4 k2
  obtain ⟨l3, b3, e3⟩ := openS_Cell k3
  obtain ⟨l4, rfl, b4⟩ := leaf_int Try.underlying3 k4
  exact ⟨⟨l0, l1, l2, l3, l4⟩, c3, rfl, b3, b0, e3, b4⟩
set_option maxRecDepth 100000 in
theorem arg_Core {base : Nat} {v : Value} {d : DataW H} {p : List MemPlace} (hval : Value.okWide Try.prog W .any base 24 v) (h : DataW.Trod enc Try.prog W 0 (fun _ => true) true 24 v d p) : ∃ d : CoreD, CoreAt W v d ∧ okCore d := by
  obtain ⟨cs, rfl, _⟩ := okWide_struct Try.underlying24 hval
  obtain ⟨fuel, hf⟩ := h
  obtain ⟨d, cv, h1, h2, h3⟩ := open_Core hf
  refine ⟨d, ⟨cv, ?_, h2⟩, h3⟩
  simp only [Value.cells] at h1
  unfold vCore
  congr 1
  exact Array.toList_inj.1 h1
end
end Go.Proofs.Ytlkpinlkbikokaa
/- Arguments opened: flat structs. Written by gen/openflat.py. -/
namespace Go.Proofs.Ytlkpinlkbikokaa
set_option linter.unusedVariables false
open Go.ChangeShapes Go.WideShapes Go.ChangeAt Go.RowKit Go.WideMaps Go.WideElems
open Go.Deep
section
variable {H : Type} {enc : TypeId × Value → H} {W : World}
set_option maxRecDepth 100000 in
theorem open_Layer {n : Nat} {cs : List Value} {x : DataW H × List MemPlace} (h : DataW.trod enc Try.prog W 0 (fun _ => true) true n 116 cs = some x) : ∃ d : LayerD, cs = cLayer d ∧ okLayer d := by
  obtain ⟨xs, m, rfl, _, hl, hn, hf⟩ := DataW.trod_struct Try.underlying116 h
  rw [show Try.prog.cellsOf 116 = 2 by kernel_rfl] at hl
  obtain ⟨c0, c1, rfl⟩ := two_of hl
  obtain ⟨y0, k0⟩ := field_one hn hf 0 _ 9 0 _ _ rfl rfl rfl (by kernel_rfl) rfl
  obtain ⟨y1, k1⟩ := field_one hn hf 1 _ 3 1 _ _ rfl rfl rfl (by kernel_rfl) rfl
  obtain ⟨l0, rfl, b0⟩ := leaf_str Try.underlying9 k0
  obtain ⟨l1, rfl, b1⟩ := leaf_int Try.underlying3 k1
  exact ⟨⟨l0, l1⟩, rfl, b0, b1⟩
set_option maxRecDepth 100000 in
theorem arg_Layer {base : Nat} {v : Value} {d : DataW H} {p : List MemPlace} (hval : Value.okWide Try.prog W .any base 116 v) (h : DataW.Trod enc Try.prog W 0 (fun _ => true) true 116 v d p) : ∃ d : LayerD, v = vLayer d ∧ okLayer d := by
  obtain ⟨cs, rfl, _⟩ := okWide_struct Try.underlying116 hval
  obtain ⟨fuel, hf⟩ := h
  obtain ⟨d, h1, h2⟩ := open_Layer hf
  refine ⟨d, ?_, h2⟩
  simp only [Value.cells] at h1
  unfold vLayer
  congr 1
  exact Array.toList_inj.1 h1
set_option maxRecDepth 100000 in
theorem openS_Layer {n : Nat} {v : Value} {x : DataW H × List MemPlace} (h : DataW.trod enc Try.prog W 0 (fun _ => true) true n 25 [v] = some x) : ∃ l : List LayerD, FlatAt cLayer 2 W v l ∧ ∀ d ∈ l, okLayer d :=
  haveI : Inhabited LayerD := ⟨⟨[], 0⟩⟩
  open_flat cLayer_len (by decide) Try.underlying25 (by kernel_rfl) (fun _ _ _ h => open_Layer h) h
set_option maxRecDepth 100000 in
theorem argS_Layer {base : Nat} {v : Value} {d : DataW H} {p : List MemPlace} (hval : Value.okWide Try.prog W .any base 25 v) (h : DataW.Trod enc Try.prog W 0 (fun _ => true) true 25 v d p) : ∃ l : List LayerD, FlatAt cLayer 2 W v l ∧ ∀ d ∈ l, okLayer d := by
  obtain ⟨a1, len, cap, rfl⟩ := okWide_slice Try.underlying25 hval
  obtain ⟨fuel, hf⟩ := h
  exact openS_Layer hf
end
end Go.Proofs.Ytlkpinlkbikokaa
/- Arguments opened: slices of structs that hold rows themselves. -/
namespace Go.Proofs.Ytlkpinlkbikokaa
set_option linter.unusedVariables false
open Go.ChangeShapes Go.WideShapes Go.ChangeAt Go.RowKit Go.WideMaps Go.WideElems
open Go.Deep
section
variable {H : Type} {enc : TypeId × Value → H} {P : Program} {W : World}
theorem open_deep {α : Type} [Inhabited α] {R : Nat → World → List Value → α → Prop} {k : Nat} {G : α → Prop} (hg : Good R k) (hk0 : 0 < k) {t e : TypeId} {n : Nat} {v : Value} {x : DataW H × List MemPlace} (ht : P.underlying t = some (.slice e)) (hc : P.cellsOf e = k)
    (hel : ∀ n cs x, DataW.trod enc P W 0 (fun _ => true) true n e cs = some x → ∃ d, R 0 W cs d ∧ G d) (h : DataW.trod enc P W 0 (fun _ => true) true n t [v] = some x) :
    ∃ l : List α, SliceAt R k 0 W v l ∧ ∀ d ∈ l, G d := by
  rcases open_slice ht h with ⟨h0, _⟩ | ⟨a, len, cap, m, n', D, Pl, hcs, _, hl, hm, hmm, _, hx⟩
  · injection h0 with h0
    subst h0
    exact ⟨[], sliceAt_nil _ _, by simp⟩
  · injection hcs with hcs
    subst hcs
    simp only [if_true] at hmm
    subst hmm
    obtain ⟨F, hF⟩ := choose_lt (α := α) (p := fun i d => (∃ cs, R 0 W cs d ∧ ∀ j, j < k → W.cell? ((a.add (i * k)).add j) = cs[j]?) ∧ G d) (n := m) (fun i hi => by
      obtain ⟨cs', h1, h2⟩ := hx i hi
      obtain ⟨d, hr, hg2⟩ := hel _ _ _ h2
      rw [hc] at h1
      obtain ⟨_, _, h3⟩ := World.cells?_some h1
      exact ⟨d, ⟨cs', hr, h3⟩, hg2⟩)
    refine ⟨(List.range len).map F, ?_, ?_⟩
    · obtain ⟨ab, ao, spot⟩ := a
      refine ⟨some ⟨ab, ao, spot⟩, m - len, by simp; omega, by simp; omega, ?_⟩
      rcases Nat.eq_zero_or_pos len with h0 | hpos
      · left; simp [h0]
      · right
        obtain ⟨cs0, r0, g0⟩ := (hF 0 (by omega)).1
        have g0 := g0 0 hk0
        have hlen0 : 0 < cs0.length := by rw [hg.len r0]; exact hk0
        rw [List.getElem?_eq_getElem hlen0] at g0
        have hspot : spot = none := by
          have := World.cell?_spot g0
          simpa [Addr.add] using this
        subst hspot
        have hlt : ab < W.heap.size := by
          simp only [Addr.add_lit, Nat.zero_mul, Nat.add_zero] at g0
          exact World.block_lt_of_cell? W _ g0
        refine ⟨ab, ao, rfl, Nat.zero_le _, hlt, fun i hi => ?_⟩
        have hi2 : i < len := by simpa using hi
        obtain ⟨cs, r1, g1⟩ := (hF i (by omega)).1
        refine ⟨cs, by simpa using r1, fun j hj => ?_⟩
        have h2 := g1 j hj
        rw [Addr.add_lit, Addr.add_lit] at h2
        exact h2
    · intro d hd
      obtain ⟨i, hi, rfl⟩ := List.mem_map.1 hd
      exact (hF i (by have := List.mem_range.1 hi; omega)).2
end
end Go.Proofs.Ytlkpinlkbikokaa
/- Arguments opened: parts. -/
namespace Go.Proofs.Ytlkpinlkbikokaa
set_option linter.unusedVariables false
open Go.ChangeShapes Go.WideShapes Go.ChangeAt Go.RowKit Go.WideMaps Go.WideElems
open Go.Deep
theorem belPart {w w' : World} {cs : List Value} {x : PartD} {F B : Nat} (h : rPart F w cs x) (hb : Below B w w') (hB : w.heap.size ≤ B) : rPart F w' cs x := goodPart.keep h (kept_below hb hB)
theorem six_of {α : Type} {l : List α} (h : l.length = 6) : ∃ a b c d e f, l = [a, b, c, d, e, f] := by match l, h with | [a, b, c, d, e, f], _ => exact ⟨a, b, c, d, e, f, rfl⟩
section
variable {H : Type} {enc : TypeId × Value → H} {W : World}
set_option maxRecDepth 100000 in
theorem openR_Part {n : Nat} {cs : List Value} {x : DataW H × List MemPlace} (h : DataW.trod enc Try.prog W 0 (fun _ => true) true n 27 cs = some x) : ∃ d : PartD, rPart 0 W cs d ∧ okPart d := by
  obtain ⟨xs, m, rfl, _, hl, hn, hf⟩ := DataW.trod_struct Try.underlying27 h
  rw [show Try.prog.cellsOf 27 = 6 by kernel_rfl] at hl
  obtain ⟨c0, c1, c2, c3, c4, c5, rfl⟩ := six_of hl
  obtain ⟨y0, k0⟩ := field_at hn hf 0 _ rfl
  have k0 : DataW.trod enc Try.prog W 0 (fun _ => true) true m 24 [c0, c1, c2, c3, c4] = some y0 := by
    have e : Try.prog.cellsOf 24 = 5 := by kernel_rfl
    simpa [e] using k0
  obtain ⟨y1, k1⟩ := field_one hn hf 1 _ 25 5 _ _ rfl rfl rfl (by kernel_rfl) rfl
  obtain ⟨d, cv, e0, b0, g0⟩ := open_Core k0
  obtain ⟨l1, b1, g1⟩ := openS_Layer k1
  injection e0 with e0 e1
  injection e1 with e1 e2
  injection e2 with e2 e3
  injection e3 with e3 e4
  injection e4 with e4 _
  subst e0 e1 e2 e3 e4
  exact ⟨⟨d, l1⟩, ⟨c3, c5, rfl, sliceAt_of_flat cCell_len b0, sliceAt_of_flat cLayer_len b1⟩, g0, g1⟩
set_option maxRecDepth 100000 in
theorem arg_Part {base : Nat} {v : Value} {d : DataW H} {p : List MemPlace} (hval : Value.okWide Try.prog W .any base 27 v) (h : DataW.Trod enc Try.prog W 0 (fun _ => true) true 27 v d p) : ∃ d : PartD, ValAt rPart 0 W v d ∧ okPart d := by
  obtain ⟨cs, rfl, _⟩ := okWide_struct Try.underlying27 hval
  obtain ⟨fuel, hf⟩ := h
  obtain ⟨d, h1, h2⟩ := openR_Part hf
  exact ⟨d, ⟨cs.toList, by simp, h1⟩, h2⟩
end
end Go.Proofs.Ytlkpinlkbikokaa
namespace Go.Proofs.Ytlkpinlkbikokaa
set_option linter.unusedVariables false
open Go.ChangeShapes Go.WideShapes Go.ChangeAt Go.RowKit Go.WideMaps Go.WideElems
open Go.ChangeMaps (open_string shut_string)
set_option maxRecDepth 100000 in
set_option maxHeartbeats 3200000 in
theorem exactMakePart_any (v0 : Value) (x0 : List (List UInt8)) (w : World) (ar0 : RowAt w v0 (x0.map strV)) (g0 : ∀ d ∈ x0, d.length ≤ maxLen) :
    Calls Try.prog 4 #[v0] w fun e w' => e = .returned (.bool true) ∧ Below w.heap.size w w' := by
  have a0 := flat_of_row ar0
  clear ar0
  have A0 := Lib.hid a0
  have G0 := Lib.hid g0
  clear a0 g0
  go_enter Try.func4, Try.ntmps4
  go_wp2_with fail
  refine (szStringS_f v0 x0 1048576 _ (FlatAt.below A0.out (by repeat (first | exact Below.refl _ _ | refine Below.alloc ?_ (by simp; try omega) _ | refine Below.setCell ?_ (by simp; try omega) _ | refine belN ?_ _ | refine belD ?_)) (Nat.le_refl _)) G0.out (by omega) (by omega)).mono ?_
  rintro e w1 ⟨r0, rfl, hr0a, hr0b, hb0⟩
  have hb := below_step (w := w) (by repeat (first | exact Below.refl _ _ | refine Below.alloc ?_ (by simp; try omega) _ | refine Below.setCell ?_ (by simp; try omega) _ | refine belN ?_ _ | refine belD ?_)) hb0
  have Cw_w1 := Lib.hid hb
  have A0_w1 := Lib.hid (FlatAt.below A0.out hb (Nat.le_refl _))
  clear hb hb0
  by_cases hr0 : r0 < 0
  · clear hr0b
    go_wp2_with fail
    go_ret
    exact ⟨rfl, below_to Cw_w1.out (by repeat (first | exact Below.refl _ _ | refine Below.alloc ?_ (by simp; try omega) _ | refine Below.setCell ?_ (by simp; try omega) _ | refine belN ?_ _ | refine belD ?_))⟩
  · have hs0 := hr0b (by omega)
    clear hr0b
    have HSZ := Lib.hid (show (x0.length + sumF List.length x0) ≤ 1048576 by push_cast; omega)
    clear hs0
    have HSM0 := Lib.hid (show x0.length ≤ 1048576 by have h := HSZ.out; omega)
    have HZ := Lib.hid (show ∀ s ∈ x0, s.length ≤ 1048576 from fun s hs => by have h := HSZ.out; have h2 := sumF_mem List.length x0 s hs; omega)
    have HSR := Lib.hid (makePR_small HZ.out)
    have HSP := Lib.hid (fun v w1 (h : FlatAt cStr 1 w1 v x0) => (specMakePart_any v x0 w1 (row_of_flat h) HZ.out).mono (fun e w2 h2 => givesPR_of h2 HSR.out))
    have HIM := Lib.hid (fun v w1 (h : FlatAt cStr 1 w1 v x0) => (implMakePart_any v x0 w1 (row_of_flat h) HZ.out))
    unfold GivesPR at HSP
    unfold GivesOPR at HIM
    generalize makePR x0 = res at *
    obtain ⟨⟨⟨n9_0_0, n9_0_1, n9_0_2, n9_0_3, n9_0_4⟩, n9_1⟩, m0, m1, m2, m3, m4⟩ := res
    simp only [vReply] at HSP HIM HSR
    go_wp2_with fail
    refine (toStringS_g v0 x0 _ (FlatAt.below A0_w1.out (by repeat (first | exact Below.refl _ _ | refine Below.alloc ?_ (by simp; try omega) _ | refine Below.setCell ?_ (by simp; try omega) _ | refine belN ?_ _ | refine belD ?_)) (Nat.le_refl _)) (by have := HSM0.out; omega)).mono ?_
    rintro e w2 ⟨u1, rfl, ho, hb0⟩
    have hb := below_step (w := w1) (by repeat (first | exact Below.refl _ _ | refine Below.alloc ?_ (by simp; try omega) _ | refine Below.setCell ?_ (by simp; try omega) _ | refine belN ?_ _ | refine belD ?_)) hb0
    have Cw_w2 := Lib.hid (Cw_w1.out.trans (hb.mono Cw_w1.out.size))
    have A0_w2 := Lib.hid (FlatAt.below A0_w1.out hb (Nat.le_refl _))
    have ho := (show OwnsF cStr 9 1 _ _ _ x0 from ho)
    obtain ⟨LS1, hLS1, ho⟩ := own_lo ho
    try simp at hLS1
    have HLS1 := Lib.hid hLS1
    clear hLS1
    have S1 := Lib.hid (ownR_of ho)
    have S1a := Lib.hid (ownsF_at ho (by have := HSM0.out; omega))
    clear ho
    clear hb hb0
    go_wp2_with fail
    refine (HSP.out u1 _ (FlatAt.below S1a.out (by repeat (first | exact Below.refl _ _ | refine Below.alloc ?_ (by simp; try omega) _ | refine Below.setCell ?_ (by simp; try omega) _ | refine belN ?_ _ | refine belD ?_)) (Nat.le_refl _))).mono ?_
    rintro e w3 ⟨_, rfl, ho, hb0⟩
    have hb := below_step (w := w2) (by repeat (first | exact Below.refl _ _ | refine Below.alloc ?_ (by simp; try omega) _ | refine Below.setCell ?_ (by simp; try omega) _ | refine belN ?_ _ | refine belD ?_)) hb0
    have Cw_w3 := Lib.hid (Cw_w2.out.trans (hb.mono Cw_w2.out.size))
    have A0_w3 := Lib.hid (FlatAt.below A0_w2.out hb (Nat.le_refl _))
    have S1a_w3 := Lib.hid (FlatAt.below S1a.out hb (Nat.le_refl _))
    have S1_w3 := Lib.hid (ownR_below S1.out hb (Nat.le_refl _))
    obtain ⟨uRs_3, uRs_5, rfl, hruRs_3, hruRs_5⟩ := ho
    simp only at hruRs_3 hruRs_5
    obtain ⟨pRs_3, qRs_3, rfl, _⟩ := sliceAt_len hruRs_3
    obtain ⟨pRs_5, qRs_5, rfl, _⟩ := sliceAt_len hruRs_5
    have Rs := Lib.hid (show rPart 0 _ _ (⟨⟨n9_0_0, n9_0_1, n9_0_2, n9_0_3, n9_0_4⟩, n9_1⟩ : PartD) from ⟨_, _, rfl, hruRs_3.mono (good_flat cCell_len) (Nat.zero_le _), hruRs_5.mono (good_flat cLayer_len) (Nat.zero_le _)⟩)
    clear hruRs_3 hruRs_5
    clear hb hb0
    go_wp2_with fail
    refine (toStringS_g v0 x0 _ (FlatAt.below A0_w3.out (by repeat (first | exact Below.refl _ _ | refine Below.alloc ?_ (by simp; try omega) _ | refine Below.setCell ?_ (by simp; try omega) _ | refine belN ?_ _ | refine belD ?_)) (Nat.le_refl _)) (by have := HSM0.out; omega)).mono ?_
    rintro e w4 ⟨u2, rfl, ho, hb0⟩
    have hb := below_step (w := w3) (by repeat (first | exact Below.refl _ _ | refine Below.alloc ?_ (by simp; try omega) _ | refine Below.setCell ?_ (by simp; try omega) _ | refine belN ?_ _ | refine belD ?_)) hb0
    have Cw_w4 := Lib.hid (Cw_w3.out.trans (hb.mono Cw_w3.out.size))
    have Cw3_w4 := Lib.hid hb
    have A0_w4 := Lib.hid (FlatAt.below A0_w3.out hb (Nat.le_refl _))
    have Rs_w4 := Lib.hid (belPart Rs.out hb (Nat.le_refl _))
    have es0_0_w4 : w4.cell? ⟨w3.heap.size, 0, none⟩ = some (.string ⟨n9_0_0.toArray⟩) := by rw [hb0.cell (p := ⟨w3.heap.size, 0, none⟩) (by simp; try omega)]; simp
    have es0_1_w4 : w4.cell? ⟨w3.heap.size, 1, none⟩ = some (.bool n9_0_1) := by rw [hb0.cell (p := ⟨w3.heap.size, 1, none⟩) (by simp; try omega)]; simp
    have es0_2_w4 : w4.cell? ⟨w3.heap.size, 2, none⟩ = some (.bool n9_0_2) := by rw [hb0.cell (p := ⟨w3.heap.size, 2, none⟩) (by simp; try omega)]; simp
    have es0_3_w4 : w4.cell? ⟨w3.heap.size, 3, none⟩ = some (.slice pRs_3 n9_0_3.length qRs_3) := by rw [hb0.cell (p := ⟨w3.heap.size, 3, none⟩) (by simp; try omega)]; simp
    have es0_4_w4 : w4.cell? ⟨w3.heap.size, 4, none⟩ = some (.int .i64 n9_0_4) := by rw [hb0.cell (p := ⟨w3.heap.size, 4, none⟩) (by simp; try omega)]; simp
    have es0_5_w4 : w4.cell? ⟨w3.heap.size, 5, none⟩ = some (.slice pRs_5 n9_1.length qRs_5) := by rw [hb0.cell (p := ⟨w3.heap.size, 5, none⟩) (by simp; try omega)]; simp
    have Ls0_w4 : w3.heap.size < w4.heap.size := by have h := hb0.size; simp at h; omega
    have es1_0_w4 : w4.cell? ⟨w3.heap.size + 1, 0, none⟩ = some (.int .i64 m0) := by rw [hb0.cell (p := ⟨w3.heap.size + 1, 0, none⟩) (by simp; try omega)]; simp
    have es1_1_w4 : w4.cell? ⟨w3.heap.size + 1, 1, none⟩ = some (.int .i64 m1) := by rw [hb0.cell (p := ⟨w3.heap.size + 1, 1, none⟩) (by simp; try omega)]; simp
    have es1_2_w4 : w4.cell? ⟨w3.heap.size + 1, 2, none⟩ = some (.string ⟨m2.toArray⟩) := by rw [hb0.cell (p := ⟨w3.heap.size + 1, 2, none⟩) (by simp; try omega)]; simp
    have es1_3_w4 : w4.cell? ⟨w3.heap.size + 1, 3, none⟩ = some (.int .i64 m3) := by rw [hb0.cell (p := ⟨w3.heap.size + 1, 3, none⟩) (by simp; try omega)]; simp
    have es1_4_w4 : w4.cell? ⟨w3.heap.size + 1, 4, none⟩ = some (.int .i64 m4) := by rw [hb0.cell (p := ⟨w3.heap.size + 1, 4, none⟩) (by simp; try omega)]; simp
    have Ls1_w4 : w3.heap.size + 1 < w4.heap.size := by have h := hb0.size; simp at h; omega
    have ho := (show OwnsF cStr 9 1 _ _ _ x0 from ho)
    obtain ⟨LX2, hLX2, ho⟩ := own_lo ho
    try simp at hLX2
    have HLX2 := Lib.hid hLX2
    clear hLX2
    have X2 := Lib.hid (ownR_of ho)
    have X2a := Lib.hid (ownsF_at ho (by have := HSM0.out; omega))
    clear ho
    have LCX2_w := Lib.hid (show w.heap.size ≤ LX2 by have h := Cw_w3.out.size; have h2 := HLX2.out; omega)
    have LCX2_w3 := Lib.hid (show w3.heap.size ≤ LX2 by have h := (Below.refl w3.heap.size w3).size; have h2 := HLX2.out; omega)
    have LBX2_s0 := Lib.hid (show w3.heap.size < LX2 by have h2 := HLX2.out; omega)
    have LBX2_s1 := Lib.hid (show w3.heap.size + 1 < LX2 by have h2 := HLX2.out; omega)
    clear hb hb0
    have K_s0 := Ls0_w4
    have K_s1 := Ls1_w4
    go_wp2_with fail
    refine (HIM.out u2 _ (FlatAt.below X2a.out (by repeat (first | exact Below.refl _ _ | refine Below.alloc ?_ (by simp; try omega) _ | refine Below.setCell ?_ (by simp; try omega) _ | refine belN ?_ _ | refine belD ?_)) (Nat.le_refl _))).mono ?_
    rintro e w5 ⟨_, rfl, ho, hb0⟩
    have hb := below_step (w := w4) (by repeat (first | exact Below.refl _ _ | refine Below.alloc ?_ (by simp; try omega) _ | refine Below.setCell ?_ (by simp; try omega) _ | refine belN ?_ _ | refine belD ?_)) hb0
    have Cw_w5 := Lib.hid (Cw_w4.out.trans (hb.mono Cw_w4.out.size))
    have Cw3_w5 := Lib.hid (Cw3_w4.out.trans (hb.mono Cw3_w4.out.size))
    have Cw4_w5 := Lib.hid hb
    have A0_w5 := Lib.hid (FlatAt.below A0_w4.out hb (Nat.le_refl _))
    have Rs_w5 := Lib.hid (belPart Rs_w4.out hb (Nat.le_refl _))
    have X2a_w5 := Lib.hid (FlatAt.below X2a.out hb (Nat.le_refl _))
    have X2_w5 := Lib.hid (ownR_below X2.out hb (Nat.le_refl _))
    have es0_0_w5 := (hb.cell (p := ⟨w3.heap.size, 0, none⟩) Ls0_w4).trans es0_0_w4
    have es0_1_w5 := (hb.cell (p := ⟨w3.heap.size, 1, none⟩) Ls0_w4).trans es0_1_w4
    have es0_2_w5 := (hb.cell (p := ⟨w3.heap.size, 2, none⟩) Ls0_w4).trans es0_2_w4
    have es0_3_w5 := (hb.cell (p := ⟨w3.heap.size, 3, none⟩) Ls0_w4).trans es0_3_w4
    have es0_4_w5 := (hb.cell (p := ⟨w3.heap.size, 4, none⟩) Ls0_w4).trans es0_4_w4
    have es0_5_w5 := (hb.cell (p := ⟨w3.heap.size, 5, none⟩) Ls0_w4).trans es0_5_w4
    have Ls0_w5 : w3.heap.size < w5.heap.size := by have h := hb.size; omega
    clear es0_0_w4 es0_1_w4 es0_2_w4 es0_3_w4 es0_4_w4 es0_5_w4 Ls0_w4
    have es1_0_w5 := (hb.cell (p := ⟨w3.heap.size + 1, 0, none⟩) Ls1_w4).trans es1_0_w4
    have es1_1_w5 := (hb.cell (p := ⟨w3.heap.size + 1, 1, none⟩) Ls1_w4).trans es1_1_w4
    have es1_2_w5 := (hb.cell (p := ⟨w3.heap.size + 1, 2, none⟩) Ls1_w4).trans es1_2_w4
    have es1_3_w5 := (hb.cell (p := ⟨w3.heap.size + 1, 3, none⟩) Ls1_w4).trans es1_3_w4
    have es1_4_w5 := (hb.cell (p := ⟨w3.heap.size + 1, 4, none⟩) Ls1_w4).trans es1_4_w4
    have Ls1_w5 : w3.heap.size + 1 < w5.heap.size := by have h := hb.size; omega
    clear es1_0_w4 es1_1_w4 es1_2_w4 es1_3_w4 es1_4_w4 Ls1_w4
    obtain ⟨uRg_3, uRg_5, rfl, hoRg_3, hoRg_5⟩ := ho
    obtain ⟨pRg_3, qRg_3, rfl⟩ := slice_of hoRg_3
    obtain ⟨pRg_5, qRg_5, rfl⟩ := slice_of hoRg_5
    simp only at hoRg_3 hoRg_5
    have ho := (show oPart _ _ _ (⟨⟨n9_0_0, n9_0_1, n9_0_2, n9_0_3, n9_0_4⟩, n9_1⟩ : PartD) from ⟨_, _, rfl, hoRg_3, hoRg_5⟩)
    clear hoRg_3 hoRg_5
    obtain ⟨LRg, hLRg, ho⟩ := own_loP ho
    try simp at hLRg
    have HLRg := Lib.hid hLRg
    clear hLRg
    have Rg := Lib.hid (ownP_of ho)
    have Rga := Lib.hid (oPart_0 ho HSR.out)
    clear ho
    have LCRg_w := Lib.hid (show w.heap.size ≤ LRg by have h := Cw_w4.out.size; have h2 := HLRg.out; omega)
    have LCRg_w3 := Lib.hid (show w3.heap.size ≤ LRg by have h := Cw3_w4.out.size; have h2 := HLRg.out; omega)
    have LCRg_w4 := Lib.hid (show w4.heap.size ≤ LRg by have h := (Below.refl w4.heap.size w4).size; have h2 := HLRg.out; omega)
    have LBRg_s0 := Lib.hid (show w3.heap.size < LRg by have h2 := HLRg.out; have h := K_s0; omega)
    have LBRg_s1 := Lib.hid (show w3.heap.size + 1 < LRg by have h2 := HLRg.out; have h := K_s1; omega)
    clear hb hb0
    have GBX2_g0 := Lib.hid (show w4.heap.size ≤ w5.heap.size by have h := Cw4_w5.out.size; omega)
    have GBRg_g0 := Lib.hid (show w5.heap.size ≤ w5.heap.size by have h := (Below.refl w5.heap.size w5).size; omega)
    have GBX2_g1 := Lib.hid (show w4.heap.size ≤ w5.heap.size + 1 by have h := Cw4_w5.out.size; omega)
    have GBRg_g1 := Lib.hid (show w5.heap.size ≤ w5.heap.size + 1 by have h := (Below.refl w5.heap.size w5).size; omega)
    go_wp2_with fail
    refine (eqPart_d _ _ (⟨⟨n9_0_0, n9_0_1, n9_0_2, n9_0_3, n9_0_4⟩, n9_1⟩ : PartD) (⟨⟨n9_0_0, n9_0_1, n9_0_2, n9_0_3, n9_0_4⟩, n9_1⟩ : PartD) _ ⟨_, rfl, (belPart Rga.out (by repeat (first | exact Below.refl _ _ | refine Below.alloc ?_ (by simp; try omega) _ | refine Below.setCell ?_ (by simp; try omega) _ | refine belN ?_ _ | refine belD ?_)) (Nat.le_refl _))⟩ ⟨_, rfl, (belPart Rs_w5.out (by repeat (first | exact Below.refl _ _ | refine Below.alloc ?_ (by simp; try omega) _ | refine Below.setCell ?_ (by simp; try omega) _ | refine belN ?_ _ | refine belD ?_)) (Nat.le_refl _))⟩).mono ?_
    rintro e w6 ⟨rfl, hb0⟩
    have hb := below_step (w := w5) (by repeat (first | exact Below.refl _ _ | refine Below.alloc ?_ (by simp; try omega) _ | refine Below.setCell ?_ (by simp; try omega) _ | refine belN ?_ _ | refine belD ?_)) hb0
    have Cw_w6 := Lib.hid (Cw_w5.out.trans (hb.mono Cw_w5.out.size))
    have Cw3_w6 := Lib.hid (Cw3_w5.out.trans (hb.mono Cw3_w5.out.size))
    have Cw4_w6 := Lib.hid (Cw4_w5.out.trans (hb.mono Cw4_w5.out.size))
    have Cw5_w6 := Lib.hid hb
    have A0_w6 := Lib.hid (FlatAt.below A0_w5.out hb (Nat.le_refl _))
    have Rs_w6 := Lib.hid (belPart Rs_w5.out hb (Nat.le_refl _))
    have X2a_w6 := Lib.hid (FlatAt.below X2a_w5.out hb (Nat.le_refl _))
    have X2_w6 := Lib.hid (ownR_below X2_w5.out hb (Nat.le_refl _))
    have Rga_w6 := Lib.hid (belPart Rga.out hb (Nat.le_refl _))
    have Rg_w6 := Lib.hid (ownP_below Rg.out hb (Nat.le_refl _))
    have es0_0_w6 := (hb.cell (p := ⟨w3.heap.size, 0, none⟩) Ls0_w5).trans es0_0_w5
    have es0_1_w6 := (hb.cell (p := ⟨w3.heap.size, 1, none⟩) Ls0_w5).trans es0_1_w5
    have es0_2_w6 := (hb.cell (p := ⟨w3.heap.size, 2, none⟩) Ls0_w5).trans es0_2_w5
    have es0_3_w6 := (hb.cell (p := ⟨w3.heap.size, 3, none⟩) Ls0_w5).trans es0_3_w5
    have es0_4_w6 := (hb.cell (p := ⟨w3.heap.size, 4, none⟩) Ls0_w5).trans es0_4_w5
    have es0_5_w6 := (hb.cell (p := ⟨w3.heap.size, 5, none⟩) Ls0_w5).trans es0_5_w5
    have Ls0_w6 : w3.heap.size < w6.heap.size := by have h := hb.size; omega
    clear es0_0_w5 es0_1_w5 es0_2_w5 es0_3_w5 es0_4_w5 es0_5_w5 Ls0_w5
    have es1_0_w6 := (hb.cell (p := ⟨w3.heap.size + 1, 0, none⟩) Ls1_w5).trans es1_0_w5
    have es1_1_w6 := (hb.cell (p := ⟨w3.heap.size + 1, 1, none⟩) Ls1_w5).trans es1_1_w5
    have es1_2_w6 := (hb.cell (p := ⟨w3.heap.size + 1, 2, none⟩) Ls1_w5).trans es1_2_w5
    have es1_3_w6 := (hb.cell (p := ⟨w3.heap.size + 1, 3, none⟩) Ls1_w5).trans es1_3_w5
    have es1_4_w6 := (hb.cell (p := ⟨w3.heap.size + 1, 4, none⟩) Ls1_w5).trans es1_4_w5
    have Ls1_w6 : w3.heap.size + 1 < w6.heap.size := by have h := hb.size; omega
    clear es1_0_w5 es1_1_w5 es1_2_w5 es1_3_w5 es1_4_w5 Ls1_w5
    have eg0_0_w6 : w6.cell? ⟨w5.heap.size, 0, none⟩ = some (.string ⟨n9_0_0.toArray⟩) := by rw [hb0.cell (p := ⟨w5.heap.size, 0, none⟩) (by simp; try omega)]; simp
    have eg0_1_w6 : w6.cell? ⟨w5.heap.size, 1, none⟩ = some (.bool n9_0_1) := by rw [hb0.cell (p := ⟨w5.heap.size, 1, none⟩) (by simp; try omega)]; simp
    have eg0_2_w6 : w6.cell? ⟨w5.heap.size, 2, none⟩ = some (.bool n9_0_2) := by rw [hb0.cell (p := ⟨w5.heap.size, 2, none⟩) (by simp; try omega)]; simp
    have eg0_3_w6 : w6.cell? ⟨w5.heap.size, 3, none⟩ = some (.slice pRg_3 n9_0_3.length qRg_3) := by rw [hb0.cell (p := ⟨w5.heap.size, 3, none⟩) (by simp; try omega)]; simp
    have eg0_4_w6 : w6.cell? ⟨w5.heap.size, 4, none⟩ = some (.int .i64 n9_0_4) := by rw [hb0.cell (p := ⟨w5.heap.size, 4, none⟩) (by simp; try omega)]; simp
    have eg0_5_w6 : w6.cell? ⟨w5.heap.size, 5, none⟩ = some (.slice pRg_5 n9_1.length qRg_5) := by rw [hb0.cell (p := ⟨w5.heap.size, 5, none⟩) (by simp; try omega)]; simp
    have Lg0_w6 : w5.heap.size < w6.heap.size := by have h := hb0.size; simp at h; omega
    have eg1_0_w6 : w6.cell? ⟨w5.heap.size + 1, 0, none⟩ = some (.int .i64 m0) := by rw [hb0.cell (p := ⟨w5.heap.size + 1, 0, none⟩) (by simp; try omega)]; simp
    have eg1_1_w6 : w6.cell? ⟨w5.heap.size + 1, 1, none⟩ = some (.int .i64 m1) := by rw [hb0.cell (p := ⟨w5.heap.size + 1, 1, none⟩) (by simp; try omega)]; simp
    have eg1_2_w6 : w6.cell? ⟨w5.heap.size + 1, 2, none⟩ = some (.string ⟨m2.toArray⟩) := by rw [hb0.cell (p := ⟨w5.heap.size + 1, 2, none⟩) (by simp; try omega)]; simp
    have eg1_3_w6 : w6.cell? ⟨w5.heap.size + 1, 3, none⟩ = some (.int .i64 m3) := by rw [hb0.cell (p := ⟨w5.heap.size + 1, 3, none⟩) (by simp; try omega)]; simp
    have eg1_4_w6 : w6.cell? ⟨w5.heap.size + 1, 4, none⟩ = some (.int .i64 m4) := by rw [hb0.cell (p := ⟨w5.heap.size + 1, 4, none⟩) (by simp; try omega)]; simp
    have Lg1_w6 : w5.heap.size + 1 < w6.heap.size := by have h := hb0.size; simp at h; omega
    rw [show decide ((⟨⟨n9_0_0, n9_0_1, n9_0_2, n9_0_3, n9_0_4⟩, n9_1⟩ : PartD) = (⟨⟨n9_0_0, n9_0_1, n9_0_2, n9_0_3, n9_0_4⟩, n9_1⟩ : PartD)) = true by simp]
    clear hb hb0
    go_wp2_with fail
    refine (eqReply_any (⟨m0, m1, m2, m3, m4⟩ : ReplyD) (⟨m0, m1, m2, m3, m4⟩ : ReplyD) _).mono ?_
    rintro e w7 ⟨rfl, hb0⟩
    have hb := below_step (w := w6) (by repeat (first | exact Below.refl _ _ | refine Below.alloc ?_ (by simp; try omega) _ | refine Below.setCell ?_ (by simp; try omega) _ | refine belN ?_ _ | refine belD ?_)) hb0
    have Cw_w7 := Lib.hid (Cw_w6.out.trans (hb.mono Cw_w6.out.size))
    have Cw3_w7 := Lib.hid (Cw3_w6.out.trans (hb.mono Cw3_w6.out.size))
    have Cw4_w7 := Lib.hid (Cw4_w6.out.trans (hb.mono Cw4_w6.out.size))
    have Cw5_w7 := Lib.hid (Cw5_w6.out.trans (hb.mono Cw5_w6.out.size))
    have A0_w7 := Lib.hid (FlatAt.below A0_w6.out hb (Nat.le_refl _))
    have Rs_w7 := Lib.hid (belPart Rs_w6.out hb (Nat.le_refl _))
    have X2a_w7 := Lib.hid (FlatAt.below X2a_w6.out hb (Nat.le_refl _))
    have X2_w7 := Lib.hid (ownR_below X2_w6.out hb (Nat.le_refl _))
    have Rga_w7 := Lib.hid (belPart Rga_w6.out hb (Nat.le_refl _))
    have Rg_w7 := Lib.hid (ownP_below Rg_w6.out hb (Nat.le_refl _))
    have es0_0_w7 := (hb.cell (p := ⟨w3.heap.size, 0, none⟩) Ls0_w6).trans es0_0_w6
    have es0_1_w7 := (hb.cell (p := ⟨w3.heap.size, 1, none⟩) Ls0_w6).trans es0_1_w6
    have es0_2_w7 := (hb.cell (p := ⟨w3.heap.size, 2, none⟩) Ls0_w6).trans es0_2_w6
    have es0_3_w7 := (hb.cell (p := ⟨w3.heap.size, 3, none⟩) Ls0_w6).trans es0_3_w6
    have es0_4_w7 := (hb.cell (p := ⟨w3.heap.size, 4, none⟩) Ls0_w6).trans es0_4_w6
    have es0_5_w7 := (hb.cell (p := ⟨w3.heap.size, 5, none⟩) Ls0_w6).trans es0_5_w6
    have Ls0_w7 : w3.heap.size < w7.heap.size := by have h := hb.size; omega
    clear es0_0_w6 es0_1_w6 es0_2_w6 es0_3_w6 es0_4_w6 es0_5_w6 Ls0_w6
    have es1_0_w7 := (hb.cell (p := ⟨w3.heap.size + 1, 0, none⟩) Ls1_w6).trans es1_0_w6
    have es1_1_w7 := (hb.cell (p := ⟨w3.heap.size + 1, 1, none⟩) Ls1_w6).trans es1_1_w6
    have es1_2_w7 := (hb.cell (p := ⟨w3.heap.size + 1, 2, none⟩) Ls1_w6).trans es1_2_w6
    have es1_3_w7 := (hb.cell (p := ⟨w3.heap.size + 1, 3, none⟩) Ls1_w6).trans es1_3_w6
    have es1_4_w7 := (hb.cell (p := ⟨w3.heap.size + 1, 4, none⟩) Ls1_w6).trans es1_4_w6
    have Ls1_w7 : w3.heap.size + 1 < w7.heap.size := by have h := hb.size; omega
    clear es1_0_w6 es1_1_w6 es1_2_w6 es1_3_w6 es1_4_w6 Ls1_w6
    have eg0_0_w7 := (hb.cell (p := ⟨w5.heap.size, 0, none⟩) Lg0_w6).trans eg0_0_w6
    have eg0_1_w7 := (hb.cell (p := ⟨w5.heap.size, 1, none⟩) Lg0_w6).trans eg0_1_w6
    have eg0_2_w7 := (hb.cell (p := ⟨w5.heap.size, 2, none⟩) Lg0_w6).trans eg0_2_w6
    have eg0_3_w7 := (hb.cell (p := ⟨w5.heap.size, 3, none⟩) Lg0_w6).trans eg0_3_w6
    have eg0_4_w7 := (hb.cell (p := ⟨w5.heap.size, 4, none⟩) Lg0_w6).trans eg0_4_w6
    have eg0_5_w7 := (hb.cell (p := ⟨w5.heap.size, 5, none⟩) Lg0_w6).trans eg0_5_w6
    have Lg0_w7 : w5.heap.size < w7.heap.size := by have h := hb.size; omega
    clear eg0_0_w6 eg0_1_w6 eg0_2_w6 eg0_3_w6 eg0_4_w6 eg0_5_w6 Lg0_w6
    have eg1_0_w7 := (hb.cell (p := ⟨w5.heap.size + 1, 0, none⟩) Lg1_w6).trans eg1_0_w6
    have eg1_1_w7 := (hb.cell (p := ⟨w5.heap.size + 1, 1, none⟩) Lg1_w6).trans eg1_1_w6
    have eg1_2_w7 := (hb.cell (p := ⟨w5.heap.size + 1, 2, none⟩) Lg1_w6).trans eg1_2_w6
    have eg1_3_w7 := (hb.cell (p := ⟨w5.heap.size + 1, 3, none⟩) Lg1_w6).trans eg1_3_w6
    have eg1_4_w7 := (hb.cell (p := ⟨w5.heap.size + 1, 4, none⟩) Lg1_w6).trans eg1_4_w6
    have Lg1_w7 : w5.heap.size + 1 < w7.heap.size := by have h := hb.size; omega
    clear eg1_0_w6 eg1_1_w6 eg1_2_w6 eg1_3_w6 eg1_4_w6 Lg1_w6
    rw [show decide ((⟨m0, m1, m2, m3, m4⟩ : ReplyD) = (⟨m0, m1, m2, m3, m4⟩ : ReplyD)) = true by simp]
    clear hb hb0
    have K_s0 := Ls0_w7
    have K_s1 := Ls1_w7
    have K_g0 := Lg0_w7
    have K_g1 := Lg1_w7
    go_wp2_with fail
    refine (toStringS_g v0 x0 _ (FlatAt.below A0_w7.out (by repeat (first | exact Below.refl _ _ | refine Below.alloc ?_ (by simp; try omega) _ | refine Below.setCell ?_ (by simp; try omega) _ | refine belN ?_ _ | refine belD ?_)) (Nat.le_refl _)) (by have := HSM0.out; omega)).mono ?_
    rintro e w8 ⟨u3, rfl, ho, hb0⟩
    have hb := below_step (w := w7) (by repeat (first | exact Below.refl _ _ | refine Below.alloc ?_ (by simp; try omega) _ | refine Below.setCell ?_ (by simp; try omega) _ | refine belN ?_ _ | refine belD ?_)) hb0
    have Cw_w8 := Lib.hid (Cw_w7.out.trans (hb.mono Cw_w7.out.size))
    have Cw3_w8 := Lib.hid (Cw3_w7.out.trans (hb.mono Cw3_w7.out.size))
    have Cw4_w8 := Lib.hid (Cw4_w7.out.trans (hb.mono Cw4_w7.out.size))
    have Cw5_w8 := Lib.hid (Cw5_w7.out.trans (hb.mono Cw5_w7.out.size))
    have A0_w8 := Lib.hid (FlatAt.below A0_w7.out hb (Nat.le_refl _))
    have Rs_w8 := Lib.hid (belPart Rs_w7.out hb (Nat.le_refl _))
    have X2a_w8 := Lib.hid (FlatAt.below X2a_w7.out hb (Nat.le_refl _))
    have X2_w8 := Lib.hid (ownR_below X2_w7.out hb (Nat.le_refl _))
    have Rga_w8 := Lib.hid (belPart Rga_w7.out hb (Nat.le_refl _))
    have Rg_w8 := Lib.hid (ownP_below Rg_w7.out hb (Nat.le_refl _))
    have es0_0_w8 := (hb.cell (p := ⟨w3.heap.size, 0, none⟩) Ls0_w7).trans es0_0_w7
    have es0_1_w8 := (hb.cell (p := ⟨w3.heap.size, 1, none⟩) Ls0_w7).trans es0_1_w7
    have es0_2_w8 := (hb.cell (p := ⟨w3.heap.size, 2, none⟩) Ls0_w7).trans es0_2_w7
    have es0_3_w8 := (hb.cell (p := ⟨w3.heap.size, 3, none⟩) Ls0_w7).trans es0_3_w7
    have es0_4_w8 := (hb.cell (p := ⟨w3.heap.size, 4, none⟩) Ls0_w7).trans es0_4_w7
    have es0_5_w8 := (hb.cell (p := ⟨w3.heap.size, 5, none⟩) Ls0_w7).trans es0_5_w7
    have Ls0_w8 : w3.heap.size < w8.heap.size := by have h := hb.size; omega
    clear es0_0_w7 es0_1_w7 es0_2_w7 es0_3_w7 es0_4_w7 es0_5_w7 Ls0_w7
    have es1_0_w8 := (hb.cell (p := ⟨w3.heap.size + 1, 0, none⟩) Ls1_w7).trans es1_0_w7
    have es1_1_w8 := (hb.cell (p := ⟨w3.heap.size + 1, 1, none⟩) Ls1_w7).trans es1_1_w7
    have es1_2_w8 := (hb.cell (p := ⟨w3.heap.size + 1, 2, none⟩) Ls1_w7).trans es1_2_w7
    have es1_3_w8 := (hb.cell (p := ⟨w3.heap.size + 1, 3, none⟩) Ls1_w7).trans es1_3_w7
    have es1_4_w8 := (hb.cell (p := ⟨w3.heap.size + 1, 4, none⟩) Ls1_w7).trans es1_4_w7
    have Ls1_w8 : w3.heap.size + 1 < w8.heap.size := by have h := hb.size; omega
    clear es1_0_w7 es1_1_w7 es1_2_w7 es1_3_w7 es1_4_w7 Ls1_w7
    have eg0_0_w8 := (hb.cell (p := ⟨w5.heap.size, 0, none⟩) Lg0_w7).trans eg0_0_w7
    have eg0_1_w8 := (hb.cell (p := ⟨w5.heap.size, 1, none⟩) Lg0_w7).trans eg0_1_w7
    have eg0_2_w8 := (hb.cell (p := ⟨w5.heap.size, 2, none⟩) Lg0_w7).trans eg0_2_w7
    have eg0_3_w8 := (hb.cell (p := ⟨w5.heap.size, 3, none⟩) Lg0_w7).trans eg0_3_w7
    have eg0_4_w8 := (hb.cell (p := ⟨w5.heap.size, 4, none⟩) Lg0_w7).trans eg0_4_w7
    have eg0_5_w8 := (hb.cell (p := ⟨w5.heap.size, 5, none⟩) Lg0_w7).trans eg0_5_w7
    have Lg0_w8 : w5.heap.size < w8.heap.size := by have h := hb.size; omega
    clear eg0_0_w7 eg0_1_w7 eg0_2_w7 eg0_3_w7 eg0_4_w7 eg0_5_w7 Lg0_w7
    have eg1_0_w8 := (hb.cell (p := ⟨w5.heap.size + 1, 0, none⟩) Lg1_w7).trans eg1_0_w7
    have eg1_1_w8 := (hb.cell (p := ⟨w5.heap.size + 1, 1, none⟩) Lg1_w7).trans eg1_1_w7
    have eg1_2_w8 := (hb.cell (p := ⟨w5.heap.size + 1, 2, none⟩) Lg1_w7).trans eg1_2_w7
    have eg1_3_w8 := (hb.cell (p := ⟨w5.heap.size + 1, 3, none⟩) Lg1_w7).trans eg1_3_w7
    have eg1_4_w8 := (hb.cell (p := ⟨w5.heap.size + 1, 4, none⟩) Lg1_w7).trans eg1_4_w7
    have Lg1_w8 : w5.heap.size + 1 < w8.heap.size := by have h := hb.size; omega
    clear eg1_0_w7 eg1_1_w7 eg1_2_w7 eg1_3_w7 eg1_4_w7 Lg1_w7
    have ho := (show OwnsF cStr 9 1 _ _ _ x0 from ho)
    obtain ⟨LZ3, hLZ3, ho⟩ := own_lo ho
    try simp at hLZ3
    have HLZ3 := Lib.hid hLZ3
    clear hLZ3
    have Z3 := Lib.hid (ownR_of ho)
    have Z3a := Lib.hid (ownsF_at ho (by have := HSM0.out; omega))
    clear ho
    clear hb hb0
    go_wp2_with fail
    refine (eqStringS_f u2 u3 x0 x0 _ (FlatAt.below X2a_w8.out (by repeat (first | exact Below.refl _ _ | refine Below.alloc ?_ (by simp; try omega) _ | refine Below.setCell ?_ (by simp; try omega) _ | refine belN ?_ _ | refine belD ?_)) (Nat.le_refl _)) (FlatAt.below Z3a.out (by repeat (first | exact Below.refl _ _ | refine Below.alloc ?_ (by simp; try omega) _ | refine Below.setCell ?_ (by simp; try omega) _ | refine belN ?_ _ | refine belD ?_)) (Nat.le_refl _))).mono ?_
    rintro e w9 ⟨rfl, hb0⟩
    have hb := below_step (w := w8) (by repeat (first | exact Below.refl _ _ | refine Below.alloc ?_ (by simp; try omega) _ | refine Below.setCell ?_ (by simp; try omega) _ | refine belN ?_ _ | refine belD ?_)) hb0
    have Cw_w9 := Lib.hid (Cw_w8.out.trans (hb.mono Cw_w8.out.size))
    have Cw3_w9 := Lib.hid (Cw3_w8.out.trans (hb.mono Cw3_w8.out.size))
    have Cw4_w9 := Lib.hid (Cw4_w8.out.trans (hb.mono Cw4_w8.out.size))
    have Cw5_w9 := Lib.hid (Cw5_w8.out.trans (hb.mono Cw5_w8.out.size))
    have A0_w9 := Lib.hid (FlatAt.below A0_w8.out hb (Nat.le_refl _))
    have Rs_w9 := Lib.hid (belPart Rs_w8.out hb (Nat.le_refl _))
    have X2a_w9 := Lib.hid (FlatAt.below X2a_w8.out hb (Nat.le_refl _))
    have X2_w9 := Lib.hid (ownR_below X2_w8.out hb (Nat.le_refl _))
    have Rga_w9 := Lib.hid (belPart Rga_w8.out hb (Nat.le_refl _))
    have Rg_w9 := Lib.hid (ownP_below Rg_w8.out hb (Nat.le_refl _))
    have Z3a_w9 := Lib.hid (FlatAt.below Z3a.out hb (Nat.le_refl _))
    have Z3_w9 := Lib.hid (ownR_below Z3.out hb (Nat.le_refl _))
    have es0_0_w9 := (hb.cell (p := ⟨w3.heap.size, 0, none⟩) Ls0_w8).trans es0_0_w8
    have es0_1_w9 := (hb.cell (p := ⟨w3.heap.size, 1, none⟩) Ls0_w8).trans es0_1_w8
    have es0_2_w9 := (hb.cell (p := ⟨w3.heap.size, 2, none⟩) Ls0_w8).trans es0_2_w8
    have es0_3_w9 := (hb.cell (p := ⟨w3.heap.size, 3, none⟩) Ls0_w8).trans es0_3_w8
    have es0_4_w9 := (hb.cell (p := ⟨w3.heap.size, 4, none⟩) Ls0_w8).trans es0_4_w8
    have es0_5_w9 := (hb.cell (p := ⟨w3.heap.size, 5, none⟩) Ls0_w8).trans es0_5_w8
    have Ls0_w9 : w3.heap.size < w9.heap.size := by have h := hb.size; omega
    clear es0_0_w8 es0_1_w8 es0_2_w8 es0_3_w8 es0_4_w8 es0_5_w8 Ls0_w8
    have es1_0_w9 := (hb.cell (p := ⟨w3.heap.size + 1, 0, none⟩) Ls1_w8).trans es1_0_w8
    have es1_1_w9 := (hb.cell (p := ⟨w3.heap.size + 1, 1, none⟩) Ls1_w8).trans es1_1_w8
    have es1_2_w9 := (hb.cell (p := ⟨w3.heap.size + 1, 2, none⟩) Ls1_w8).trans es1_2_w8
    have es1_3_w9 := (hb.cell (p := ⟨w3.heap.size + 1, 3, none⟩) Ls1_w8).trans es1_3_w8
    have es1_4_w9 := (hb.cell (p := ⟨w3.heap.size + 1, 4, none⟩) Ls1_w8).trans es1_4_w8
    have Ls1_w9 : w3.heap.size + 1 < w9.heap.size := by have h := hb.size; omega
    clear es1_0_w8 es1_1_w8 es1_2_w8 es1_3_w8 es1_4_w8 Ls1_w8
    have eg0_0_w9 := (hb.cell (p := ⟨w5.heap.size, 0, none⟩) Lg0_w8).trans eg0_0_w8
    have eg0_1_w9 := (hb.cell (p := ⟨w5.heap.size, 1, none⟩) Lg0_w8).trans eg0_1_w8
    have eg0_2_w9 := (hb.cell (p := ⟨w5.heap.size, 2, none⟩) Lg0_w8).trans eg0_2_w8
    have eg0_3_w9 := (hb.cell (p := ⟨w5.heap.size, 3, none⟩) Lg0_w8).trans eg0_3_w8
    have eg0_4_w9 := (hb.cell (p := ⟨w5.heap.size, 4, none⟩) Lg0_w8).trans eg0_4_w8
    have eg0_5_w9 := (hb.cell (p := ⟨w5.heap.size, 5, none⟩) Lg0_w8).trans eg0_5_w8
    have Lg0_w9 : w5.heap.size < w9.heap.size := by have h := hb.size; omega
    clear eg0_0_w8 eg0_1_w8 eg0_2_w8 eg0_3_w8 eg0_4_w8 eg0_5_w8 Lg0_w8
    have eg1_0_w9 := (hb.cell (p := ⟨w5.heap.size + 1, 0, none⟩) Lg1_w8).trans eg1_0_w8
    have eg1_1_w9 := (hb.cell (p := ⟨w5.heap.size + 1, 1, none⟩) Lg1_w8).trans eg1_1_w8
    have eg1_2_w9 := (hb.cell (p := ⟨w5.heap.size + 1, 2, none⟩) Lg1_w8).trans eg1_2_w8
    have eg1_3_w9 := (hb.cell (p := ⟨w5.heap.size + 1, 3, none⟩) Lg1_w8).trans eg1_3_w8
    have eg1_4_w9 := (hb.cell (p := ⟨w5.heap.size + 1, 4, none⟩) Lg1_w8).trans eg1_4_w8
    have Lg1_w9 : w5.heap.size + 1 < w9.heap.size := by have h := hb.size; omega
    clear eg1_0_w8 eg1_1_w8 eg1_2_w8 eg1_3_w8 eg1_4_w8 Lg1_w8
    rw [show decide (x0 = x0) = true by simp]
    clear hb hb0
    go_wp2_with fail
    refine (mark_range (ownR_below X2_w9.out (by repeat (first | exact Below.refl _ _ | refine Below.alloc ?_ (by simp; try omega) _ | refine Below.setCell ?_ (by simp; try omega) _ | refine belN ?_ _ | refine belD ?_)) (Nat.le_refl _)) (markStringS_f LX2 u2 x0 1 _ (ownR_below X2_w9.out (by repeat (first | exact Below.refl _ _ | refine Below.alloc ?_ (by simp; try omega) _ | refine Below.setCell ?_ (by simp; try omega) _ | refine belN ?_ _ | refine belD ?_)) (Nat.le_refl _)).1 (by have := HSM0.out; omega) (by omega) (by omega))).mono ?_
    rintro e w10 ⟨rfl, ho, hbt⟩
    have Cw_w10 := Lib.hid (betw_below Cw_w9.out hbt LCX2_w.out)
    have Cw3_w10 := Lib.hid (betw_below Cw3_w9.out hbt LCX2_w3.out)
    have A0_w10 := Lib.hid (FlatAt.below A0.out Cw_w10.out (Nat.le_refl _))
    have Rs_w10 := Lib.hid (belPart Rs.out Cw3_w10.out (Nat.le_refl _))
    have Rg_w10 := Lib.hid (ownP_betw Rg_w9.out hbt (Or.inr LCRg_w4.out))
    have Rga_w10 := Lib.hid (ownP_at Rg_w10.out (by have := HSR.out.cells; simp only at this ⊢; omega) (by have := HSR.out.lays; simp only at this ⊢; omega))
    have es0_0_w10 := (betw_cell hbt (w3.heap.size) 0 Ls0_w9 (Or.inl LBX2_s0.out)).trans es0_0_w9
    have es0_1_w10 := (betw_cell hbt (w3.heap.size) 1 Ls0_w9 (Or.inl LBX2_s0.out)).trans es0_1_w9
    have es0_2_w10 := (betw_cell hbt (w3.heap.size) 2 Ls0_w9 (Or.inl LBX2_s0.out)).trans es0_2_w9
    have es0_3_w10 := (betw_cell hbt (w3.heap.size) 3 Ls0_w9 (Or.inl LBX2_s0.out)).trans es0_3_w9
    have es0_4_w10 := (betw_cell hbt (w3.heap.size) 4 Ls0_w9 (Or.inl LBX2_s0.out)).trans es0_4_w9
    have es0_5_w10 := (betw_cell hbt (w3.heap.size) 5 Ls0_w9 (Or.inl LBX2_s0.out)).trans es0_5_w9
    have Ls0_w10 : w3.heap.size < w10.heap.size := by have h := hbt.size; omega
    clear es0_0_w9 es0_1_w9 es0_2_w9 es0_3_w9 es0_4_w9 es0_5_w9 Ls0_w9
    have es1_0_w10 := (betw_cell hbt (w3.heap.size + 1) 0 Ls1_w9 (Or.inl LBX2_s1.out)).trans es1_0_w9
    have es1_1_w10 := (betw_cell hbt (w3.heap.size + 1) 1 Ls1_w9 (Or.inl LBX2_s1.out)).trans es1_1_w9
    have es1_2_w10 := (betw_cell hbt (w3.heap.size + 1) 2 Ls1_w9 (Or.inl LBX2_s1.out)).trans es1_2_w9
    have es1_3_w10 := (betw_cell hbt (w3.heap.size + 1) 3 Ls1_w9 (Or.inl LBX2_s1.out)).trans es1_3_w9
    have es1_4_w10 := (betw_cell hbt (w3.heap.size + 1) 4 Ls1_w9 (Or.inl LBX2_s1.out)).trans es1_4_w9
    have Ls1_w10 : w3.heap.size + 1 < w10.heap.size := by have h := hbt.size; omega
    clear es1_0_w9 es1_1_w9 es1_2_w9 es1_3_w9 es1_4_w9 Ls1_w9
    have eg0_0_w10 := (betw_cell hbt (w5.heap.size) 0 Lg0_w9 (Or.inr GBX2_g0.out)).trans eg0_0_w9
    have eg0_1_w10 := (betw_cell hbt (w5.heap.size) 1 Lg0_w9 (Or.inr GBX2_g0.out)).trans eg0_1_w9
    have eg0_2_w10 := (betw_cell hbt (w5.heap.size) 2 Lg0_w9 (Or.inr GBX2_g0.out)).trans eg0_2_w9
    have eg0_3_w10 := (betw_cell hbt (w5.heap.size) 3 Lg0_w9 (Or.inr GBX2_g0.out)).trans eg0_3_w9
    have eg0_4_w10 := (betw_cell hbt (w5.heap.size) 4 Lg0_w9 (Or.inr GBX2_g0.out)).trans eg0_4_w9
    have eg0_5_w10 := (betw_cell hbt (w5.heap.size) 5 Lg0_w9 (Or.inr GBX2_g0.out)).trans eg0_5_w9
    have Lg0_w10 : w5.heap.size < w10.heap.size := by have h := hbt.size; omega
    clear eg0_0_w9 eg0_1_w9 eg0_2_w9 eg0_3_w9 eg0_4_w9 eg0_5_w9 Lg0_w9
    have eg1_0_w10 := (betw_cell hbt (w5.heap.size + 1) 0 Lg1_w9 (Or.inr GBX2_g1.out)).trans eg1_0_w9
    have eg1_1_w10 := (betw_cell hbt (w5.heap.size + 1) 1 Lg1_w9 (Or.inr GBX2_g1.out)).trans eg1_1_w9
    have eg1_2_w10 := (betw_cell hbt (w5.heap.size + 1) 2 Lg1_w9 (Or.inr GBX2_g1.out)).trans eg1_2_w9
    have eg1_3_w10 := (betw_cell hbt (w5.heap.size + 1) 3 Lg1_w9 (Or.inr GBX2_g1.out)).trans eg1_3_w9
    have eg1_4_w10 := (betw_cell hbt (w5.heap.size + 1) 4 Lg1_w9 (Or.inr GBX2_g1.out)).trans eg1_4_w9
    have Lg1_w10 : w5.heap.size + 1 < w10.heap.size := by have h := hbt.size; omega
    clear eg1_0_w9 eg1_1_w9 eg1_2_w9 eg1_3_w9 eg1_4_w9 Lg1_w9
    clear ho hbt
    go_wp2_with fail
    refine (eqPart_d _ _ (⟨⟨n9_0_0, n9_0_1, n9_0_2, n9_0_3, n9_0_4⟩, n9_1⟩ : PartD) (⟨⟨n9_0_0, n9_0_1, n9_0_2, n9_0_3, n9_0_4⟩, n9_1⟩ : PartD) _ ⟨_, rfl, (belPart Rga_w10.out (by repeat (first | exact Below.refl _ _ | refine Below.alloc ?_ (by simp; try omega) _ | refine Below.setCell ?_ (by simp; try omega) _ | refine belN ?_ _ | refine belD ?_)) (Nat.le_refl _))⟩ ⟨_, rfl, (belPart Rs_w10.out (by repeat (first | exact Below.refl _ _ | refine Below.alloc ?_ (by simp; try omega) _ | refine Below.setCell ?_ (by simp; try omega) _ | refine belN ?_ _ | refine belD ?_)) (Nat.le_refl _))⟩).mono ?_
    rintro e w11 ⟨rfl, hb0⟩
    have hb := below_step (w := w10) (by repeat (first | exact Below.refl _ _ | refine Below.alloc ?_ (by simp; try omega) _ | refine Below.setCell ?_ (by simp; try omega) _ | refine belN ?_ _ | refine belD ?_)) hb0
    have Cw_w11 := Lib.hid (Cw_w10.out.trans (hb.mono Cw_w10.out.size))
    have Cw3_w11 := Lib.hid (Cw3_w10.out.trans (hb.mono Cw3_w10.out.size))
    have Cw10_w11 := Lib.hid hb
    have A0_w11 := Lib.hid (FlatAt.below A0_w10.out hb (Nat.le_refl _))
    have Rs_w11 := Lib.hid (belPart Rs_w10.out hb (Nat.le_refl _))
    have Rg_w11 := Lib.hid (ownP_below Rg_w10.out hb (Nat.le_refl _))
    have Rga_w11 := Lib.hid (belPart Rga_w10.out hb (Nat.le_refl _))
    have es0_0_w11 := (hb.cell (p := ⟨w3.heap.size, 0, none⟩) Ls0_w10).trans es0_0_w10
    have es0_1_w11 := (hb.cell (p := ⟨w3.heap.size, 1, none⟩) Ls0_w10).trans es0_1_w10
    have es0_2_w11 := (hb.cell (p := ⟨w3.heap.size, 2, none⟩) Ls0_w10).trans es0_2_w10
    have es0_3_w11 := (hb.cell (p := ⟨w3.heap.size, 3, none⟩) Ls0_w10).trans es0_3_w10
    have es0_4_w11 := (hb.cell (p := ⟨w3.heap.size, 4, none⟩) Ls0_w10).trans es0_4_w10
    have es0_5_w11 := (hb.cell (p := ⟨w3.heap.size, 5, none⟩) Ls0_w10).trans es0_5_w10
    have Ls0_w11 : w3.heap.size < w11.heap.size := by have h := hb.size; omega
    clear es0_0_w10 es0_1_w10 es0_2_w10 es0_3_w10 es0_4_w10 es0_5_w10 Ls0_w10
    have es1_0_w11 := (hb.cell (p := ⟨w3.heap.size + 1, 0, none⟩) Ls1_w10).trans es1_0_w10
    have es1_1_w11 := (hb.cell (p := ⟨w3.heap.size + 1, 1, none⟩) Ls1_w10).trans es1_1_w10
    have es1_2_w11 := (hb.cell (p := ⟨w3.heap.size + 1, 2, none⟩) Ls1_w10).trans es1_2_w10
    have es1_3_w11 := (hb.cell (p := ⟨w3.heap.size + 1, 3, none⟩) Ls1_w10).trans es1_3_w10
    have es1_4_w11 := (hb.cell (p := ⟨w3.heap.size + 1, 4, none⟩) Ls1_w10).trans es1_4_w10
    have Ls1_w11 : w3.heap.size + 1 < w11.heap.size := by have h := hb.size; omega
    clear es1_0_w10 es1_1_w10 es1_2_w10 es1_3_w10 es1_4_w10 Ls1_w10
    have eg0_0_w11 := (hb.cell (p := ⟨w5.heap.size, 0, none⟩) Lg0_w10).trans eg0_0_w10
    have eg0_1_w11 := (hb.cell (p := ⟨w5.heap.size, 1, none⟩) Lg0_w10).trans eg0_1_w10
    have eg0_2_w11 := (hb.cell (p := ⟨w5.heap.size, 2, none⟩) Lg0_w10).trans eg0_2_w10
    have eg0_3_w11 := (hb.cell (p := ⟨w5.heap.size, 3, none⟩) Lg0_w10).trans eg0_3_w10
    have eg0_4_w11 := (hb.cell (p := ⟨w5.heap.size, 4, none⟩) Lg0_w10).trans eg0_4_w10
    have eg0_5_w11 := (hb.cell (p := ⟨w5.heap.size, 5, none⟩) Lg0_w10).trans eg0_5_w10
    have Lg0_w11 : w5.heap.size < w11.heap.size := by have h := hb.size; omega
    clear eg0_0_w10 eg0_1_w10 eg0_2_w10 eg0_3_w10 eg0_4_w10 eg0_5_w10 Lg0_w10
    have eg1_0_w11 := (hb.cell (p := ⟨w5.heap.size + 1, 0, none⟩) Lg1_w10).trans eg1_0_w10
    have eg1_1_w11 := (hb.cell (p := ⟨w5.heap.size + 1, 1, none⟩) Lg1_w10).trans eg1_1_w10
    have eg1_2_w11 := (hb.cell (p := ⟨w5.heap.size + 1, 2, none⟩) Lg1_w10).trans eg1_2_w10
    have eg1_3_w11 := (hb.cell (p := ⟨w5.heap.size + 1, 3, none⟩) Lg1_w10).trans eg1_3_w10
    have eg1_4_w11 := (hb.cell (p := ⟨w5.heap.size + 1, 4, none⟩) Lg1_w10).trans eg1_4_w10
    have Lg1_w11 : w5.heap.size + 1 < w11.heap.size := by have h := hb.size; omega
    clear eg1_0_w10 eg1_1_w10 eg1_2_w10 eg1_3_w10 eg1_4_w10 Lg1_w10
    rw [show decide ((⟨⟨n9_0_0, n9_0_1, n9_0_2, n9_0_3, n9_0_4⟩, n9_1⟩ : PartD) = (⟨⟨n9_0_0, n9_0_1, n9_0_2, n9_0_3, n9_0_4⟩, n9_1⟩ : PartD)) = true by simp]
    clear hb hb0
    go_wp2_with fail
    refine (eqReply_any (⟨m0, m1, m2, m3, m4⟩ : ReplyD) (⟨m0, m1, m2, m3, m4⟩ : ReplyD) _).mono ?_
    rintro e w12 ⟨rfl, hb0⟩
    have hb := below_step (w := w11) (by repeat (first | exact Below.refl _ _ | refine Below.alloc ?_ (by simp; try omega) _ | refine Below.setCell ?_ (by simp; try omega) _ | refine belN ?_ _ | refine belD ?_)) hb0
    have Cw_w12 := Lib.hid (Cw_w11.out.trans (hb.mono Cw_w11.out.size))
    have Cw3_w12 := Lib.hid (Cw3_w11.out.trans (hb.mono Cw3_w11.out.size))
    have Cw10_w12 := Lib.hid (Cw10_w11.out.trans (hb.mono Cw10_w11.out.size))
    have A0_w12 := Lib.hid (FlatAt.below A0_w11.out hb (Nat.le_refl _))
    have Rs_w12 := Lib.hid (belPart Rs_w11.out hb (Nat.le_refl _))
    have Rg_w12 := Lib.hid (ownP_below Rg_w11.out hb (Nat.le_refl _))
    have Rga_w12 := Lib.hid (belPart Rga_w11.out hb (Nat.le_refl _))
    have es0_0_w12 := (hb.cell (p := ⟨w3.heap.size, 0, none⟩) Ls0_w11).trans es0_0_w11
    have es0_1_w12 := (hb.cell (p := ⟨w3.heap.size, 1, none⟩) Ls0_w11).trans es0_1_w11
    have es0_2_w12 := (hb.cell (p := ⟨w3.heap.size, 2, none⟩) Ls0_w11).trans es0_2_w11
    have es0_3_w12 := (hb.cell (p := ⟨w3.heap.size, 3, none⟩) Ls0_w11).trans es0_3_w11
    have es0_4_w12 := (hb.cell (p := ⟨w3.heap.size, 4, none⟩) Ls0_w11).trans es0_4_w11
    have es0_5_w12 := (hb.cell (p := ⟨w3.heap.size, 5, none⟩) Ls0_w11).trans es0_5_w11
    have Ls0_w12 : w3.heap.size < w12.heap.size := by have h := hb.size; omega
    clear es0_0_w11 es0_1_w11 es0_2_w11 es0_3_w11 es0_4_w11 es0_5_w11 Ls0_w11
    have es1_0_w12 := (hb.cell (p := ⟨w3.heap.size + 1, 0, none⟩) Ls1_w11).trans es1_0_w11
    have es1_1_w12 := (hb.cell (p := ⟨w3.heap.size + 1, 1, none⟩) Ls1_w11).trans es1_1_w11
    have es1_2_w12 := (hb.cell (p := ⟨w3.heap.size + 1, 2, none⟩) Ls1_w11).trans es1_2_w11
    have es1_3_w12 := (hb.cell (p := ⟨w3.heap.size + 1, 3, none⟩) Ls1_w11).trans es1_3_w11
    have es1_4_w12 := (hb.cell (p := ⟨w3.heap.size + 1, 4, none⟩) Ls1_w11).trans es1_4_w11
    have Ls1_w12 : w3.heap.size + 1 < w12.heap.size := by have h := hb.size; omega
    clear es1_0_w11 es1_1_w11 es1_2_w11 es1_3_w11 es1_4_w11 Ls1_w11
    have eg0_0_w12 := (hb.cell (p := ⟨w5.heap.size, 0, none⟩) Lg0_w11).trans eg0_0_w11
    have eg0_1_w12 := (hb.cell (p := ⟨w5.heap.size, 1, none⟩) Lg0_w11).trans eg0_1_w11
    have eg0_2_w12 := (hb.cell (p := ⟨w5.heap.size, 2, none⟩) Lg0_w11).trans eg0_2_w11
    have eg0_3_w12 := (hb.cell (p := ⟨w5.heap.size, 3, none⟩) Lg0_w11).trans eg0_3_w11
    have eg0_4_w12 := (hb.cell (p := ⟨w5.heap.size, 4, none⟩) Lg0_w11).trans eg0_4_w11
    have eg0_5_w12 := (hb.cell (p := ⟨w5.heap.size, 5, none⟩) Lg0_w11).trans eg0_5_w11
    have Lg0_w12 : w5.heap.size < w12.heap.size := by have h := hb.size; omega
    clear eg0_0_w11 eg0_1_w11 eg0_2_w11 eg0_3_w11 eg0_4_w11 eg0_5_w11 Lg0_w11
    have eg1_0_w12 := (hb.cell (p := ⟨w5.heap.size + 1, 0, none⟩) Lg1_w11).trans eg1_0_w11
    have eg1_1_w12 := (hb.cell (p := ⟨w5.heap.size + 1, 1, none⟩) Lg1_w11).trans eg1_1_w11
    have eg1_2_w12 := (hb.cell (p := ⟨w5.heap.size + 1, 2, none⟩) Lg1_w11).trans eg1_2_w11
    have eg1_3_w12 := (hb.cell (p := ⟨w5.heap.size + 1, 3, none⟩) Lg1_w11).trans eg1_3_w11
    have eg1_4_w12 := (hb.cell (p := ⟨w5.heap.size + 1, 4, none⟩) Lg1_w11).trans eg1_4_w11
    have Lg1_w12 : w5.heap.size + 1 < w12.heap.size := by have h := hb.size; omega
    clear eg1_0_w11 eg1_1_w11 eg1_2_w11 eg1_3_w11 eg1_4_w11 Lg1_w11
    rw [show decide ((⟨m0, m1, m2, m3, m4⟩ : ReplyD) = (⟨m0, m1, m2, m3, m4⟩ : ReplyD)) = true by simp]
    clear hb hb0
    go_wp2_with fail
    refine (markPart_o LRg _ _ (⟨⟨n9_0_0, n9_0_1, n9_0_2, n9_0_3, n9_0_4⟩, n9_1⟩ : PartD) 1 _ (ownP_below Rg_w12.out (by repeat (first | exact Below.refl _ _ | refine Below.alloc ?_ (by simp; try omega) _ | refine Below.setCell ?_ (by simp; try omega) _ | refine belN ?_ _ | refine belD ?_)) (Nat.le_refl _)) (by have := HSR.out.z; simp only [zPart, zCore] at this; simp only; omega) (by have := HSR.out.z; simp only [zPart, zCore] at this; simp only; omega) (by omega) (by omega)).mono ?_
    rintro e w13 ⟨rfl, ho, hbt⟩
    have Cw_w13 := Lib.hid (betw_below Cw_w12.out hbt LCRg_w.out)
    have Cw3_w13 := Lib.hid (betw_below Cw3_w12.out hbt LCRg_w3.out)
    have A0_w13 := Lib.hid (FlatAt.below A0.out Cw_w13.out (Nat.le_refl _))
    have Rs_w13 := Lib.hid (belPart Rs.out Cw3_w13.out (Nat.le_refl _))
    have es0_0_w13 := (betw_cell hbt (w3.heap.size) 0 Ls0_w12 (Or.inl LBRg_s0.out)).trans es0_0_w12
    have es0_1_w13 := (betw_cell hbt (w3.heap.size) 1 Ls0_w12 (Or.inl LBRg_s0.out)).trans es0_1_w12
    have es0_2_w13 := (betw_cell hbt (w3.heap.size) 2 Ls0_w12 (Or.inl LBRg_s0.out)).trans es0_2_w12
    have es0_3_w13 := (betw_cell hbt (w3.heap.size) 3 Ls0_w12 (Or.inl LBRg_s0.out)).trans es0_3_w12
    have es0_4_w13 := (betw_cell hbt (w3.heap.size) 4 Ls0_w12 (Or.inl LBRg_s0.out)).trans es0_4_w12
    have es0_5_w13 := (betw_cell hbt (w3.heap.size) 5 Ls0_w12 (Or.inl LBRg_s0.out)).trans es0_5_w12
    have Ls0_w13 : w3.heap.size < w13.heap.size := by have h := hbt.size; omega
    clear es0_0_w12 es0_1_w12 es0_2_w12 es0_3_w12 es0_4_w12 es0_5_w12 Ls0_w12
    have es1_0_w13 := (betw_cell hbt (w3.heap.size + 1) 0 Ls1_w12 (Or.inl LBRg_s1.out)).trans es1_0_w12
    have es1_1_w13 := (betw_cell hbt (w3.heap.size + 1) 1 Ls1_w12 (Or.inl LBRg_s1.out)).trans es1_1_w12
    have es1_2_w13 := (betw_cell hbt (w3.heap.size + 1) 2 Ls1_w12 (Or.inl LBRg_s1.out)).trans es1_2_w12
    have es1_3_w13 := (betw_cell hbt (w3.heap.size + 1) 3 Ls1_w12 (Or.inl LBRg_s1.out)).trans es1_3_w12
    have es1_4_w13 := (betw_cell hbt (w3.heap.size + 1) 4 Ls1_w12 (Or.inl LBRg_s1.out)).trans es1_4_w12
    have Ls1_w13 : w3.heap.size + 1 < w13.heap.size := by have h := hbt.size; omega
    clear es1_0_w12 es1_1_w12 es1_2_w12 es1_3_w12 es1_4_w12 Ls1_w12
    have eg0_0_w13 := (betw_cell hbt (w5.heap.size) 0 Lg0_w12 (Or.inr GBRg_g0.out)).trans eg0_0_w12
    have eg0_1_w13 := (betw_cell hbt (w5.heap.size) 1 Lg0_w12 (Or.inr GBRg_g0.out)).trans eg0_1_w12
    have eg0_2_w13 := (betw_cell hbt (w5.heap.size) 2 Lg0_w12 (Or.inr GBRg_g0.out)).trans eg0_2_w12
    have eg0_3_w13 := (betw_cell hbt (w5.heap.size) 3 Lg0_w12 (Or.inr GBRg_g0.out)).trans eg0_3_w12
    have eg0_4_w13 := (betw_cell hbt (w5.heap.size) 4 Lg0_w12 (Or.inr GBRg_g0.out)).trans eg0_4_w12
    have eg0_5_w13 := (betw_cell hbt (w5.heap.size) 5 Lg0_w12 (Or.inr GBRg_g0.out)).trans eg0_5_w12
    have Lg0_w13 : w5.heap.size < w13.heap.size := by have h := hbt.size; omega
    clear eg0_0_w12 eg0_1_w12 eg0_2_w12 eg0_3_w12 eg0_4_w12 eg0_5_w12 Lg0_w12
    have eg1_0_w13 := (betw_cell hbt (w5.heap.size + 1) 0 Lg1_w12 (Or.inr GBRg_g1.out)).trans eg1_0_w12
    have eg1_1_w13 := (betw_cell hbt (w5.heap.size + 1) 1 Lg1_w12 (Or.inr GBRg_g1.out)).trans eg1_1_w12
    have eg1_2_w13 := (betw_cell hbt (w5.heap.size + 1) 2 Lg1_w12 (Or.inr GBRg_g1.out)).trans eg1_2_w12
    have eg1_3_w13 := (betw_cell hbt (w5.heap.size + 1) 3 Lg1_w12 (Or.inr GBRg_g1.out)).trans eg1_3_w12
    have eg1_4_w13 := (betw_cell hbt (w5.heap.size + 1) 4 Lg1_w12 (Or.inr GBRg_g1.out)).trans eg1_4_w12
    have Lg1_w13 : w5.heap.size + 1 < w13.heap.size := by have h := hbt.size; omega
    clear eg1_0_w12 eg1_1_w12 eg1_2_w12 eg1_3_w12 eg1_4_w12 Lg1_w12
    have MK := Lib.hid (ownP_at ho (by simp only [marksP, marksCell_len]; have := HSR.out.z; simp only [zPart, zCore] at this; omega) (by simp only [marksP, marksLayer_len]; have := HSR.out.z; simp only [zPart, zCore] at this; omega))
    clear ho hbt
    go_wp2_with fail
    refine (heldPart_o _ (⟨⟨n9_0_0, n9_0_1, n9_0_2, n9_0_3, n9_0_4⟩, n9_1⟩ : PartD) 1 _ (belPart MK.out (by repeat (first | exact Below.refl _ _ | refine Below.alloc ?_ (by simp; try omega) _ | refine Below.setCell ?_ (by simp; try omega) _ | refine belN ?_ _ | refine belD ?_)) (Nat.le_refl _)) (by have := HSR.out.z; simp only [zPart, zCore] at this; simp only; omega) (by have := HSR.out.z; simp only [zPart, zCore] at this; simp only; omega) (by omega) (by omega)).mono ?_
    rintro e w14 ⟨rfl, hb0⟩
    have hb := below_step (w := w13) (by repeat (first | exact Below.refl _ _ | refine Below.alloc ?_ (by simp; try omega) _ | refine Below.setCell ?_ (by simp; try omega) _ | refine belN ?_ _ | refine belD ?_)) hb0
    have Cw_w14 := Lib.hid (Cw_w13.out.trans (hb.mono Cw_w13.out.size))
    have Cw3_w14 := Lib.hid (Cw3_w13.out.trans (hb.mono Cw3_w13.out.size))
    have A0_w14 := Lib.hid (FlatAt.below A0_w13.out hb (Nat.le_refl _))
    have Rs_w14 := Lib.hid (belPart Rs_w13.out hb (Nat.le_refl _))
    have MK_w14 := Lib.hid (belPart MK.out hb (Nat.le_refl _))
    have es0_0_w14 := (hb.cell (p := ⟨w3.heap.size, 0, none⟩) Ls0_w13).trans es0_0_w13
    have es0_1_w14 := (hb.cell (p := ⟨w3.heap.size, 1, none⟩) Ls0_w13).trans es0_1_w13
    have es0_2_w14 := (hb.cell (p := ⟨w3.heap.size, 2, none⟩) Ls0_w13).trans es0_2_w13
    have es0_3_w14 := (hb.cell (p := ⟨w3.heap.size, 3, none⟩) Ls0_w13).trans es0_3_w13
    have es0_4_w14 := (hb.cell (p := ⟨w3.heap.size, 4, none⟩) Ls0_w13).trans es0_4_w13
    have es0_5_w14 := (hb.cell (p := ⟨w3.heap.size, 5, none⟩) Ls0_w13).trans es0_5_w13
    have Ls0_w14 : w3.heap.size < w14.heap.size := by have h := hb.size; omega
    clear es0_0_w13 es0_1_w13 es0_2_w13 es0_3_w13 es0_4_w13 es0_5_w13 Ls0_w13
    have es1_0_w14 := (hb.cell (p := ⟨w3.heap.size + 1, 0, none⟩) Ls1_w13).trans es1_0_w13
    have es1_1_w14 := (hb.cell (p := ⟨w3.heap.size + 1, 1, none⟩) Ls1_w13).trans es1_1_w13
    have es1_2_w14 := (hb.cell (p := ⟨w3.heap.size + 1, 2, none⟩) Ls1_w13).trans es1_2_w13
    have es1_3_w14 := (hb.cell (p := ⟨w3.heap.size + 1, 3, none⟩) Ls1_w13).trans es1_3_w13
    have es1_4_w14 := (hb.cell (p := ⟨w3.heap.size + 1, 4, none⟩) Ls1_w13).trans es1_4_w13
    have Ls1_w14 : w3.heap.size + 1 < w14.heap.size := by have h := hb.size; omega
    clear es1_0_w13 es1_1_w13 es1_2_w13 es1_3_w13 es1_4_w13 Ls1_w13
    have eg0_0_w14 := (hb.cell (p := ⟨w5.heap.size, 0, none⟩) Lg0_w13).trans eg0_0_w13
    have eg0_1_w14 := (hb.cell (p := ⟨w5.heap.size, 1, none⟩) Lg0_w13).trans eg0_1_w13
    have eg0_2_w14 := (hb.cell (p := ⟨w5.heap.size, 2, none⟩) Lg0_w13).trans eg0_2_w13
    have eg0_3_w14 := (hb.cell (p := ⟨w5.heap.size, 3, none⟩) Lg0_w13).trans eg0_3_w13
    have eg0_4_w14 := (hb.cell (p := ⟨w5.heap.size, 4, none⟩) Lg0_w13).trans eg0_4_w13
    have eg0_5_w14 := (hb.cell (p := ⟨w5.heap.size, 5, none⟩) Lg0_w13).trans eg0_5_w13
    have Lg0_w14 : w5.heap.size < w14.heap.size := by have h := hb.size; omega
    clear eg0_0_w13 eg0_1_w13 eg0_2_w13 eg0_3_w13 eg0_4_w13 eg0_5_w13 Lg0_w13
    have eg1_0_w14 := (hb.cell (p := ⟨w5.heap.size + 1, 0, none⟩) Lg1_w13).trans eg1_0_w13
    have eg1_1_w14 := (hb.cell (p := ⟨w5.heap.size + 1, 1, none⟩) Lg1_w13).trans eg1_1_w13
    have eg1_2_w14 := (hb.cell (p := ⟨w5.heap.size + 1, 2, none⟩) Lg1_w13).trans eg1_2_w13
    have eg1_3_w14 := (hb.cell (p := ⟨w5.heap.size + 1, 3, none⟩) Lg1_w13).trans eg1_3_w13
    have eg1_4_w14 := (hb.cell (p := ⟨w5.heap.size + 1, 4, none⟩) Lg1_w13).trans eg1_4_w13
    have Lg1_w14 : w5.heap.size + 1 < w14.heap.size := by have h := hb.size; omega
    clear eg1_0_w13 eg1_1_w13 eg1_2_w13 eg1_3_w13 eg1_4_w13 Lg1_w13
    clear hb hb0
    have K_s0 := Ls0_w14
    have K_s1 := Ls1_w14
    have K_g0 := Lg0_w14
    have K_g1 := Lg1_w14
    go_wp2_with fail
    refine (toStringS_g v0 x0 _ (FlatAt.below A0_w14.out (by repeat (first | exact Below.refl _ _ | refine Below.alloc ?_ (by simp; try omega) _ | refine Below.setCell ?_ (by simp; try omega) _ | refine belN ?_ _ | refine belD ?_)) (Nat.le_refl _)) (by have := HSM0.out; omega)).mono ?_
    rintro e w15 ⟨u4, rfl, ho, hb0⟩
    have hb := below_step (w := w14) (by repeat (first | exact Below.refl _ _ | refine Below.alloc ?_ (by simp; try omega) _ | refine Below.setCell ?_ (by simp; try omega) _ | refine belN ?_ _ | refine belD ?_)) hb0
    have Cw_w15 := Lib.hid (Cw_w14.out.trans (hb.mono Cw_w14.out.size))
    have Cw3_w15 := Lib.hid (Cw3_w14.out.trans (hb.mono Cw3_w14.out.size))
    have A0_w15 := Lib.hid (FlatAt.below A0_w14.out hb (Nat.le_refl _))
    have Rs_w15 := Lib.hid (belPart Rs_w14.out hb (Nat.le_refl _))
    have MK_w15 := Lib.hid (belPart MK_w14.out hb (Nat.le_refl _))
    have es0_0_w15 := (hb.cell (p := ⟨w3.heap.size, 0, none⟩) Ls0_w14).trans es0_0_w14
    have es0_1_w15 := (hb.cell (p := ⟨w3.heap.size, 1, none⟩) Ls0_w14).trans es0_1_w14
    have es0_2_w15 := (hb.cell (p := ⟨w3.heap.size, 2, none⟩) Ls0_w14).trans es0_2_w14
    have es0_3_w15 := (hb.cell (p := ⟨w3.heap.size, 3, none⟩) Ls0_w14).trans es0_3_w14
    have es0_4_w15 := (hb.cell (p := ⟨w3.heap.size, 4, none⟩) Ls0_w14).trans es0_4_w14
    have es0_5_w15 := (hb.cell (p := ⟨w3.heap.size, 5, none⟩) Ls0_w14).trans es0_5_w14
    have Ls0_w15 : w3.heap.size < w15.heap.size := by have h := hb.size; omega
    clear es0_0_w14 es0_1_w14 es0_2_w14 es0_3_w14 es0_4_w14 es0_5_w14 Ls0_w14
    have es1_0_w15 := (hb.cell (p := ⟨w3.heap.size + 1, 0, none⟩) Ls1_w14).trans es1_0_w14
    have es1_1_w15 := (hb.cell (p := ⟨w3.heap.size + 1, 1, none⟩) Ls1_w14).trans es1_1_w14
    have es1_2_w15 := (hb.cell (p := ⟨w3.heap.size + 1, 2, none⟩) Ls1_w14).trans es1_2_w14
    have es1_3_w15 := (hb.cell (p := ⟨w3.heap.size + 1, 3, none⟩) Ls1_w14).trans es1_3_w14
    have es1_4_w15 := (hb.cell (p := ⟨w3.heap.size + 1, 4, none⟩) Ls1_w14).trans es1_4_w14
    have Ls1_w15 : w3.heap.size + 1 < w15.heap.size := by have h := hb.size; omega
    clear es1_0_w14 es1_1_w14 es1_2_w14 es1_3_w14 es1_4_w14 Ls1_w14
    have eg0_0_w15 := (hb.cell (p := ⟨w5.heap.size, 0, none⟩) Lg0_w14).trans eg0_0_w14
    have eg0_1_w15 := (hb.cell (p := ⟨w5.heap.size, 1, none⟩) Lg0_w14).trans eg0_1_w14
    have eg0_2_w15 := (hb.cell (p := ⟨w5.heap.size, 2, none⟩) Lg0_w14).trans eg0_2_w14
    have eg0_3_w15 := (hb.cell (p := ⟨w5.heap.size, 3, none⟩) Lg0_w14).trans eg0_3_w14
    have eg0_4_w15 := (hb.cell (p := ⟨w5.heap.size, 4, none⟩) Lg0_w14).trans eg0_4_w14
    have eg0_5_w15 := (hb.cell (p := ⟨w5.heap.size, 5, none⟩) Lg0_w14).trans eg0_5_w14
    have Lg0_w15 : w5.heap.size < w15.heap.size := by have h := hb.size; omega
    clear eg0_0_w14 eg0_1_w14 eg0_2_w14 eg0_3_w14 eg0_4_w14 eg0_5_w14 Lg0_w14
    have eg1_0_w15 := (hb.cell (p := ⟨w5.heap.size + 1, 0, none⟩) Lg1_w14).trans eg1_0_w14
    have eg1_1_w15 := (hb.cell (p := ⟨w5.heap.size + 1, 1, none⟩) Lg1_w14).trans eg1_1_w14
    have eg1_2_w15 := (hb.cell (p := ⟨w5.heap.size + 1, 2, none⟩) Lg1_w14).trans eg1_2_w14
    have eg1_3_w15 := (hb.cell (p := ⟨w5.heap.size + 1, 3, none⟩) Lg1_w14).trans eg1_3_w14
    have eg1_4_w15 := (hb.cell (p := ⟨w5.heap.size + 1, 4, none⟩) Lg1_w14).trans eg1_4_w14
    have Lg1_w15 : w5.heap.size + 1 < w15.heap.size := by have h := hb.size; omega
    clear eg1_0_w14 eg1_1_w14 eg1_2_w14 eg1_3_w14 eg1_4_w14 Lg1_w14
    have ho := (show OwnsF cStr 9 1 _ _ _ x0 from ho)
    obtain ⟨LH4, hLH4, ho⟩ := own_lo ho
    try simp at hLH4
    have HLH4 := Lib.hid hLH4
    clear hLH4
    have H4 := Lib.hid (ownR_of ho)
    have H4a := Lib.hid (ownsF_at ho (by have := HSM0.out; omega))
    clear ho
    clear hb hb0
    have K_s0 := Ls0_w15
    have K_s1 := Ls1_w15
    have K_g0 := Lg0_w15
    have K_g1 := Lg1_w15
    go_wp2_with fail
    refine (HIM.out u4 _ (FlatAt.below H4a.out (by repeat (first | exact Below.refl _ _ | refine Below.alloc ?_ (by simp; try omega) _ | refine Below.setCell ?_ (by simp; try omega) _ | refine belN ?_ _ | refine belD ?_)) (Nat.le_refl _))).mono ?_
    rintro e w16 ⟨_, rfl, ho, hb0⟩
    have hb := below_step (w := w15) (by repeat (first | exact Below.refl _ _ | refine Below.alloc ?_ (by simp; try omega) _ | refine Below.setCell ?_ (by simp; try omega) _ | refine belN ?_ _ | refine belD ?_)) hb0
    have Cw_w16 := Lib.hid (Cw_w15.out.trans (hb.mono Cw_w15.out.size))
    have Cw3_w16 := Lib.hid (Cw3_w15.out.trans (hb.mono Cw3_w15.out.size))
    have A0_w16 := Lib.hid (FlatAt.below A0_w15.out hb (Nat.le_refl _))
    have Rs_w16 := Lib.hid (belPart Rs_w15.out hb (Nat.le_refl _))
    have MK_w16 := Lib.hid (belPart MK_w15.out hb (Nat.le_refl _))
    have H4a_w16 := Lib.hid (FlatAt.below H4a.out hb (Nat.le_refl _))
    have H4_w16 := Lib.hid (ownR_below H4.out hb (Nat.le_refl _))
    have es0_0_w16 := (hb.cell (p := ⟨w3.heap.size, 0, none⟩) Ls0_w15).trans es0_0_w15
    have es0_1_w16 := (hb.cell (p := ⟨w3.heap.size, 1, none⟩) Ls0_w15).trans es0_1_w15
    have es0_2_w16 := (hb.cell (p := ⟨w3.heap.size, 2, none⟩) Ls0_w15).trans es0_2_w15
    have es0_3_w16 := (hb.cell (p := ⟨w3.heap.size, 3, none⟩) Ls0_w15).trans es0_3_w15
    have es0_4_w16 := (hb.cell (p := ⟨w3.heap.size, 4, none⟩) Ls0_w15).trans es0_4_w15
    have es0_5_w16 := (hb.cell (p := ⟨w3.heap.size, 5, none⟩) Ls0_w15).trans es0_5_w15
    have Ls0_w16 : w3.heap.size < w16.heap.size := by have h := hb.size; omega
    clear es0_0_w15 es0_1_w15 es0_2_w15 es0_3_w15 es0_4_w15 es0_5_w15 Ls0_w15
    have es1_0_w16 := (hb.cell (p := ⟨w3.heap.size + 1, 0, none⟩) Ls1_w15).trans es1_0_w15
    have es1_1_w16 := (hb.cell (p := ⟨w3.heap.size + 1, 1, none⟩) Ls1_w15).trans es1_1_w15
    have es1_2_w16 := (hb.cell (p := ⟨w3.heap.size + 1, 2, none⟩) Ls1_w15).trans es1_2_w15
    have es1_3_w16 := (hb.cell (p := ⟨w3.heap.size + 1, 3, none⟩) Ls1_w15).trans es1_3_w15
    have es1_4_w16 := (hb.cell (p := ⟨w3.heap.size + 1, 4, none⟩) Ls1_w15).trans es1_4_w15
    have Ls1_w16 : w3.heap.size + 1 < w16.heap.size := by have h := hb.size; omega
    clear es1_0_w15 es1_1_w15 es1_2_w15 es1_3_w15 es1_4_w15 Ls1_w15
    have eg0_0_w16 := (hb.cell (p := ⟨w5.heap.size, 0, none⟩) Lg0_w15).trans eg0_0_w15
    have eg0_1_w16 := (hb.cell (p := ⟨w5.heap.size, 1, none⟩) Lg0_w15).trans eg0_1_w15
    have eg0_2_w16 := (hb.cell (p := ⟨w5.heap.size, 2, none⟩) Lg0_w15).trans eg0_2_w15
    have eg0_3_w16 := (hb.cell (p := ⟨w5.heap.size, 3, none⟩) Lg0_w15).trans eg0_3_w15
    have eg0_4_w16 := (hb.cell (p := ⟨w5.heap.size, 4, none⟩) Lg0_w15).trans eg0_4_w15
    have eg0_5_w16 := (hb.cell (p := ⟨w5.heap.size, 5, none⟩) Lg0_w15).trans eg0_5_w15
    have Lg0_w16 : w5.heap.size < w16.heap.size := by have h := hb.size; omega
    clear eg0_0_w15 eg0_1_w15 eg0_2_w15 eg0_3_w15 eg0_4_w15 eg0_5_w15 Lg0_w15
    have eg1_0_w16 := (hb.cell (p := ⟨w5.heap.size + 1, 0, none⟩) Lg1_w15).trans eg1_0_w15
    have eg1_1_w16 := (hb.cell (p := ⟨w5.heap.size + 1, 1, none⟩) Lg1_w15).trans eg1_1_w15
    have eg1_2_w16 := (hb.cell (p := ⟨w5.heap.size + 1, 2, none⟩) Lg1_w15).trans eg1_2_w15
    have eg1_3_w16 := (hb.cell (p := ⟨w5.heap.size + 1, 3, none⟩) Lg1_w15).trans eg1_3_w15
    have eg1_4_w16 := (hb.cell (p := ⟨w5.heap.size + 1, 4, none⟩) Lg1_w15).trans eg1_4_w15
    have Lg1_w16 : w5.heap.size + 1 < w16.heap.size := by have h := hb.size; omega
    clear eg1_0_w15 eg1_1_w15 eg1_2_w15 eg1_3_w15 eg1_4_w15 Lg1_w15
    obtain ⟨uRh_3, uRh_5, rfl, hoRh_3, hoRh_5⟩ := ho
    obtain ⟨pRh_3, qRh_3, rfl⟩ := slice_of hoRh_3
    obtain ⟨pRh_5, qRh_5, rfl⟩ := slice_of hoRh_5
    simp only at hoRh_3 hoRh_5
    have ho := (show oPart _ _ _ (⟨⟨n9_0_0, n9_0_1, n9_0_2, n9_0_3, n9_0_4⟩, n9_1⟩ : PartD) from ⟨_, _, rfl, hoRh_3, hoRh_5⟩)
    clear hoRh_3 hoRh_5
    obtain ⟨LRh, hLRh, ho⟩ := own_loP ho
    try simp at hLRh
    have HLRh := Lib.hid hLRh
    clear hLRh
    have Rh := Lib.hid (ownP_of ho)
    have Rha := Lib.hid (oPart_0 ho HSR.out)
    clear ho
    clear hb hb0
    go_wp2_with fail
    refine (eqPart_d _ _ (⟨⟨n9_0_0, n9_0_1, n9_0_2, n9_0_3, n9_0_4⟩, n9_1⟩ : PartD) (⟨⟨n9_0_0, n9_0_1, n9_0_2, n9_0_3, n9_0_4⟩, n9_1⟩ : PartD) _ ⟨_, rfl, (belPart Rha.out (by repeat (first | exact Below.refl _ _ | refine Below.alloc ?_ (by simp; try omega) _ | refine Below.setCell ?_ (by simp; try omega) _ | refine belN ?_ _ | refine belD ?_)) (Nat.le_refl _))⟩ ⟨_, rfl, (belPart Rs_w16.out (by repeat (first | exact Below.refl _ _ | refine Below.alloc ?_ (by simp; try omega) _ | refine Below.setCell ?_ (by simp; try omega) _ | refine belN ?_ _ | refine belD ?_)) (Nat.le_refl _))⟩).mono ?_
    rintro e w17 ⟨rfl, hb0⟩
    have hb := below_step (w := w16) (by repeat (first | exact Below.refl _ _ | refine Below.alloc ?_ (by simp; try omega) _ | refine Below.setCell ?_ (by simp; try omega) _ | refine belN ?_ _ | refine belD ?_)) hb0
    have Cw_w17 := Lib.hid (Cw_w16.out.trans (hb.mono Cw_w16.out.size))
    have Cw3_w17 := Lib.hid (Cw3_w16.out.trans (hb.mono Cw3_w16.out.size))
    have A0_w17 := Lib.hid (FlatAt.below A0_w16.out hb (Nat.le_refl _))
    have Rs_w17 := Lib.hid (belPart Rs_w16.out hb (Nat.le_refl _))
    have MK_w17 := Lib.hid (belPart MK_w16.out hb (Nat.le_refl _))
    have H4a_w17 := Lib.hid (FlatAt.below H4a_w16.out hb (Nat.le_refl _))
    have H4_w17 := Lib.hid (ownR_below H4_w16.out hb (Nat.le_refl _))
    have Rha_w17 := Lib.hid (belPart Rha.out hb (Nat.le_refl _))
    have Rh_w17 := Lib.hid (ownP_below Rh.out hb (Nat.le_refl _))
    have es0_0_w17 := (hb.cell (p := ⟨w3.heap.size, 0, none⟩) Ls0_w16).trans es0_0_w16
    have es0_1_w17 := (hb.cell (p := ⟨w3.heap.size, 1, none⟩) Ls0_w16).trans es0_1_w16
    have es0_2_w17 := (hb.cell (p := ⟨w3.heap.size, 2, none⟩) Ls0_w16).trans es0_2_w16
    have es0_3_w17 := (hb.cell (p := ⟨w3.heap.size, 3, none⟩) Ls0_w16).trans es0_3_w16
    have es0_4_w17 := (hb.cell (p := ⟨w3.heap.size, 4, none⟩) Ls0_w16).trans es0_4_w16
    have es0_5_w17 := (hb.cell (p := ⟨w3.heap.size, 5, none⟩) Ls0_w16).trans es0_5_w16
    have Ls0_w17 : w3.heap.size < w17.heap.size := by have h := hb.size; omega
    clear es0_0_w16 es0_1_w16 es0_2_w16 es0_3_w16 es0_4_w16 es0_5_w16 Ls0_w16
    have es1_0_w17 := (hb.cell (p := ⟨w3.heap.size + 1, 0, none⟩) Ls1_w16).trans es1_0_w16
    have es1_1_w17 := (hb.cell (p := ⟨w3.heap.size + 1, 1, none⟩) Ls1_w16).trans es1_1_w16
    have es1_2_w17 := (hb.cell (p := ⟨w3.heap.size + 1, 2, none⟩) Ls1_w16).trans es1_2_w16
    have es1_3_w17 := (hb.cell (p := ⟨w3.heap.size + 1, 3, none⟩) Ls1_w16).trans es1_3_w16
    have es1_4_w17 := (hb.cell (p := ⟨w3.heap.size + 1, 4, none⟩) Ls1_w16).trans es1_4_w16
    have Ls1_w17 : w3.heap.size + 1 < w17.heap.size := by have h := hb.size; omega
    clear es1_0_w16 es1_1_w16 es1_2_w16 es1_3_w16 es1_4_w16 Ls1_w16
    have eg0_0_w17 := (hb.cell (p := ⟨w5.heap.size, 0, none⟩) Lg0_w16).trans eg0_0_w16
    have eg0_1_w17 := (hb.cell (p := ⟨w5.heap.size, 1, none⟩) Lg0_w16).trans eg0_1_w16
    have eg0_2_w17 := (hb.cell (p := ⟨w5.heap.size, 2, none⟩) Lg0_w16).trans eg0_2_w16
    have eg0_3_w17 := (hb.cell (p := ⟨w5.heap.size, 3, none⟩) Lg0_w16).trans eg0_3_w16
    have eg0_4_w17 := (hb.cell (p := ⟨w5.heap.size, 4, none⟩) Lg0_w16).trans eg0_4_w16
    have eg0_5_w17 := (hb.cell (p := ⟨w5.heap.size, 5, none⟩) Lg0_w16).trans eg0_5_w16
    have Lg0_w17 : w5.heap.size < w17.heap.size := by have h := hb.size; omega
    clear eg0_0_w16 eg0_1_w16 eg0_2_w16 eg0_3_w16 eg0_4_w16 eg0_5_w16 Lg0_w16
    have eg1_0_w17 := (hb.cell (p := ⟨w5.heap.size + 1, 0, none⟩) Lg1_w16).trans eg1_0_w16
    have eg1_1_w17 := (hb.cell (p := ⟨w5.heap.size + 1, 1, none⟩) Lg1_w16).trans eg1_1_w16
    have eg1_2_w17 := (hb.cell (p := ⟨w5.heap.size + 1, 2, none⟩) Lg1_w16).trans eg1_2_w16
    have eg1_3_w17 := (hb.cell (p := ⟨w5.heap.size + 1, 3, none⟩) Lg1_w16).trans eg1_3_w16
    have eg1_4_w17 := (hb.cell (p := ⟨w5.heap.size + 1, 4, none⟩) Lg1_w16).trans eg1_4_w16
    have Lg1_w17 : w5.heap.size + 1 < w17.heap.size := by have h := hb.size; omega
    clear eg1_0_w16 eg1_1_w16 eg1_2_w16 eg1_3_w16 eg1_4_w16 Lg1_w16
    have eh0_0_w17 : w17.cell? ⟨w16.heap.size, 0, none⟩ = some (.string ⟨n9_0_0.toArray⟩) := by rw [hb0.cell (p := ⟨w16.heap.size, 0, none⟩) (by simp; try omega)]; simp
    have eh0_1_w17 : w17.cell? ⟨w16.heap.size, 1, none⟩ = some (.bool n9_0_1) := by rw [hb0.cell (p := ⟨w16.heap.size, 1, none⟩) (by simp; try omega)]; simp
    have eh0_2_w17 : w17.cell? ⟨w16.heap.size, 2, none⟩ = some (.bool n9_0_2) := by rw [hb0.cell (p := ⟨w16.heap.size, 2, none⟩) (by simp; try omega)]; simp
    have eh0_3_w17 : w17.cell? ⟨w16.heap.size, 3, none⟩ = some (.slice pRh_3 n9_0_3.length qRh_3) := by rw [hb0.cell (p := ⟨w16.heap.size, 3, none⟩) (by simp; try omega)]; simp
    have eh0_4_w17 : w17.cell? ⟨w16.heap.size, 4, none⟩ = some (.int .i64 n9_0_4) := by rw [hb0.cell (p := ⟨w16.heap.size, 4, none⟩) (by simp; try omega)]; simp
    have eh0_5_w17 : w17.cell? ⟨w16.heap.size, 5, none⟩ = some (.slice pRh_5 n9_1.length qRh_5) := by rw [hb0.cell (p := ⟨w16.heap.size, 5, none⟩) (by simp; try omega)]; simp
    have Lh0_w17 : w16.heap.size < w17.heap.size := by have h := hb0.size; simp at h; omega
    have eh1_0_w17 : w17.cell? ⟨w16.heap.size + 1, 0, none⟩ = some (.int .i64 m0) := by rw [hb0.cell (p := ⟨w16.heap.size + 1, 0, none⟩) (by simp; try omega)]; simp
    have eh1_1_w17 : w17.cell? ⟨w16.heap.size + 1, 1, none⟩ = some (.int .i64 m1) := by rw [hb0.cell (p := ⟨w16.heap.size + 1, 1, none⟩) (by simp; try omega)]; simp
    have eh1_2_w17 : w17.cell? ⟨w16.heap.size + 1, 2, none⟩ = some (.string ⟨m2.toArray⟩) := by rw [hb0.cell (p := ⟨w16.heap.size + 1, 2, none⟩) (by simp; try omega)]; simp
    have eh1_3_w17 : w17.cell? ⟨w16.heap.size + 1, 3, none⟩ = some (.int .i64 m3) := by rw [hb0.cell (p := ⟨w16.heap.size + 1, 3, none⟩) (by simp; try omega)]; simp
    have eh1_4_w17 : w17.cell? ⟨w16.heap.size + 1, 4, none⟩ = some (.int .i64 m4) := by rw [hb0.cell (p := ⟨w16.heap.size + 1, 4, none⟩) (by simp; try omega)]; simp
    have Lh1_w17 : w16.heap.size + 1 < w17.heap.size := by have h := hb0.size; simp at h; omega
    rw [show decide ((⟨⟨n9_0_0, n9_0_1, n9_0_2, n9_0_3, n9_0_4⟩, n9_1⟩ : PartD) = (⟨⟨n9_0_0, n9_0_1, n9_0_2, n9_0_3, n9_0_4⟩, n9_1⟩ : PartD)) = true by simp]
    clear hb hb0
    go_wp2_with fail
    refine (eqReply_any (⟨m0, m1, m2, m3, m4⟩ : ReplyD) (⟨m0, m1, m2, m3, m4⟩ : ReplyD) _).mono ?_
    rintro e w18 ⟨rfl, hb0⟩
    have hb := below_step (w := w17) (by repeat (first | exact Below.refl _ _ | refine Below.alloc ?_ (by simp; try omega) _ | refine Below.setCell ?_ (by simp; try omega) _ | refine belN ?_ _ | refine belD ?_)) hb0
    have Cw_w18 := Lib.hid (Cw_w17.out.trans (hb.mono Cw_w17.out.size))
    have Cw3_w18 := Lib.hid (Cw3_w17.out.trans (hb.mono Cw3_w17.out.size))
    have A0_w18 := Lib.hid (FlatAt.below A0_w17.out hb (Nat.le_refl _))
    have Rs_w18 := Lib.hid (belPart Rs_w17.out hb (Nat.le_refl _))
    have MK_w18 := Lib.hid (belPart MK_w17.out hb (Nat.le_refl _))
    have H4a_w18 := Lib.hid (FlatAt.below H4a_w17.out hb (Nat.le_refl _))
    have H4_w18 := Lib.hid (ownR_below H4_w17.out hb (Nat.le_refl _))
    have Rha_w18 := Lib.hid (belPart Rha_w17.out hb (Nat.le_refl _))
    have Rh_w18 := Lib.hid (ownP_below Rh_w17.out hb (Nat.le_refl _))
    have es0_0_w18 := (hb.cell (p := ⟨w3.heap.size, 0, none⟩) Ls0_w17).trans es0_0_w17
    have es0_1_w18 := (hb.cell (p := ⟨w3.heap.size, 1, none⟩) Ls0_w17).trans es0_1_w17
    have es0_2_w18 := (hb.cell (p := ⟨w3.heap.size, 2, none⟩) Ls0_w17).trans es0_2_w17
    have es0_3_w18 := (hb.cell (p := ⟨w3.heap.size, 3, none⟩) Ls0_w17).trans es0_3_w17
    have es0_4_w18 := (hb.cell (p := ⟨w3.heap.size, 4, none⟩) Ls0_w17).trans es0_4_w17
    have es0_5_w18 := (hb.cell (p := ⟨w3.heap.size, 5, none⟩) Ls0_w17).trans es0_5_w17
    have Ls0_w18 : w3.heap.size < w18.heap.size := by have h := hb.size; omega
    clear es0_0_w17 es0_1_w17 es0_2_w17 es0_3_w17 es0_4_w17 es0_5_w17 Ls0_w17
    have es1_0_w18 := (hb.cell (p := ⟨w3.heap.size + 1, 0, none⟩) Ls1_w17).trans es1_0_w17
    have es1_1_w18 := (hb.cell (p := ⟨w3.heap.size + 1, 1, none⟩) Ls1_w17).trans es1_1_w17
    have es1_2_w18 := (hb.cell (p := ⟨w3.heap.size + 1, 2, none⟩) Ls1_w17).trans es1_2_w17
    have es1_3_w18 := (hb.cell (p := ⟨w3.heap.size + 1, 3, none⟩) Ls1_w17).trans es1_3_w17
    have es1_4_w18 := (hb.cell (p := ⟨w3.heap.size + 1, 4, none⟩) Ls1_w17).trans es1_4_w17
    have Ls1_w18 : w3.heap.size + 1 < w18.heap.size := by have h := hb.size; omega
    clear es1_0_w17 es1_1_w17 es1_2_w17 es1_3_w17 es1_4_w17 Ls1_w17
    have eg0_0_w18 := (hb.cell (p := ⟨w5.heap.size, 0, none⟩) Lg0_w17).trans eg0_0_w17
    have eg0_1_w18 := (hb.cell (p := ⟨w5.heap.size, 1, none⟩) Lg0_w17).trans eg0_1_w17
    have eg0_2_w18 := (hb.cell (p := ⟨w5.heap.size, 2, none⟩) Lg0_w17).trans eg0_2_w17
    have eg0_3_w18 := (hb.cell (p := ⟨w5.heap.size, 3, none⟩) Lg0_w17).trans eg0_3_w17
    have eg0_4_w18 := (hb.cell (p := ⟨w5.heap.size, 4, none⟩) Lg0_w17).trans eg0_4_w17
    have eg0_5_w18 := (hb.cell (p := ⟨w5.heap.size, 5, none⟩) Lg0_w17).trans eg0_5_w17
    have Lg0_w18 : w5.heap.size < w18.heap.size := by have h := hb.size; omega
    clear eg0_0_w17 eg0_1_w17 eg0_2_w17 eg0_3_w17 eg0_4_w17 eg0_5_w17 Lg0_w17
    have eg1_0_w18 := (hb.cell (p := ⟨w5.heap.size + 1, 0, none⟩) Lg1_w17).trans eg1_0_w17
    have eg1_1_w18 := (hb.cell (p := ⟨w5.heap.size + 1, 1, none⟩) Lg1_w17).trans eg1_1_w17
    have eg1_2_w18 := (hb.cell (p := ⟨w5.heap.size + 1, 2, none⟩) Lg1_w17).trans eg1_2_w17
    have eg1_3_w18 := (hb.cell (p := ⟨w5.heap.size + 1, 3, none⟩) Lg1_w17).trans eg1_3_w17
    have eg1_4_w18 := (hb.cell (p := ⟨w5.heap.size + 1, 4, none⟩) Lg1_w17).trans eg1_4_w17
    have Lg1_w18 : w5.heap.size + 1 < w18.heap.size := by have h := hb.size; omega
    clear eg1_0_w17 eg1_1_w17 eg1_2_w17 eg1_3_w17 eg1_4_w17 Lg1_w17
    have eh0_0_w18 := (hb.cell (p := ⟨w16.heap.size, 0, none⟩) Lh0_w17).trans eh0_0_w17
    have eh0_1_w18 := (hb.cell (p := ⟨w16.heap.size, 1, none⟩) Lh0_w17).trans eh0_1_w17
    have eh0_2_w18 := (hb.cell (p := ⟨w16.heap.size, 2, none⟩) Lh0_w17).trans eh0_2_w17
    have eh0_3_w18 := (hb.cell (p := ⟨w16.heap.size, 3, none⟩) Lh0_w17).trans eh0_3_w17
    have eh0_4_w18 := (hb.cell (p := ⟨w16.heap.size, 4, none⟩) Lh0_w17).trans eh0_4_w17
    have eh0_5_w18 := (hb.cell (p := ⟨w16.heap.size, 5, none⟩) Lh0_w17).trans eh0_5_w17
    have Lh0_w18 : w16.heap.size < w18.heap.size := by have h := hb.size; omega
    clear eh0_0_w17 eh0_1_w17 eh0_2_w17 eh0_3_w17 eh0_4_w17 eh0_5_w17 Lh0_w17
    have eh1_0_w18 := (hb.cell (p := ⟨w16.heap.size + 1, 0, none⟩) Lh1_w17).trans eh1_0_w17
    have eh1_1_w18 := (hb.cell (p := ⟨w16.heap.size + 1, 1, none⟩) Lh1_w17).trans eh1_1_w17
    have eh1_2_w18 := (hb.cell (p := ⟨w16.heap.size + 1, 2, none⟩) Lh1_w17).trans eh1_2_w17
    have eh1_3_w18 := (hb.cell (p := ⟨w16.heap.size + 1, 3, none⟩) Lh1_w17).trans eh1_3_w17
    have eh1_4_w18 := (hb.cell (p := ⟨w16.heap.size + 1, 4, none⟩) Lh1_w17).trans eh1_4_w17
    have Lh1_w18 : w16.heap.size + 1 < w18.heap.size := by have h := hb.size; omega
    clear eh1_0_w17 eh1_1_w17 eh1_2_w17 eh1_3_w17 eh1_4_w17 Lh1_w17
    rw [show decide ((⟨m0, m1, m2, m3, m4⟩ : ReplyD) = (⟨m0, m1, m2, m3, m4⟩ : ReplyD)) = true by simp]
    clear hb hb0
    go_wp2_with fail
    refine (heldPart_o _ (⟨⟨n9_0_0, n9_0_1, n9_0_2, n9_0_3, n9_0_4⟩, n9_1⟩ : PartD) 1 _ (belPart MK_w18.out (by repeat (first | exact Below.refl _ _ | refine Below.alloc ?_ (by simp; try omega) _ | refine Below.setCell ?_ (by simp; try omega) _ | refine belN ?_ _ | refine belD ?_)) (Nat.le_refl _)) (by have := HSR.out.z; simp only [zPart, zCore] at this; simp only; omega) (by have := HSR.out.z; simp only [zPart, zCore] at this; simp only; omega) (by omega) (by omega)).mono ?_
    rintro e w19 ⟨rfl, hb0⟩
    have hb := below_step (w := w18) (by repeat (first | exact Below.refl _ _ | refine Below.alloc ?_ (by simp; try omega) _ | refine Below.setCell ?_ (by simp; try omega) _ | refine belN ?_ _ | refine belD ?_)) hb0
    have Cw_w19 := Lib.hid (Cw_w18.out.trans (hb.mono Cw_w18.out.size))
    have Cw3_w19 := Lib.hid (Cw3_w18.out.trans (hb.mono Cw3_w18.out.size))
    have A0_w19 := Lib.hid (FlatAt.below A0_w18.out hb (Nat.le_refl _))
    have Rs_w19 := Lib.hid (belPart Rs_w18.out hb (Nat.le_refl _))
    have MK_w19 := Lib.hid (belPart MK_w18.out hb (Nat.le_refl _))
    have H4a_w19 := Lib.hid (FlatAt.below H4a_w18.out hb (Nat.le_refl _))
    have H4_w19 := Lib.hid (ownR_below H4_w18.out hb (Nat.le_refl _))
    have Rha_w19 := Lib.hid (belPart Rha_w18.out hb (Nat.le_refl _))
    have Rh_w19 := Lib.hid (ownP_below Rh_w18.out hb (Nat.le_refl _))
    have es0_0_w19 := (hb.cell (p := ⟨w3.heap.size, 0, none⟩) Ls0_w18).trans es0_0_w18
    have es0_1_w19 := (hb.cell (p := ⟨w3.heap.size, 1, none⟩) Ls0_w18).trans es0_1_w18
    have es0_2_w19 := (hb.cell (p := ⟨w3.heap.size, 2, none⟩) Ls0_w18).trans es0_2_w18
    have es0_3_w19 := (hb.cell (p := ⟨w3.heap.size, 3, none⟩) Ls0_w18).trans es0_3_w18
    have es0_4_w19 := (hb.cell (p := ⟨w3.heap.size, 4, none⟩) Ls0_w18).trans es0_4_w18
    have es0_5_w19 := (hb.cell (p := ⟨w3.heap.size, 5, none⟩) Ls0_w18).trans es0_5_w18
    have Ls0_w19 : w3.heap.size < w19.heap.size := by have h := hb.size; omega
    clear es0_0_w18 es0_1_w18 es0_2_w18 es0_3_w18 es0_4_w18 es0_5_w18 Ls0_w18
    have es1_0_w19 := (hb.cell (p := ⟨w3.heap.size + 1, 0, none⟩) Ls1_w18).trans es1_0_w18
    have es1_1_w19 := (hb.cell (p := ⟨w3.heap.size + 1, 1, none⟩) Ls1_w18).trans es1_1_w18
    have es1_2_w19 := (hb.cell (p := ⟨w3.heap.size + 1, 2, none⟩) Ls1_w18).trans es1_2_w18
    have es1_3_w19 := (hb.cell (p := ⟨w3.heap.size + 1, 3, none⟩) Ls1_w18).trans es1_3_w18
    have es1_4_w19 := (hb.cell (p := ⟨w3.heap.size + 1, 4, none⟩) Ls1_w18).trans es1_4_w18
    have Ls1_w19 : w3.heap.size + 1 < w19.heap.size := by have h := hb.size; omega
    clear es1_0_w18 es1_1_w18 es1_2_w18 es1_3_w18 es1_4_w18 Ls1_w18
    have eg0_0_w19 := (hb.cell (p := ⟨w5.heap.size, 0, none⟩) Lg0_w18).trans eg0_0_w18
    have eg0_1_w19 := (hb.cell (p := ⟨w5.heap.size, 1, none⟩) Lg0_w18).trans eg0_1_w18
    have eg0_2_w19 := (hb.cell (p := ⟨w5.heap.size, 2, none⟩) Lg0_w18).trans eg0_2_w18
    have eg0_3_w19 := (hb.cell (p := ⟨w5.heap.size, 3, none⟩) Lg0_w18).trans eg0_3_w18
    have eg0_4_w19 := (hb.cell (p := ⟨w5.heap.size, 4, none⟩) Lg0_w18).trans eg0_4_w18
    have eg0_5_w19 := (hb.cell (p := ⟨w5.heap.size, 5, none⟩) Lg0_w18).trans eg0_5_w18
    have Lg0_w19 : w5.heap.size < w19.heap.size := by have h := hb.size; omega
    clear eg0_0_w18 eg0_1_w18 eg0_2_w18 eg0_3_w18 eg0_4_w18 eg0_5_w18 Lg0_w18
    have eg1_0_w19 := (hb.cell (p := ⟨w5.heap.size + 1, 0, none⟩) Lg1_w18).trans eg1_0_w18
    have eg1_1_w19 := (hb.cell (p := ⟨w5.heap.size + 1, 1, none⟩) Lg1_w18).trans eg1_1_w18
    have eg1_2_w19 := (hb.cell (p := ⟨w5.heap.size + 1, 2, none⟩) Lg1_w18).trans eg1_2_w18
    have eg1_3_w19 := (hb.cell (p := ⟨w5.heap.size + 1, 3, none⟩) Lg1_w18).trans eg1_3_w18
    have eg1_4_w19 := (hb.cell (p := ⟨w5.heap.size + 1, 4, none⟩) Lg1_w18).trans eg1_4_w18
    have Lg1_w19 : w5.heap.size + 1 < w19.heap.size := by have h := hb.size; omega
    clear eg1_0_w18 eg1_1_w18 eg1_2_w18 eg1_3_w18 eg1_4_w18 Lg1_w18
    have eh0_0_w19 := (hb.cell (p := ⟨w16.heap.size, 0, none⟩) Lh0_w18).trans eh0_0_w18
    have eh0_1_w19 := (hb.cell (p := ⟨w16.heap.size, 1, none⟩) Lh0_w18).trans eh0_1_w18
    have eh0_2_w19 := (hb.cell (p := ⟨w16.heap.size, 2, none⟩) Lh0_w18).trans eh0_2_w18
    have eh0_3_w19 := (hb.cell (p := ⟨w16.heap.size, 3, none⟩) Lh0_w18).trans eh0_3_w18
    have eh0_4_w19 := (hb.cell (p := ⟨w16.heap.size, 4, none⟩) Lh0_w18).trans eh0_4_w18
    have eh0_5_w19 := (hb.cell (p := ⟨w16.heap.size, 5, none⟩) Lh0_w18).trans eh0_5_w18
    have Lh0_w19 : w16.heap.size < w19.heap.size := by have h := hb.size; omega
    clear eh0_0_w18 eh0_1_w18 eh0_2_w18 eh0_3_w18 eh0_4_w18 eh0_5_w18 Lh0_w18
    have eh1_0_w19 := (hb.cell (p := ⟨w16.heap.size + 1, 0, none⟩) Lh1_w18).trans eh1_0_w18
    have eh1_1_w19 := (hb.cell (p := ⟨w16.heap.size + 1, 1, none⟩) Lh1_w18).trans eh1_1_w18
    have eh1_2_w19 := (hb.cell (p := ⟨w16.heap.size + 1, 2, none⟩) Lh1_w18).trans eh1_2_w18
    have eh1_3_w19 := (hb.cell (p := ⟨w16.heap.size + 1, 3, none⟩) Lh1_w18).trans eh1_3_w18
    have eh1_4_w19 := (hb.cell (p := ⟨w16.heap.size + 1, 4, none⟩) Lh1_w18).trans eh1_4_w18
    have Lh1_w19 : w16.heap.size + 1 < w19.heap.size := by have h := hb.size; omega
    clear eh1_0_w18 eh1_1_w18 eh1_2_w18 eh1_3_w18 eh1_4_w18 Lh1_w18
    clear hb hb0
    go_wp2_with fail
    go_ret
    exact ⟨rfl, below_to Cw_w19.out (by repeat (first | exact Below.refl _ _ | refine Below.alloc ?_ (by simp; try omega) _ | refine Below.setCell ?_ (by simp; try omega) _ | refine belN ?_ _ | refine belD ?_))⟩
set_option maxRecDepth 100000 in
theorem fnExactMakePart_lifted (os : Os) (started : os.Started) (H : Type) (enc : TypeId × Value → H) :
    ReturnsInHanded {} Try.checked os 4 .any (Rows.fnExactMakePartSpec.pre6 enc Try.prog Try.f4 Rows.fnExactMakePartRow.domain false) (Rows.fnExactMakePartSpec.post enc Try.prog Try.f4 false true false false) := by
  refine returnsInHanded_of_change (C := Try.checked) ownK started (by kernel_rfl) Try.func4
    (ChangeSpec.witness6 (enc := enc) (C := Try.checked) false ⟨#[], #[.slice none 0 0], []⟩ 8 (by kernel_rfl) (by kernel_rfl) (by kernel_rfl) (by kernel_rfl)) ?_
  intro W base args ds gs before hval0 hW _ _
  have hval : ∀ (j : Nat) t v, Try.f4.params[j]? = some t → args[j]? = some v → Value.okWide Try.prog W .any base t v := hval0
  have hW' := hW
  obtain ⟨p, q, hA0, _, rfl, _, _⟩ := hW
  have hA : DataW.TrodAll enc Try.prog W 0 (fun _ => true) true Try.f4.params.toList args.toList ds p := hA0
  rw [Try.params4] at hA hval
  obtain ⟨v0, vs0, d0, ds0, p0, q0, hargs, rfl, rfl, h0, r0⟩ := trodAll_cons hA
  obtain ⟨rfl, rfl, rfl⟩ := trodAll_nil r0
  obtain rfl : args = #[v0] := by cases args; simp_all
  obtain ⟨l0, w0, z0⟩ := open_strRowL Try.underlying44 Try.underlying9 (by kernel_rfl) (hval 0 44 v0 rfl rfl) h0
  clear hA0 hval0
  refine (exactMakePart_any v0 l0 W w0 z0).mono fun e W1 ⟨he, hb⟩ => ?_
  subst he
  exact ⟨_, rfl, law_post laidK rfl (by kernel_rfl) Try.underlying4 (by kernel_rfl) (fun ds h => by match ds, h with | [_], _ => rfl) hW' hb⟩
theorem fnExactMakePart_closed : joinedFacts Try.prog 4 Try.f4 Rows.fnExactMakePartSpec Rows.fnExactMakePartRow = true := by unfold joinedFacts; rw [mayEnter_k, liftsFinal_k, make_k]; kernel_rfl
theorem fnExactMakePart_holds : Rows.FnExactMakePartSaid :=
  OpenClaim.holds_of_wide 4 Try.f4 rfl rfl rfl rfl rfl rfl rfl ⟨rfl, rfl, rfl, rfl, rfl⟩ rfl rfl rfl rfl rfl (by kernel_rfl) Try.func4 fnExactMakePart_closed
    (of_decide_eq_true (by kernel_rfl)) (by unfold Func.isWrapper; first | (rw [if_pos (by decide +kernel)]; kernel_rfl) | (rw [if_neg (by decide +kernel)]; exact ⟨rfl, rfl⟩))
    (fun os started H enc _ => fnExactMakePart_lifted os started H enc)
end Go.Proofs.Ytlkpinlkbikokaa
