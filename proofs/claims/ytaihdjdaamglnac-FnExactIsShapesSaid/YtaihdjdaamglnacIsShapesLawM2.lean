/- the model's l3Copy -/
import Derived.Test.YtaihdjdaamglnacIsShapesLawM1
/- Contracts of chapter 4: Wrap, the program's. Written by gen/ch4wr.py. -/
namespace Go.Proofs.Ytaihdjdaamglnac
set_option linter.unusedVariables false
set_option linter.unusedSimpArgs false
open Go.RowKit
set_option maxRecDepth 100000 in
set_option maxHeartbeats 3200000 in
theorem implWrap_bad1 (v : Value) (x : PartD) (s : ByteArray) (w : World) (hx : ValAt rPart 0 w v x) (hs : SmallP x) (hk : ∀ c ∈ x.fCore.fCells, c.fKey.length ≤ maxLen) (hz : s.size ≤ 1048576) (hc : ¬ 0 ≤ layI s.data.toList) :
    Calls Try.prog 32 #[v, .string s] w fun e w' => GivesOPR (wrapP x s.data.toList) (wrapR x s.data.toList) w e w' := by
  obtain ⟨hwp, hwr⟩ := wrap_bad (x := x) (s := s.data.toList) (fun h => hc h.2)
  rw [hwp, hwr]
  clear hwp hwr
  have HTX := Lib.hid (fun W => copyText_any s W (by omega))
  obtain ⟨_, rfl, hx⟩ := hx
  have HX := Lib.hid (fun W (hb : Below w.heap.size w W) => goodPart.keep hx (kept_below hb (Nat.le_refl _)))
  have HIP := Lib.hid (fun cs W (h : rPart 0 W cs x) => implIsPart_any (.agg cs.toArray) x W ⟨cs, rfl, h⟩ hk)
  have HCP := Lib.hid (fun cs W (h : rPart 0 W cs x) => copyPart_c (.agg cs.toArray) x W ⟨cs, rfl, h⟩ hs)
  have HLN := Lib.hid (fun W => implLayerNeeds_any s W)
  have HSZ := Lib.hid hs.lays
  unfold ndV at HLN
  unfold GivesOPR vReply
  unfold GivesOP at HCP
  rw [show decide (0 ≤ layI s.data.toList) = false from decide_eq_false hc] at HLN
  generalize needI (layI s.data.toList) = nd at *
  obtain ⟨⟨a0, a1, a2, a3, a4⟩, l⟩ := x
  obtain ⟨v3, v5, rfl, h3, h5⟩ := hx
  simp only at h3 h5 HSZ
  obtain ⟨ra, rc, rfl, _⟩ := sliceAt_len h3
  obtain ⟨sa, sc, rfl, hl, hcap⟩ := sliceAt_cap h5
  clear h3 h5 hs hk hcap hl
  have BS := Lib.hid (bx_start3 w [.string ⟨a0.toArray⟩, .bool a1, .bool a2, .slice ra a3.length rc, .int .i64 a4, .slice sa l.length sc] [.string ⟨#[]⟩, .bool false, .bool false, .slice none 0 0, .int .i64 0, .slice none 0 0] [.int .i64 0, .int .i64 0, .string ⟨#[]⟩, .int .i64 0, .int .i64 0] 37 37 39)
  have HR0 := Lib.hid (HX.out _ BS.out.2.2.2)
  clear hc
  go_enter Try.func32, Try.ntmps32
  go_wp2_with fail
  refine (HCP.out _ _ HR0.out).mono ?_
  rintro e w1 ⟨_, rfl, ⟨u3, u5, rfl, ho3, ho5⟩, hb⟩
  have HPQ := Lib.hid (fun (hsm : SmallP (⟨⟨a0, a1, a2, a3, a4⟩, l⟩ : PartD)) => oPart_r ⟨u3, u5, rfl, ho3, ho5⟩ hsm)
  simp only at ho3 ho5
  obtain ⟨ga, gc, rfl⟩ := slice_of ho3
  obtain ⟨ua, uc, rfl⟩ := slice_of ho5
  have HB1 := Lib.hid ((belS BS.out.2.2.2 hb).alloc (belS BS.out.2.2.2 hb).size (.cells #[.string ⟨a0.toArray⟩, .bool a1, .bool a2, .slice ga a3.length gc, .int .i64 a4, .slice ua l.length uc] 37))
  have B41 := Lib.hid ((BS.out.2.1.below hb).alloc (.cells #[.string ⟨a0.toArray⟩, .bool a1, .bool a2, .slice ga a3.length gc, .int .i64 a4, .slice ua l.length uc] 37))
  have B51 := Lib.hid ((BS.out.2.2.1.below hb).alloc (.cells #[.string ⟨a0.toArray⟩, .bool a1, .bool a2, .slice ga a3.length gc, .int .i64 a4, .slice ua l.length uc] 37))
  have BQ1 := Lib.hid (Bx.new w1 [.string ⟨a0.toArray⟩, .bool a1, .bool a2, .slice ga a3.length gc, .int .i64 a4, .slice ua l.length uc] 37)
  have O3 := Lib.hid (ownsF_alloc (ownsF_base (B' := w.heap.size + 1 + 1 + 1) ho3 (by simp)) (.cells #[.string ⟨a0.toArray⟩, .bool a1, .bool a2, .slice ga a3.length gc, .int .i64 a4, .slice ua l.length uc] 37))
  have O5 := Lib.hid (ownsF_alloc (ownsF_base (B' := w.heap.size + 1 + 1 + 1) ho5 (by simp)) (.cells #[.string ⟨a0.toArray⟩, .bool a1, .bool a2, .slice ga a3.length gc, .int .i64 a4, .slice ua l.length uc] 37))
  have h3s := hb.size
  simp at h3s
  clear hb ho3 ho5 BS
  go_wp2_with fail
  refine (HLN.out _).mono ?_
  rintro e w2 ⟨rfl, rfl⟩
  have q0 := BQ1.out.cell 0 (by simp)
  have q1 := BQ1.out.cell 1 (by simp)
  have q2 := BQ1.out.cell 2 (by simp)
  have q3 := BQ1.out.cell 3 (by simp)
  have q4 := BQ1.out.cell 4 (by simp)
  have q5 := BQ1.out.cell 5 (by simp)
  simp only [List.getElem_cons_zero, List.getElem_cons_succ] at q0 q1 q2 q3 q4 q5
  have r0 := B41.out.cell 0 (by simp)
  have r1 := B41.out.cell 1 (by simp)
  have r2 := B41.out.cell 2 (by simp)
  have r3 := B41.out.cell 3 (by simp)
  have r4 := B41.out.cell 4 (by simp)
  have r5 := B41.out.cell 5 (by simp)
  simp only [List.getElem_cons_zero, List.getElem_cons_succ] at r0 r1 r2 r3 r4 r5
  have z0 := B41.out.froz 0 (by simp)
  have z1 := B41.out.froz 1 (by simp)
  have z2 := B41.out.froz 2 (by simp)
  have z3 := B41.out.froz 3 (by simp)
  have z4 := B41.out.froz 4 (by simp)
  have z5 := B41.out.froz 5 (by simp)
  have s0 := B51.out.cell 0 (by simp)
  have s1 := B51.out.cell 1 (by simp)
  have s2 := B51.out.cell 2 (by simp)
  have s3 := B51.out.cell 3 (by simp)
  have s4 := B51.out.cell 4 (by simp)
  simp only [List.getElem_cons_zero, List.getElem_cons_succ] at s0 s1 s2 s3 s4
  have y0 := B51.out.froz 0 (by simp)
  have y1 := B51.out.froz 1 (by simp)
  have y2 := B51.out.froz 2 (by simp)
  have y3 := B51.out.froz 3 (by simp)
  have y4 := B51.out.froz 4 (by simp)
  go_wp2_with fail
  clear q0 q1 q2 q3 q4 q5
  clear r0 r1 r2 r3 r4 r5 z0 z1 z2 z3 z4 z5 s0 s1 s2 s3 s4 y0 y1 y2 y3 y4
  have E4 := Lib.hid ((B41.out.put6 (.string ⟨a0.toArray⟩) (.bool a1) (.bool a2) (.slice ga a3.length gc) (.int .i64 a4) (.slice ua l.length uc)).put5o (c := w.heap.size + 1 + 1) (by omega) (.int .i64 7) (.int .i64 0) (.string ⟨#[]⟩) (.int .i64 0) (.int .i64 0))
  have E5 := Lib.hid ((B51.out.put6o (c := w.heap.size + 1) (by omega) (.string ⟨a0.toArray⟩) (.bool a1) (.bool a2) (.slice ga a3.length gc) (.int .i64 a4) (.slice ua l.length uc)).put5 (.int .i64 7) (.int .i64 0) (.string ⟨#[]⟩) (.int .i64 0) (.int .i64 0))
  have EB := Lib.hid (below_put5 (below_put6 HB1.out (w.heap.size + 1) (by omega) (.string ⟨a0.toArray⟩) (.bool a1) (.bool a2) (.slice ga a3.length gc) (.int .i64 a4) (.slice ua l.length uc)) (w.heap.size + 1 + 1) (by omega) (.int .i64 7) (.int .i64 0) (.string ⟨#[]⟩) (.int .i64 0) (.int .i64 0))
  have OC := Lib.hid (ownsF_put5 (ownsF_put6 O3.out (w.heap.size + 1) (by omega) (.string ⟨a0.toArray⟩) (.bool a1) (.bool a2) (.slice ga a3.length gc) (.int .i64 a4) (.slice ua l.length uc)) (w.heap.size + 1 + 1) (by omega) (.int .i64 7) (.int .i64 0) (.string ⟨#[]⟩) (.int .i64 0) (.int .i64 0))
  have OL := Lib.hid (ownsF_put5 (ownsF_put6 O5.out (w.heap.size + 1) (by omega) (.string ⟨a0.toArray⟩) (.bool a1) (.bool a2) (.slice ga a3.length gc) (.int .i64 a4) (.slice ua l.length uc)) (w.heap.size + 1 + 1) (by omega) (.int .i64 7) (.int .i64 0) (.string ⟨#[]⟩) (.int .i64 0) (.int .i64 0))
  generalize ((((((((((((w1.alloc (.cells #[.string ⟨a0.toArray⟩, .bool a1, .bool a2, .slice ga a3.length gc, .int .i64 a4, .slice ua l.length uc] 37)).setCell ⟨w.heap.size + 1, 0, none⟩ (.string ⟨a0.toArray⟩)).setCell ⟨w.heap.size + 1, 1, none⟩ (.bool a1)).setCell ⟨w.heap.size + 1, 2, none⟩ (.bool a2)).setCell ⟨w.heap.size + 1, 3, none⟩ (.slice ga a3.length gc)).setCell ⟨w.heap.size + 1, 4, none⟩ (.int .i64 a4)).setCell ⟨w.heap.size + 1, 5, none⟩ (.slice ua l.length uc)).setCell ⟨w.heap.size + 1 + 1, 0, none⟩ (.int .i64 7)).setCell ⟨w.heap.size + 1 + 1, 1, none⟩ (.int .i64 0)).setCell ⟨w.heap.size + 1 + 1, 2, none⟩ (.string ⟨#[]⟩)).setCell ⟨w.heap.size + 1 + 1, 3, none⟩ (.int .i64 0)).setCell ⟨w.heap.size + 1 + 1, 4, none⟩ (.int .i64 0)) = WE at *
  have r0 := E4.out.cell 0 (by simp)
  have r1 := E4.out.cell 1 (by simp)
  have r2 := E4.out.cell 2 (by simp)
  have r3 := E4.out.cell 3 (by simp)
  have r4 := E4.out.cell 4 (by simp)
  have r5 := E4.out.cell 5 (by simp)
  simp only [List.getElem_cons_zero, List.getElem_cons_succ] at r0 r1 r2 r3 r4 r5
  have s0 := E5.out.cell 0 (by simp)
  have s1 := E5.out.cell 1 (by simp)
  have s2 := E5.out.cell 2 (by simp)
  have s3 := E5.out.cell 3 (by simp)
  have s4 := E5.out.cell 4 (by simp)
  simp only [List.getElem_cons_zero, List.getElem_cons_succ] at s0 s1 s2 s3 s4
  exact bodyPost_ret (v := .tuple #[.agg #[.string ⟨a0.toArray⟩, .bool a1, .bool a2, .slice ga a3.length gc, .int .i64 a4, .slice ua l.length uc], .agg #[.int .i64 7, .int .i64 0, .string ⟨#[]⟩, .int .i64 0, .int .i64 0]]) (by simp [results, Try.results32, go_sem, r0, r1, r2, r3, r4, r5, s0, s1, s2, s3, s4]) rfl ⟨_, rfl, ⟨_, _, rfl, ownsF_base OC.out (by omega), ownsF_base OL.out (by omega)⟩, EB.out⟩
set_option maxRecDepth 100000 in
set_option maxHeartbeats 3200000 in
theorem implWrap_bad2 (v : Value) (x : PartD) (s : ByteArray) (w : World) (hx : ValAt rPart 0 w v x) (hs : SmallP x) (hk : ∀ c ∈ x.fCore.fCells, c.fKey.length ≤ maxLen) (hz : s.size ≤ 1048576) (hc : 0 ≤ layI s.data.toList) (hp : partB x = false) :
    Calls Try.prog 32 #[v, .string s] w fun e w' => GivesOPR (wrapP x s.data.toList) (wrapR x s.data.toList) w e w' := by
  obtain ⟨hwp, hwr⟩ := wrap_bad (x := x) (s := s.data.toList) (fun h => by rw [hp] at h; exact absurd h.1 (by decide))
  rw [hwp, hwr]
  clear hwp hwr
  have HTX := Lib.hid (fun W => copyText_any s W (by omega))
  obtain ⟨_, rfl, hx⟩ := hx
  have HX := Lib.hid (fun W (hb : Below w.heap.size w W) => goodPart.keep hx (kept_below hb (Nat.le_refl _)))
  have HIP := Lib.hid (fun cs W (h : rPart 0 W cs x) => implIsPart_any (.agg cs.toArray) x W ⟨cs, rfl, h⟩ hk)
  have HCP := Lib.hid (fun cs W (h : rPart 0 W cs x) => copyPart_c (.agg cs.toArray) x W ⟨cs, rfl, h⟩ hs)
  have HLN := Lib.hid (fun W => implLayerNeeds_any s W)
  have HSZ := Lib.hid hs.lays
  unfold ndV at HLN
  unfold GivesOPR vReply
  unfold GivesOP at HCP
  rw [show decide (0 ≤ layI s.data.toList) = true from decide_eq_true hc] at HLN
  rw [hp] at HIP
  generalize needI (layI s.data.toList) = nd at *
  have HSP := Lib.hid hs
  obtain ⟨⟨a0, a1, a2, a3, a4⟩, l⟩ := x
  obtain ⟨v3, v5, rfl, h3, h5⟩ := hx
  simp only at h3 h5 HSZ
  obtain ⟨ra, rc, rfl, _⟩ := sliceAt_len h3
  obtain ⟨sa, sc, rfl, hl, hcap⟩ := sliceAt_cap h5
  clear h3 h5 hs hk hcap hl
  have BS := Lib.hid (bx_start3 w [.string ⟨a0.toArray⟩, .bool a1, .bool a2, .slice ra a3.length rc, .int .i64 a4, .slice sa l.length sc] [.string ⟨#[]⟩, .bool false, .bool false, .slice none 0 0, .int .i64 0, .slice none 0 0] [.int .i64 0, .int .i64 0, .string ⟨#[]⟩, .int .i64 0, .int .i64 0] 37 37 39)
  have HR0 := Lib.hid (HX.out _ BS.out.2.2.2)
  clear hc hp
  go_enter Try.func32, Try.ntmps32
  go_wp2_with fail
  refine (HCP.out _ _ HR0.out).mono ?_
  rintro e w1 ⟨_, rfl, ⟨u3, u5, rfl, ho3, ho5⟩, hb⟩
  simp only at ho3 ho5
  obtain ⟨ga, gc, rfl⟩ := slice_of ho3
  obtain ⟨ua, uc, rfl⟩ := slice_of ho5
  have HB1 := Lib.hid ((belS BS.out.2.2.2 hb).alloc (belS BS.out.2.2.2 hb).size (.cells #[.string ⟨a0.toArray⟩, .bool a1, .bool a2, .slice ga a3.length gc, .int .i64 a4, .slice ua l.length uc] 37))
  have B41 := Lib.hid ((BS.out.2.1.below hb).alloc (.cells #[.string ⟨a0.toArray⟩, .bool a1, .bool a2, .slice ga a3.length gc, .int .i64 a4, .slice ua l.length uc] 37))
  have B51 := Lib.hid ((BS.out.2.2.1.below hb).alloc (.cells #[.string ⟨a0.toArray⟩, .bool a1, .bool a2, .slice ga a3.length gc, .int .i64 a4, .slice ua l.length uc] 37))
  have BQ1 := Lib.hid (Bx.new w1 [.string ⟨a0.toArray⟩, .bool a1, .bool a2, .slice ga a3.length gc, .int .i64 a4, .slice ua l.length uc] 37)
  have O3 := Lib.hid (ownsF_alloc (ownsF_base (B' := w.heap.size + 1 + 1 + 1) ho3 (by simp)) (.cells #[.string ⟨a0.toArray⟩, .bool a1, .bool a2, .slice ga a3.length gc, .int .i64 a4, .slice ua l.length uc] 37))
  have O5 := Lib.hid (ownsF_alloc (ownsF_base (B' := w.heap.size + 1 + 1 + 1) ho5 (by simp)) (.cells #[.string ⟨a0.toArray⟩, .bool a1, .bool a2, .slice ga a3.length gc, .int .i64 a4, .slice ua l.length uc] 37))
  have h3s := hb.size
  simp at h3s
  clear hb ho3 ho5 BS
  go_wp2_with fail
  refine (HLN.out _).mono ?_
  rintro e w2 ⟨rfl, rfl⟩
  have q0 := BQ1.out.cell 0 (by simp)
  have q1 := BQ1.out.cell 1 (by simp)
  have q2 := BQ1.out.cell 2 (by simp)
  have q3 := BQ1.out.cell 3 (by simp)
  have q4 := BQ1.out.cell 4 (by simp)
  have q5 := BQ1.out.cell 5 (by simp)
  simp only [List.getElem_cons_zero, List.getElem_cons_succ] at q0 q1 q2 q3 q4 q5
  have HRQ := Lib.hid (show rPart 0 (w1.alloc (.cells #[.string ⟨a0.toArray⟩, .bool a1, .bool a2, .slice ga a3.length gc, .int .i64 a4, .slice ua l.length uc] 37)) [.string ⟨a0.toArray⟩, .bool a1, .bool a2, .slice ga a3.length gc, .int .i64 a4, .slice ua l.length uc] ⟨⟨a0, a1, a2, a3, a4⟩, l⟩ from goodPart.mono (oPart_r ⟨_, _, rfl, O3.out, O5.out⟩ HSP.out) (Nat.zero_le _))
  go_wp2_with fail
  refine (HIP.out _ _ HRQ.out).mono ?_
  rintro e w2 ⟨rfl, hb⟩
  have HB2 := Lib.hid (belS HB1.out hb)
  have B42 := Lib.hid (B41.out.below hb)
  have B52 := Lib.hid (B51.out.below hb)
  have BQ2 := Lib.hid (BQ1.out.below hb)
  have P3 := Lib.hid (ownsF_below O3.out hb (Nat.le_refl _))
  have P5 := Lib.hid (ownsF_below O5.out hb (Nat.le_refl _))
  have h4s := hb.size
  simp at h4s
  clear hb q0 q1 q2 q3 q4 q5
  have q0 := BQ2.out.cell 0 (by simp)
  have q1 := BQ2.out.cell 1 (by simp)
  have q2 := BQ2.out.cell 2 (by simp)
  have q3 := BQ2.out.cell 3 (by simp)
  have q4 := BQ2.out.cell 4 (by simp)
  have q5 := BQ2.out.cell 5 (by simp)
  simp only [List.getElem_cons_zero, List.getElem_cons_succ] at q0 q1 q2 q3 q4 q5
  have r0 := B42.out.cell 0 (by simp)
  have r1 := B42.out.cell 1 (by simp)
  have r2 := B42.out.cell 2 (by simp)
  have r3 := B42.out.cell 3 (by simp)
  have r4 := B42.out.cell 4 (by simp)
  have r5 := B42.out.cell 5 (by simp)
  simp only [List.getElem_cons_zero, List.getElem_cons_succ] at r0 r1 r2 r3 r4 r5
  have z0 := B42.out.froz 0 (by simp)
  have z1 := B42.out.froz 1 (by simp)
  have z2 := B42.out.froz 2 (by simp)
  have z3 := B42.out.froz 3 (by simp)
  have z4 := B42.out.froz 4 (by simp)
  have z5 := B42.out.froz 5 (by simp)
  have s0 := B52.out.cell 0 (by simp)
  have s1 := B52.out.cell 1 (by simp)
  have s2 := B52.out.cell 2 (by simp)
  have s3 := B52.out.cell 3 (by simp)
  have s4 := B52.out.cell 4 (by simp)
  simp only [List.getElem_cons_zero, List.getElem_cons_succ] at s0 s1 s2 s3 s4
  have y0 := B52.out.froz 0 (by simp)
  have y1 := B52.out.froz 1 (by simp)
  have y2 := B52.out.froz 2 (by simp)
  have y3 := B52.out.froz 3 (by simp)
  have y4 := B52.out.froz 4 (by simp)
  go_wp2_with fail
  clear q0 q1 q2 q3 q4 q5
  clear r0 r1 r2 r3 r4 r5 z0 z1 z2 z3 z4 z5 s0 s1 s2 s3 s4 y0 y1 y2 y3 y4
  have E4 := Lib.hid ((B42.out.put6 (.string ⟨a0.toArray⟩) (.bool a1) (.bool a2) (.slice ga a3.length gc) (.int .i64 a4) (.slice ua l.length uc)).put5o (c := w.heap.size + 1 + 1) (by omega) (.int .i64 7) (.int .i64 0) (.string ⟨#[]⟩) (.int .i64 0) (.int .i64 0))
  have E5 := Lib.hid ((B52.out.put6o (c := w.heap.size + 1) (by omega) (.string ⟨a0.toArray⟩) (.bool a1) (.bool a2) (.slice ga a3.length gc) (.int .i64 a4) (.slice ua l.length uc)).put5 (.int .i64 7) (.int .i64 0) (.string ⟨#[]⟩) (.int .i64 0) (.int .i64 0))
  have EB := Lib.hid (below_put5 (below_put6 HB2.out (w.heap.size + 1) (by omega) (.string ⟨a0.toArray⟩) (.bool a1) (.bool a2) (.slice ga a3.length gc) (.int .i64 a4) (.slice ua l.length uc)) (w.heap.size + 1 + 1) (by omega) (.int .i64 7) (.int .i64 0) (.string ⟨#[]⟩) (.int .i64 0) (.int .i64 0))
  have OC := Lib.hid (ownsF_put5 (ownsF_put6 P3.out (w.heap.size + 1) (by omega) (.string ⟨a0.toArray⟩) (.bool a1) (.bool a2) (.slice ga a3.length gc) (.int .i64 a4) (.slice ua l.length uc)) (w.heap.size + 1 + 1) (by omega) (.int .i64 7) (.int .i64 0) (.string ⟨#[]⟩) (.int .i64 0) (.int .i64 0))
  have OL := Lib.hid (ownsF_put5 (ownsF_put6 P5.out (w.heap.size + 1) (by omega) (.string ⟨a0.toArray⟩) (.bool a1) (.bool a2) (.slice ga a3.length gc) (.int .i64 a4) (.slice ua l.length uc)) (w.heap.size + 1 + 1) (by omega) (.int .i64 7) (.int .i64 0) (.string ⟨#[]⟩) (.int .i64 0) (.int .i64 0))
  generalize (((((((((((w2.setCell ⟨w.heap.size + 1, 0, none⟩ (.string ⟨a0.toArray⟩)).setCell ⟨w.heap.size + 1, 1, none⟩ (.bool a1)).setCell ⟨w.heap.size + 1, 2, none⟩ (.bool a2)).setCell ⟨w.heap.size + 1, 3, none⟩ (.slice ga a3.length gc)).setCell ⟨w.heap.size + 1, 4, none⟩ (.int .i64 a4)).setCell ⟨w.heap.size + 1, 5, none⟩ (.slice ua l.length uc)).setCell ⟨w.heap.size + 1 + 1, 0, none⟩ (.int .i64 7)).setCell ⟨w.heap.size + 1 + 1, 1, none⟩ (.int .i64 0)).setCell ⟨w.heap.size + 1 + 1, 2, none⟩ (.string ⟨#[]⟩)).setCell ⟨w.heap.size + 1 + 1, 3, none⟩ (.int .i64 0)).setCell ⟨w.heap.size + 1 + 1, 4, none⟩ (.int .i64 0)) = WE at *
  have r0 := E4.out.cell 0 (by simp)
  have r1 := E4.out.cell 1 (by simp)
  have r2 := E4.out.cell 2 (by simp)
  have r3 := E4.out.cell 3 (by simp)
  have r4 := E4.out.cell 4 (by simp)
  have r5 := E4.out.cell 5 (by simp)
  simp only [List.getElem_cons_zero, List.getElem_cons_succ] at r0 r1 r2 r3 r4 r5
  have s0 := E5.out.cell 0 (by simp)
  have s1 := E5.out.cell 1 (by simp)
  have s2 := E5.out.cell 2 (by simp)
  have s3 := E5.out.cell 3 (by simp)
  have s4 := E5.out.cell 4 (by simp)
  simp only [List.getElem_cons_zero, List.getElem_cons_succ] at s0 s1 s2 s3 s4
  exact bodyPost_ret (v := .tuple #[.agg #[.string ⟨a0.toArray⟩, .bool a1, .bool a2, .slice ga a3.length gc, .int .i64 a4, .slice ua l.length uc], .agg #[.int .i64 7, .int .i64 0, .string ⟨#[]⟩, .int .i64 0, .int .i64 0]]) (by simp [results, Try.results32, go_sem, r0, r1, r2, r3, r4, r5, s0, s1, s2, s3, s4]) rfl ⟨_, rfl, ⟨_, _, rfl, ownsF_base OC.out (by omega), ownsF_base OL.out (by omega)⟩, EB.out⟩
set_option maxRecDepth 100000 in
set_option maxHeartbeats 3200000 in
theorem implWrap_full (v : Value) (x : PartD) (s : ByteArray) (w : World) (hx : ValAt rPart 0 w v x) (hs : SmallP x) (hk : ∀ c ∈ x.fCore.fCells, c.fKey.length ≤ maxLen) (hz : s.size ≤ 1048576) (hc : 0 ≤ layI s.data.toList) (hp : partB x = true) (h3 : x.fLayers.length = 3) :
    Calls Try.prog 32 #[v, .string s] w fun e w' => GivesOPR (wrapP x s.data.toList) (wrapR x s.data.toList) w e w' := by
  obtain ⟨hwp, hwr⟩ := wrap_full (x := x) (s := s.data.toList) ⟨hp, hc⟩ h3
  rw [hwp, hwr]
  clear hwp hwr
  have HTX := Lib.hid (fun W => copyText_any s W (by omega))
  have H3 := Lib.hid h3
  clear h3
  obtain ⟨_, rfl, hx⟩ := hx
  have HX := Lib.hid (fun W (hb : Below w.heap.size w W) => goodPart.keep hx (kept_below hb (Nat.le_refl _)))
  have HIP := Lib.hid (fun cs W (h : rPart 0 W cs x) => implIsPart_any (.agg cs.toArray) x W ⟨cs, rfl, h⟩ hk)
  have HCP := Lib.hid (fun cs W (h : rPart 0 W cs x) => copyPart_c (.agg cs.toArray) x W ⟨cs, rfl, h⟩ hs)
  have HLN := Lib.hid (fun W => implLayerNeeds_any s W)
  have HSZ := Lib.hid hs.lays
  unfold ndV at HLN
  unfold GivesOPR vReply
  unfold GivesOP at HCP
  rw [show decide (0 ≤ layI s.data.toList) = true from decide_eq_true hc] at HLN
  rw [hp] at HIP
  generalize needI (layI s.data.toList) = nd at *
  have HSP := Lib.hid hs
  obtain ⟨⟨a0, a1, a2, a3, a4⟩, l⟩ := x
  obtain ⟨v3, v5, rfl, h3, h5⟩ := hx
  simp only at h3 h5 HSZ
  obtain ⟨ra, rc, rfl, _⟩ := sliceAt_len h3
  obtain ⟨sa, sc, rfl, hl, hcap⟩ := sliceAt_cap h5
  clear h3 h5 hs hk hcap hl
  have BS := Lib.hid (bx_start3 w [.string ⟨a0.toArray⟩, .bool a1, .bool a2, .slice ra a3.length rc, .int .i64 a4, .slice sa l.length sc] [.string ⟨#[]⟩, .bool false, .bool false, .slice none 0 0, .int .i64 0, .slice none 0 0] [.int .i64 0, .int .i64 0, .string ⟨#[]⟩, .int .i64 0, .int .i64 0] 37 37 39)
  have HR0 := Lib.hid (HX.out _ BS.out.2.2.2)
  clear hc hp
  go_enter Try.func32, Try.ntmps32
  go_wp2_with fail
  refine (HCP.out _ _ HR0.out).mono ?_
  rintro e w1 ⟨_, rfl, ⟨u3, u5, rfl, ho3, ho5⟩, hb⟩
  simp only at ho3 ho5
  obtain ⟨ga, gc, rfl⟩ := slice_of ho3
  obtain ⟨ua, uc, rfl⟩ := slice_of ho5
  have HB1 := Lib.hid ((belS BS.out.2.2.2 hb).alloc (belS BS.out.2.2.2 hb).size (.cells #[.string ⟨a0.toArray⟩, .bool a1, .bool a2, .slice ga a3.length gc, .int .i64 a4, .slice ua l.length uc] 37))
  have B41 := Lib.hid ((BS.out.2.1.below hb).alloc (.cells #[.string ⟨a0.toArray⟩, .bool a1, .bool a2, .slice ga a3.length gc, .int .i64 a4, .slice ua l.length uc] 37))
  have B51 := Lib.hid ((BS.out.2.2.1.below hb).alloc (.cells #[.string ⟨a0.toArray⟩, .bool a1, .bool a2, .slice ga a3.length gc, .int .i64 a4, .slice ua l.length uc] 37))
  have BQ1 := Lib.hid (Bx.new w1 [.string ⟨a0.toArray⟩, .bool a1, .bool a2, .slice ga a3.length gc, .int .i64 a4, .slice ua l.length uc] 37)
  have O3 := Lib.hid (ownsF_alloc (ownsF_base (B' := w.heap.size + 1 + 1 + 1) ho3 (by simp)) (.cells #[.string ⟨a0.toArray⟩, .bool a1, .bool a2, .slice ga a3.length gc, .int .i64 a4, .slice ua l.length uc] 37))
  have O5 := Lib.hid (ownsF_alloc (ownsF_base (B' := w.heap.size + 1 + 1 + 1) ho5 (by simp)) (.cells #[.string ⟨a0.toArray⟩, .bool a1, .bool a2, .slice ga a3.length gc, .int .i64 a4, .slice ua l.length uc] 37))
  have h3s := hb.size
  simp at h3s
  clear hb ho3 ho5 BS
  go_wp2_with fail
  refine (HLN.out _).mono ?_
  rintro e w2 ⟨rfl, rfl⟩
  have q0 := BQ1.out.cell 0 (by simp)
  have q1 := BQ1.out.cell 1 (by simp)
  have q2 := BQ1.out.cell 2 (by simp)
  have q3 := BQ1.out.cell 3 (by simp)
  have q4 := BQ1.out.cell 4 (by simp)
  have q5 := BQ1.out.cell 5 (by simp)
  simp only [List.getElem_cons_zero, List.getElem_cons_succ] at q0 q1 q2 q3 q4 q5
  have HRQ := Lib.hid (show rPart 0 (w1.alloc (.cells #[.string ⟨a0.toArray⟩, .bool a1, .bool a2, .slice ga a3.length gc, .int .i64 a4, .slice ua l.length uc] 37)) [.string ⟨a0.toArray⟩, .bool a1, .bool a2, .slice ga a3.length gc, .int .i64 a4, .slice ua l.length uc] ⟨⟨a0, a1, a2, a3, a4⟩, l⟩ from goodPart.mono (oPart_r ⟨_, _, rfl, O3.out, O5.out⟩ HSP.out) (Nat.zero_le _))
  go_wp2_with fail
  refine (HIP.out _ _ HRQ.out).mono ?_
  rintro e w2 ⟨rfl, hb⟩
  have HB2 := Lib.hid (belS HB1.out hb)
  have B42 := Lib.hid (B41.out.below hb)
  have B52 := Lib.hid (B51.out.below hb)
  have BQ2 := Lib.hid (BQ1.out.below hb)
  have P3 := Lib.hid (ownsF_below O3.out hb (Nat.le_refl _))
  have P5 := Lib.hid (ownsF_below O5.out hb (Nat.le_refl _))
  have h4s := hb.size
  simp at h4s
  clear hb q0 q1 q2 q3 q4 q5
  have h3 := H3.out
  try simp only at h3
  have hl3 : ((l.length : Int) == 3) = true := by rw [h3]; rfl
  clear h3
  have q0 := BQ2.out.cell 0 (by simp)
  have q1 := BQ2.out.cell 1 (by simp)
  have q2 := BQ2.out.cell 2 (by simp)
  have q3 := BQ2.out.cell 3 (by simp)
  have q4 := BQ2.out.cell 4 (by simp)
  have q5 := BQ2.out.cell 5 (by simp)
  simp only [List.getElem_cons_zero, List.getElem_cons_succ] at q0 q1 q2 q3 q4 q5
  have r0 := B42.out.cell 0 (by simp)
  have r1 := B42.out.cell 1 (by simp)
  have r2 := B42.out.cell 2 (by simp)
  have r3 := B42.out.cell 3 (by simp)
  have r4 := B42.out.cell 4 (by simp)
  have r5 := B42.out.cell 5 (by simp)
  simp only [List.getElem_cons_zero, List.getElem_cons_succ] at r0 r1 r2 r3 r4 r5
  have z0 := B42.out.froz 0 (by simp)
  have z1 := B42.out.froz 1 (by simp)
  have z2 := B42.out.froz 2 (by simp)
  have z3 := B42.out.froz 3 (by simp)
  have z4 := B42.out.froz 4 (by simp)
  have z5 := B42.out.froz 5 (by simp)
  have s0 := B52.out.cell 0 (by simp)
  have s1 := B52.out.cell 1 (by simp)
  have s2 := B52.out.cell 2 (by simp)
  have s3 := B52.out.cell 3 (by simp)
  have s4 := B52.out.cell 4 (by simp)
  simp only [List.getElem_cons_zero, List.getElem_cons_succ] at s0 s1 s2 s3 s4
  have y0 := B52.out.froz 0 (by simp)
  have y1 := B52.out.froz 1 (by simp)
  have y2 := B52.out.froz 2 (by simp)
  have y3 := B52.out.froz 3 (by simp)
  have y4 := B52.out.froz 4 (by simp)
  go_wp2_with fail
  clear q0 q1 q2 q3 q4 q5
  clear r0 r1 r2 r3 r4 r5 z0 z1 z2 z3 z4 z5 s0 s1 s2 s3 s4 y0 y1 y2 y3 y4
  have E4 := Lib.hid ((B42.out.put6 (.string ⟨a0.toArray⟩) (.bool a1) (.bool a2) (.slice ga a3.length gc) (.int .i64 a4) (.slice ua l.length uc)).put5o (c := w.heap.size + 1 + 1) (by omega) (.int .i64 5) (.int .i64 0) (.string ⟨#[]⟩) (.int .i64 0) (.int .i64 0))
  have E5 := Lib.hid ((B52.out.put6o (c := w.heap.size + 1) (by omega) (.string ⟨a0.toArray⟩) (.bool a1) (.bool a2) (.slice ga a3.length gc) (.int .i64 a4) (.slice ua l.length uc)).put5 (.int .i64 5) (.int .i64 0) (.string ⟨#[]⟩) (.int .i64 0) (.int .i64 0))
  have EB := Lib.hid (below_put5 (below_put6 HB2.out (w.heap.size + 1) (by omega) (.string ⟨a0.toArray⟩) (.bool a1) (.bool a2) (.slice ga a3.length gc) (.int .i64 a4) (.slice ua l.length uc)) (w.heap.size + 1 + 1) (by omega) (.int .i64 5) (.int .i64 0) (.string ⟨#[]⟩) (.int .i64 0) (.int .i64 0))
  have OC := Lib.hid (ownsF_put5 (ownsF_put6 P3.out (w.heap.size + 1) (by omega) (.string ⟨a0.toArray⟩) (.bool a1) (.bool a2) (.slice ga a3.length gc) (.int .i64 a4) (.slice ua l.length uc)) (w.heap.size + 1 + 1) (by omega) (.int .i64 5) (.int .i64 0) (.string ⟨#[]⟩) (.int .i64 0) (.int .i64 0))
  have OL := Lib.hid (ownsF_put5 (ownsF_put6 P5.out (w.heap.size + 1) (by omega) (.string ⟨a0.toArray⟩) (.bool a1) (.bool a2) (.slice ga a3.length gc) (.int .i64 a4) (.slice ua l.length uc)) (w.heap.size + 1 + 1) (by omega) (.int .i64 5) (.int .i64 0) (.string ⟨#[]⟩) (.int .i64 0) (.int .i64 0))
  generalize (((((((((((w2.setCell ⟨w.heap.size + 1, 0, none⟩ (.string ⟨a0.toArray⟩)).setCell ⟨w.heap.size + 1, 1, none⟩ (.bool a1)).setCell ⟨w.heap.size + 1, 2, none⟩ (.bool a2)).setCell ⟨w.heap.size + 1, 3, none⟩ (.slice ga a3.length gc)).setCell ⟨w.heap.size + 1, 4, none⟩ (.int .i64 a4)).setCell ⟨w.heap.size + 1, 5, none⟩ (.slice ua l.length uc)).setCell ⟨w.heap.size + 1 + 1, 0, none⟩ (.int .i64 5)).setCell ⟨w.heap.size + 1 + 1, 1, none⟩ (.int .i64 0)).setCell ⟨w.heap.size + 1 + 1, 2, none⟩ (.string ⟨#[]⟩)).setCell ⟨w.heap.size + 1 + 1, 3, none⟩ (.int .i64 0)).setCell ⟨w.heap.size + 1 + 1, 4, none⟩ (.int .i64 0)) = WE at *
  have r0 := E4.out.cell 0 (by simp)
  have r1 := E4.out.cell 1 (by simp)
  have r2 := E4.out.cell 2 (by simp)
  have r3 := E4.out.cell 3 (by simp)
  have r4 := E4.out.cell 4 (by simp)
  have r5 := E4.out.cell 5 (by simp)
  simp only [List.getElem_cons_zero, List.getElem_cons_succ] at r0 r1 r2 r3 r4 r5
  have s0 := E5.out.cell 0 (by simp)
  have s1 := E5.out.cell 1 (by simp)
  have s2 := E5.out.cell 2 (by simp)
  have s3 := E5.out.cell 3 (by simp)
  have s4 := E5.out.cell 4 (by simp)
  simp only [List.getElem_cons_zero, List.getElem_cons_succ] at s0 s1 s2 s3 s4
  exact bodyPost_ret (v := .tuple #[.agg #[.string ⟨a0.toArray⟩, .bool a1, .bool a2, .slice ga a3.length gc, .int .i64 a4, .slice ua l.length uc], .agg #[.int .i64 5, .int .i64 0, .string ⟨#[]⟩, .int .i64 0, .int .i64 0]]) (by simp [results, Try.results32, go_sem, r0, r1, r2, r3, r4, r5, s0, s1, s2, s3, s4]) rfl ⟨_, rfl, ⟨_, _, rfl, ownsF_base OC.out (by omega), ownsF_base OL.out (by omega)⟩, EB.out⟩
set_option maxRecDepth 100000 in
set_option maxHeartbeats 3200000 in
theorem implWrap_fail (v : Value) (x : PartD) (s : ByteArray) (w : World) (hx : ValAt rPart 0 w v x) (hs : SmallP x) (hk : ∀ c ∈ x.fCore.fCells, c.fKey.length ≤ maxLen) (hz : s.size ≤ 1048576) (hc : 0 ≤ layI s.data.toList) (hp : partB x = true) (h3 : ¬ x.fLayers.length = 3) (ho : offersF (faceP x) (needI (layI s.data.toList)) = false) :
    Calls Try.prog 32 #[v, .string s] w fun e w' => GivesOPR (wrapP x s.data.toList) (wrapR x s.data.toList) w e w' := by
  obtain ⟨hwp, hwr⟩ := wrap_fail (x := x) (s := s.data.toList) ⟨hp, hc⟩ h3 ho
  rw [hwp, hwr]
  clear hwp hwr
  have HTX := Lib.hid (fun W => copyText_any s W (by omega))
  have H3 := Lib.hid h3
  clear h3
  obtain ⟨q, hq1, hq2, hq3⟩ : ∃ q : Nat, layI s.data.toList = q ∧ q < 9 ∧ layN q = s.data.toList := by
    rcases layI_bd s.data.toList with h1 | h1
    · omega
    · exact h1
  have hn : needI (layI s.data.toList) = needN q := by rw [hq1]; unfold needI; rw [if_neg (by omega)]; rfl
  have hg : giveI (layI s.data.toList) = giveN q := by rw [hq1]; unfold giveI; rw [if_neg (by omega)]; rfl
  rw [hn] at ho
  rw [hn]
  have HWP := Lib.hid (fun b0 cs W (h : rPart 0 W cs x) (hb : Bx W b0 cs) => wholePart_c b0 cs x W h hb hp)
  have HNM := Lib.hid (show Value.string s = .string ⟨(layN q).toArray⟩ by rw [hq3])
  have HNS := Lib.hid hq3
  have HO := Lib.hid ho
  have HQ := Lib.hid hq2
  clear hq1 hn hg ho
  obtain ⟨_, rfl, hx⟩ := hx
  have HX := Lib.hid (fun W (hb : Below w.heap.size w W) => goodPart.keep hx (kept_below hb (Nat.le_refl _)))
  have HIP := Lib.hid (fun cs W (h : rPart 0 W cs x) => implIsPart_any (.agg cs.toArray) x W ⟨cs, rfl, h⟩ hk)
  have HCP := Lib.hid (fun cs W (h : rPart 0 W cs x) => copyPart_c (.agg cs.toArray) x W ⟨cs, rfl, h⟩ hs)
  have HLN := Lib.hid (fun W => implLayerNeeds_any s W)
  have HSZ := Lib.hid hs.lays
  unfold ndV at HLN
  unfold GivesOPR vReply
  unfold GivesOP at HCP
  rw [show decide (0 ≤ layI s.data.toList) = true from decide_eq_true hc] at HLN
  rw [hp] at HIP
  generalize needI (layI s.data.toList) = nd at HLN
  generalize faceP x = fp at *
  have HSP := Lib.hid hs
  obtain ⟨⟨a0, a1, a2, a3, a4⟩, l⟩ := x
  obtain ⟨v3, v5, rfl, h3, h5⟩ := hx
  simp only at h3 h5 HSZ
  obtain ⟨ra, rc, rfl, _⟩ := sliceAt_len h3
  obtain ⟨sa, sc, rfl, hl, hcap⟩ := sliceAt_cap h5
  clear h3 h5 hs hk hcap hl
  have BS := Lib.hid (bx_start3 w [.string ⟨a0.toArray⟩, .bool a1, .bool a2, .slice ra a3.length rc, .int .i64 a4, .slice sa l.length sc] [.string ⟨#[]⟩, .bool false, .bool false, .slice none 0 0, .int .i64 0, .slice none 0 0] [.int .i64 0, .int .i64 0, .string ⟨#[]⟩, .int .i64 0, .int .i64 0] 37 37 39)
  have HR0 := Lib.hid (HX.out _ BS.out.2.2.2)
  clear hc hp
  go_enter Try.func32, Try.ntmps32
  go_wp2_with fail
  refine (HCP.out _ _ HR0.out).mono ?_
  rintro e w1 ⟨_, rfl, ⟨u3, u5, rfl, ho3, ho5⟩, hb⟩
  simp only at ho3 ho5
  obtain ⟨ga, gc, rfl⟩ := slice_of ho3
  obtain ⟨ua, uc, rfl⟩ := slice_of ho5
  have HB1 := Lib.hid ((belS BS.out.2.2.2 hb).alloc (belS BS.out.2.2.2 hb).size (.cells #[.string ⟨a0.toArray⟩, .bool a1, .bool a2, .slice ga a3.length gc, .int .i64 a4, .slice ua l.length uc] 37))
  have B41 := Lib.hid ((BS.out.2.1.below hb).alloc (.cells #[.string ⟨a0.toArray⟩, .bool a1, .bool a2, .slice ga a3.length gc, .int .i64 a4, .slice ua l.length uc] 37))
  have B51 := Lib.hid ((BS.out.2.2.1.below hb).alloc (.cells #[.string ⟨a0.toArray⟩, .bool a1, .bool a2, .slice ga a3.length gc, .int .i64 a4, .slice ua l.length uc] 37))
  have BQ1 := Lib.hid (Bx.new w1 [.string ⟨a0.toArray⟩, .bool a1, .bool a2, .slice ga a3.length gc, .int .i64 a4, .slice ua l.length uc] 37)
  have O3 := Lib.hid (ownsF_alloc (ownsF_base (B' := w.heap.size + 1 + 1 + 1) ho3 (by simp)) (.cells #[.string ⟨a0.toArray⟩, .bool a1, .bool a2, .slice ga a3.length gc, .int .i64 a4, .slice ua l.length uc] 37))
  have O5 := Lib.hid (ownsF_alloc (ownsF_base (B' := w.heap.size + 1 + 1 + 1) ho5 (by simp)) (.cells #[.string ⟨a0.toArray⟩, .bool a1, .bool a2, .slice ga a3.length gc, .int .i64 a4, .slice ua l.length uc] 37))
  have h3s := hb.size
  simp at h3s
  clear hb ho3 ho5 BS
  go_wp2_with fail
  refine (HLN.out _).mono ?_
  rintro e w2 ⟨rfl, rfl⟩
  have q0 := BQ1.out.cell 0 (by simp)
  have q1 := BQ1.out.cell 1 (by simp)
  have q2 := BQ1.out.cell 2 (by simp)
  have q3 := BQ1.out.cell 3 (by simp)
  have q4 := BQ1.out.cell 4 (by simp)
  have q5 := BQ1.out.cell 5 (by simp)
  simp only [List.getElem_cons_zero, List.getElem_cons_succ] at q0 q1 q2 q3 q4 q5
  have HRQ := Lib.hid (show rPart 0 (w1.alloc (.cells #[.string ⟨a0.toArray⟩, .bool a1, .bool a2, .slice ga a3.length gc, .int .i64 a4, .slice ua l.length uc] 37)) [.string ⟨a0.toArray⟩, .bool a1, .bool a2, .slice ga a3.length gc, .int .i64 a4, .slice ua l.length uc] ⟨⟨a0, a1, a2, a3, a4⟩, l⟩ from goodPart.mono (oPart_r ⟨_, _, rfl, O3.out, O5.out⟩ HSP.out) (Nat.zero_le _))
  go_wp2_with fail
  refine (HIP.out _ _ HRQ.out).mono ?_
  rintro e w2 ⟨rfl, hb⟩
  have HB2 := Lib.hid (belS HB1.out hb)
  have B42 := Lib.hid (B41.out.below hb)
  have B52 := Lib.hid (B51.out.below hb)
  have BQ2 := Lib.hid (BQ1.out.below hb)
  have P3 := Lib.hid (ownsF_below O3.out hb (Nat.le_refl _))
  have P5 := Lib.hid (ownsF_below O5.out hb (Nat.le_refl _))
  have h4s := hb.size
  simp at h4s
  clear hb q0 q1 q2 q3 q4 q5
  have h3 := H3.out
  try simp only at h3
  have hl3 : ¬ (l.length : Int) = 3 := by omega
  clear h3
  have q0 := BQ2.out.cell 0 (by simp)
  have q1 := BQ2.out.cell 1 (by simp)
  have q2 := BQ2.out.cell 2 (by simp)
  have q3 := BQ2.out.cell 3 (by simp)
  have q4 := BQ2.out.cell 4 (by simp)
  have q5 := BQ2.out.cell 5 (by simp)
  simp only [List.getElem_cons_zero, List.getElem_cons_succ] at q0 q1 q2 q3 q4 q5
  go_wp2_with fail
  refine (HTX.out _).mono ?_
  rintro e w3 ⟨rfl, hb⟩
  have HB3 := Lib.hid ((belS HB2.out hb).alloc (belS HB2.out hb).size (.cells #[.string s, .int .i64 0] 58))
  have B43 := Lib.hid ((B42.out.below hb).alloc (.cells #[.string s, .int .i64 0] 58))
  have B53 := Lib.hid ((B52.out.below hb).alloc (.cells #[.string s, .int .i64 0] 58))
  have BQ3 := Lib.hid ((BQ2.out.below hb).alloc (.cells #[.string s, .int .i64 0] 58))
  have BL3 := Lib.hid (Bx.new w3 [.string s, .int .i64 0] 58)
  have R3 := Lib.hid (ownsF_alloc (ownsF_below P3.out hb (Nat.le_refl _)) (.cells #[.string s, .int .i64 0] 58))
  have R5 := Lib.hid (ownsF_alloc (ownsF_below P5.out hb (Nat.le_refl _)) (.cells #[.string s, .int .i64 0] 58))
  have h5s := hb.size
  clear hb q0 q1 q2 q3 q4 q5
  have HRW := Lib.hid (show rPart 0 (w3.alloc (.cells #[.string s, .int .i64 0] 58)) [.string ⟨a0.toArray⟩, .bool a1, .bool a2, .slice ga a3.length gc, .int .i64 a4, .slice ua l.length uc] ⟨⟨a0, a1, a2, a3, a4⟩, l⟩ from goodPart.mono (oPart_r ⟨_, _, rfl, R3.out, R5.out⟩ HSP.out) (Nat.zero_le _))
  go_wp2_with fail
  refine (HWP.out _ _ _ HRW.out BQ3.out).mono ?_
  rintro e w4 ⟨pv, rfl, hpv, hb⟩
  have HB4 := Lib.hid (belS HB3.out hb)
  have B44 := Lib.hid (B43.out.below hb)
  have B54 := Lib.hid (B53.out.below hb)
  have BQ4 := Lib.hid (BQ3.out.below hb)
  have BL4 := Lib.hid (BL3.out.below hb)
  have S3 := Lib.hid (ownsF_below R3.out hb (Nat.le_refl _))
  have S5 := Lib.hid (ownsF_below R5.out hb (Nat.le_refl _))
  have h6s := hb.size
  simp at h6s
  have HPV := Lib.hid hpv
  have l0 := BL4.out.cell 0 (by simp)
  simp only [List.getElem_cons_zero] at l0
  rw [HNM.out] at l0
  have HWI := Lib.hid (wrapIn_c w3.heap.size 0 q HQ.out pv fp w4 l0 HPV.out)
  clear hb hpv l0
  go_wp2_with fail
  refine HWI.out.mono ?_
  rintro e w5 ⟨hb, hres⟩
  obtain rfl : e = .returned (.tuple #[pv, vReply ⟨1, 0, [], needN q, fp⟩]) := by
    rcases hres with ⟨h, _⟩ | ⟨_, h⟩
    · rw [HO.out] at h; cases h
    · exact h
  unfold vReply
  have HB5 := Lib.hid ((belS HB4.out hb).alloc (belS HB4.out hb).size (.cells #[.int .i64 1, .int .i64 0, .string ⟨#[]⟩, .int .i64 (needN q), .int .i64 fp] 39))
  have B45 := Lib.hid ((B44.out.below hb).alloc (.cells #[.int .i64 1, .int .i64 0, .string ⟨#[]⟩, .int .i64 (needN q), .int .i64 fp] 39))
  have B55 := Lib.hid ((B54.out.below hb).alloc (.cells #[.int .i64 1, .int .i64 0, .string ⟨#[]⟩, .int .i64 (needN q), .int .i64 fp] 39))
  have BQ5 := Lib.hid ((BQ4.out.below hb).alloc (.cells #[.int .i64 1, .int .i64 0, .string ⟨#[]⟩, .int .i64 (needN q), .int .i64 fp] 39))
  have BL5 := Lib.hid ((BL4.out.below hb).alloc (.cells #[.int .i64 1, .int .i64 0, .string ⟨#[]⟩, .int .i64 (needN q), .int .i64 fp] 39))
  have BR5 := Lib.hid (Bx.new w5 [.int .i64 1, .int .i64 0, .string ⟨#[]⟩, .int .i64 (needN q), .int .i64 fp] 39)
  have T3 := Lib.hid (ownsF_alloc (ownsF_below S3.out hb (Nat.le_refl _)) (.cells #[.int .i64 1, .int .i64 0, .string ⟨#[]⟩, .int .i64 (needN q), .int .i64 fp] 39))
  have T5 := Lib.hid (ownsF_alloc (ownsF_below S5.out hb (Nat.le_refl _)) (.cells #[.int .i64 1, .int .i64 0, .string ⟨#[]⟩, .int .i64 (needN q), .int .i64 fp] 39))
  have h7s := hb.size
  clear hb hres
  have t0 := BR5.out.cell 0 (by simp)
  have t1 := BR5.out.cell 1 (by simp)
  have t2 := BR5.out.cell 2 (by simp)
  have t3 := BR5.out.cell 3 (by simp)
  have t4 := BR5.out.cell 4 (by simp)
  simp only [List.getElem_cons_zero, List.getElem_cons_succ] at t0 t1 t2 t3 t4
  go_wp2_with fail
  clear t0 t1 t2 t3 t4
  have t0 := BR5.out.cell 0 (by simp)
  have t1 := BR5.out.cell 1 (by simp)
  have t2 := BR5.out.cell 2 (by simp)
  have t3 := BR5.out.cell 3 (by simp)
  have t4 := BR5.out.cell 4 (by simp)
  simp only [List.getElem_cons_zero, List.getElem_cons_succ] at t0 t1 t2 t3 t4
  have q0 := BQ5.out.cell 0 (by simp)
  have q1 := BQ5.out.cell 1 (by simp)
  have q2 := BQ5.out.cell 2 (by simp)
  have q3 := BQ5.out.cell 3 (by simp)
  have q4 := BQ5.out.cell 4 (by simp)
  have q5 := BQ5.out.cell 5 (by simp)
  simp only [List.getElem_cons_zero, List.getElem_cons_succ] at q0 q1 q2 q3 q4 q5
  have r0 := B45.out.cell 0 (by simp)
  have r1 := B45.out.cell 1 (by simp)
  have r2 := B45.out.cell 2 (by simp)
  have r3 := B45.out.cell 3 (by simp)
  have r4 := B45.out.cell 4 (by simp)
  have r5 := B45.out.cell 5 (by simp)
  simp only [List.getElem_cons_zero, List.getElem_cons_succ] at r0 r1 r2 r3 r4 r5
  have z0 := B45.out.froz 0 (by simp)
  have z1 := B45.out.froz 1 (by simp)
  have z2 := B45.out.froz 2 (by simp)
  have z3 := B45.out.froz 3 (by simp)
  have z4 := B45.out.froz 4 (by simp)
  have z5 := B45.out.froz 5 (by simp)
  have s0 := B55.out.cell 0 (by simp)
  have s1 := B55.out.cell 1 (by simp)
  have s2 := B55.out.cell 2 (by simp)
  have s3 := B55.out.cell 3 (by simp)
  have s4 := B55.out.cell 4 (by simp)
  simp only [List.getElem_cons_zero, List.getElem_cons_succ] at s0 s1 s2 s3 s4
  have y0 := B55.out.froz 0 (by simp)
  have y1 := B55.out.froz 1 (by simp)
  have y2 := B55.out.froz 2 (by simp)
  have y3 := B55.out.froz 3 (by simp)
  have y4 := B55.out.froz 4 (by simp)
  go_region
  all_goals (try go_wp2_with fail)
  all_goals
    refine bodyPost_ret (v := .tuple #[.agg #[.string ⟨a0.toArray⟩, .bool a1, .bool a2, .slice ga a3.length gc, .int .i64 a4, .slice ua l.length uc], .agg #[.int .i64 1, .int .i64 0, .string ⟨#[]⟩, .int .i64 (needN q), .int .i64 fp]]) (by simp [results, Try.results32, go_sem, cell_set_at, cell_set_ne, t0, t1, t2, t3, t4, r0, r1, r2, r3, r4, r5, s0, s1, s2, s3, s4]) rfl ⟨_, rfl, ⟨_, _, rfl, ?_, ?_⟩, ?_⟩
    · refine ownsF_base (B := (((w.heap.size + 1) + 1) + 1)) ?_ (by omega)
      repeat (first | with_reducible refine ownsF_set ?_ (by simp; try omega) | with_reducible refine ownsF_drew ?_)
      have h := T3.out
      simpa using h
    · refine ownsF_base (B := (((w.heap.size + 1) + 1) + 1)) ?_ (by omega)
      repeat (first | with_reducible refine ownsF_set ?_ (by simp; try omega) | with_reducible refine ownsF_drew ?_)
      have h := T5.out
      simpa using h
    · repeat (first | with_reducible exact HB5.out | with_reducible refine Below.setCell ?_ (by simp; try omega) _ | with_reducible refine Below.drew ?_)
set_option maxRecDepth 100000 in
set_option maxHeartbeats 3200000 in
theorem implWrap_ok (v : Value) (x : PartD) (s : ByteArray) (w : World) (hx : ValAt rPart 0 w v x) (hs : SmallP x) (hk : ∀ c ∈ x.fCore.fCells, c.fKey.length ≤ maxLen) (hz : s.size ≤ 1048576) (hc : 0 ≤ layI s.data.toList) (hp : partB x = true) (h3 : ¬ x.fLayers.length = 3) (ho : offersF (faceP x) (needI (layI s.data.toList)) = true) :
    Calls Try.prog 32 #[v, .string s] w fun e w' => GivesOPR (wrapP x s.data.toList) (wrapR x s.data.toList) w e w' := by
  obtain ⟨hwp, hwr⟩ := wrap_ok (x := x) (s := s.data.toList) ⟨hp, hc⟩ h3 ho
  rw [hwp, hwr]
  clear hwp hwr
  have HTX := Lib.hid (fun W => copyText_any s W (by omega))
  have H3 := Lib.hid h3
  clear h3
  obtain ⟨q, hq1, hq2, hq3⟩ : ∃ q : Nat, layI s.data.toList = q ∧ q < 9 ∧ layN q = s.data.toList := by
    rcases layI_bd s.data.toList with h1 | h1
    · omega
    · exact h1
  have hn : needI (layI s.data.toList) = needN q := by rw [hq1]; unfold needI; rw [if_neg (by omega)]; rfl
  have hg : giveI (layI s.data.toList) = giveN q := by rw [hq1]; unfold giveI; rw [if_neg (by omega)]; rfl
  rw [hn] at ho
  rw [hg]
  have HWP := Lib.hid (fun b0 cs W (h : rPart 0 W cs x) (hb : Bx W b0 cs) => wholePart_c b0 cs x W h hb hp)
  have HNM := Lib.hid (show Value.string s = .string ⟨(layN q).toArray⟩ by rw [hq3])
  have HNS := Lib.hid hq3
  have HO := Lib.hid ho
  have HQ := Lib.hid hq2
  clear hq1 hn hg ho
  obtain ⟨_, rfl, hx⟩ := hx
  have HX := Lib.hid (fun W (hb : Below w.heap.size w W) => goodPart.keep hx (kept_below hb (Nat.le_refl _)))
  have HIP := Lib.hid (fun cs W (h : rPart 0 W cs x) => implIsPart_any (.agg cs.toArray) x W ⟨cs, rfl, h⟩ hk)
  have HCP := Lib.hid (fun cs W (h : rPart 0 W cs x) => copyPart_c (.agg cs.toArray) x W ⟨cs, rfl, h⟩ hs)
  have HLN := Lib.hid (fun W => implLayerNeeds_any s W)
  have HSZ := Lib.hid hs.lays
  unfold ndV at HLN
  unfold GivesOPR vReply
  unfold GivesOP at HCP
  rw [show decide (0 ≤ layI s.data.toList) = true from decide_eq_true hc] at HLN
  rw [hp] at HIP
  generalize needI (layI s.data.toList) = nd at HLN
  generalize faceP x = fp at *
  have HSP := Lib.hid hs
  obtain ⟨⟨a0, a1, a2, a3, a4⟩, l⟩ := x
  obtain ⟨v3, v5, rfl, h3, h5⟩ := hx
  simp only at h3 h5 HSZ
  obtain ⟨ra, rc, rfl, _⟩ := sliceAt_len h3
  obtain ⟨sa, sc, rfl, hl, hcap⟩ := sliceAt_cap h5
  clear h3 h5 hs hk hcap hl
  have BS := Lib.hid (bx_start3 w [.string ⟨a0.toArray⟩, .bool a1, .bool a2, .slice ra a3.length rc, .int .i64 a4, .slice sa l.length sc] [.string ⟨#[]⟩, .bool false, .bool false, .slice none 0 0, .int .i64 0, .slice none 0 0] [.int .i64 0, .int .i64 0, .string ⟨#[]⟩, .int .i64 0, .int .i64 0] 37 37 39)
  have HR0 := Lib.hid (HX.out _ BS.out.2.2.2)
  clear hc hp
  go_enter Try.func32, Try.ntmps32
  go_wp2_with fail
  refine (HCP.out _ _ HR0.out).mono ?_
  rintro e w1 ⟨_, rfl, ⟨u3, u5, rfl, ho3, ho5⟩, hb⟩
  simp only at ho3 ho5
  obtain ⟨ga, gc, rfl⟩ := slice_of ho3
  obtain ⟨ua, uc, rfl⟩ := slice_of ho5
  have HB1 := Lib.hid ((belS BS.out.2.2.2 hb).alloc (belS BS.out.2.2.2 hb).size (.cells #[.string ⟨a0.toArray⟩, .bool a1, .bool a2, .slice ga a3.length gc, .int .i64 a4, .slice ua l.length uc] 37))
  have B41 := Lib.hid ((BS.out.2.1.below hb).alloc (.cells #[.string ⟨a0.toArray⟩, .bool a1, .bool a2, .slice ga a3.length gc, .int .i64 a4, .slice ua l.length uc] 37))
  have B51 := Lib.hid ((BS.out.2.2.1.below hb).alloc (.cells #[.string ⟨a0.toArray⟩, .bool a1, .bool a2, .slice ga a3.length gc, .int .i64 a4, .slice ua l.length uc] 37))
  have BQ1 := Lib.hid (Bx.new w1 [.string ⟨a0.toArray⟩, .bool a1, .bool a2, .slice ga a3.length gc, .int .i64 a4, .slice ua l.length uc] 37)
  have O3 := Lib.hid (ownsF_alloc (ownsF_base (B' := w.heap.size + 1 + 1 + 1) ho3 (by simp)) (.cells #[.string ⟨a0.toArray⟩, .bool a1, .bool a2, .slice ga a3.length gc, .int .i64 a4, .slice ua l.length uc] 37))
  have O5 := Lib.hid (ownsF_alloc (ownsF_base (B' := w.heap.size + 1 + 1 + 1) ho5 (by simp)) (.cells #[.string ⟨a0.toArray⟩, .bool a1, .bool a2, .slice ga a3.length gc, .int .i64 a4, .slice ua l.length uc] 37))
  have h3s := hb.size
  simp at h3s
  have HU5 := Lib.hid (fun g (h : (Value.slice ua l.length uc).ownBlock = some g) => (show w.heap.size + 1 + 1 + 1 ≤ g ∧ g < w1.heap.size from ⟨by have := (World.ownsRow.lt ho5 g h).1; simpa using this, (World.ownsRow.lt ho5 g h).2⟩))
  have HU3 := Lib.hid (fun g (h : (Value.slice ga a3.length gc).ownBlock = some g) => (show g < w1.heap.size from (World.ownsRow.lt ho3 g h).2))
  clear hb ho3 ho5 BS
  go_wp2_with fail
  refine (HLN.out _).mono ?_
  rintro e w2 ⟨rfl, rfl⟩
  have q0 := BQ1.out.cell 0 (by simp)
  have q1 := BQ1.out.cell 1 (by simp)
  have q2 := BQ1.out.cell 2 (by simp)
  have q3 := BQ1.out.cell 3 (by simp)
  have q4 := BQ1.out.cell 4 (by simp)
  have q5 := BQ1.out.cell 5 (by simp)
  simp only [List.getElem_cons_zero, List.getElem_cons_succ] at q0 q1 q2 q3 q4 q5
  have HRQ := Lib.hid (show rPart 0 (w1.alloc (.cells #[.string ⟨a0.toArray⟩, .bool a1, .bool a2, .slice ga a3.length gc, .int .i64 a4, .slice ua l.length uc] 37)) [.string ⟨a0.toArray⟩, .bool a1, .bool a2, .slice ga a3.length gc, .int .i64 a4, .slice ua l.length uc] ⟨⟨a0, a1, a2, a3, a4⟩, l⟩ from goodPart.mono (oPart_r ⟨_, _, rfl, O3.out, O5.out⟩ HSP.out) (Nat.zero_le _))
  go_wp2_with fail
  refine (HIP.out _ _ HRQ.out).mono ?_
  rintro e w2 ⟨rfl, hb⟩
  have HB2 := Lib.hid (belS HB1.out hb)
  have B42 := Lib.hid (B41.out.below hb)
  have B52 := Lib.hid (B51.out.below hb)
  have BQ2 := Lib.hid (BQ1.out.below hb)
  have P3 := Lib.hid (ownsF_below O3.out hb (Nat.le_refl _))
  have P5 := Lib.hid (ownsF_below O5.out hb (Nat.le_refl _))
  have h4s := hb.size
  simp at h4s
  clear hb q0 q1 q2 q3 q4 q5
  have h3 := H3.out
  try simp only at h3
  have hl3 : ¬ (l.length : Int) = 3 := by omega
  clear h3
  have q0 := BQ2.out.cell 0 (by simp)
  have q1 := BQ2.out.cell 1 (by simp)
  have q2 := BQ2.out.cell 2 (by simp)
  have q3 := BQ2.out.cell 3 (by simp)
  have q4 := BQ2.out.cell 4 (by simp)
  have q5 := BQ2.out.cell 5 (by simp)
  simp only [List.getElem_cons_zero, List.getElem_cons_succ] at q0 q1 q2 q3 q4 q5
  go_wp2_with fail
  refine (HTX.out _).mono ?_
  rintro e w3 ⟨rfl, hb⟩
  have HB3 := Lib.hid ((belS HB2.out hb).alloc (belS HB2.out hb).size (.cells #[.string s, .int .i64 0] 58))
  have B43 := Lib.hid ((B42.out.below hb).alloc (.cells #[.string s, .int .i64 0] 58))
  have B53 := Lib.hid ((B52.out.below hb).alloc (.cells #[.string s, .int .i64 0] 58))
  have BQ3 := Lib.hid ((BQ2.out.below hb).alloc (.cells #[.string s, .int .i64 0] 58))
  have BL3 := Lib.hid (Bx.new w3 [.string s, .int .i64 0] 58)
  have R3 := Lib.hid (ownsF_alloc (ownsF_below P3.out hb (Nat.le_refl _)) (.cells #[.string s, .int .i64 0] 58))
  have R5 := Lib.hid (ownsF_alloc (ownsF_below P5.out hb (Nat.le_refl _)) (.cells #[.string s, .int .i64 0] 58))
  have h5s := hb.size
  clear hb q0 q1 q2 q3 q4 q5
  have HRW := Lib.hid (show rPart 0 (w3.alloc (.cells #[.string s, .int .i64 0] 58)) [.string ⟨a0.toArray⟩, .bool a1, .bool a2, .slice ga a3.length gc, .int .i64 a4, .slice ua l.length uc] ⟨⟨a0, a1, a2, a3, a4⟩, l⟩ from goodPart.mono (oPart_r ⟨_, _, rfl, R3.out, R5.out⟩ HSP.out) (Nat.zero_le _))
  go_wp2_with fail
  refine (HWP.out _ _ _ HRW.out BQ3.out).mono ?_
  rintro e w4 ⟨pv, rfl, hpv, hb⟩
  have HB4 := Lib.hid (belS HB3.out hb)
  have B44 := Lib.hid (B43.out.below hb)
  have B54 := Lib.hid (B53.out.below hb)
  have BQ4 := Lib.hid (BQ3.out.below hb)
  have BL4 := Lib.hid (BL3.out.below hb)
  have S3 := Lib.hid (ownsF_below R3.out hb (Nat.le_refl _))
  have S5 := Lib.hid (ownsF_below R5.out hb (Nat.le_refl _))
  have h6s := hb.size
  simp at h6s
  have HPV := Lib.hid hpv
  have l0 := BL4.out.cell 0 (by simp)
  simp only [List.getElem_cons_zero] at l0
  rw [HNM.out] at l0
  have HWI := Lib.hid (wrapIn_c w3.heap.size 0 q HQ.out pv fp w4 l0 HPV.out)
  clear hb hpv l0
  go_wp2_with fail
  refine HWI.out.mono ?_
  rintro e w5 ⟨hb, hres⟩
  obtain rfl : e = .returned (.tuple #[wrapV w3.heap.size 0 pv q, vReply ⟨0, giveN q, [], 0, 0⟩]) := by
    rcases hres with ⟨_, h⟩ | ⟨h, _⟩
    · exact h
    · rw [HO.out] at h; cases h
  generalize wrapV w3.heap.size 0 pv q = nv at *
  unfold vReply
  have HB5 := Lib.hid ((belS HB4.out hb).alloc (belS HB4.out hb).size (.cells #[.int .i64 0, .int .i64 (giveN q), .string ⟨#[]⟩, .int .i64 0, .int .i64 0] 39))
  have B45 := Lib.hid ((B44.out.below hb).alloc (.cells #[.int .i64 0, .int .i64 (giveN q), .string ⟨#[]⟩, .int .i64 0, .int .i64 0] 39))
  have B55 := Lib.hid ((B54.out.below hb).alloc (.cells #[.int .i64 0, .int .i64 (giveN q), .string ⟨#[]⟩, .int .i64 0, .int .i64 0] 39))
  have BQ5 := Lib.hid ((BQ4.out.below hb).alloc (.cells #[.int .i64 0, .int .i64 (giveN q), .string ⟨#[]⟩, .int .i64 0, .int .i64 0] 39))
  have BL5 := Lib.hid ((BL4.out.below hb).alloc (.cells #[.int .i64 0, .int .i64 (giveN q), .string ⟨#[]⟩, .int .i64 0, .int .i64 0] 39))
  have BR5 := Lib.hid (Bx.new w5 [.int .i64 0, .int .i64 (giveN q), .string ⟨#[]⟩, .int .i64 0, .int .i64 0] 39)
  have T3 := Lib.hid (ownsF_alloc (ownsF_below S3.out hb (Nat.le_refl _)) (.cells #[.int .i64 0, .int .i64 (giveN q), .string ⟨#[]⟩, .int .i64 0, .int .i64 0] 39))
  have T5 := Lib.hid (ownsF_alloc (ownsF_below S5.out hb (Nat.le_refl _)) (.cells #[.int .i64 0, .int .i64 (giveN q), .string ⟨#[]⟩, .int .i64 0, .int .i64 0] 39))
  have h7s := hb.size
  clear hb hres
  have t0 := BR5.out.cell 0 (by simp)
  have t1 := BR5.out.cell 1 (by simp)
  have t2 := BR5.out.cell 2 (by simp)
  have t3 := BR5.out.cell 3 (by simp)
  have t4 := BR5.out.cell 4 (by simp)
  simp only [List.getElem_cons_zero, List.getElem_cons_succ] at t0 t1 t2 t3 t4
  have hcl : ∀ j, j < 2 → ((w5.alloc (.cells #[.int .i64 0, .int .i64 (giveN q), .string ⟨#[]⟩, .int .i64 0, .int .i64 0] 39)).alloc (.cells #[.string s, .int .i64 0] 58)).cell? ⟨w5.heap.size + 1, j, none⟩ = (cLayer ⟨s.data.toList, 0⟩)[j]? := cell_newL (w5.alloc (.cells #[.int .i64 0, .int .i64 (giveN q), .string ⟨#[]⟩, .int .i64 0, .int .i64 0] 39)) ⟨s.data.toList, 0⟩ _ (by simp)
  have hlen : (l ++ [(⟨s.data.toList, 0⟩ : LayerD)]).length = l.length + 1 := by simp
  have hcap : l.length ≤ 4194304 := by have := HSZ.out; omega
  have hBs : w.heap.size + 1 + 1 + 1 ≤ ((w5.alloc (.cells #[.int .i64 0, .int .i64 (giveN q), .string ⟨#[]⟩, .int .i64 0, .int .i64 0] 39)).alloc (.cells #[.string s, .int .i64 0] 58)).heap.size := by simp; omega
  have m0 := BL5.out.cell 0 (by simp)
  have m1 := BL5.out.cell 1 (by simp)
  simp only [List.getElem_cons_zero, List.getElem_cons_succ] at m0 m1
  have q0 := BQ5.out.cell 0 (by simp)
  have q1 := BQ5.out.cell 1 (by simp)
  have q2 := BQ5.out.cell 2 (by simp)
  have q3 := BQ5.out.cell 3 (by simp)
  have q4 := BQ5.out.cell 4 (by simp)
  have q5 := BQ5.out.cell 5 (by simp)
  simp only [List.getElem_cons_zero, List.getElem_cons_succ] at q0 q1 q2 q3 q4 q5
  have p0 := BQ5.out.froz 0 (by simp)
  have p1 := BQ5.out.froz 1 (by simp)
  have p2 := BQ5.out.froz 2 (by simp)
  have p3 := BQ5.out.froz 3 (by simp)
  have p4 := BQ5.out.froz 4 (by simp)
  have p5 := BQ5.out.froz 5 (by simp)
  go_wp2_with (at_builtin; refine append_lay rfl _ _ rfl (w.heap.size + 1 + 1 + 1) (.slice ua l.length uc) l ⟨s.data.toList, 0⟩ ((w5.alloc (.cells #[.int .i64 0, .int .i64 (giveN q), .string ⟨#[]⟩, .int .i64 0, .int .i64 0] 39)).alloc (.cells #[.string s, .int .i64 0] 58)) (w5.heap.size + 1) rfl (ownsF_alloc T5.out _) rfl hcl hcap hBs ?_; intro v6 w6 hO6 hg6; obtain ⟨va, vc, rfl⟩ := slice_lenW hO6 hlen; have HO6 := Lib.hid hO6; clear hO6; have HG6 := Lib.hid hg6; clear hg6; have QX := Lib.hid ((BQ5.out.alloc (.cells #[.string s, .int .i64 0] 58)).grown HG6.out (fun e => by have := HU5.out _ e; omega)); have q5' := QX.out.cell 5 (by simp); have p5' := QX.out.froz 5 (by simp); simp only [List.getElem_cons_zero, List.getElem_cons_succ] at q5')
  have B46 := Lib.hid ((B45.out.alloc (.cells #[.string s, .int .i64 0] 58)).grown HG6.out (fun e => by have := HU5.out _ e; omega))
  have B56 := Lib.hid ((B55.out.alloc (.cells #[.string s, .int .i64 0] 58)).grown HG6.out (fun e => by have := HU5.out _ e; omega))
  have BR6 := Lib.hid ((BR5.out.alloc (.cells #[.string s, .int .i64 0] 58)).grown HG6.out (fun e => by have := HU5.out _ e; omega))
  have HB6 := Lib.hid (below_appendF (HB5.out.alloc HB5.out.size _) (ownsF_base (B' := w.heap.size) (ownsF_alloc T5.out _) (by omega)) HG6.out (Nat.le_trans (by omega) hBs))
  have U3 := Lib.hid (ownsF_keptF (ownsF_alloc T3.out _) (ownsF_alloc T5.out _) HG6.out (by decide))
  have hnb : (Value.slice va (l.length + 1) vc).ownBlock ≠ some w1.heap.size := lay_not_bool HO6.out (by rw [hlen]; omega) (QX.out.cell 1 (by simp))
  have B47 := Lib.hid (B46.out.other (c := w1.heap.size) (by omega) 5 (.slice va (l.length + 1) vc))
  have B57 := Lib.hid (B56.out.other (c := w1.heap.size) (by omega) 5 (.slice va (l.length + 1) vc))
  have BR7 := Lib.hid (BR6.out.other (c := w1.heap.size) (by omega) 5 (.slice va (l.length + 1) vc))
  have BQ7 := Lib.hid (QX.out.set 5 (by simp) (.slice va (l.length + 1) vc))
  have HB7 := Lib.hid (HB6.out.setCell (p := ⟨w1.heap.size, 5, none⟩) (by simp; omega) (.slice va (l.length + 1) vc))
  have V3 := Lib.hid (ownsF_setNe (p := ⟨w1.heap.size, 5, none⟩) (u := .slice va (l.length + 1) vc) U3.out (fun e => Nat.lt_irrefl _ (HU3.out _ e)))
  have V5 := Lib.hid (ownsF_setNe (p := ⟨w1.heap.size, 5, none⟩) (u := .slice va (l.length + 1) vc) HO6.out hnb)
  simp only [List.set_cons_succ, List.set_cons_zero] at BQ7
  clear q0 q1 q2 q3 q4 q5 p0 p1 p2 p3 p4 p5 m0 m1 t0 t1 t2 t3 t4 q5' p5' QX HG6 BL5 BQ5 B45 B55 BR5 B46 B56 BR6
  generalize w6.setCell ⟨w1.heap.size, 5, none⟩ (.slice va (l.length + 1) vc) = w7 at *
  have q0 := BQ7.out.cell 0 (by simp)
  have q1 := BQ7.out.cell 1 (by simp)
  have q2 := BQ7.out.cell 2 (by simp)
  have q3 := BQ7.out.cell 3 (by simp)
  have q4 := BQ7.out.cell 4 (by simp)
  have q5 := BQ7.out.cell 5 (by simp)
  simp only [List.getElem_cons_zero, List.getElem_cons_succ] at q0 q1 q2 q3 q4 q5
  have t0 := BR7.out.cell 0 (by simp)
  have t1 := BR7.out.cell 1 (by simp)
  have t2 := BR7.out.cell 2 (by simp)
  have t3 := BR7.out.cell 3 (by simp)
  have t4 := BR7.out.cell 4 (by simp)
  simp only [List.getElem_cons_zero, List.getElem_cons_succ] at t0 t1 t2 t3 t4
  have r0 := B47.out.cell 0 (by simp)
  have r1 := B47.out.cell 1 (by simp)
  have r2 := B47.out.cell 2 (by simp)
  have r3 := B47.out.cell 3 (by simp)
  have r4 := B47.out.cell 4 (by simp)
  have r5 := B47.out.cell 5 (by simp)
  simp only [List.getElem_cons_zero, List.getElem_cons_succ] at r0 r1 r2 r3 r4 r5
  have z0 := B47.out.froz 0 (by simp)
  have z1 := B47.out.froz 1 (by simp)
  have z2 := B47.out.froz 2 (by simp)
  have z3 := B47.out.froz 3 (by simp)
  have z4 := B47.out.froz 4 (by simp)
  have z5 := B47.out.froz 5 (by simp)
  have s0 := B57.out.cell 0 (by simp)
  have s1 := B57.out.cell 1 (by simp)
  have s2 := B57.out.cell 2 (by simp)
  have s3 := B57.out.cell 3 (by simp)
  have s4 := B57.out.cell 4 (by simp)
  simp only [List.getElem_cons_zero, List.getElem_cons_succ] at s0 s1 s2 s3 s4
  have y0 := B57.out.froz 0 (by simp)
  have y1 := B57.out.froz 1 (by simp)
  have y2 := B57.out.froz 2 (by simp)
  have y3 := B57.out.froz 3 (by simp)
  have y4 := B57.out.froz 4 (by simp)
  go_region
  all_goals (try go_wp2_with fail)
  all_goals
    refine bodyPost_ret (v := .tuple #[.agg #[.string ⟨a0.toArray⟩, .bool a1, .bool a2, .slice ga a3.length gc, .int .i64 a4, .slice va (l.length + 1) vc], .agg #[.int .i64 0, .int .i64 (giveN q), .string ⟨#[]⟩, .int .i64 0, .int .i64 0]]) (by simp [results, Try.results32, go_sem, cell_set_at, cell_set_ne, t0, t1, t2, t3, t4, r0, r1, r2, r3, r4, r5, s0, s1, s2, s3, s4]) rfl ⟨_, rfl, ⟨_, _, rfl, ?_, ?_⟩, ?_⟩
    · refine ownsF_base (B := (((w.heap.size + 1) + 1) + 1)) ?_ (by omega)
      repeat (first | with_reducible refine ownsF_set ?_ (by simp; try omega) | with_reducible refine ownsF_drew ?_)
      have h := V3.out
      simpa using h
    · refine ownsF_base (B := (((w.heap.size + 1) + 1) + 1)) ?_ (by omega)
      repeat (first | with_reducible refine ownsF_set ?_ (by simp; try omega) | with_reducible refine ownsF_drew ?_)
      have h := V5.out
      simpa using h
    · repeat (first | with_reducible exact HB7.out | with_reducible refine Below.setCell ?_ (by simp; try omega) _ | with_reducible refine Below.drew ?_)
theorem implWrap_any (v : Value) (x : PartD) (s : ByteArray) (w : World) (hx : ValAt rPart 0 w v x) (hs : SmallP x) (hk : ∀ c ∈ x.fCore.fCells, c.fKey.length ≤ maxLen) (hz : s.size ≤ 1048576) :
    Calls Try.prog 32 #[v, .string s] w fun e w' => GivesOPR (wrapP x s.data.toList) (wrapR x s.data.toList) w e w' := by
  by_cases hc : 0 ≤ layI s.data.toList
  · cases hp : partB x with
    | false => exact implWrap_bad2 v x s w hx hs hk hz hc hp
    | true =>
      by_cases h3 : x.fLayers.length = 3
      · exact implWrap_full v x s w hx hs hk hz hc hp h3
      · cases ho : offersF (faceP x) (needI (layI s.data.toList)) with
        | false => exact implWrap_fail v x s w hx hs hk hz hc hp h3 ho
        | true => exact implWrap_ok v x s w hx hs hk hz hc hp h3 ho
  · exact implWrap_bad1 v x s w hx hs hk hz hc
end Go.Proofs.Ytaihdjdaamglnac
/- Contracts of chapter 4: MakePart, the program's. Written by gen/ch4mk.py. -/
namespace Go.Proofs.Ytaihdjdaamglnac
set_option linter.unusedVariables false
set_option linter.unusedSimpArgs false
open Go.RowKit
set_option maxRecDepth 100000 in
set_option maxHeartbeats 3200000 in
theorem implMake_nil (a : Option Addr) (c : Nat) (w : World) :
    Calls Try.prog 21 #[.slice a 0 c] w fun e w' => GivesOPR zeroP ⟨7, 0, [], 0, 0⟩ w e w' := by
  unfold GivesOPR zeroP vReply
  have BS := Lib.hid (bx_start2 w [.string ⟨#[]⟩, .bool false, .bool false, .slice none 0 0, .int .i64 0, .slice none 0 0] [.int .i64 0, .int .i64 0, .string ⟨#[]⟩, .int .i64 0, .int .i64 0] 37 39)
  have B2 := Lib.hid BS.out.1
  have B3 := Lib.hid BS.out.2.1
  go_enter Try.func21, Try.ntmps21
  go_wp2_with fail
  exact bodyPost_ret (v := .tuple #[.agg #[.string ⟨#[]⟩, .bool false, .bool false, .slice none 0 0, .int .i64 0, .slice none 0 0], .agg #[.int .i64 7, .int .i64 0, .string ⟨#[]⟩, .int .i64 0, .int .i64 0]]) (by simp [results, Try.results21, go_sem]) rfl ⟨_, rfl, ⟨_, _, rfl, ownsF_nil _ _ _ _ _, ownsF_nil _ _ _ _ _⟩, (bx_start2 w [.string ⟨#[]⟩, .bool false, .bool false, .slice none 0 0, .int .i64 0, .slice none 0 0] [.int .i64 7, .int .i64 0, .string ⟨#[]⟩, .int .i64 0, .int .i64 0] 37 39).2.2⟩
set_option maxRecDepth 100000 in
set_option maxHeartbeats 3200000 in
theorem implMake_bad (b o c : Nat) (k : List UInt8) (r : List (List UInt8)) (w : World) (hR : RowAt w (.slice (some ⟨b, o, none⟩) (r.length + 1) c) ((k :: r).map strV)) (hz : ∀ s ∈ k :: r, s.length ≤ 1048576) (hc : r.length + 1 ≤ c) (hm : r.length + 1 ≤ maxLen) (hk : ¬ 0 ≤ kindI k) :
    Calls Try.prog 21 #[.slice (some ⟨b, o, none⟩) (r.length + 1) c] w fun e w' => GivesOPR zeroP ⟨7, 0, [], 0, 0⟩ w e w' := by
  have d0 := rowAt_cellS hR 0 (by simp)
  simp only [List.map_cons, List.getElem_cons_zero, strV, Nat.add_zero] at d0
  have hbw : b < w.heap.size := by
    obtain ⟨b', o', e, hlt, _⟩ := rowAt_cell hR 0 (by simp)
    injection e with e; injection e with e1 e2; subst e1; exact hlt
  have HNP := Lib.hid (fun W => implNewPart_own ⟨k.toArray⟩ W (by have := hz k (List.mem_cons_self ..); simpa [ByteArray.size] using this))
  simp only [GivesNPO, vNP] at HNP
  have HR := Lib.hid hR
  have HZ := Lib.hid hz
  have HM := Lib.hid hm
  clear hR hz hm
  unfold GivesOPR zeroP vReply
  rw [show decide (0 ≤ kindI (⟨k.toArray⟩ : ByteArray).data.toList) = false from decide_eq_false hk] at HNP
  generalize nmK (⟨k.toArray⟩ : ByteArray).data.toList = nk at *
  have BS := Lib.hid (bx_start2 w [.string ⟨#[]⟩, .bool false, .bool false, .slice none 0 0, .int .i64 0, .slice none 0 0] [.int .i64 0, .int .i64 0, .string ⟨#[]⟩, .int .i64 0, .int .i64 0] 37 39)
  have HD := Lib.hid d0
  clear d0
  have d0 := (BS.out.2.2.cell (p := ⟨b, o, none⟩) hbw).trans HD.out
  go_enter Try.func21, Try.ntmps21
  go_wp2_with fail
  refine (HNP.out _).mono ?_
  rintro e w1 ⟨a1, c1, rfl, ho, hb⟩
  have HB1 := Lib.hid ((belS BS.out.2.2 hb).alloc (belS BS.out.2.2 hb).size (.cells #[.string ⟨nk.toArray⟩, .bool false, .bool false, .slice a1 0 c1, .int .i64 0, .slice none 0 0] 37))
  have B2 := Lib.hid ((BS.out.1.below hb).alloc (.cells #[.string ⟨nk.toArray⟩, .bool false, .bool false, .slice a1 0 c1, .int .i64 0, .slice none 0 0] 37))
  have B3 := Lib.hid ((BS.out.2.1.below hb).alloc (.cells #[.string ⟨nk.toArray⟩, .bool false, .bool false, .slice a1 0 c1, .int .i64 0, .slice none 0 0] 37))
  clear ho hb d0
  have r0 := B2.out.cell 0 (by simp)
  have r1 := B2.out.cell 1 (by simp)
  have r2 := B2.out.cell 2 (by simp)
  have r3 := B2.out.cell 3 (by simp)
  have r4 := B2.out.cell 4 (by simp)
  have r5 := B2.out.cell 5 (by simp)
  simp only [List.getElem_cons_zero, List.getElem_cons_succ] at r0 r1 r2 r3 r4 r5
  have z0 := B2.out.froz 0 (by simp)
  have z1 := B2.out.froz 1 (by simp)
  have z2 := B2.out.froz 2 (by simp)
  have z3 := B2.out.froz 3 (by simp)
  have z4 := B2.out.froz 4 (by simp)
  have z5 := B2.out.froz 5 (by simp)
  have s0 := B3.out.cell 0 (by simp)
  have s1 := B3.out.cell 1 (by simp)
  have s2 := B3.out.cell 2 (by simp)
  have s3 := B3.out.cell 3 (by simp)
  have s4 := B3.out.cell 4 (by simp)
  simp only [List.getElem_cons_zero, List.getElem_cons_succ] at s0 s1 s2 s3 s4
  have y0 := B3.out.froz 0 (by simp)
  have y1 := B3.out.froz 1 (by simp)
  have y2 := B3.out.froz 2 (by simp)
  have y3 := B3.out.froz 3 (by simp)
  have y4 := B3.out.froz 4 (by simp)
  go_wp2_with fail
  clear r0 r1 r2 r3 r4 r5 z0 z1 z2 z3 z4 z5 s0 s1 s2 s3 s4 y0 y1 y2 y3 y4
  have E4 := Lib.hid ((B2.out.put6 (.string ⟨#[]⟩) (.bool false) (.bool false) (.slice none 0 0) (.int .i64 0) (.slice none 0 0)).put5o (c := w.heap.size + 1) (by omega) (.int .i64 7) (.int .i64 0) (.string ⟨#[]⟩) (.int .i64 0) (.int .i64 0))
  have E5 := Lib.hid ((B3.out.put6o (c := w.heap.size) (by omega) (.string ⟨#[]⟩) (.bool false) (.bool false) (.slice none 0 0) (.int .i64 0) (.slice none 0 0)).put5 (.int .i64 7) (.int .i64 0) (.string ⟨#[]⟩) (.int .i64 0) (.int .i64 0))
  have EB := Lib.hid (below_put5 (below_put6 HB1.out w.heap.size (by omega) (.string ⟨#[]⟩) (.bool false) (.bool false) (.slice none 0 0) (.int .i64 0) (.slice none 0 0)) (w.heap.size + 1) (by omega) (.int .i64 7) (.int .i64 0) (.string ⟨#[]⟩) (.int .i64 0) (.int .i64 0))
  generalize ((((((((((((w1.alloc (.cells #[.string ⟨nk.toArray⟩, .bool false, .bool false, .slice a1 0 c1, .int .i64 0, .slice none 0 0] 37)).setCell ⟨w.heap.size, 0, none⟩ (.string ⟨#[]⟩)).setCell ⟨w.heap.size, 1, none⟩ (.bool false)).setCell ⟨w.heap.size, 2, none⟩ (.bool false)).setCell ⟨w.heap.size, 3, none⟩ (.slice none 0 0)).setCell ⟨w.heap.size, 4, none⟩ (.int .i64 0)).setCell ⟨w.heap.size, 5, none⟩ (.slice none 0 0)).setCell ⟨w.heap.size + 1, 0, none⟩ (.int .i64 7)).setCell ⟨w.heap.size + 1, 1, none⟩ (.int .i64 0)).setCell ⟨w.heap.size + 1, 2, none⟩ (.string ⟨#[]⟩)).setCell ⟨w.heap.size + 1, 3, none⟩ (.int .i64 0)).setCell ⟨w.heap.size + 1, 4, none⟩ (.int .i64 0)) = WE at *
  have r0 := E4.out.cell 0 (by simp)
  have r1 := E4.out.cell 1 (by simp)
  have r2 := E4.out.cell 2 (by simp)
  have r3 := E4.out.cell 3 (by simp)
  have r4 := E4.out.cell 4 (by simp)
  have r5 := E4.out.cell 5 (by simp)
  simp only [List.getElem_cons_zero, List.getElem_cons_succ] at r0 r1 r2 r3 r4 r5
  have s0 := E5.out.cell 0 (by simp)
  have s1 := E5.out.cell 1 (by simp)
  have s2 := E5.out.cell 2 (by simp)
  have s3 := E5.out.cell 3 (by simp)
  have s4 := E5.out.cell 4 (by simp)
  simp only [List.getElem_cons_zero, List.getElem_cons_succ] at s0 s1 s2 s3 s4
  exact bodyPost_ret (v := .tuple #[.agg #[.string ⟨#[]⟩, .bool false, .bool false, .slice none 0 0, .int .i64 0, .slice none 0 0], .agg #[.int .i64 7, .int .i64 0, .string ⟨#[]⟩, .int .i64 0, .int .i64 0]]) (by simp [results, Try.results21, go_sem, r0, r1, r2, r3, r4, r5, s0, s1, s2, s3, s4]) rfl ⟨_, rfl, ⟨_, _, rfl, ownsF_nil _ _ _ _ _, ownsF_nil _ _ _ _ _⟩, EB.out⟩
set_option maxRecDepth 100000 in
set_option maxHeartbeats 3200000 in
theorem implMake_one (b o c : Nat) (k : List UInt8) (r : List (List UInt8)) (w : World) (hR : RowAt w (.slice (some ⟨b, o, none⟩) (r.length + 1) c) ((k :: r).map strV)) (hz : ∀ s ∈ k :: r, s.length ≤ 1048576) (hc : r.length + 1 ≤ c) (hm : r.length + 1 ≤ maxLen) (h1 : c = 1) (hk : 0 ≤ kindI k) :
    Calls Try.prog 21 #[.slice (some ⟨b, o, none⟩) (r.length + 1) c] w fun e w' => GivesOPR (makeGo (newP k) r).1 (makeGo (newP k) r).2 w e w' := by
  have d0 := rowAt_cellS hR 0 (by simp)
  simp only [List.map_cons, List.getElem_cons_zero, strV, Nat.add_zero] at d0
  have hbw : b < w.heap.size := by
    obtain ⟨b', o', e, hlt, _⟩ := rowAt_cell hR 0 (by simp)
    injection e with e; injection e with e1 e2; subst e1; exact hlt
  have HNP := Lib.hid (fun W => implNewPart_own ⟨k.toArray⟩ W (by have := hz k (List.mem_cons_self ..); simpa [ByteArray.size] using this))
  simp only [GivesNPO, vNP] at HNP
  have HR := Lib.hid hR
  have HZ := Lib.hid hz
  have HM := Lib.hid hm
  clear hR hz hm
  rw [show decide (0 ≤ kindI (⟨k.toArray⟩ : ByteArray).data.toList) = true from decide_eq_true hk, show nmK (⟨k.toArray⟩ : ByteArray).data.toList = k from if_pos hk] at HNP
  subst h1
  obtain rfl : r = [] := List.eq_nil_of_length_eq_zero (by omega)
  simp only [List.length_nil, Nat.zero_add] at *
  rw [show makeGo (newP k) [] = (newP k, ⟨0, faceP (newP k), [], 0, 0⟩) from rfl]
  unfold GivesOPR vReply
  simp only
  generalize hp0 : newP k = p
  have HPK := Lib.hid hp0
  clear hp0
  generalize hfp : faceP p = fp
  have HFP := Lib.hid hfp
  clear hfp
  have BS := Lib.hid (bx_start2 w [.string ⟨#[]⟩, .bool false, .bool false, .slice none 0 0, .int .i64 0, .slice none 0 0] [.int .i64 0, .int .i64 0, .string ⟨#[]⟩, .int .i64 0, .int .i64 0] 37 39)
  have HD := Lib.hid d0
  clear d0
  have d0 := (BS.out.2.2.cell (p := ⟨b, o, none⟩) hbw).trans HD.out
  go_enter Try.func21, Try.ntmps21
  go_wp2_with fail
  refine (HNP.out _).mono ?_
  rintro e w1 ⟨a1, c1, rfl, ho, hb⟩
  have HB1 := Lib.hid ((belS BS.out.2.2 hb).alloc (belS BS.out.2.2 hb).size (.cells #[.string ⟨k.toArray⟩, .bool false, .bool false, .slice a1 0 c1, .int .i64 0, .slice none 0 0] 37))
  have h1s := hb.size
  simp at h1s
  have ST0 := Lib.hid (show MkSt w w1.heap.size p (w1.alloc (.cells #[.string ⟨k.toArray⟩, .bool false, .bool false, .slice a1 0 c1, .int .i64 0, .slice none 0 0] 37)) by rw [← HPK.out]; exact ⟨newP_small (HZ.out k (List.mem_cons_self ..)), rfl, ⟨_, Bx.new w1 [.string ⟨k.toArray⟩, .bool false, .bool false, .slice a1 0 c1, .int .i64 0, .slice none 0 0] 37, _, _, rfl, ownsF_alloc (ownsF_base ho (by simp)) _, ownsF_nil _ _ _ _ _⟩, (BS.out.1.below hb).alloc (.cells #[.string ⟨k.toArray⟩, .bool false, .bool false, .slice a1 0 c1, .int .i64 0, .slice none 0 0] 37), (BS.out.2.1.below hb).alloc (.cells #[.string ⟨k.toArray⟩, .bool false, .bool false, .slice a1 0 c1, .int .i64 0, .slice none 0 0] 37), HB1.out⟩)
  clear ho hb d0
  go_wp2_with fail
  generalize w1.alloc (.cells #[.string ⟨k.toArray⟩, .bool false, .bool false, .slice a1 0 c1, .int .i64 0, .slice none 0 0] 37) = wr at *
  have hst := ST0.out
  obtain ⟨hsm, hbare, ⟨cs, hq, hown⟩, hr2, hr3, hbw2⟩ := hst
  refine wp_loop_rounds 1 ?_
  rw [rounds_succ]
  obtain ⟨⟨a0, a1, a2, a3, a4⟩, l⟩ := p
  obtain rfl : a3 = [] := hbare
  obtain ⟨u3, u5, rfl, ho3, ho5⟩ := hown
  simp only at ho3 ho5 hq
  obtain ⟨ga, gc, rfl⟩ := slice_of ho3
  obtain ⟨ua, uc, rfl⟩ := slice_of ho5
  simp only [List.length_nil] at *
  have O3 := Lib.hid ho3
  have O5 := Lib.hid ho5
  have HSM := Lib.hid hsm
  have BQ := Lib.hid hq
  have B2 := Lib.hid hr2
  have B3 := Lib.hid hr3
  have HBr := Lib.hid hbw2
  have hlq := hq.lt
  have hls := hbw2.size
  clear hsm ho3 ho5 hq hr2 hr3 hbw2
  have HRP := Lib.hid (fun W (hb : Below wr.heap.size wr W) => (show rPart 0 W [.string ⟨a0.toArray⟩, .bool a1, .bool a2, .slice ga 0 gc, .int .i64 a4, .slice ua l.length uc] (⟨⟨a0, a1, a2, [], a4⟩, l⟩ : PartD) from goodPart.mono (oPart_r ⟨_, _, rfl, ownsF_below O3.out hb (Nat.le_refl _), ownsF_below O5.out hb (Nat.le_refl _)⟩ HSM.out) (Nat.zero_le _)))
  have HFO := Lib.hid (fun W (h : rPart 0 W [.string ⟨a0.toArray⟩, .bool a1, .bool a2, .slice ga 0 gc, .int .i64 a4, .slice ua l.length uc] (⟨⟨a0, a1, a2, [], a4⟩, l⟩ : PartD)) => (show Calls Try.prog 22 #[.agg #[.string ⟨a0.toArray⟩, .bool a1, .bool a2, .slice ga 0 gc, .int .i64 a4, .slice ua l.length uc]] W fun e w' => e = .returned (.int .i64 (faceP (⟨⟨a0, a1, a2, [], a4⟩, l⟩ : PartD))) ∧ Below W.heap.size W w' from implFaceOf_any (.agg #[.string ⟨a0.toArray⟩, .bool a1, .bool a2, .slice ga 0 gc, .int .i64 a4, .slice ua l.length uc]) (⟨⟨a0, a1, a2, [], a4⟩, l⟩ : PartD) W ⟨[.string ⟨a0.toArray⟩, .bool a1, .bool a2, .slice ga 0 gc, .int .i64 a4, .slice ua l.length uc], rfl, h⟩))
  rw [HFP.out] at HFO
  have BQd := Lib.hid (bx_dr BQ.out)
  have B2d := Lib.hid (bx_dr B2.out)
  have B3d := Lib.hid (bx_dr B3.out)
  have q0 := BQd.out.cell 0 (by simp)
  have q1 := BQd.out.cell 1 (by simp)
  have q2 := BQd.out.cell 2 (by simp)
  have q3 := BQd.out.cell 3 (by simp)
  have q4 := BQd.out.cell 4 (by simp)
  have q5 := BQd.out.cell 5 (by simp)
  simp only [List.getElem_cons_zero, List.getElem_cons_succ] at q0 q1 q2 q3 q4 q5
  go_wp2_with fail
  go_region_with (first
      | (go_at_call 22; (with_reducible refine (HFO.out _ (HRP.out _ (bel_dr (Below.refl _ _)))).mono ?_); rintro e w6 ⟨rfl, hb6⟩; have BQ6 := Lib.hid (BQd.out.below hb6); have B26 := Lib.hid (B2d.out.below hb6); have B36 := Lib.hid (B3d.out.below hb6); have q0' := BQ6.out.cell 0 (by simp); have q1' := BQ6.out.cell 1 (by simp); have q2' := BQ6.out.cell 2 (by simp); have q3' := BQ6.out.cell 3 (by simp); have q4' := BQ6.out.cell 4 (by simp); have q5' := BQ6.out.cell 5 (by simp); have r0 := B26.out.cell 0 (by simp); have z0 := B26.out.froz 0 (by simp); have r1 := B26.out.cell 1 (by simp); have z1 := B26.out.froz 1 (by simp); have r2 := B26.out.cell 2 (by simp); have z2 := B26.out.froz 2 (by simp); have r3 := B26.out.cell 3 (by simp); have z3 := B26.out.froz 3 (by simp); have r4 := B26.out.cell 4 (by simp); have z4 := B26.out.froz 4 (by simp); have r5 := B26.out.cell 5 (by simp); have z5 := B26.out.froz 5 (by simp); have s0 := B36.out.cell 0 (by simp); have y0 := B36.out.froz 0 (by simp); have s1 := B36.out.cell 1 (by simp); have y1 := B36.out.froz 1 (by simp); have s2 := B36.out.cell 2 (by simp); have y2 := B36.out.froz 2 (by simp); have s3 := B36.out.cell 3 (by simp); have y3 := B36.out.froz 3 (by simp); have s4 := B36.out.cell 4 (by simp); have y4 := B36.out.froz 4 (by simp); simp only [List.getElem_cons_zero, List.getElem_cons_succ] at q0' q1' q2' q3' q4' q5' r0 r1 r2 r3 r4 r5 s0 s1 s2 s3 s4))
  all_goals (try go_wp2_with fail)
  all_goals
    have HB6 := Lib.hid (belS (bel_dr HBr.out) hb6)
    have T3 := Lib.hid (ownsF_below (ownsF_drew O3.out) hb6 (Nat.le_refl _))
    have T5 := Lib.hid (ownsF_below (ownsF_drew O5.out) hb6 (Nat.le_refl _))
    refine bodyPost_ret (v := .tuple #[.agg #[.string ⟨a0.toArray⟩, .bool a1, .bool a2, .slice ga 0 gc, .int .i64 a4, .slice ua l.length uc], .agg #[.int .i64 0, .int .i64 fp, .string ⟨#[]⟩, .int .i64 0, .int .i64 0]]) (by simp [results, Try.results21, go_sem, cell_set_at, cell_set_ne, r0, r1, r2, r3, r4, r5, s0, s1, s2, s3, s4]) rfl ⟨_, rfl, ⟨_, _, rfl, ?_, ?_⟩, ?_⟩
    · refine ownsF_base (B := ((w.heap.size + 1) + 1)) ?_ (by omega)
      repeat (first | with_reducible exact T3.out | with_reducible refine ownsF_set ?_ (by simp; try omega) | with_reducible refine ownsF_drew ?_)
    · refine ownsF_base (B := ((w.heap.size + 1) + 1)) ?_ (by omega)
      repeat (first | with_reducible exact T5.out | with_reducible refine ownsF_set ?_ (by simp; try omega) | with_reducible refine ownsF_drew ?_)
    · repeat (first | with_reducible exact HB6.out | with_reducible refine Below.setCell ?_ (by simp; try omega) _ | with_reducible refine Below.drew ?_)
set_option maxRecDepth 100000 in
set_option maxHeartbeats 3200000 in
theorem implMake_go (b o c : Nat) (k : List UInt8) (r : List (List UInt8)) (w : World) (hR : RowAt w (.slice (some ⟨b, o, none⟩) (r.length + 1) c) ((k :: r).map strV)) (hz : ∀ s ∈ k :: r, s.length ≤ 1048576) (hc : r.length + 1 ≤ c) (hm : r.length + 1 ≤ maxLen) (h1 : ¬ (c : Int) = 1) (hk : 0 ≤ kindI k) :
    Calls Try.prog 21 #[.slice (some ⟨b, o, none⟩) (r.length + 1) c] w fun e w' => GivesOPR (makeGo (newP k) r).1 (makeGo (newP k) r).2 w e w' := by
  have d0 := rowAt_cellS hR 0 (by simp)
  simp only [List.map_cons, List.getElem_cons_zero, strV, Nat.add_zero] at d0
  have hbw : b < w.heap.size := by
    obtain ⟨b', o', e, hlt, _⟩ := rowAt_cell hR 0 (by simp)
    injection e with e; injection e with e1 e2; subst e1; exact hlt
  have HNP := Lib.hid (fun W => implNewPart_own ⟨k.toArray⟩ W (by have := hz k (List.mem_cons_self ..); simpa [ByteArray.size] using this))
  simp only [GivesNPO, vNP] at HNP
  have HR := Lib.hid hR
  have HZ := Lib.hid hz
  have HM := Lib.hid hm
  clear hR hz hm
  rw [show decide (0 ≤ kindI (⟨k.toArray⟩ : ByteArray).data.toList) = true from decide_eq_true hk, show nmK (⟨k.toArray⟩ : ByteArray).data.toList = k from if_pos hk] at HNP
  generalize hp0 : newP k = p0
  have HPK := Lib.hid hp0
  clear hp0
  generalize hres : makeGo p0 r = res
  obtain ⟨rp, t0, fp, t2, t3, t4⟩ := res
  have HRES := Lib.hid hres.symm
  clear hres
  unfold GivesOPR vReply
  simp only
  have BS := Lib.hid (bx_start2 w [.string ⟨#[]⟩, .bool false, .bool false, .slice none 0 0, .int .i64 0, .slice none 0 0] [.int .i64 0, .int .i64 0, .string ⟨#[]⟩, .int .i64 0, .int .i64 0] 37 39)
  have HD := Lib.hid d0
  clear d0
  have d0 := (BS.out.2.2.cell (p := ⟨b, o, none⟩) hbw).trans HD.out
  go_enter Try.func21, Try.ntmps21
  go_wp2_with fail
  refine (HNP.out _).mono ?_
  rintro e w1 ⟨a1, c1, rfl, ho, hb⟩
  have HB1 := Lib.hid ((belS BS.out.2.2 hb).alloc (belS BS.out.2.2 hb).size (.cells #[.string ⟨k.toArray⟩, .bool false, .bool false, .slice a1 0 c1, .int .i64 0, .slice none 0 0] 37))
  have h1s := hb.size
  simp at h1s
  have ST0 := Lib.hid (show MkSt w w1.heap.size p0 (w1.alloc (.cells #[.string ⟨k.toArray⟩, .bool false, .bool false, .slice a1 0 c1, .int .i64 0, .slice none 0 0] 37)) by rw [← HPK.out]; exact ⟨newP_small (HZ.out k (List.mem_cons_self ..)), rfl, ⟨_, Bx.new w1 [.string ⟨k.toArray⟩, .bool false, .bool false, .slice a1 0 c1, .int .i64 0, .slice none 0 0] 37, _, _, rfl, ownsF_alloc (ownsF_base ho (by simp)) _, ownsF_nil _ _ _ _ _⟩, (BS.out.1.below hb).alloc (.cells #[.string ⟨k.toArray⟩, .bool false, .bool false, .slice a1 0 c1, .int .i64 0, .slice none 0 0] 37), (BS.out.2.1.below hb).alloc (.cells #[.string ⟨k.toArray⟩, .bool false, .bool false, .slice a1 0 c1, .int .i64 0, .slice none 0 0] 37), HB1.out⟩)
  clear ho hb d0
  go_wp2_with fail
  have HRT := Lib.hid (fun W (hb : Below w.heap.size w W) => RowAt.below HR.out hb (Nat.le_refl _))
  generalize w1.alloc (.cells #[.string ⟨k.toArray⟩, .bool false, .bool false, .slice a1 0 c1, .int .i64 0, .slice none 0 0] 37) = w2 at *
  go_loopw [7, 8, 9, 29] (fun _ _ _ i wr => ∃ j : Nat, ∃ p : PartD, j ≤ r.length ∧ i = .int .i64 j ∧ (rp, (⟨t0, fp, t2, t3, t4⟩ : ReplyD)) = makeGo p (r.drop j) ∧ MkSt w w1.heap.size p wr) (fun _ _ _ i _ => r.length - (intOf i).toNat)
  case atStart => exact ⟨0, p0, Nat.zero_le _, rfl, HRES.out, ST0.out⟩
  case round =>
    obtain ⟨j, p, hj, rfl, hgo, hst⟩ := hrel
    obtain ⟨hsm, hbare, ⟨cs, hq, hown⟩, hr2, hr3, hbw2⟩ := hst
    by_cases hlt : j < r.length
    · have d1 := rowAt_cellS (HRT.out _ hbw2) (j + 1) (by simp; omega)
      simp only [List.map_cons, List.getElem_cons_succ, List.getElem_map, strV] at d1
      rw [show o + (j + 1) = o + 1 + j by omega] at d1
      have hzs := HZ.out (r[j]) (List.mem_cons_of_mem _ (List.getElem_mem hlt))
      have hdr : r.drop j = r[j] :: r.drop (j + 1) := List.drop_eq_getElem_cons hlt
      rw [hdr] at hgo
      clear hdr
      generalize r[j] = s at *
      have HW := Lib.hid (fun cs W (h : rPart 0 W cs p) => (show Calls Try.prog 32 #[.agg cs.toArray, .string ⟨s.toArray⟩] W fun e w' => GivesOPR (wrapP p s) (wrapR p s) W e w' from implWrap_any (.agg cs.toArray) p ⟨s.toArray⟩ W ⟨cs, rfl, h⟩ hsm (by rw [hbare]; intro c hc; cases hc) (by simpa [ByteArray.size] using hzs)))
      have HSM2 := Lib.hid (wrapP_small hsm s)
      have hb2 : (wrapP p s).fCore.fCells = [] := by rw [wrapP_core]; exact hbare
      have hyes : wrapI p s = 0 → (rp, (⟨t0, fp, t2, t3, t4⟩ : ReplyD)) = makeGo (wrapP p s) (r.drop (j + 1)) := fun h => hgo.trans (makeGo_on h)
      have hno : ¬ wrapI p s = 0 → (rp, (⟨t0, fp, t2, t3, t4⟩ : ReplyD)) = (zeroP, wrapR p s) := fun h => hgo.trans (makeGo_stop h)
      obtain ⟨m1, m3, m4, hrr⟩ : ∃ m1 m3 m4, wrapR p s = ⟨wrapI p s, m1, [], m3, m4⟩ := ⟨_, _, _, rfl⟩
      simp only [hrr] at HW hno
      unfold GivesOPR vReply at HW
      simp only at HW
      clear hgo hrr
      generalize wrapI p s = m0 at *
      generalize wrapP p s = p2 at *
      obtain ⟨⟨a0, a1, a2, a3, a4⟩, l⟩ := p
      obtain rfl : a3 = [] := hbare
      obtain ⟨u3, u5, rfl, ho3, ho5⟩ := hown
      simp only at ho3 ho5 hq
      obtain ⟨ga, gc, rfl⟩ := slice_of ho3
      obtain ⟨ua, uc, rfl⟩ := slice_of ho5
      simp only [List.length_nil] at *
      have O3 := Lib.hid ho3
      have O5 := Lib.hid ho5
      have HSM := Lib.hid hsm
      have BQ := Lib.hid hq
      have B2 := Lib.hid hr2
      have B3 := Lib.hid hr3
      have HBr := Lib.hid hbw2
      have hlq := hq.lt
      have hls := hbw2.size
      clear hsm ho3 ho5 hq hr2 hr3 hbw2
      have HRP := Lib.hid (goodPart.mono (oPart_r ⟨_, _, rfl, O3.out, O5.out⟩ HSM.out) (Nat.zero_le _))
      have HYES := Lib.hid hyes
      have HNO := Lib.hid hno
      have hjr : (j : Int) < (r.length : Int) := by omega
      have hml := HM.out
      unfold maxLen at hml
      clear hyes hno
      have q0 := BQ.out.cell 0 (by simp)
      have q1 := BQ.out.cell 1 (by simp)
      have q2 := BQ.out.cell 2 (by simp)
      have q3 := BQ.out.cell 3 (by simp)
      have q4 := BQ.out.cell 4 (by simp)
      have q5 := BQ.out.cell 5 (by simp)
      simp only [List.getElem_cons_zero, List.getElem_cons_succ] at q0 q1 q2 q3 q4 q5
      go_wp2_with fail
      refine (HW.out _ _ HRP.out).mono ?_
      rintro e w4 ⟨_, rfl, ho, hb⟩
      obtain ⟨⟨b0, b1, b2, b3, b4⟩, l2⟩ := p2
      obtain rfl : b3 = [] := hb2
      obtain ⟨u3, u5, rfl, ho3, ho5⟩ := ho
      simp only at ho3 ho5
      obtain ⟨ha, hc2, rfl⟩ := slice_of ho3
      obtain ⟨va, vc, rfl⟩ := slice_of ho5
      simp only [List.length_nil] at *
      have N3 := Lib.hid ho3
      have N5 := Lib.hid ho5
      have HB4 := Lib.hid (belS HBr.out hb)
      have BQ4 := Lib.hid (BQ.out.below hb)
      have B24 := Lib.hid (B2.out.below hb)
      have B34 := Lib.hid (B3.out.below hb)
      have hs4 := hb.size
      have hq4 := BQ4.out.lt
      clear hb ho3 ho5 q0 q1 q2 q3 q4 q5 BQ B2 B3
      by_cases hcd : m0 = 0
      · subst hcd
        have HG := Lib.hid (HYES.out rfl)
        clear HNO HYES
        have q0 := BQ4.out.cell 0 (by simp)
        have q1 := BQ4.out.cell 1 (by simp)
        have q2 := BQ4.out.cell 2 (by simp)
        have q3 := BQ4.out.cell 3 (by simp)
        have q4 := BQ4.out.cell 4 (by simp)
        have q5 := BQ4.out.cell 5 (by simp)
        simp only [List.getElem_cons_zero, List.getElem_cons_succ] at q0 q1 q2 q3 q4 q5
        have p0 := BQ4.out.froz 0 (by simp)
        have p1 := BQ4.out.froz 1 (by simp)
        have p2 := BQ4.out.froz 2 (by simp)
        have p3 := BQ4.out.froz 3 (by simp)
        have p4 := BQ4.out.froz 4 (by simp)
        have p5 := BQ4.out.froz 5 (by simp)
        go_wp2_with fail
        refine ⟨⟨j + 1, ⟨⟨b0, b1, b2, [], b4⟩, l2⟩, by omega, by go_num, HG.out, ?_⟩, by simp [intOf]; omega⟩
        exact ⟨HSM2.out, rfl, ⟨_, ((BQ4.out.put6 (.string ⟨b0.toArray⟩) (.bool b1) (.bool b2) (.slice ha 0 hc2) (.int .i64 b4) (.slice va l2.length vc)).alloc _).alloc _, _, _, rfl, ownsF_alloc (ownsF_alloc (ownsF_base (ownsF_put6 N3.out w1.heap.size hlq (.string ⟨b0.toArray⟩) (.bool b1) (.bool b2) (.slice ha 0 hc2) (.int .i64 b4) (.slice va l2.length vc)) (by omega)) _) _, ownsF_alloc (ownsF_alloc (ownsF_base (ownsF_put6 N5.out w1.heap.size hlq (.string ⟨b0.toArray⟩) (.bool b1) (.bool b2) (.slice ha 0 hc2) (.int .i64 b4) (.slice va l2.length vc)) (by omega)) _) _⟩,
          ((B24.out.put6o (c := w1.heap.size) (by omega) (.string ⟨b0.toArray⟩) (.bool b1) (.bool b2) (.slice ha 0 hc2) (.int .i64 b4) (.slice va l2.length vc)).alloc _).alloc _, ((B34.out.put6o (c := w1.heap.size) (by omega) (.string ⟨b0.toArray⟩) (.bool b1) (.bool b2) (.slice ha 0 hc2) (.int .i64 b4) (.slice va l2.length vc)).alloc _).alloc _,
          belS (belS (below_put6 HB4.out w1.heap.size (by omega) (.string ⟨b0.toArray⟩) (.bool b1) (.bool b2) (.slice ha 0 hc2) (.int .i64 b4) (.slice va l2.length vc)) (bx_box _ _)) (bx_box _ _)⟩
      · have HG := Lib.hid (HNO.out hcd)
        have hg := HG.out
        simp only [Prod.mk.injEq, ReplyD.mk.injEq] at hg
        obtain ⟨g1, g2, g3, g4, g5, g6⟩ := hg
        subst g1
        subst g4
        have g2 := g2.symm
        have g3 := g3.symm
        have g5 := g5.symm
        have g6 := g6.symm
        subst g2
        subst g3
        subst g5
        subst g6
        clear HNO HYES HG
        have B25 := Lib.hid ((B24.out.alloc (.cells #[.string ⟨b0.toArray⟩, .bool b1, .bool b2, .slice ha 0 hc2, .int .i64 b4, .slice va l2.length vc] 37)).alloc (.cells #[.int .i64 m0, .int .i64 m1, .string ⟨#[]⟩, .int .i64 m3, .int .i64 m4] 39))
        have B35 := Lib.hid ((B34.out.alloc (.cells #[.string ⟨b0.toArray⟩, .bool b1, .bool b2, .slice ha 0 hc2, .int .i64 b4, .slice va l2.length vc] 37)).alloc (.cells #[.int .i64 m0, .int .i64 m1, .string ⟨#[]⟩, .int .i64 m3, .int .i64 m4] 39))
        have r0 := B25.out.cell 0 (by simp)
        have r1 := B25.out.cell 1 (by simp)
        have r2 := B25.out.cell 2 (by simp)
        have r3 := B25.out.cell 3 (by simp)
        have r4 := B25.out.cell 4 (by simp)
        have r5 := B25.out.cell 5 (by simp)
        simp only [List.getElem_cons_zero, List.getElem_cons_succ] at r0 r1 r2 r3 r4 r5
        have z0 := B25.out.froz 0 (by simp)
        have z1 := B25.out.froz 1 (by simp)
        have z2 := B25.out.froz 2 (by simp)
        have z3 := B25.out.froz 3 (by simp)
        have z4 := B25.out.froz 4 (by simp)
        have z5 := B25.out.froz 5 (by simp)
        have s0 := B35.out.cell 0 (by simp)
        have s1 := B35.out.cell 1 (by simp)
        have s2 := B35.out.cell 2 (by simp)
        have s3 := B35.out.cell 3 (by simp)
        have s4 := B35.out.cell 4 (by simp)
        simp only [List.getElem_cons_zero, List.getElem_cons_succ] at s0 s1 s2 s3 s4
        have y0 := B35.out.froz 0 (by simp)
        have y1 := B35.out.froz 1 (by simp)
        have y2 := B35.out.froz 2 (by simp)
        have y3 := B35.out.froz 3 (by simp)
        have y4 := B35.out.froz 4 (by simp)
        go_wp2_with fail
        go_region
        all_goals (try go_wp2_with fail)
        all_goals
          refine bodyPost_ret (v := .tuple #[.agg #[.string ⟨#[]⟩, .bool false, .bool false, .slice none 0 0, .int .i64 0, .slice none 0 0], .agg #[.int .i64 m0, .int .i64 m1, .string ⟨#[]⟩, .int .i64 m3, .int .i64 m4]]) (by simp [results, Try.results21, go_sem, cell_set_at, cell_set_ne, r0, r1, r2, r3, r4, r5, s0, s1, s2, s3, s4]) rfl ⟨_, rfl, ⟨_, _, rfl, ownsF_nil _ _ _ _ _, ownsF_nil _ _ _ _ _⟩, ?_⟩
          repeat (first | with_reducible exact HB4.out | with_reducible refine Below.setCell ?_ (by simp; try omega) _ | with_reducible refine Below.alloc ?_ (by first | omega | (simp; omega)) _ | with_reducible refine Below.drew ?_)
    · rw [show r.drop j = [] from List.drop_eq_nil_of_le (by omega)] at hgo
      replace hgo : (rp, (⟨t0, fp, t2, t3, t4⟩ : ReplyD)) = (p, ⟨0, faceP p, [], 0, 0⟩) := hgo
      simp only [Prod.mk.injEq, ReplyD.mk.injEq] at hgo
      obtain ⟨g1, g2, g3, g4, g5, g6⟩ := hgo
      have g1 := g1.symm
      subst g1
      subst g2
      subst g4
      subst g5
      subst g6
      have HFP := Lib.hid g3.symm
      clear g3
      have hjr : ¬ (j : Int) < (r.length : Int) := by omega
      obtain ⟨⟨a0, a1, a2, a3, a4⟩, l⟩ := p
      obtain rfl : a3 = [] := hbare
      obtain ⟨u3, u5, rfl, ho3, ho5⟩ := hown
      simp only at ho3 ho5 hq
      obtain ⟨ga, gc, rfl⟩ := slice_of ho3
      obtain ⟨ua, uc, rfl⟩ := slice_of ho5
      simp only [List.length_nil] at *
      have O3 := Lib.hid ho3
      have O5 := Lib.hid ho5
      have HSM := Lib.hid hsm
      have BQ := Lib.hid hq
      have B2 := Lib.hid hr2
      have B3 := Lib.hid hr3
      have HBr := Lib.hid hbw2
      have hlq := hq.lt
      have hls := hbw2.size
      clear hsm ho3 ho5 hq hr2 hr3 hbw2
      have HRP := Lib.hid (fun W (hb : Below wr.heap.size wr W) => (show rPart 0 W [.string ⟨a0.toArray⟩, .bool a1, .bool a2, .slice ga 0 gc, .int .i64 a4, .slice ua l.length uc] (⟨⟨a0, a1, a2, [], a4⟩, l⟩ : PartD) from goodPart.mono (oPart_r ⟨_, _, rfl, ownsF_below O3.out hb (Nat.le_refl _), ownsF_below O5.out hb (Nat.le_refl _)⟩ HSM.out) (Nat.zero_le _)))
      have HFO := Lib.hid (fun W (h : rPart 0 W [.string ⟨a0.toArray⟩, .bool a1, .bool a2, .slice ga 0 gc, .int .i64 a4, .slice ua l.length uc] (⟨⟨a0, a1, a2, [], a4⟩, l⟩ : PartD)) => (show Calls Try.prog 22 #[.agg #[.string ⟨a0.toArray⟩, .bool a1, .bool a2, .slice ga 0 gc, .int .i64 a4, .slice ua l.length uc]] W fun e w' => e = .returned (.int .i64 (faceP (⟨⟨a0, a1, a2, [], a4⟩, l⟩ : PartD))) ∧ Below W.heap.size W w' from implFaceOf_any (.agg #[.string ⟨a0.toArray⟩, .bool a1, .bool a2, .slice ga 0 gc, .int .i64 a4, .slice ua l.length uc]) (⟨⟨a0, a1, a2, [], a4⟩, l⟩ : PartD) W ⟨[.string ⟨a0.toArray⟩, .bool a1, .bool a2, .slice ga 0 gc, .int .i64 a4, .slice ua l.length uc], rfl, h⟩))
      rw [HFP.out] at HFO
      have BQd := Lib.hid (bx_dr BQ.out)
      have B2d := Lib.hid (bx_dr B2.out)
      have B3d := Lib.hid (bx_dr B3.out)
      have q0 := BQd.out.cell 0 (by simp)
      have q1 := BQd.out.cell 1 (by simp)
      have q2 := BQd.out.cell 2 (by simp)
      have q3 := BQd.out.cell 3 (by simp)
      have q4 := BQd.out.cell 4 (by simp)
      have q5 := BQd.out.cell 5 (by simp)
      simp only [List.getElem_cons_zero, List.getElem_cons_succ] at q0 q1 q2 q3 q4 q5
      go_wp2_with fail
      go_region_with (first
          | (go_at_call 22; (with_reducible refine (HFO.out _ (HRP.out _ (bel_dr (Below.refl _ _)))).mono ?_); rintro e w6 ⟨rfl, hb6⟩; have BQ6 := Lib.hid (BQd.out.below hb6); have B26 := Lib.hid (B2d.out.below hb6); have B36 := Lib.hid (B3d.out.below hb6); have q0' := BQ6.out.cell 0 (by simp); have q1' := BQ6.out.cell 1 (by simp); have q2' := BQ6.out.cell 2 (by simp); have q3' := BQ6.out.cell 3 (by simp); have q4' := BQ6.out.cell 4 (by simp); have q5' := BQ6.out.cell 5 (by simp); have r0 := B26.out.cell 0 (by simp); have z0 := B26.out.froz 0 (by simp); have r1 := B26.out.cell 1 (by simp); have z1 := B26.out.froz 1 (by simp); have r2 := B26.out.cell 2 (by simp); have z2 := B26.out.froz 2 (by simp); have r3 := B26.out.cell 3 (by simp); have z3 := B26.out.froz 3 (by simp); have r4 := B26.out.cell 4 (by simp); have z4 := B26.out.froz 4 (by simp); have r5 := B26.out.cell 5 (by simp); have z5 := B26.out.froz 5 (by simp); have s0 := B36.out.cell 0 (by simp); have y0 := B36.out.froz 0 (by simp); have s1 := B36.out.cell 1 (by simp); have y1 := B36.out.froz 1 (by simp); have s2 := B36.out.cell 2 (by simp); have y2 := B36.out.froz 2 (by simp); have s3 := B36.out.cell 3 (by simp); have y3 := B36.out.froz 3 (by simp); have s4 := B36.out.cell 4 (by simp); have y4 := B36.out.froz 4 (by simp); simp only [List.getElem_cons_zero, List.getElem_cons_succ] at q0' q1' q2' q3' q4' q5' r0 r1 r2 r3 r4 r5 s0 s1 s2 s3 s4))
      all_goals (try go_wp2_with fail)
      all_goals
        have HB6 := Lib.hid (belS (bel_dr HBr.out) hb6)
        have T3 := Lib.hid (ownsF_below (ownsF_drew O3.out) hb6 (Nat.le_refl _))
        have T5 := Lib.hid (ownsF_below (ownsF_drew O5.out) hb6 (Nat.le_refl _))
        refine bodyPost_ret (v := .tuple #[.agg #[.string ⟨a0.toArray⟩, .bool a1, .bool a2, .slice ga 0 gc, .int .i64 a4, .slice ua l.length uc], .agg #[.int .i64 0, .int .i64 fp, .string ⟨#[]⟩, .int .i64 0, .int .i64 0]]) (by simp [results, Try.results21, go_sem, cell_set_at, cell_set_ne, r0, r1, r2, r3, r4, r5, s0, s1, s2, s3, s4]) rfl ⟨_, rfl, ⟨_, _, rfl, ?_, ?_⟩, ?_⟩
        · refine ownsF_base (B := ((w.heap.size + 1) + 1)) ?_ (by omega)
          repeat (first | with_reducible exact T3.out | with_reducible refine ownsF_set ?_ (by simp; try omega) | with_reducible refine ownsF_drew ?_)
        · refine ownsF_base (B := ((w.heap.size + 1) + 1)) ?_ (by omega)
          repeat (first | with_reducible exact T5.out | with_reducible refine ownsF_set ?_ (by simp; try omega) | with_reducible refine ownsF_drew ?_)
        · repeat (first | with_reducible exact HB6.out | with_reducible refine Below.setCell ?_ (by simp; try omega) _ | with_reducible refine Below.drew ?_)
theorem implMakePart_any (v : Value) (x : List (List UInt8)) (w : World) (hR : RowAt w v (x.map strV)) (hz : ∀ s ∈ x, s.length ≤ 1048576) :
    Calls Try.prog 21 #[v] w fun e w' => GivesOPR (makePR x).1 (makePR x).2 w e w' := by
  obtain ⟨a, c, rfl, hl, hcap⟩ := rowAt_cap hR
  cases x with
  | nil => exact implMake_nil a c w
  | cons k r =>
    obtain ⟨b, o, rfl, hbw, _⟩ := rowAt_cell hR 0 (by simp)
    simp only [List.length_map, List.length_cons] at hR hl hcap ⊢
    by_cases hk : 0 ≤ kindI k
    · rw [show makePR (k :: r) = makeGo (newP k) r from if_pos hk]
      by_cases h1 : c = 1
      · exact implMake_one b o c k r w hR hz hcap hl h1 hk
      · exact implMake_go b o c k r w hR hz hcap hl (by omega) hk
    · rw [show makePR (k :: r) = (zeroP, ⟨7, 0, [], 0, 0⟩) from if_neg hk]
      exact implMake_bad b o c k r w hR hz hcap hl hk
set_option maxRecDepth 100000 in
set_option maxHeartbeats 1600000 in
theorem implRecipeFace_any (v : Value) (x : List (List UInt8)) (w : World) (hR : RowAt w v (x.map strV)) (hz : ∀ s ∈ x, s.length ≤ 1048576) :
    Calls Try.prog 16 #[v] w fun e w' => e = .returned (.tuple #[.int .i64 (recI x), .bool (recB x)]) ∧ Below w.heap.size w w' := by
  have HMK := Lib.hid (implMakePart_any v x w hR hz)
  have HSM := Lib.hid (makePR_small hz)
  have HV := Lib.hid (@makePR_val x)
  unfold recI recB
  generalize makePR x = res at *
  obtain ⟨⟨⟨a0, a1, a2, a3, a4⟩, l⟩, m0, m1, m2, m3, m4⟩ := res
  unfold GivesOPR vReply at HMK
  simp only at HMK HSM ⊢
  have HFO := Lib.hid (fun cs W (h : rPart 0 W cs ⟨⟨a0, a1, a2, a3, a4⟩, l⟩) => implFaceOf_any (.agg cs.toArray) ⟨⟨a0, a1, a2, a3, a4⟩, l⟩ W ⟨cs, rfl, h⟩)
  generalize hfp : faceP ⟨⟨a0, a1, a2, a3, a4⟩, l⟩ = fp at *
  clear hfp hR hz
  by_cases hc : m0 = 0
  · subst hc
    have hv : m1 = fp := HV.out rfl
    subst hv
    simp only [if_true, decide_true]
    clear HV
    go_enter Try.func16, Try.ntmps16
    go_wp2_with fail
    refine HMK.out.mono ?_
    rintro e w1 ⟨_, rfl, ⟨u3, u5, rfl, ho3, ho5⟩, hb⟩
    simp only at ho3 ho5
    obtain ⟨ga, gc, rfl⟩ := slice_of ho3
    obtain ⟨ua, uc, rfl⟩ := slice_of ho5
    have HB1 := Lib.hid (belS (belS hb (bx_box w1 (.cells #[.string ⟨a0.toArray⟩, .bool a1, .bool a2, .slice ga a3.length gc, .int .i64 a4, .slice ua l.length uc] 37))) (bx_box _ (.cells #[.int .i64 0, .int .i64 m1, .string ⟨m2.toArray⟩, .int .i64 m3, .int .i64 m4] 39)))
    have O3 := Lib.hid (ownsF_alloc (ownsF_alloc ho3 (.cells #[.string ⟨a0.toArray⟩, .bool a1, .bool a2, .slice ga a3.length gc, .int .i64 a4, .slice ua l.length uc] 37)) (.cells #[.int .i64 0, .int .i64 m1, .string ⟨m2.toArray⟩, .int .i64 m3, .int .i64 m4] 39))
    have O5 := Lib.hid (ownsF_alloc (ownsF_alloc ho5 (.cells #[.string ⟨a0.toArray⟩, .bool a1, .bool a2, .slice ga a3.length gc, .int .i64 a4, .slice ua l.length uc] 37)) (.cells #[.int .i64 0, .int .i64 m1, .string ⟨m2.toArray⟩, .int .i64 m3, .int .i64 m4] 39))
    have HRP := Lib.hid (show rPart 0 ((w1.alloc (.cells #[.string ⟨a0.toArray⟩, .bool a1, .bool a2, .slice ga a3.length gc, .int .i64 a4, .slice ua l.length uc] 37)).alloc (.cells #[.int .i64 0, .int .i64 m1, .string ⟨m2.toArray⟩, .int .i64 m3, .int .i64 m4] 39)) [.string ⟨a0.toArray⟩, .bool a1, .bool a2, .slice ga a3.length gc, .int .i64 a4, .slice ua l.length uc] ⟨⟨a0, a1, a2, a3, a4⟩, l⟩ from goodPart.mono (oPart_r ⟨_, _, rfl, O3.out, O5.out⟩ HSM.out) (Nat.zero_le _))
    clear ho3 ho5 hb
    go_wp2_with fail
    refine (HFO.out _ _ HRP.out).mono ?_
    rintro e w2 ⟨rfl, hb2⟩
    have HB2 := Lib.hid (belS HB1.out hb2)
    clear hb2
    go_wp2_with fail
    exact bodyPost_ret (v := .tuple #[.int .i64 m1, .bool true]) (by simp [results, Try.results16, go_sem]) rfl ⟨rfl, HB2.out⟩
  · simp only [if_neg hc, decide_eq_false hc]
    clear HV
    go_enter Try.func16, Try.ntmps16
    go_wp2_with fail
    refine HMK.out.mono ?_
    rintro e w1 ⟨_, rfl, ⟨u3, u5, rfl, ho3, ho5⟩, hb⟩
    simp only at ho3 ho5
    obtain ⟨ga, gc, rfl⟩ := slice_of ho3
    obtain ⟨ua, uc, rfl⟩ := slice_of ho5
    have HB1 := Lib.hid (belS (belS hb (bx_box w1 (.cells #[.string ⟨a0.toArray⟩, .bool a1, .bool a2, .slice ga a3.length gc, .int .i64 a4, .slice ua l.length uc] 37))) (bx_box _ (.cells #[.int .i64 m0, .int .i64 m1, .string ⟨m2.toArray⟩, .int .i64 m3, .int .i64 m4] 39)))
    clear ho3 ho5 hb
    go_wp2_with fail
    exact bodyPost_ret (v := .tuple #[.int .i64 0, .bool false]) (by simp [results, Try.results16, go_sem]) rfl ⟨rfl, HB1.out⟩
end Go.Proofs.Ytaihdjdaamglnac
/- Contracts of chapter 4: IsPart, the model's. -/
namespace Go.Proofs.Ytaihdjdaamglnac
set_option linter.unusedVariables false
set_option linter.unusedSimpArgs false
open Go.RowKit
set_option maxRecDepth 100000 in
set_option maxHeartbeats 3200000 in
theorem specIsPart_any (v : Value) (x : PartD) (w : World) (hx : ValAt rPart 0 w v x) (hs : ∀ c ∈ x.fCore.fCells, c.fKey.length ≤ maxLen) :
    Calls Try.prog 28 #[v] w fun e w' => e = .returned (.bool (partB x)) ∧ Below w.heap.size w w' := by
  obtain ⟨_, rfl, hx⟩ := hx
  have HX := Lib.hid hx
  have HBAD := Lib.hid (fun k => partB_bad (x := x) (k := k))
  have HOK := Lib.hid (fun i h y hy => layOk_of x i h y hy)
  have HSU := Lib.hid (layTo_succ x)
  have HFN := Lib.hid (faceN_take x.fCore x.fLayers)
  have HP := Lib.hid (show partB x = (coreB x.fCore && decide (x.fLayers.length ≤ 3) && layTo x x.fLayers.length) from rfl)
  obtain ⟨xc, ls⟩ := x
  obtain ⟨v3, v5, rfl, h3, h5⟩ := hx
  have HC := Lib.hid (fun W (hb : Below w.heap.size w W) => specIsCore_any (vCore xc v3) xc W ⟨v3, rfl, FlatAt.below (flatAt_of_slice cCell_len (by decide) h3) hb (Nat.le_refl _)⟩ hs)
  obtain ⟨a0, a1, a2, a3, a4⟩ := xc
  unfold vCore at HC
  simp only at h3 h5 HX HC HP HFN HBAD HOK
  obtain ⟨ra, rc, rfl, _⟩ := sliceAt_len h3
  obtain ⟨sa, sc, rfl, hl, hcap⟩ := sliceAt_cap h5
  have H5 := Lib.hid h5
  have H3 := Lib.hid h3
  unfold maxLen at hl
  have HB0 := Lib.hid (show ∀ o, Below w.heap.size w (w.alloc o) from fun o => part_box w o)
  have HS0 := Lib.hid (Bx.new w [.string ⟨a0.toArray⟩, .bool a1, .bool a2, .slice ra a3.length rc, .int .i64 a4, .slice sa ls.length sc] 37)
  clear h3 h5
  have HPB := Lib.hid (show partB ⟨⟨a0, a1, a2, a3, a4⟩, ls⟩ = partB ⟨⟨a0, a1, a2, a3, a4⟩, ls⟩ from rfl)
  generalize partB ⟨⟨a0, a1, a2, a3, a4⟩, ls⟩ = pb at *
  have HCB := Lib.hid (show coreB ⟨a0, a1, a2, a3, a4⟩ = coreB ⟨a0, a1, a2, a3, a4⟩ from rfl)
  generalize coreB ⟨a0, a1, a2, a3, a4⟩ = cb at *
  clear HPB HCB HX
  cases cb with
  | false =>
    have HR := Lib.hid (show pb = false by rw [HP.out]; rfl)
    go_enter Try.func28, Try.ntmps28
    go_wp2_with fail
    refine (HC.out _ (HB0.out _)).mono ?_
    rintro e w1 ⟨rfl, hb⟩
    have HB := Lib.hid (belS (HB0.out _) hb)
    clear hb
    go_wp2_with fail
    go_ret
    exact ⟨ret_bool HR.out.symm, HB.out⟩
  | true =>
    by_cases h3 : 3 < ls.length
    · have HR := Lib.hid (show pb = false by rw [HP.out, show decide (ls.length ≤ 3) = false by simpa using h3]; rfl)
      go_enter Try.func28, Try.ntmps28
      go_wp2_with fail
      refine (HC.out _ (HB0.out _)).mono ?_
      rintro e w1 ⟨rfl, hb⟩
      have HB := Lib.hid (belS (HB0.out _) hb)
      have BX := Lib.hid (HS0.out.below hb)
      clear hb
      have e0 := BX.out.cell 0 (by simp)
      have e1 := BX.out.cell 1 (by simp)
      have e2 := BX.out.cell 2 (by simp)
      have e3 := BX.out.cell 3 (by simp)
      have e4 := BX.out.cell 4 (by simp)
      have e5 := BX.out.cell 5 (by simp)
      simp only [List.getElem_cons_zero, List.getElem_cons_succ] at e0 e1 e2 e3 e4 e5
      go_wp2_with fail
      go_ret
      exact ⟨ret_bool HR.out.symm, HB.out⟩
    · have HR := Lib.hid (show pb = layTo ⟨⟨a0, a1, a2, a3, a4⟩, ls⟩ ls.length by rw [HP.out, show decide (ls.length ≤ 3) = true by simpa using h3]; simp)
      go_enter Try.func28, Try.ntmps28
      go_wp2_with fail
      refine (HC.out _ (HB0.out _)).mono ?_
      rintro e w1 ⟨rfl, hb⟩
      have HB := Lib.hid (belS (HB0.out _) hb)
      have BX := Lib.hid (HS0.out.below hb)
      clear hb
      have e0 := BX.out.cell 0 (by simp)
      have e1 := BX.out.cell 1 (by simp)
      have e2 := BX.out.cell 2 (by simp)
      have e3 := BX.out.cell 3 (by simp)
      have e4 := BX.out.cell 4 (by simp)
      have e5 := BX.out.cell 5 (by simp)
      simp only [List.getElem_cons_zero, List.getElem_cons_succ] at e0 e1 e2 e3 e4 e5
      go_wp2_with fail
      clear e0 e1 e2 e3 e4 e5
      go_loopw [3, 4, 21] (fun _ _ i wr => ∃ k : Nat, k ≤ ls.length ∧ i = .int .i64 k ∧ layTo ⟨⟨a0, a1, a2, a3, a4⟩, ls⟩ k = true ∧ Below w.heap.size w wr ∧ Bx wr w.heap.size [.string ⟨a0.toArray⟩, .bool a1, .bool a2, .slice ra a3.length rc, .int .i64 a4, .slice sa ls.length sc]) (fun _ _ i _ => ls.length - (intOf i).toNat)
      case atStart => exact ⟨0, Nat.zero_le _, rfl, rfl, HB.out, BX.out⟩
      case round =>
        obtain ⟨k, hk, rfl, ht, hbr, hbx⟩ := hrel
        have HT := Lib.hid ht
        have HBr := Lib.hid hbr
        have BXr := Lib.hid hbx
        have HXr := Lib.hid (SliceAt.below H5.out (good_flat cLayer_len) hbr (Nat.le_refl _))
        clear ht hbr hbx
        by_cases hlt : k < ls.length
        · obtain ⟨b, o, cs, rfl, hbw, hat, hd⟩ := sliceAt_cell HXr.out k hlt
          have HLO := Lib.hid (HOK.out k hlt _ rfl)
          have HBD := Lib.hid (fun h => HBAD.out k hlt h)
          have HNX := Lib.hid (show layOk ⟨⟨a0, a1, a2, a3, a4⟩, ls⟩ k = true → layTo ⟨⟨a0, a1, a2, a3, a4⟩, ls⟩ (k + 1) = true from fun h => by rw [HSU.out, HT.out, h]; rfl)
          have HFO := Lib.hid (fun W hW => l4Face_any (.agg #[.string ⟨a0.toArray⟩, .bool a1, .bool a2, .slice ra a3.length rc, .int .i64 a4, .slice (some ⟨b, o, none⟩) ls.length sc]) ⟨⟨a0, a1, a2, a3, a4⟩, ls⟩ k W ⟨_, rfl, _, _, rfl, SliceAt.below H3.out (good_flat cCell_len) hW (Nat.le_refl _), SliceAt.below H5.out (good_flat cLayer_len) hW (Nat.le_refl _)⟩ (Nat.le_of_lt hlt))
          generalize ls[k] = z at *
          obtain ⟨z0, z1⟩ := z
          simp only [rFlat, cLayer] at hat HLO
          subst hat
          have d0 := hd 0 (by decide)
          have d1 := hd 1 (by decide)
          simp only [List.getElem?_cons_zero, List.getElem?_cons_succ, Nat.add_zero] at d0 d1
          have HLN := Lib.hid (specLayerNeeds_any ⟨z0.toArray⟩)
          simp only [ndV, List.toList_toArray] at HLN
          have HOF := Lib.hid (specOffers_any (faceN ⟨⟨a0, a1, a2, a3, a4⟩, ls⟩ k) (needI (layI z0)))
          have hkc : (k : Int) < (ls.length : Int) := by omega
          generalize layOk ⟨⟨a0, a1, a2, a3, a4⟩, ls⟩ k = lo at *
          generalize faceN ⟨⟨a0, a1, a2, a3, a4⟩, ls⟩ k = fc at *
          generalize needI (layI z0) = nd at *
          generalize offersF fc nd = ob at *
          generalize hge : decide (0 ≤ layI z0) = q at *
          clear hd hge HXr
          have HW0 := Lib.hid (part_box wr (.cells #[.string ⟨z0.toArray⟩, .int .i64 z1] 58))
          have BL := Lib.hid (Bx.new wr [.string ⟨z0.toArray⟩, .int .i64 z1] 58)
          have BX1 := Lib.hid (BXr.out.alloc (.cells #[.string ⟨z0.toArray⟩, .int .i64 z1] 58))
          have HB1 := Lib.hid (belS HBr.out HW0.out)
          by_cases h0 : z0 = [99, 111, 117, 110, 116, 115]
          · subst h0
            have HCD := Lib.hid (show countedB [99, 111, 117, 110, 116, 115] = true from rfl)
            have HCN := Lib.hid (show True from trivial)
            have e0 := BX1.out.cell 0 (by simp)
            have e1 := BX1.out.cell 1 (by simp)
            have e2 := BX1.out.cell 2 (by simp)
            have e3 := BX1.out.cell 3 (by simp)
            have e4 := BX1.out.cell 4 (by simp)
            have e5 := BX1.out.cell 5 (by simp)
            simp only [List.getElem_cons_zero, List.getElem_cons_succ] at e0 e1 e2 e3 e4 e5
            go_wp2_with fail
            refine (HLN.out _).mono ?_
            rintro e w2 ⟨rfl, hb⟩
            have HB2 := Lib.hid (belS HB1.out hb)
            have BL2 := Lib.hid (BL.out.below hb)
            have BX2 := Lib.hid (BX1.out.below hb)
            clear hb
            clear e0 e1 e2 e3 e4 e5
            have e0 := BX2.out.cell 0 (by simp)
            have e1 := BX2.out.cell 1 (by simp)
            have e2 := BX2.out.cell 2 (by simp)
            have e3 := BX2.out.cell 3 (by simp)
            have e4 := BX2.out.cell 4 (by simp)
            have e5 := BX2.out.cell 5 (by simp)
            simp only [List.getElem_cons_zero, List.getElem_cons_succ] at e0 e1 e2 e3 e4 e5
            have g0 := BL2.out.cell 0 (by simp)
            have g1 := BL2.out.cell 1 (by simp)
            simp only [List.getElem_cons_zero, List.getElem_cons_succ] at g0 g1
            cases q with
            | false =>
              have HR2 := Lib.hid (show pb = false from HBD.out (by rw [HLO.out]; rfl))
              go_wp2_with fail
              go_ret
              exact ⟨ret_bool HR2.out.symm, HB2.out⟩
            | true =>
              go_wp2_with fail
              refine (HFO.out _ HB2.out).mono ?_
              rintro e w3 ⟨rfl, hb⟩
              have HB3 := Lib.hid (belS HB2.out hb)
              have BL3 := Lib.hid (BL2.out.below hb)
              have BX3 := Lib.hid (BX2.out.below hb)
              clear hb
              clear e0 e1 e2 e3 e4 e5 g0 g1
              have g0 := BL3.out.cell 0 (by simp)
              have g1 := BL3.out.cell 1 (by simp)
              simp only [List.getElem_cons_zero, List.getElem_cons_succ] at g0 g1
              cases ob with
              | false =>
                have HR2 := Lib.hid (show pb = false from HBD.out (by rw [HLO.out]; rfl))
                go_wp2_with (first | (go_at_call 29; (with_reducible refine (HOF.out _).mono ?_); rintro e w' ⟨rfl, rfl⟩))
                go_ret
                exact ⟨ret_bool HR2.out.symm, HB3.out⟩
              | true =>
                by_cases hc0 : z1 < 0
                · skip
                  have HR2 := Lib.hid (show pb = false from HBD.out (by rw [HLO.out]; unfold cntB; rw [HCD.out]; simp [numB]; omega))
                  go_wp2_with (first | (go_at_call 29; (with_reducible refine (HOF.out _).mono ?_); rintro e w' ⟨rfl, rfl⟩))
                  go_ret
                  exact ⟨ret_bool HR2.out.symm, HB3.out⟩
                · by_cases hc9 : 999 < z1
                  · skip
                    have HR2 := Lib.hid (show pb = false from HBD.out (by rw [HLO.out]; unfold cntB; rw [HCD.out]; simp [numB]; omega))
                    go_wp2_with (first | (go_at_call 29; (with_reducible refine (HOF.out _).mono ?_); rintro e w' ⟨rfl, rfl⟩))
                    go_ret
                    exact ⟨ret_bool HR2.out.symm, HB3.out⟩
                  · have HR2 := Lib.hid (HNX.out (by rw [HLO.out]; unfold cntB; rw [HCD.out]; simp [numB]; omega))
                    by_cases hcp : 0 < z1
                    · go_wp2_with (first | (go_at_call 29; (with_reducible refine (HOF.out _).mono ?_); rintro e w' ⟨rfl, rfl⟩))
                      exact ⟨⟨k + 1, by omega, by go_num, HR2.out, HB3.out, BX3.out⟩, by simp [intOf]; omega⟩
                    · go_wp2_with (first | (go_at_call 29; (with_reducible refine (HOF.out _).mono ?_); rintro e w' ⟨rfl, rfl⟩))
                      exact ⟨⟨k + 1, by omega, by go_num, HR2.out, HB3.out, BX3.out⟩, by simp [intOf]; omega⟩
          · by_cases h1 : z0 = [104, 101, 97, 114, 115]
            · subst h1
              clear h0
              have HCD := Lib.hid (show countedB [104, 101, 97, 114, 115] = true from rfl)
              have e0 := BX1.out.cell 0 (by simp)
              have e1 := BX1.out.cell 1 (by simp)
              have e2 := BX1.out.cell 2 (by simp)
              have e3 := BX1.out.cell 3 (by simp)
              have e4 := BX1.out.cell 4 (by simp)
              have e5 := BX1.out.cell 5 (by simp)
              simp only [List.getElem_cons_zero, List.getElem_cons_succ] at e0 e1 e2 e3 e4 e5
              go_wp2_with fail
              refine (HLN.out _).mono ?_
              rintro e w2 ⟨rfl, hb⟩
              have HB2 := Lib.hid (belS HB1.out hb)
              have BL2 := Lib.hid (BL.out.below hb)
              have BX2 := Lib.hid (BX1.out.below hb)
              clear hb
              clear e0 e1 e2 e3 e4 e5
              have e0 := BX2.out.cell 0 (by simp)
              have e1 := BX2.out.cell 1 (by simp)
              have e2 := BX2.out.cell 2 (by simp)
              have e3 := BX2.out.cell 3 (by simp)
              have e4 := BX2.out.cell 4 (by simp)
              have e5 := BX2.out.cell 5 (by simp)
              simp only [List.getElem_cons_zero, List.getElem_cons_succ] at e0 e1 e2 e3 e4 e5
              have g0 := BL2.out.cell 0 (by simp)
              have g1 := BL2.out.cell 1 (by simp)
              simp only [List.getElem_cons_zero, List.getElem_cons_succ] at g0 g1
              cases q with
              | false =>
                have HR2 := Lib.hid (show pb = false from HBD.out (by rw [HLO.out]; rfl))
                go_wp2_with fail
                go_ret
                exact ⟨ret_bool HR2.out.symm, HB2.out⟩
              | true =>
                go_wp2_with fail
                refine (HFO.out _ HB2.out).mono ?_
                rintro e w3 ⟨rfl, hb⟩
                have HB3 := Lib.hid (belS HB2.out hb)
                have BL3 := Lib.hid (BL2.out.below hb)
                have BX3 := Lib.hid (BX2.out.below hb)
                clear hb
                clear e0 e1 e2 e3 e4 e5 g0 g1
                have g0 := BL3.out.cell 0 (by simp)
                have g1 := BL3.out.cell 1 (by simp)
                simp only [List.getElem_cons_zero, List.getElem_cons_succ] at g0 g1
                cases ob with
                | false =>
                  have HR2 := Lib.hid (show pb = false from HBD.out (by rw [HLO.out]; rfl))
                  go_wp2_with (first | (go_at_call 29; (with_reducible refine (HOF.out _).mono ?_); rintro e w' ⟨rfl, rfl⟩))
                  go_ret
                  exact ⟨ret_bool HR2.out.symm, HB3.out⟩
                | true =>
                  by_cases hc0 : z1 < 0
                  · skip
                    have HR2 := Lib.hid (show pb = false from HBD.out (by rw [HLO.out]; unfold cntB; rw [HCD.out]; simp [numB]; omega))
                    go_wp2_with (first | (go_at_call 29; (with_reducible refine (HOF.out _).mono ?_); rintro e w' ⟨rfl, rfl⟩))
                    go_ret
                    exact ⟨ret_bool HR2.out.symm, HB3.out⟩
                  · by_cases hc9 : 999 < z1
                    · skip
                      have HR2 := Lib.hid (show pb = false from HBD.out (by rw [HLO.out]; unfold cntB; rw [HCD.out]; simp [numB]; omega))
                      go_wp2_with (first | (go_at_call 29; (with_reducible refine (HOF.out _).mono ?_); rintro e w' ⟨rfl, rfl⟩))
                      go_ret
                      exact ⟨ret_bool HR2.out.symm, HB3.out⟩
                    · have HR2 := Lib.hid (HNX.out (by rw [HLO.out]; unfold cntB; rw [HCD.out]; simp [numB]; omega))
                      by_cases hcp : 0 < z1
                      · go_wp2_with (first | (go_at_call 29; (with_reducible refine (HOF.out _).mono ?_); rintro e w' ⟨rfl, rfl⟩))
                        exact ⟨⟨k + 1, by omega, by go_num, HR2.out, HB3.out, BX3.out⟩, by simp [intOf]; omega⟩
                      · go_wp2_with (first | (go_at_call 29; (with_reducible refine (HOF.out _).mono ?_); rintro e w' ⟨rfl, rfl⟩))
                        exact ⟨⟨k + 1, by omega, by go_num, HR2.out, HB3.out, BX3.out⟩, by simp [intOf]; omega⟩
            · have HCD := Lib.hid (show countedB z0 = false by simp [countedB, h0, h1])
              have k0 : (z0 == [99, 111, 117, 110, 116, 115]) = false := by simp [h0]
              have k1 : (z0 == [104, 101, 97, 114, 115]) = false := by simp [h1]
              clear h0 h1
              have e0 := BX1.out.cell 0 (by simp)
              have e1 := BX1.out.cell 1 (by simp)
              have e2 := BX1.out.cell 2 (by simp)
              have e3 := BX1.out.cell 3 (by simp)
              have e4 := BX1.out.cell 4 (by simp)
              have e5 := BX1.out.cell 5 (by simp)
              simp only [List.getElem_cons_zero, List.getElem_cons_succ] at e0 e1 e2 e3 e4 e5
              go_wp2_with fail
              refine (HLN.out _).mono ?_
              rintro e w2 ⟨rfl, hb⟩
              have HB2 := Lib.hid (belS HB1.out hb)
              have BL2 := Lib.hid (BL.out.below hb)
              have BX2 := Lib.hid (BX1.out.below hb)
              clear hb
              clear e0 e1 e2 e3 e4 e5
              have e0 := BX2.out.cell 0 (by simp)
              have e1 := BX2.out.cell 1 (by simp)
              have e2 := BX2.out.cell 2 (by simp)
              have e3 := BX2.out.cell 3 (by simp)
              have e4 := BX2.out.cell 4 (by simp)
              have e5 := BX2.out.cell 5 (by simp)
              simp only [List.getElem_cons_zero, List.getElem_cons_succ] at e0 e1 e2 e3 e4 e5
              have g0 := BL2.out.cell 0 (by simp)
              have g1 := BL2.out.cell 1 (by simp)
              simp only [List.getElem_cons_zero, List.getElem_cons_succ] at g0 g1
              cases q with
              | false =>
                have HR2 := Lib.hid (show pb = false from HBD.out (by rw [HLO.out]; rfl))
                go_wp2_with fail
                go_ret
                exact ⟨ret_bool HR2.out.symm, HB2.out⟩
              | true =>
                go_wp2_with fail
                refine (HFO.out _ HB2.out).mono ?_
                rintro e w3 ⟨rfl, hb⟩
                have HB3 := Lib.hid (belS HB2.out hb)
                have BL3 := Lib.hid (BL2.out.below hb)
                have BX3 := Lib.hid (BX2.out.below hb)
                clear hb
                clear e0 e1 e2 e3 e4 e5 g0 g1
                have g0 := BL3.out.cell 0 (by simp)
                have g1 := BL3.out.cell 1 (by simp)
                simp only [List.getElem_cons_zero, List.getElem_cons_succ] at g0 g1
                cases ob with
                | false =>
                  have HR2 := Lib.hid (show pb = false from HBD.out (by rw [HLO.out]; rfl))
                  go_wp2_with (first | (go_at_call 29; (with_reducible refine (HOF.out _).mono ?_); rintro e w' ⟨rfl, rfl⟩))
                  go_ret
                  exact ⟨ret_bool HR2.out.symm, HB3.out⟩
                | true =>
                  by_cases hc0 : z1 < 0
                  · skip
                    have HR2 := Lib.hid (show pb = false from HBD.out (by rw [HLO.out]; unfold cntB; rw [HCD.out]; simp; omega))
                    go_wp2_with (first | (go_at_call 29; (with_reducible refine (HOF.out _).mono ?_); rintro e w' ⟨rfl, rfl⟩))
                    go_ret
                    exact ⟨ret_bool HR2.out.symm, HB3.out⟩
                  · by_cases hc9 : 999 < z1
                    · skip
                      have HR2 := Lib.hid (show pb = false from HBD.out (by rw [HLO.out]; unfold cntB; rw [HCD.out]; simp; omega))
                      go_wp2_with (first | (go_at_call 29; (with_reducible refine (HOF.out _).mono ?_); rintro e w' ⟨rfl, rfl⟩))
                      go_ret
                      exact ⟨ret_bool HR2.out.symm, HB3.out⟩
                    · by_cases hcp : 0 < z1
                      · skip
                        have HR2 := Lib.hid (show pb = false from HBD.out (by rw [HLO.out]; unfold cntB; rw [HCD.out]; simp; omega))
                        go_wp2_with (first | (go_at_call 29; (with_reducible refine (HOF.out _).mono ?_); rintro e w' ⟨rfl, rfl⟩))
                        go_ret
                        exact ⟨ret_bool HR2.out.symm, HB3.out⟩
                      · have HR2 := Lib.hid (HNX.out (by rw [HLO.out]; unfold cntB; rw [HCD.out]; simp; omega))
                        go_wp2_with (first | (go_at_call 29; (with_reducible refine (HOF.out _).mono ?_); rintro e w' ⟨rfl, rfl⟩))
                        exact ⟨⟨k + 1, by omega, by go_num, HR2.out, HB3.out, BX3.out⟩, by simp [intOf]; omega⟩
        · have HR2 := Lib.hid (show pb = true by rw [HR.out]; have h := HT.out; rwa [show k = ls.length by omega] at h)
          go_wp2
          go_ret
          exact ⟨ret_bool HR2.out.symm, HBr.out⟩
end Go.Proofs.Ytaihdjdaamglnac
namespace Go.Proofs.Ytaihdjdaamglnac
set_option linter.unusedVariables false
set_option linter.unusedSimpArgs false
open Go.RowKit
set_option maxRecDepth 100000 in
set_option maxHeartbeats 3200000 in
theorem l3Copy_any (v : Value) (d : CoreD) (w : World) (hx : CoreAt w v d) (hm : d.fCells.length ≤ 2097152) :
    Calls Try.prog 39 #[v] w fun e w' => GivesCore d w e w' := by
  obtain ⟨cv, rfl, hx⟩ := hx
  obtain ⟨i0, hi, hz0, hz1, hz2⟩ := info_parts cell_info
  obtain ⟨kd, on, br, l, cnt⟩ := d
  unfold vCore
  simp only at *
  have HX := Lib.hid hx
  obtain ⟨a, c, rfl, hml⟩ := flatAt_len hx
  clear hx
  have HB3 := Lib.hid (show ∀ o1 o2 o3, Below w.heap.size w (((w.alloc o1).alloc o2).alloc o3) from fun o1 o2 o3 => (((Below.refl _ _).alloc (Nat.le_refl _) _).alloc (by simp) _).alloc (by simp; omega) _)
  have HO3 := Lib.hid (show ∀ o1 o2, OwnsF cCell 96 2 (((w.alloc o1).alloc o2).alloc (.cells #[] 96)) (w.heap.size + 1 + 1) (.slice (some ⟨w.heap.size + 1 + 1, 0, none⟩) 0 0) [] from fun o1 o2 => by have h := ownsF_new cCell 96 2 ((w.alloc o1).alloc o2); simpa using h)
  cases a with
  | none =>
    have hl0 : l = [] := by
      obtain ⟨a', c', e, _, _, h⟩ := HX.out
      injection e with e1 e2
      rcases h with h | ⟨b, o, rfl, _⟩
      · exact List.eq_nil_of_length_eq_zero h
      · simp at e1
    subst hl0
    simp only [List.length_nil] at *
    go_enter Try.func39, Try.ntmps39
    go_wp2_with fail
    refine bodyPost_ret (v := .agg #[.string ⟨kd.toArray⟩, .bool on, .bool br, .slice (some ⟨w.heap.size + 1 + 1, 0, none⟩) 0 0, .int .i64 cnt]) (by simp [results, Try.results39, go_sem, cell_set_at, cell_set_ne]) rfl ?_
    exact ⟨_, rfl, ⟨_, rfl, ownsF_base (HO3.out _ _) (by omega)⟩, HB3.out _ _ _⟩
  | some ad =>
    have HN := Lib.hid (fun o1 o2 o3 => show ∀ j u, (l.flatMap cCell)[j]? = some u → (((w.alloc o1).alloc o2).alloc o3).cell? (ad.add j) = some u from fun j u hj => by
      have h9 := HX.out.below (HB3.out o1 o2 o3) (Nat.le_refl _)
      obtain ⟨a', c', e, _, _, h⟩ := h9
      injection e with e1 e2
      have hjl : j < (l.flatMap cCell).length := (List.getElem?_eq_some_iff.1 hj).1
      rw [flat_len cCell 2 cCell_len] at hjl
      rcases h with h | ⟨b, o, rfl, _, h⟩
      · omega
      · injection e1 with e1
        subst e1
        rw [Addr.add_lit, h j hjl]; exact hj)
    have h1c : ∀ u ∈ l.flatMap cCell, u.oneCell' = true := fun u hu => by
      obtain ⟨y, _, hy⟩ := List.mem_flatMap.1 hu
      exact cCell_one y u hy
    have hfl := flat_len cCell 2 cCell_len l
    have H1 := Lib.hid h1c
    have HFL := Lib.hid hfl
    clear h1c hfl
    go_enter Try.func39, Try.ntmps39
    go_wp2_with (at_builtin; refine wpList_append_own _ rfl _ _ 32 rfl (w.heap.size + 1 + 1) 96 i0 _ 2 24 Try.underlying32 hi hz0 hz1 hz2 rfl (by decide) (.slice (some ⟨w.heap.size + 1 + 1, 0, none⟩) 0 0) 0 [] (by rfl) (HO3.out _ _) ad l.length c (l.flatMap cCell) (by rfl) HFL.out (HN.out _ _ _) H1.out (by unfold maxLen; omega) (by omega) (by simp; try omega) ?_; intro v' w' ho hgr hnil; clear hnil; have q0 : w'.cell? ⟨w.heap.size, 0, none⟩ = some (.string ⟨kd.toArray⟩) := (hgr.cell_far ⟨w.heap.size, 0, none⟩ (by simp <;> omega) (by simp [Value.ownBlock] <;> omega)).trans (by simp [go_sem]); have q1 : w'.cell? ⟨w.heap.size, 1, none⟩ = some (.bool on) := (hgr.cell_far ⟨w.heap.size, 1, none⟩ (by simp <;> omega) (by simp [Value.ownBlock] <;> omega)).trans (by simp [go_sem]); have q2 : w'.cell? ⟨w.heap.size, 2, none⟩ = some (.bool br) := (hgr.cell_far ⟨w.heap.size, 2, none⟩ (by simp <;> omega) (by simp [Value.ownBlock] <;> omega)).trans (by simp [go_sem]); have q3 : w'.cell? ⟨w.heap.size, 3, none⟩ = some (.slice (some ad) l.length c) := (hgr.cell_far ⟨w.heap.size, 3, none⟩ (by simp <;> omega) (by simp [Value.ownBlock] <;> omega)).trans (by simp [go_sem]); have q4 : w'.cell? ⟨w.heap.size, 4, none⟩ = some (.int .i64 cnt) := (hgr.cell_far ⟨w.heap.size, 4, none⟩ (by simp <;> omega) (by simp [Value.ownBlock] <;> omega)).trans (by simp [go_sem]); have r0 : w'.cell? ⟨w.heap.size + 1, 0, none⟩ = some (.string ⟨#[]⟩) := (hgr.cell_far ⟨w.heap.size + 1, 0, none⟩ (by simp <;> omega) (by simp [Value.ownBlock] <;> omega)).trans (by simp [go_sem]); have r1 : w'.cell? ⟨w.heap.size + 1, 1, none⟩ = some (.bool false) := (hgr.cell_far ⟨w.heap.size + 1, 1, none⟩ (by simp <;> omega) (by simp [Value.ownBlock] <;> omega)).trans (by simp [go_sem]); have r2 : w'.cell? ⟨w.heap.size + 1, 2, none⟩ = some (.bool false) := (hgr.cell_far ⟨w.heap.size + 1, 2, none⟩ (by simp <;> omega) (by simp [Value.ownBlock] <;> omega)).trans (by simp [go_sem]); have r3 : w'.cell? ⟨w.heap.size + 1, 3, none⟩ = some (.slice none 0 0) := (hgr.cell_far ⟨w.heap.size + 1, 3, none⟩ (by simp <;> omega) (by simp [Value.ownBlock] <;> omega)).trans (by simp [go_sem]); have r4 : w'.cell? ⟨w.heap.size + 1, 4, none⟩ = some (.int .i64 0) := (hgr.cell_far ⟨w.heap.size + 1, 4, none⟩ (by simp <;> omega) (by simp [Value.ownBlock] <;> omega)).trans (by simp [go_sem]); have y0 : ∀ o, w'.frozen? ⟨w.heap.size, o, none⟩ = false := (fun o => (hgr.frozen_far ⟨w.heap.size, o, none⟩ (by simp <;> omega) (by simp [Value.ownBlock] <;> omega)).trans (by simp [go_sem])); have y1 : ∀ o, w'.frozen? ⟨w.heap.size + 1, o, none⟩ = false := (fun o => (hgr.frozen_far ⟨w.heap.size + 1, o, none⟩ (by simp <;> omega) (by simp [Value.ownBlock] <;> omega)).trans (by simp [go_sem])); have HG := Lib.hid hgr; have HO := Lib.hid (show OwnsF cCell 96 2 w' (w.heap.size + 1 + 1) v' l from by simpa [OwnsF] using ho); obtain ⟨ua, uc, rfl⟩ := slice_of HO.out)
    refine bodyPost_ret (v := .agg #[.string ⟨kd.toArray⟩, .bool on, .bool br, .slice ua l.length uc, .int .i64 cnt]) (by simp [results, Try.results39, go_sem, cell_set_at, cell_set_ne, q0, q1, q2, q3, q4, r0, r1, r2, r3, r4]) rfl ?_
    refine ⟨_, rfl, ⟨_, rfl, ?_⟩, ?_⟩
    · refine ownsF_base (B := w.heap.size + 1 + 1) ?_ (by omega)
      repeat (with_reducible refine ownsF_set ?_ (by simp; try omega))
      exact HO.out
    · repeat (with_reducible refine Below.setCell ?_ (by simp; try omega) _)
      exact (HB3.out _ _ _).grown HG.out (by simp; omega) (fun k h => by simp [Value.ownBlock] at h; omega)
end Go.Proofs.Ytaihdjdaamglnac
