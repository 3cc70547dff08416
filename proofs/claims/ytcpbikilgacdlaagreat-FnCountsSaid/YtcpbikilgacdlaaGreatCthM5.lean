/- Exact laws over parts: the law's variables beside the calls. -/
import Derived.Test.YtcpbikilgacdlaaGreatCthM1
import Derived.Test.YtcpbikilgacdlaaGreatCthM0
import Derived.Test.YtcpbikilgacdlaaGreatCthM4
import Derived.Deep.CutRange
import Derived.Deep.RegionHeld3
import Derived.Test.YtcpbikilgacdlaaGreatCthM2
namespace Go.Proofs.YtcpbikilgacdlaaGreat
set_option linter.unusedVariables false
set_option linter.unusedSimpArgs false
open Go.RowKit
set_option maxRecDepth 100000 in
set_option maxHeartbeats 3200000 in
theorem implWrap_bad1 (v : Value) (x : PartD) (s : ByteArray) (w : World) (hx : ValAt rPart 0 w v x) (hs : SmallP x) (hk : ∀ c ∈ x.fCore.fCells, c.fKey.length ≤ maxLen) (hz : s.size ≤ 1048576) (hc : ¬ 0 ≤ layI s.data.toList) :
  Calls Tryz.prog 55 #[v, .string s] w fun e w' => GivesOPR (wrapP x s.data.toList) (wrapR x s.data.toList) w e w' := by
 obtain ⟨hwp, hwr⟩ := wrap_bad (x := x) (s := s.data.toList) (fun h => hc h.2)
 rw [hwp, hwr]
 clear hwp hwr
 have HTX := Lib.hid (fun W => copyText_any s W (by omega))
 obtain ⟨_, rfl, hx⟩ := hx
 have HX := Lib.hid (fun W (hb : Below w.heap.size w W) => goodPart.keep hx (kept_below hb (Nat.le_refl _)))
 have HIP := Lib.hid (fun cs W (h : rPart 0 W cs x) => implIsPart_any (.agg cs.toArray) x W ⟨cs, rfl, h⟩ hk)
 have HCP := Lib.hid (fun cs W (h : rPart 0 W cs x) => copyPart_c (.agg cs.toArray) x W ⟨cs, rfl, h⟩ hs)
 have HLN := Lib.hid (fun W => implLayerNeeds_any s W)
 have HSZ := Lib.hid hs.lays
 unfold ndV at HLN
 unfold GivesOPR vReply
 unfold GivesOP at HCP
 rw [show decide (0 ≤ layI s.data.toList) = false from decide_eq_false hc] at HLN
 generalize needI (layI s.data.toList) = nd at *
 obtain ⟨⟨a0, a1, a2, a3, a4⟩, l⟩ := x
 obtain ⟨v3, v5, rfl, h3, h5⟩ := hx
 simp only at h3 h5 HSZ
 obtain ⟨ra, rc, rfl, _⟩ := sliceAt_len h3
 obtain ⟨sa, sc, rfl, hl, hcap⟩ := sliceAt_cap h5
 clear h3 h5 hs hk hcap hl
 have BS := Lib.hid (bx_start3 w [.string ⟨a0.toArray⟩, .bool a1, .bool a2, .slice ra a3.length rc, .int .i64 a4, .slice sa l.length sc] [.string ⟨#[]⟩, .bool false, .bool false, .slice none 0 0, .int .i64 0, .slice none 0 0] [.int .i64 0, .int .i64 0, .string ⟨#[]⟩, .int .i64 0, .int .i64 0] 37 37 39)
 have HR0 := Lib.hid (HX.out _ BS.out.2.2.2)
 clear hc
 go_enter Tryz.func55, Tryz.ntmps55
 go_wp2_with fail
 refine (HCP.out _ _ HR0.out).mono ?_
 rintro e w1 ⟨_, rfl, ⟨u3, u5, rfl, ho3, ho5⟩, hb⟩
 have HPQ := Lib.hid (fun (hsm : SmallP (⟨⟨a0, a1, a2, a3, a4⟩, l⟩ : PartD)) => oPart_r ⟨u3, u5, rfl, ho3, ho5⟩ hsm)
 simp only at ho3 ho5
 obtain ⟨ga, gc, rfl⟩ := slice_of ho3
 obtain ⟨ua, uc, rfl⟩ := slice_of ho5
 have HB1 := Lib.hid ((belS BS.out.2.2.2 hb).alloc (belS BS.out.2.2.2 hb).size (.cells #[.string ⟨a0.toArray⟩, .bool a1, .bool a2, .slice ga a3.length gc, .int .i64 a4, .slice ua l.length uc] 37))
 have B41 := Lib.hid ((BS.out.2.1.below hb).alloc (.cells #[.string ⟨a0.toArray⟩, .bool a1, .bool a2, .slice ga a3.length gc, .int .i64 a4, .slice ua l.length uc] 37))
 have B51 := Lib.hid ((BS.out.2.2.1.below hb).alloc (.cells #[.string ⟨a0.toArray⟩, .bool a1, .bool a2, .slice ga a3.length gc, .int .i64 a4, .slice ua l.length uc] 37))
 have BQ1 := Lib.hid (Bx.new w1 [.string ⟨a0.toArray⟩, .bool a1, .bool a2, .slice ga a3.length gc, .int .i64 a4, .slice ua l.length uc] 37)
 have O3 := Lib.hid (ownsF_alloc (ownsF_base (B' := w.heap.size + 1 + 1 + 1) ho3 (by simp)) (.cells #[.string ⟨a0.toArray⟩, .bool a1, .bool a2, .slice ga a3.length gc, .int .i64 a4, .slice ua l.length uc] 37))
 have O5 := Lib.hid (ownsF_alloc (ownsF_base (B' := w.heap.size + 1 + 1 + 1) ho5 (by simp)) (.cells #[.string ⟨a0.toArray⟩, .bool a1, .bool a2, .slice ga a3.length gc, .int .i64 a4, .slice ua l.length uc] 37))
 have h3s := hb.size
 simp at h3s
 clear hb ho3 ho5 BS
 go_wp2_with fail
 refine (HLN.out _).mono ?_
 rintro e w2 ⟨rfl, rfl⟩
 have q0 := BQ1.out.cell 0 (by simp)
 have q1 := BQ1.out.cell 1 (by simp)
 have q2 := BQ1.out.cell 2 (by simp)
 have q3 := BQ1.out.cell 3 (by simp)
 have q4 := BQ1.out.cell 4 (by simp)
 have q5 := BQ1.out.cell 5 (by simp)
 simp only [List.getElem_cons_zero, List.getElem_cons_succ] at q0 q1 q2 q3 q4 q5
 have r0 := B41.out.cell 0 (by simp)
 have r1 := B41.out.cell 1 (by simp)
 have r2 := B41.out.cell 2 (by simp)
 have r3 := B41.out.cell 3 (by simp)
 have r4 := B41.out.cell 4 (by simp)
 have r5 := B41.out.cell 5 (by simp)
 simp only [List.getElem_cons_zero, List.getElem_cons_succ] at r0 r1 r2 r3 r4 r5
 have z0 := B41.out.froz 0 (by simp)
 have z1 := B41.out.froz 1 (by simp)
 have z2 := B41.out.froz 2 (by simp)
 have z3 := B41.out.froz 3 (by simp)
 have z4 := B41.out.froz 4 (by simp)
 have z5 := B41.out.froz 5 (by simp)
 have s0 := B51.out.cell 0 (by simp)
 have s1 := B51.out.cell 1 (by simp)
 have s2 := B51.out.cell 2 (by simp)
 have s3 := B51.out.cell 3 (by simp)
 have s4 := B51.out.cell 4 (by simp)
 simp only [List.getElem_cons_zero, List.getElem_cons_succ] at s0 s1 s2 s3 s4
 have y0 := B51.out.froz 0 (by simp)
 have y1 := B51.out.froz 1 (by simp)
 have y2 := B51.out.froz 2 (by simp)
 have y3 := B51.out.froz 3 (by simp)
 have y4 := B51.out.froz 4 (by simp)
 go_wp2_with fail
 clear q0 q1 q2 q3 q4 q5
 clear r0 r1 r2 r3 r4 r5 z0 z1 z2 z3 z4 z5 s0 s1 s2 s3 s4 y0 y1 y2 y3 y4
 have E4 := Lib.hid ((B41.out.put6 (.string ⟨a0.toArray⟩) (.bool a1) (.bool a2) (.slice ga a3.length gc) (.int .i64 a4) (.slice ua l.length uc)).put5o (c := w.heap.size + 1 + 1) (by omega) (.int .i64 7) (.int .i64 0) (.string ⟨#[]⟩) (.int .i64 0) (.int .i64 0))
 have E5 := Lib.hid ((B51.out.put6o (c := w.heap.size + 1) (by omega) (.string ⟨a0.toArray⟩) (.bool a1) (.bool a2) (.slice ga a3.length gc) (.int .i64 a4) (.slice ua l.length uc)).put5 (.int .i64 7) (.int .i64 0) (.string ⟨#[]⟩) (.int .i64 0) (.int .i64 0))
 have EB := Lib.hid (below_put5 (below_put6 HB1.out (w.heap.size + 1) (by omega) (.string ⟨a0.toArray⟩) (.bool a1) (.bool a2) (.slice ga a3.length gc) (.int .i64 a4) (.slice ua l.length uc)) (w.heap.size + 1 + 1) (by omega) (.int .i64 7) (.int .i64 0) (.string ⟨#[]⟩) (.int .i64 0) (.int .i64 0))
 have OC := Lib.hid (ownsF_put5 (ownsF_put6 O3.out (w.heap.size + 1) (by omega) (.string ⟨a0.toArray⟩) (.bool a1) (.bool a2) (.slice ga a3.length gc) (.int .i64 a4) (.slice ua l.length uc)) (w.heap.size + 1 + 1) (by omega) (.int .i64 7) (.int .i64 0) (.string ⟨#[]⟩) (.int .i64 0) (.int .i64 0))
 have OL := Lib.hid (ownsF_put5 (ownsF_put6 O5.out (w.heap.size + 1) (by omega) (.string ⟨a0.toArray⟩) (.bool a1) (.bool a2) (.slice ga a3.length gc) (.int .i64 a4) (.slice ua l.length uc)) (w.heap.size + 1 + 1) (by omega) (.int .i64 7) (.int .i64 0) (.string ⟨#[]⟩) (.int .i64 0) (.int .i64 0))
 generalize ((((((((((((w1.alloc (.cells #[.string ⟨a0.toArray⟩, .bool a1, .bool a2, .slice ga a3.length gc, .int .i64 a4, .slice ua l.length uc] 37)).setCell ⟨w.heap.size + 1, 0, none⟩ (.string ⟨a0.toArray⟩)).setCell ⟨w.heap.size + 1, 1, none⟩ (.bool a1)).setCell ⟨w.heap.size + 1, 2, none⟩ (.bool a2)).setCell ⟨w.heap.size + 1, 3, none⟩ (.slice ga a3.length gc)).setCell ⟨w.heap.size + 1, 4, none⟩ (.int .i64 a4)).setCell ⟨w.heap.size + 1, 5, none⟩ (.slice ua l.length uc)).setCell ⟨w.heap.size + 1 + 1, 0, none⟩ (.int .i64 7)).setCell ⟨w.heap.size + 1 + 1, 1, none⟩ (.int .i64 0)).setCell ⟨w.heap.size + 1 + 1, 2, none⟩ (.string ⟨#[]⟩)).setCell ⟨w.heap.size + 1 + 1, 3, none⟩ (.int .i64 0)).setCell ⟨w.heap.size + 1 + 1, 4, none⟩ (.int .i64 0)) = WE at *
 have r0 := E4.out.cell 0 (by simp)
 have r1 := E4.out.cell 1 (by simp)
 have r2 := E4.out.cell 2 (by simp)
 have r3 := E4.out.cell 3 (by simp)
 have r4 := E4.out.cell 4 (by simp)
 have r5 := E4.out.cell 5 (by simp)
 simp only [List.getElem_cons_zero, List.getElem_cons_succ] at r0 r1 r2 r3 r4 r5
 have s0 := E5.out.cell 0 (by simp)
 have s1 := E5.out.cell 1 (by simp)
 have s2 := E5.out.cell 2 (by simp)
 have s3 := E5.out.cell 3 (by simp)
 have s4 := E5.out.cell 4 (by simp)
 simp only [List.getElem_cons_zero, List.getElem_cons_succ] at s0 s1 s2 s3 s4
 exact bodyPost_ret (v := .tuple #[.agg #[.string ⟨a0.toArray⟩, .bool a1, .bool a2, .slice ga a3.length gc, .int .i64 a4, .slice ua l.length uc], .agg #[.int .i64 7, .int .i64 0, .string ⟨#[]⟩, .int .i64 0, .int .i64 0]]) (by simp [results, Tryz.results55, go_sem, r0, r1, r2, r3, r4, r5, s0, s1, s2, s3, s4]) rfl ⟨_, rfl, ⟨_, _, rfl, ownsF_base OC.out (by omega), ownsF_base OL.out (by omega)⟩, EB.out⟩
set_option maxRecDepth 100000 in
set_option maxHeartbeats 3200000 in
theorem implWrap_bad2 (v : Value) (x : PartD) (s : ByteArray) (w : World) (hx : ValAt rPart 0 w v x) (hs : SmallP x) (hk : ∀ c ∈ x.fCore.fCells, c.fKey.length ≤ maxLen) (hz : s.size ≤ 1048576) (hc : 0 ≤ layI s.data.toList) (hp : partB x = false) :
  Calls Tryz.prog 55 #[v, .string s] w fun e w' => GivesOPR (wrapP x s.data.toList) (wrapR x s.data.toList) w e w' := by
 obtain ⟨hwp, hwr⟩ := wrap_bad (x := x) (s := s.data.toList) (fun h => by rw [hp] at h; exact absurd h.1 (by decide))
 rw [hwp, hwr]
 clear hwp hwr
 have HTX := Lib.hid (fun W => copyText_any s W (by omega))
 obtain ⟨_, rfl, hx⟩ := hx
 have HX := Lib.hid (fun W (hb : Below w.heap.size w W) => goodPart.keep hx (kept_below hb (Nat.le_refl _)))
 have HIP := Lib.hid (fun cs W (h : rPart 0 W cs x) => implIsPart_any (.agg cs.toArray) x W ⟨cs, rfl, h⟩ hk)
 have HCP := Lib.hid (fun cs W (h : rPart 0 W cs x) => copyPart_c (.agg cs.toArray) x W ⟨cs, rfl, h⟩ hs)
 have HLN := Lib.hid (fun W => implLayerNeeds_any s W)
 have HSZ := Lib.hid hs.lays
 unfold ndV at HLN
 unfold GivesOPR vReply
 unfold GivesOP at HCP
 rw [show decide (0 ≤ layI s.data.toList) = true from decide_eq_true hc] at HLN
 rw [hp] at HIP
 generalize needI (layI s.data.toList) = nd at *
 have HSP := Lib.hid hs
 obtain ⟨⟨a0, a1, a2, a3, a4⟩, l⟩ := x
 obtain ⟨v3, v5, rfl, h3, h5⟩ := hx
 simp only at h3 h5 HSZ
 obtain ⟨ra, rc, rfl, _⟩ := sliceAt_len h3
 obtain ⟨sa, sc, rfl, hl, hcap⟩ := sliceAt_cap h5
 clear h3 h5 hs hk hcap hl
 have BS := Lib.hid (bx_start3 w [.string ⟨a0.toArray⟩, .bool a1, .bool a2, .slice ra a3.length rc, .int .i64 a4, .slice sa l.length sc] [.string ⟨#[]⟩, .bool false, .bool false, .slice none 0 0, .int .i64 0, .slice none 0 0] [.int .i64 0, .int .i64 0, .string ⟨#[]⟩, .int .i64 0, .int .i64 0] 37 37 39)
 have HR0 := Lib.hid (HX.out _ BS.out.2.2.2)
 clear hc hp
 go_enter Tryz.func55, Tryz.ntmps55
 go_wp2_with fail
 refine (HCP.out _ _ HR0.out).mono ?_
 rintro e w1 ⟨_, rfl, ⟨u3, u5, rfl, ho3, ho5⟩, hb⟩
 simp only at ho3 ho5
 obtain ⟨ga, gc, rfl⟩ := slice_of ho3
 obtain ⟨ua, uc, rfl⟩ := slice_of ho5
 have HB1 := Lib.hid ((belS BS.out.2.2.2 hb).alloc (belS BS.out.2.2.2 hb).size (.cells #[.string ⟨a0.toArray⟩, .bool a1, .bool a2, .slice ga a3.length gc, .int .i64 a4, .slice ua l.length uc] 37))
 have B41 := Lib.hid ((BS.out.2.1.below hb).alloc (.cells #[.string ⟨a0.toArray⟩, .bool a1, .bool a2, .slice ga a3.length gc, .int .i64 a4, .slice ua l.length uc] 37))
 have B51 := Lib.hid ((BS.out.2.2.1.below hb).alloc (.cells #[.string ⟨a0.toArray⟩, .bool a1, .bool a2, .slice ga a3.length gc, .int .i64 a4, .slice ua l.length uc] 37))
 have BQ1 := Lib.hid (Bx.new w1 [.string ⟨a0.toArray⟩, .bool a1, .bool a2, .slice ga a3.length gc, .int .i64 a4, .slice ua l.length uc] 37)
 have O3 := Lib.hid (ownsF_alloc (ownsF_base (B' := w.heap.size + 1 + 1 + 1) ho3 (by simp)) (.cells #[.string ⟨a0.toArray⟩, .bool a1, .bool a2, .slice ga a3.length gc, .int .i64 a4, .slice ua l.length uc] 37))
 have O5 := Lib.hid (ownsF_alloc (ownsF_base (B' := w.heap.size + 1 + 1 + 1) ho5 (by simp)) (.cells #[.string ⟨a0.toArray⟩, .bool a1, .bool a2, .slice ga a3.length gc, .int .i64 a4, .slice ua l.length uc] 37))
 have h3s := hb.size
 simp at h3s
 clear hb ho3 ho5 BS
 go_wp2_with fail
 refine (HLN.out _).mono ?_
 rintro e w2 ⟨rfl, rfl⟩
 have q0 := BQ1.out.cell 0 (by simp)
 have q1 := BQ1.out.cell 1 (by simp)
 have q2 := BQ1.out.cell 2 (by simp)
 have q3 := BQ1.out.cell 3 (by simp)
 have q4 := BQ1.out.cell 4 (by simp)
 have q5 := BQ1.out.cell 5 (by simp)
 simp only [List.getElem_cons_zero, List.getElem_cons_succ] at q0 q1 q2 q3 q4 q5
 have HRQ := Lib.hid (show rPart 0 (w1.alloc (.cells #[.string ⟨a0.toArray⟩, .bool a1, .bool a2, .slice ga a3.length gc, .int .i64 a4, .slice ua l.length uc] 37)) [.string ⟨a0.toArray⟩, .bool a1, .bool a2, .slice ga a3.length gc, .int .i64 a4, .slice ua l.length uc] ⟨⟨a0, a1, a2, a3, a4⟩, l⟩ from goodPart.mono (oPart_r ⟨_, _, rfl, O3.out, O5.out⟩ HSP.out) (Nat.zero_le _))
 go_wp2_with fail
 refine (HIP.out _ _ HRQ.out).mono ?_
 rintro e w2 ⟨rfl, hb⟩
 have HB2 := Lib.hid (belS HB1.out hb)
 have B42 := Lib.hid (B41.out.below hb)
 have B52 := Lib.hid (B51.out.below hb)
 have BQ2 := Lib.hid (BQ1.out.below hb)
 have P3 := Lib.hid (ownsF_below O3.out hb (Nat.le_refl _))
 have P5 := Lib.hid (ownsF_below O5.out hb (Nat.le_refl _))
 have h4s := hb.size
 simp at h4s
 clear hb q0 q1 q2 q3 q4 q5
 have q0 := BQ2.out.cell 0 (by simp)
 have q1 := BQ2.out.cell 1 (by simp)
 have q2 := BQ2.out.cell 2 (by simp)
 have q3 := BQ2.out.cell 3 (by simp)
 have q4 := BQ2.out.cell 4 (by simp)
 have q5 := BQ2.out.cell 5 (by simp)
 simp only [List.getElem_cons_zero, List.getElem_cons_succ] at q0 q1 q2 q3 q4 q5
 have r0 := B42.out.cell 0 (by simp)
 have r1 := B42.out.cell 1 (by simp)
 have r2 := B42.out.cell 2 (by simp)
 have r3 := B42.out.cell 3 (by simp)
 have r4 := B42.out.cell 4 (by simp)
 have r5 := B42.out.cell 5 (by simp)
 simp only [List.getElem_cons_zero, List.getElem_cons_succ] at r0 r1 r2 r3 r4 r5
 have z0 := B42.out.froz 0 (by simp)
 have z1 := B42.out.froz 1 (by simp)
 have z2 := B42.out.froz 2 (by simp)
 have z3 := B42.out.froz 3 (by simp)
 have z4 := B42.out.froz 4 (by simp)
 have z5 := B42.out.froz 5 (by simp)
 have s0 := B52.out.cell 0 (by simp)
 have s1 := B52.out.cell 1 (by simp)
 have s2 := B52.out.cell 2 (by simp)
 have s3 := B52.out.cell 3 (by simp)
 have s4 := B52.out.cell 4 (by simp)
 simp only [List.getElem_cons_zero, List.getElem_cons_succ] at s0 s1 s2 s3 s4
 have y0 := B52.out.froz 0 (by simp)
 have y1 := B52.out.froz 1 (by simp)
 have y2 := B52.out.froz 2 (by simp)
 have y3 := B52.out.froz 3 (by simp)
 have y4 := B52.out.froz 4 (by simp)
 go_wp2_with fail
 clear q0 q1 q2 q3 q4 q5
 clear r0 r1 r2 r3 r4 r5 z0 z1 z2 z3 z4 z5 s0 s1 s2 s3 s4 y0 y1 y2 y3 y4
 have E4 := Lib.hid ((B42.out.put6 (.string ⟨a0.toArray⟩) (.bool a1) (.bool a2) (.slice ga a3.length gc) (.int .i64 a4) (.slice ua l.length uc)).put5o (c := w.heap.size + 1 + 1) (by omega) (.int .i64 7) (.int .i64 0) (.string ⟨#[]⟩) (.int .i64 0) (.int .i64 0))
 have E5 := Lib.hid ((B52.out.put6o (c := w.heap.size + 1) (by omega) (.string ⟨a0.toArray⟩) (.bool a1) (.bool a2) (.slice ga a3.length gc) (.int .i64 a4) (.slice ua l.length uc)).put5 (.int .i64 7) (.int .i64 0) (.string ⟨#[]⟩) (.int .i64 0) (.int .i64 0))
 have EB := Lib.hid (below_put5 (below_put6 HB2.out (w.heap.size + 1) (by omega) (.string ⟨a0.toArray⟩) (.bool a1) (.bool a2) (.slice ga a3.length gc) (.int .i64 a4) (.slice ua l.length uc)) (w.heap.size + 1 + 1) (by omega) (.int .i64 7) (.int .i64 0) (.string ⟨#[]⟩) (.int .i64 0) (.int .i64 0))
 have OC := Lib.hid (ownsF_put5 (ownsF_put6 P3.out (w.heap.size + 1) (by omega) (.string ⟨a0.toArray⟩) (.bool a1) (.bool a2) (.slice ga a3.length gc) (.int .i64 a4) (.slice ua l.length uc)) (w.heap.size + 1 + 1) (by omega) (.int .i64 7) (.int .i64 0) (.string ⟨#[]⟩) (.int .i64 0) (.int .i64 0))
 have OL := Lib.hid (ownsF_put5 (ownsF_put6 P5.out (w.heap.size + 1) (by omega) (.string ⟨a0.toArray⟩) (.bool a1) (.bool a2) (.slice ga a3.length gc) (.int .i64 a4) (.slice ua l.length uc)) (w.heap.size + 1 + 1) (by omega) (.int .i64 7) (.int .i64 0) (.string ⟨#[]⟩) (.int .i64 0) (.int .i64 0))
 generalize (((((((((((w2.setCell ⟨w.heap.size + 1, 0, none⟩ (.string ⟨a0.toArray⟩)).setCell ⟨w.heap.size + 1, 1, none⟩ (.bool a1)).setCell ⟨w.heap.size + 1, 2, none⟩ (.bool a2)).setCell ⟨w.heap.size + 1, 3, none⟩ (.slice ga a3.length gc)).setCell ⟨w.heap.size + 1, 4, none⟩ (.int .i64 a4)).setCell ⟨w.heap.size + 1, 5, none⟩ (.slice ua l.length uc)).setCell ⟨w.heap.size + 1 + 1, 0, none⟩ (.int .i64 7)).setCell ⟨w.heap.size + 1 + 1, 1, none⟩ (.int .i64 0)).setCell ⟨w.heap.size + 1 + 1, 2, none⟩ (.string ⟨#[]⟩)).setCell ⟨w.heap.size + 1 + 1, 3, none⟩ (.int .i64 0)).setCell ⟨w.heap.size + 1 + 1, 4, none⟩ (.int .i64 0)) = WE at *
 have r0 := E4.out.cell 0 (by simp)
 have r1 := E4.out.cell 1 (by simp)
 have r2 := E4.out.cell 2 (by simp)
 have r3 := E4.out.cell 3 (by simp)
 have r4 := E4.out.cell 4 (by simp)
 have r5 := E4.out.cell 5 (by simp)
 simp only [List.getElem_cons_zero, List.getElem_cons_succ] at r0 r1 r2 r3 r4 r5
 have s0 := E5.out.cell 0 (by simp)
 have s1 := E5.out.cell 1 (by simp)
 have s2 := E5.out.cell 2 (by simp)
 have s3 := E5.out.cell 3 (by simp)
 have s4 := E5.out.cell 4 (by simp)
 simp only [List.getElem_cons_zero, List.getElem_cons_succ] at s0 s1 s2 s3 s4
 exact bodyPost_ret (v := .tuple #[.agg #[.string ⟨a0.toArray⟩, .bool a1, .bool a2, .slice ga a3.length gc, .int .i64 a4, .slice ua l.length uc], .agg #[.int .i64 7, .int .i64 0, .string ⟨#[]⟩, .int .i64 0, .int .i64 0]]) (by simp [results, Tryz.results55, go_sem, r0, r1, r2, r3, r4, r5, s0, s1, s2, s3, s4]) rfl ⟨_, rfl, ⟨_, _, rfl, ownsF_base OC.out (by omega), ownsF_base OL.out (by omega)⟩, EB.out⟩
set_option maxRecDepth 100000 in
set_option maxHeartbeats 3200000 in
theorem implWrap_full (v : Value) (x : PartD) (s : ByteArray) (w : World) (hx : ValAt rPart 0 w v x) (hs : SmallP x) (hk : ∀ c ∈ x.fCore.fCells, c.fKey.length ≤ maxLen) (hz : s.size ≤ 1048576) (hc : 0 ≤ layI s.data.toList) (hp : partB x = true) (h3 : x.fLayers.length = 3) :
  Calls Tryz.prog 55 #[v, .string s] w fun e w' => GivesOPR (wrapP x s.data.toList) (wrapR x s.data.toList) w e w' := by
 obtain ⟨hwp, hwr⟩ := wrap_full (x := x) (s := s.data.toList) ⟨hp, hc⟩ h3
 rw [hwp, hwr]
 clear hwp hwr
 have HTX := Lib.hid (fun W => copyText_any s W (by omega))
 have H3 := Lib.hid h3
 clear h3
 obtain ⟨_, rfl, hx⟩ := hx
 have HX := Lib.hid (fun W (hb : Below w.heap.size w W) => goodPart.keep hx (kept_below hb (Nat.le_refl _)))
 have HIP := Lib.hid (fun cs W (h : rPart 0 W cs x) => implIsPart_any (.agg cs.toArray) x W ⟨cs, rfl, h⟩ hk)
 have HCP := Lib.hid (fun cs W (h : rPart 0 W cs x) => copyPart_c (.agg cs.toArray) x W ⟨cs, rfl, h⟩ hs)
 have HLN := Lib.hid (fun W => implLayerNeeds_any s W)
 have HSZ := Lib.hid hs.lays
 unfold ndV at HLN
 unfold GivesOPR vReply
 unfold GivesOP at HCP
 rw [show decide (0 ≤ layI s.data.toList) = true from decide_eq_true hc] at HLN
 rw [hp] at HIP
 generalize needI (layI s.data.toList) = nd at *
 have HSP := Lib.hid hs
 obtain ⟨⟨a0, a1, a2, a3, a4⟩, l⟩ := x
 obtain ⟨v3, v5, rfl, h3, h5⟩ := hx
 simp only at h3 h5 HSZ
 obtain ⟨ra, rc, rfl, _⟩ := sliceAt_len h3
 obtain ⟨sa, sc, rfl, hl, hcap⟩ := sliceAt_cap h5
 clear h3 h5 hs hk hcap hl
 have BS := Lib.hid (bx_start3 w [.string ⟨a0.toArray⟩, .bool a1, .bool a2, .slice ra a3.length rc, .int .i64 a4, .slice sa l.length sc] [.string ⟨#[]⟩, .bool false, .bool false, .slice none 0 0, .int .i64 0, .slice none 0 0] [.int .i64 0, .int .i64 0, .string ⟨#[]⟩, .int .i64 0, .int .i64 0] 37 37 39)
 have HR0 := Lib.hid (HX.out _ BS.out.2.2.2)
 clear hc hp
 go_enter Tryz.func55, Tryz.ntmps55
 go_wp2_with fail
 refine (HCP.out _ _ HR0.out).mono ?_
 rintro e w1 ⟨_, rfl, ⟨u3, u5, rfl, ho3, ho5⟩, hb⟩
 simp only at ho3 ho5
 obtain ⟨ga, gc, rfl⟩ := slice_of ho3
 obtain ⟨ua, uc, rfl⟩ := slice_of ho5
 have HB1 := Lib.hid ((belS BS.out.2.2.2 hb).alloc (belS BS.out.2.2.2 hb).size (.cells #[.string ⟨a0.toArray⟩, .bool a1, .bool a2, .slice ga a3.length gc, .int .i64 a4, .slice ua l.length uc] 37))
 have B41 := Lib.hid ((BS.out.2.1.below hb).alloc (.cells #[.string ⟨a0.toArray⟩, .bool a1, .bool a2, .slice ga a3.length gc, .int .i64 a4, .slice ua l.length uc] 37))
 have B51 := Lib.hid ((BS.out.2.2.1.below hb).alloc (.cells #[.string ⟨a0.toArray⟩, .bool a1, .bool a2, .slice ga a3.length gc, .int .i64 a4, .slice ua l.length uc] 37))
 have BQ1 := Lib.hid (Bx.new w1 [.string ⟨a0.toArray⟩, .bool a1, .bool a2, .slice ga a3.length gc, .int .i64 a4, .slice ua l.length uc] 37)
 have O3 := Lib.hid (ownsF_alloc (ownsF_base (B' := w.heap.size + 1 + 1 + 1) ho3 (by simp)) (.cells #[.string ⟨a0.toArray⟩, .bool a1, .bool a2, .slice ga a3.length gc, .int .i64 a4, .slice ua l.length uc] 37))
 have O5 := Lib.hid (ownsF_alloc (ownsF_base (B' := w.heap.size + 1 + 1 + 1) ho5 (by simp)) (.cells #[.string ⟨a0.toArray⟩, .bool a1, .bool a2, .slice ga a3.length gc, .int .i64 a4, .slice ua l.length uc] 37))
 have h3s := hb.size
 simp at h3s
 clear hb ho3 ho5 BS
 go_wp2_with fail
 refine (HLN.out _).mono ?_
 rintro e w2 ⟨rfl, rfl⟩
 have q0 := BQ1.out.cell 0 (by simp)
 have q1 := BQ1.out.cell 1 (by simp)
 have q2 := BQ1.out.cell 2 (by simp)
 have q3 := BQ1.out.cell 3 (by simp)
 have q4 := BQ1.out.cell 4 (by simp)
 have q5 := BQ1.out.cell 5 (by simp)
 simp only [List.getElem_cons_zero, List.getElem_cons_succ] at q0 q1 q2 q3 q4 q5
 have HRQ := Lib.hid (show rPart 0 (w1.alloc (.cells #[.string ⟨a0.toArray⟩, .bool a1, .bool a2, .slice ga a3.length gc, .int .i64 a4, .slice ua l.length uc] 37)) [.string ⟨a0.toArray⟩, .bool a1, .bool a2, .slice ga a3.length gc, .int .i64 a4, .slice ua l.length uc] ⟨⟨a0, a1, a2, a3, a4⟩, l⟩ from goodPart.mono (oPart_r ⟨_, _, rfl, O3.out, O5.out⟩ HSP.out) (Nat.zero_le _))
 go_wp2_with fail
 refine (HIP.out _ _ HRQ.out).mono ?_
 rintro e w2 ⟨rfl, hb⟩
 have HB2 := Lib.hid (belS HB1.out hb)
 have B42 := Lib.hid (B41.out.below hb)
 have B52 := Lib.hid (B51.out.below hb)
 have BQ2 := Lib.hid (BQ1.out.below hb)
 have P3 := Lib.hid (ownsF_below O3.out hb (Nat.le_refl _))
 have P5 := Lib.hid (ownsF_below O5.out hb (Nat.le_refl _))
 have h4s := hb.size
 simp at h4s
 clear hb q0 q1 q2 q3 q4 q5
 have h3 := H3.out
 try simp only at h3
 have hl3 : ((l.length : Int) == 3) = true := by rw [h3]; rfl
 clear h3
 have q0 := BQ2.out.cell 0 (by simp)
 have q1 := BQ2.out.cell 1 (by simp)
 have q2 := BQ2.out.cell 2 (by simp)
 have q3 := BQ2.out.cell 3 (by simp)
 have q4 := BQ2.out.cell 4 (by simp)
 have q5 := BQ2.out.cell 5 (by simp)
 simp only [List.getElem_cons_zero, List.getElem_cons_succ] at q0 q1 q2 q3 q4 q5
 have r0 := B42.out.cell 0 (by simp)
 have r1 := B42.out.cell 1 (by simp)
 have r2 := B42.out.cell 2 (by simp)
 have r3 := B42.out.cell 3 (by simp)
 have r4 := B42.out.cell 4 (by simp)
 have r5 := B42.out.cell 5 (by simp)
 simp only [List.getElem_cons_zero, List.getElem_cons_succ] at r0 r1 r2 r3 r4 r5
 have z0 := B42.out.froz 0 (by simp)
 have z1 := B42.out.froz 1 (by simp)
 have z2 := B42.out.froz 2 (by simp)
 have z3 := B42.out.froz 3 (by simp)
 have z4 := B42.out.froz 4 (by simp)
 have z5 := B42.out.froz 5 (by simp)
 have s0 := B52.out.cell 0 (by simp)
 have s1 := B52.out.cell 1 (by simp)
 have s2 := B52.out.cell 2 (by simp)
 have s3 := B52.out.cell 3 (by simp)
 have s4 := B52.out.cell 4 (by simp)
 simp only [List.getElem_cons_zero, List.getElem_cons_succ] at s0 s1 s2 s3 s4
 have y0 := B52.out.froz 0 (by simp)
 have y1 := B52.out.froz 1 (by simp)
 have y2 := B52.out.froz 2 (by simp)
 have y3 := B52.out.froz 3 (by simp)
 have y4 := B52.out.froz 4 (by simp)
 go_wp2_with fail
 clear q0 q1 q2 q3 q4 q5
 clear r0 r1 r2 r3 r4 r5 z0 z1 z2 z3 z4 z5 s0 s1 s2 s3 s4 y0 y1 y2 y3 y4
 have E4 := Lib.hid ((B42.out.put6 (.string ⟨a0.toArray⟩) (.bool a1) (.bool a2) (.slice ga a3.length gc) (.int .i64 a4) (.slice ua l.length uc)).put5o (c := w.heap.size + 1 + 1) (by omega) (.int .i64 5) (.int .i64 0) (.string ⟨#[]⟩) (.int .i64 0) (.int .i64 0))
 have E5 := Lib.hid ((B52.out.put6o (c := w.heap.size + 1) (by omega) (.string ⟨a0.toArray⟩) (.bool a1) (.bool a2) (.slice ga a3.length gc) (.int .i64 a4) (.slice ua l.length uc)).put5 (.int .i64 5) (.int .i64 0) (.string ⟨#[]⟩) (.int .i64 0) (.int .i64 0))
 have EB := Lib.hid (below_put5 (below_put6 HB2.out (w.heap.size + 1) (by omega) (.string ⟨a0.toArray⟩) (.bool a1) (.bool a2) (.slice ga a3.length gc) (.int .i64 a4) (.slice ua l.length uc)) (w.heap.size + 1 + 1) (by omega) (.int .i64 5) (.int .i64 0) (.string ⟨#[]⟩) (.int .i64 0) (.int .i64 0))
 have OC := Lib.hid (ownsF_put5 (ownsF_put6 P3.out (w.heap.size + 1) (by omega) (.string ⟨a0.toArray⟩) (.bool a1) (.bool a2) (.slice ga a3.length gc) (.int .i64 a4) (.slice ua l.length uc)) (w.heap.size + 1 + 1) (by omega) (.int .i64 5) (.int .i64 0) (.string ⟨#[]⟩) (.int .i64 0) (.int .i64 0))
 have OL := Lib.hid (ownsF_put5 (ownsF_put6 P5.out (w.heap.size + 1) (by omega) (.string ⟨a0.toArray⟩) (.bool a1) (.bool a2) (.slice ga a3.length gc) (.int .i64 a4) (.slice ua l.length uc)) (w.heap.size + 1 + 1) (by omega) (.int .i64 5) (.int .i64 0) (.string ⟨#[]⟩) (.int .i64 0) (.int .i64 0))
 generalize (((((((((((w2.setCell ⟨w.heap.size + 1, 0, none⟩ (.string ⟨a0.toArray⟩)).setCell ⟨w.heap.size + 1, 1, none⟩ (.bool a1)).setCell ⟨w.heap.size + 1, 2, none⟩ (.bool a2)).setCell ⟨w.heap.size + 1, 3, none⟩ (.slice ga a3.length gc)).setCell ⟨w.heap.size + 1, 4, none⟩ (.int .i64 a4)).setCell ⟨w.heap.size + 1, 5, none⟩ (.slice ua l.length uc)).setCell ⟨w.heap.size + 1 + 1, 0, none⟩ (.int .i64 5)).setCell ⟨w.heap.size + 1 + 1, 1, none⟩ (.int .i64 0)).setCell ⟨w.heap.size + 1 + 1, 2, none⟩ (.string ⟨#[]⟩)).setCell ⟨w.heap.size + 1 + 1, 3, none⟩ (.int .i64 0)).setCell ⟨w.heap.size + 1 + 1, 4, none⟩ (.int .i64 0)) = WE at *
 have r0 := E4.out.cell 0 (by simp)
 have r1 := E4.out.cell 1 (by simp)
 have r2 := E4.out.cell 2 (by simp)
 have r3 := E4.out.cell 3 (by simp)
 have r4 := E4.out.cell 4 (by simp)
 have r5 := E4.out.cell 5 (by simp)
 simp only [List.getElem_cons_zero, List.getElem_cons_succ] at r0 r1 r2 r3 r4 r5
 have s0 := E5.out.cell 0 (by simp)
 have s1 := E5.out.cell 1 (by simp)
 have s2 := E5.out.cell 2 (by simp)
 have s3 := E5.out.cell 3 (by simp)
 have s4 := E5.out.cell 4 (by simp)
 simp only [List.getElem_cons_zero, List.getElem_cons_succ] at s0 s1 s2 s3 s4
 exact bodyPost_ret (v := .tuple #[.agg #[.string ⟨a0.toArray⟩, .bool a1, .bool a2, .slice ga a3.length gc, .int .i64 a4, .slice ua l.length uc], .agg #[.int .i64 5, .int .i64 0, .string ⟨#[]⟩, .int .i64 0, .int .i64 0]]) (by simp [results, Tryz.results55, go_sem, r0, r1, r2, r3, r4, r5, s0, s1, s2, s3, s4]) rfl ⟨_, rfl, ⟨_, _, rfl, ownsF_base OC.out (by omega), ownsF_base OL.out (by omega)⟩, EB.out⟩
set_option maxRecDepth 100000 in
set_option maxHeartbeats 3200000 in
theorem implWrap_fail (v : Value) (x : PartD) (s : ByteArray) (w : World) (hx : ValAt rPart 0 w v x) (hs : SmallP x) (hk : ∀ c ∈ x.fCore.fCells, c.fKey.length ≤ maxLen) (hz : s.size ≤ 1048576) (hc : 0 ≤ layI s.data.toList) (hp : partB x = true) (h3 : ¬ x.fLayers.length = 3) (ho : offersF (faceP x) (needI (layI s.data.toList)) = false) :
  Calls Tryz.prog 55 #[v, .string s] w fun e w' => GivesOPR (wrapP x s.data.toList) (wrapR x s.data.toList) w e w' := by
 obtain ⟨hwp, hwr⟩ := wrap_fail (x := x) (s := s.data.toList) ⟨hp, hc⟩ h3 ho
 rw [hwp, hwr]
 clear hwp hwr
 have HTX := Lib.hid (fun W => copyText_any s W (by omega))
 have H3 := Lib.hid h3
 clear h3
 obtain ⟨q, hq1, hq2, hq3⟩ : ∃ q : Nat, layI s.data.toList = q ∧ q < 9 ∧ layN q = s.data.toList := by
  rcases layI_bd s.data.toList with h1 | h1
  ·omega
  ·exact h1
 have hn : needI (layI s.data.toList) = needN q := by rw [hq1]; unfold needI; rw [if_neg (by omega)]; rfl
 have hg : giveI (layI s.data.toList) = giveN q := by rw [hq1]; unfold giveI; rw [if_neg (by omega)]; rfl
 rw [hn] at ho
 rw [hn]
 have HWP := Lib.hid (fun b0 cs W (h : rPart 0 W cs x) (hb : Bx W b0 cs) => wholePart_c b0 cs x W h hb hp)
 have HNM := Lib.hid (show Value.string s = .string ⟨(layN q).toArray⟩ by rw [hq3])
 have HNS := Lib.hid hq3
 have HO := Lib.hid ho
 have HQ := Lib.hid hq2
 clear hq1 hn hg ho
 obtain ⟨_, rfl, hx⟩ := hx
 have HX := Lib.hid (fun W (hb : Below w.heap.size w W) => goodPart.keep hx (kept_below hb (Nat.le_refl _)))
 have HIP := Lib.hid (fun cs W (h : rPart 0 W cs x) => implIsPart_any (.agg cs.toArray) x W ⟨cs, rfl, h⟩ hk)
 have HCP := Lib.hid (fun cs W (h : rPart 0 W cs x) => copyPart_c (.agg cs.toArray) x W ⟨cs, rfl, h⟩ hs)
 have HLN := Lib.hid (fun W => implLayerNeeds_any s W)
 have HSZ := Lib.hid hs.lays
 unfold ndV at HLN
 unfold GivesOPR vReply
 unfold GivesOP at HCP
 rw [show decide (0 ≤ layI s.data.toList) = true from decide_eq_true hc] at HLN
 rw [hp] at HIP
 generalize needI (layI s.data.toList) = nd at HLN
 generalize faceP x = fp at *
 have HSP := Lib.hid hs
 obtain ⟨⟨a0, a1, a2, a3, a4⟩, l⟩ := x
 obtain ⟨v3, v5, rfl, h3, h5⟩ := hx
 simp only at h3 h5 HSZ
 obtain ⟨ra, rc, rfl, _⟩ := sliceAt_len h3
 obtain ⟨sa, sc, rfl, hl, hcap⟩ := sliceAt_cap h5
 clear h3 h5 hs hk hcap hl
 have BS := Lib.hid (bx_start3 w [.string ⟨a0.toArray⟩, .bool a1, .bool a2, .slice ra a3.length rc, .int .i64 a4, .slice sa l.length sc] [.string ⟨#[]⟩, .bool false, .bool false, .slice none 0 0, .int .i64 0, .slice none 0 0] [.int .i64 0, .int .i64 0, .string ⟨#[]⟩, .int .i64 0, .int .i64 0] 37 37 39)
 have HR0 := Lib.hid (HX.out _ BS.out.2.2.2)
 clear hc hp
 go_enter Tryz.func55, Tryz.ntmps55
 go_wp2_with fail
 refine (HCP.out _ _ HR0.out).mono ?_
 rintro e w1 ⟨_, rfl, ⟨u3, u5, rfl, ho3, ho5⟩, hb⟩
 simp only at ho3 ho5
 obtain ⟨ga, gc, rfl⟩ := slice_of ho3
 obtain ⟨ua, uc, rfl⟩ := slice_of ho5
 have HB1 := Lib.hid ((belS BS.out.2.2.2 hb).alloc (belS BS.out.2.2.2 hb).size (.cells #[.string ⟨a0.toArray⟩, .bool a1, .bool a2, .slice ga a3.length gc, .int .i64 a4, .slice ua l.length uc] 37))
 have B41 := Lib.hid ((BS.out.2.1.below hb).alloc (.cells #[.string ⟨a0.toArray⟩, .bool a1, .bool a2, .slice ga a3.length gc, .int .i64 a4, .slice ua l.length uc] 37))
 have B51 := Lib.hid ((BS.out.2.2.1.below hb).alloc (.cells #[.string ⟨a0.toArray⟩, .bool a1, .bool a2, .slice ga a3.length gc, .int .i64 a4, .slice ua l.length uc] 37))
 have BQ1 := Lib.hid (Bx.new w1 [.string ⟨a0.toArray⟩, .bool a1, .bool a2, .slice ga a3.length gc, .int .i64 a4, .slice ua l.length uc] 37)
 have O3 := Lib.hid (ownsF_alloc (ownsF_base (B' := w.heap.size + 1 + 1 + 1) ho3 (by simp)) (.cells #[.string ⟨a0.toArray⟩, .bool a1, .bool a2, .slice ga a3.length gc, .int .i64 a4, .slice ua l.length uc] 37))
 have O5 := Lib.hid (ownsF_alloc (ownsF_base (B' := w.heap.size + 1 + 1 + 1) ho5 (by simp)) (.cells #[.string ⟨a0.toArray⟩, .bool a1, .bool a2, .slice ga a3.length gc, .int .i64 a4, .slice ua l.length uc] 37))
 have h3s := hb.size
 simp at h3s
 clear hb ho3 ho5 BS
 go_wp2_with fail
 refine (HLN.out _).mono ?_
 rintro e w2 ⟨rfl, rfl⟩
 have q0 := BQ1.out.cell 0 (by simp)
 have q1 := BQ1.out.cell 1 (by simp)
 have q2 := BQ1.out.cell 2 (by simp)
 have q3 := BQ1.out.cell 3 (by simp)
 have q4 := BQ1.out.cell 4 (by simp)
 have q5 := BQ1.out.cell 5 (by simp)
 simp only [List.getElem_cons_zero, List.getElem_cons_succ] at q0 q1 q2 q3 q4 q5
 have HRQ := Lib.hid (show rPart 0 (w1.alloc (.cells #[.string ⟨a0.toArray⟩, .bool a1, .bool a2, .slice ga a3.length gc, .int .i64 a4, .slice ua l.length uc] 37)) [.string ⟨a0.toArray⟩, .bool a1, .bool a2, .slice ga a3.length gc, .int .i64 a4, .slice ua l.length uc] ⟨⟨a0, a1, a2, a3, a4⟩, l⟩ from goodPart.mono (oPart_r ⟨_, _, rfl, O3.out, O5.out⟩ HSP.out) (Nat.zero_le _))
 go_wp2_with fail
 refine (HIP.out _ _ HRQ.out).mono ?_
 rintro e w2 ⟨rfl, hb⟩
 have HB2 := Lib.hid (belS HB1.out hb)
 have B42 := Lib.hid (B41.out.below hb)
 have B52 := Lib.hid (B51.out.below hb)
 have BQ2 := Lib.hid (BQ1.out.below hb)
 have P3 := Lib.hid (ownsF_below O3.out hb (Nat.le_refl _))
 have P5 := Lib.hid (ownsF_below O5.out hb (Nat.le_refl _))
 have h4s := hb.size
 simp at h4s
 clear hb q0 q1 q2 q3 q4 q5
 have h3 := H3.out
 try simp only at h3
 have hl3 : ¬ (l.length : Int) = 3 := by omega
 clear h3
 have q0 := BQ2.out.cell 0 (by simp)
 have q1 := BQ2.out.cell 1 (by simp)
 have q2 := BQ2.out.cell 2 (by simp)
 have q3 := BQ2.out.cell 3 (by simp)
 have q4 := BQ2.out.cell 4 (by simp)
 have q5 := BQ2.out.cell 5 (by simp)
 simp only [List.getElem_cons_zero, List.getElem_cons_succ] at q0 q1 q2 q3 q4 q5
 go_wp2_with fail
 refine (HTX.out _).mono ?_
 rintro e w3 ⟨rfl, hb⟩
 have HB3 := Lib.hid ((belS HB2.out hb).alloc (belS HB2.out hb).size (.cells #[.string s, .int .i64 0] 86))
 have B43 := Lib.hid ((B42.out.below hb).alloc (.cells #[.string s, .int .i64 0] 86))
 have B53 := Lib.hid ((B52.out.below hb).alloc (.cells #[.string s, .int .i64 0] 86))
 have BQ3 := Lib.hid ((BQ2.out.below hb).alloc (.cells #[.string s, .int .i64 0] 86))
 have BL3 := Lib.hid (Bx.new w3 [.string s, .int .i64 0] 86)
 have R3 := Lib.hid (ownsF_alloc (ownsF_below P3.out hb (Nat.le_refl _)) (.cells #[.string s, .int .i64 0] 86))
 have R5 := Lib.hid (ownsF_alloc (ownsF_below P5.out hb (Nat.le_refl _)) (.cells #[.string s, .int .i64 0] 86))
 have h5s := hb.size
 clear hb q0 q1 q2 q3 q4 q5
 have HRW := Lib.hid (show rPart 0 (w3.alloc (.cells #[.string s, .int .i64 0] 86)) [.string ⟨a0.toArray⟩, .bool a1, .bool a2, .slice ga a3.length gc, .int .i64 a4, .slice ua l.length uc] ⟨⟨a0, a1, a2, a3, a4⟩, l⟩ from goodPart.mono (oPart_r ⟨_, _, rfl, R3.out, R5.out⟩ HSP.out) (Nat.zero_le _))
 go_wp2_with fail
 refine (HWP.out _ _ _ HRW.out BQ3.out).mono ?_
 rintro e w4 ⟨pv, rfl, hpv, hb⟩
 have HB4 := Lib.hid (belS HB3.out hb)
 have B44 := Lib.hid (B43.out.below hb)
 have B54 := Lib.hid (B53.out.below hb)
 have BQ4 := Lib.hid (BQ3.out.below hb)
 have BL4 := Lib.hid (BL3.out.below hb)
 have S3 := Lib.hid (ownsF_below R3.out hb (Nat.le_refl _))
 have S5 := Lib.hid (ownsF_below R5.out hb (Nat.le_refl _))
 have h6s := hb.size
 simp at h6s
 have HPV := Lib.hid hpv
 have l0 := BL4.out.cell 0 (by simp)
 simp only [List.getElem_cons_zero] at l0
 rw [HNM.out] at l0
 have HWI := Lib.hid (wrapIn_c w3.heap.size 0 q HQ.out pv fp w4 l0 HPV.out)
 clear hb hpv l0
 go_wp2_with fail
 refine HWI.out.mono ?_
 rintro e w5 ⟨hb, hres⟩
 obtain rfl : e = .returned (.tuple #[pv, vReply ⟨1, 0, [], needN q, fp⟩]) := by
  rcases hres with ⟨h, _⟩ | ⟨_, h⟩
  ·rw [HO.out] at h; cases h
  ·exact h
 unfold vReply
 have HB5 := Lib.hid ((belS HB4.out hb).alloc (belS HB4.out hb).size (.cells #[.int .i64 1, .int .i64 0, .string ⟨#[]⟩, .int .i64 (needN q), .int .i64 fp] 39))
 have B45 := Lib.hid ((B44.out.below hb).alloc (.cells #[.int .i64 1, .int .i64 0, .string ⟨#[]⟩, .int .i64 (needN q), .int .i64 fp] 39))
 have B55 := Lib.hid ((B54.out.below hb).alloc (.cells #[.int .i64 1, .int .i64 0, .string ⟨#[]⟩, .int .i64 (needN q), .int .i64 fp] 39))
 have BQ5 := Lib.hid ((BQ4.out.below hb).alloc (.cells #[.int .i64 1, .int .i64 0, .string ⟨#[]⟩, .int .i64 (needN q), .int .i64 fp] 39))
 have BL5 := Lib.hid ((BL4.out.below hb).alloc (.cells #[.int .i64 1, .int .i64 0, .string ⟨#[]⟩, .int .i64 (needN q), .int .i64 fp] 39))
 have BR5 := Lib.hid (Bx.new w5 [.int .i64 1, .int .i64 0, .string ⟨#[]⟩, .int .i64 (needN q), .int .i64 fp] 39)
 have T3 := Lib.hid (ownsF_alloc (ownsF_below S3.out hb (Nat.le_refl _)) (.cells #[.int .i64 1, .int .i64 0, .string ⟨#[]⟩, .int .i64 (needN q), .int .i64 fp] 39))
 have T5 := Lib.hid (ownsF_alloc (ownsF_below S5.out hb (Nat.le_refl _)) (.cells #[.int .i64 1, .int .i64 0, .string ⟨#[]⟩, .int .i64 (needN q), .int .i64 fp] 39))
 have h7s := hb.size
 clear hb hres
 have t0 := BR5.out.cell 0 (by simp)
 have t1 := BR5.out.cell 1 (by simp)
 have t2 := BR5.out.cell 2 (by simp)
 have t3 := BR5.out.cell 3 (by simp)
 have t4 := BR5.out.cell 4 (by simp)
 simp only [List.getElem_cons_zero, List.getElem_cons_succ] at t0 t1 t2 t3 t4
 go_wp2_with fail
 clear t0 t1 t2 t3 t4
 have t0 := BR5.out.cell 0 (by simp)
 have t1 := BR5.out.cell 1 (by simp)
 have t2 := BR5.out.cell 2 (by simp)
 have t3 := BR5.out.cell 3 (by simp)
 have t4 := BR5.out.cell 4 (by simp)
 simp only [List.getElem_cons_zero, List.getElem_cons_succ] at t0 t1 t2 t3 t4
 have q0 := BQ5.out.cell 0 (by simp)
 have q1 := BQ5.out.cell 1 (by simp)
 have q2 := BQ5.out.cell 2 (by simp)
 have q3 := BQ5.out.cell 3 (by simp)
 have q4 := BQ5.out.cell 4 (by simp)
 have q5 := BQ5.out.cell 5 (by simp)
 simp only [List.getElem_cons_zero, List.getElem_cons_succ] at q0 q1 q2 q3 q4 q5
 have r0 := B45.out.cell 0 (by simp)
 have r1 := B45.out.cell 1 (by simp)
 have r2 := B45.out.cell 2 (by simp)
 have r3 := B45.out.cell 3 (by simp)
 have r4 := B45.out.cell 4 (by simp)
 have r5 := B45.out.cell 5 (by simp)
 simp only [List.getElem_cons_zero, List.getElem_cons_succ] at r0 r1 r2 r3 r4 r5
 have z0 := B45.out.froz 0 (by simp)
 have z1 := B45.out.froz 1 (by simp)
 have z2 := B45.out.froz 2 (by simp)
 have z3 := B45.out.froz 3 (by simp)
 have z4 := B45.out.froz 4 (by simp)
 have z5 := B45.out.froz 5 (by simp)
 have s0 := B55.out.cell 0 (by simp)
 have s1 := B55.out.cell 1 (by simp)
 have s2 := B55.out.cell 2 (by simp)
 have s3 := B55.out.cell 3 (by simp)
 have s4 := B55.out.cell 4 (by simp)
 simp only [List.getElem_cons_zero, List.getElem_cons_succ] at s0 s1 s2 s3 s4
 have y0 := B55.out.froz 0 (by simp)
 have y1 := B55.out.froz 1 (by simp)
 have y2 := B55.out.froz 2 (by simp)
 have y3 := B55.out.froz 3 (by simp)
 have y4 := B55.out.froz 4 (by simp)
 go_region
 all_goals (try go_wp2_with fail)
 all_goals
  refine bodyPost_ret (v := .tuple #[.agg #[.string ⟨a0.toArray⟩, .bool a1, .bool a2, .slice ga a3.length gc, .int .i64 a4, .slice ua l.length uc], .agg #[.int .i64 1, .int .i64 0, .string ⟨#[]⟩, .int .i64 (needN q), .int .i64 fp]]) (by simp [results, Tryz.results55, go_sem, cell_set_at, cell_set_ne, t0, t1, t2, t3, t4, r0, r1, r2, r3, r4, r5, s0, s1, s2, s3, s4]) rfl ⟨_, rfl, ⟨_, _, rfl, ?_, ?_⟩, ?_⟩
  ·refine ownsF_base (B := (((w.heap.size + 1) + 1) + 1)) ?_ (by omega)
   repeat (first | with_reducible refine ownsF_set ?_ (by simp; try omega) | with_reducible refine ownsF_drew ?_)
   have h := T3.out
   simpa using h
  ·refine ownsF_base (B := (((w.heap.size + 1) + 1) + 1)) ?_ (by omega)
   repeat (first | with_reducible refine ownsF_set ?_ (by simp; try omega) | with_reducible refine ownsF_drew ?_)
   have h := T5.out
   simpa using h
  ·repeat (first | with_reducible exact HB5.out | with_reducible refine Below.setCell ?_ (by simp; try omega) _ | with_reducible refine Below.drew ?_)
set_option maxRecDepth 100000 in
set_option maxHeartbeats 3200000 in
theorem implWrap_ok (v : Value) (x : PartD) (s : ByteArray) (w : World) (hx : ValAt rPart 0 w v x) (hs : SmallP x) (hk : ∀ c ∈ x.fCore.fCells, c.fKey.length ≤ maxLen) (hz : s.size ≤ 1048576) (hc : 0 ≤ layI s.data.toList) (hp : partB x = true) (h3 : ¬ x.fLayers.length = 3) (ho : offersF (faceP x) (needI (layI s.data.toList)) = true) :
  Calls Tryz.prog 55 #[v, .string s] w fun e w' => GivesOPR (wrapP x s.data.toList) (wrapR x s.data.toList) w e w' := by
 obtain ⟨hwp, hwr⟩ := wrap_ok (x := x) (s := s.data.toList) ⟨hp, hc⟩ h3 ho
 rw [hwp, hwr]
 clear hwp hwr
 have HTX := Lib.hid (fun W => copyText_any s W (by omega))
 have H3 := Lib.hid h3
 clear h3
 obtain ⟨q, hq1, hq2, hq3⟩ : ∃ q : Nat, layI s.data.toList = q ∧ q < 9 ∧ layN q = s.data.toList := by
  rcases layI_bd s.data.toList with h1 | h1
  ·omega
  ·exact h1
 have hn : needI (layI s.data.toList) = needN q := by rw [hq1]; unfold needI; rw [if_neg (by omega)]; rfl
 have hg : giveI (layI s.data.toList) = giveN q := by rw [hq1]; unfold giveI; rw [if_neg (by omega)]; rfl
 rw [hn] at ho
 rw [hg]
 have HWP := Lib.hid (fun b0 cs W (h : rPart 0 W cs x) (hb : Bx W b0 cs) => wholePart_c b0 cs x W h hb hp)
 have HNM := Lib.hid (show Value.string s = .string ⟨(layN q).toArray⟩ by rw [hq3])
 have HNS := Lib.hid hq3
 have HO := Lib.hid ho
 have HQ := Lib.hid hq2
 clear hq1 hn hg ho
 obtain ⟨_, rfl, hx⟩ := hx
 have HX := Lib.hid (fun W (hb : Below w.heap.size w W) => goodPart.keep hx (kept_below hb (Nat.le_refl _)))
 have HIP := Lib.hid (fun cs W (h : rPart 0 W cs x) => implIsPart_any (.agg cs.toArray) x W ⟨cs, rfl, h⟩ hk)
 have HCP := Lib.hid (fun cs W (h : rPart 0 W cs x) => copyPart_c (.agg cs.toArray) x W ⟨cs, rfl, h⟩ hs)
 have HLN := Lib.hid (fun W => implLayerNeeds_any s W)
 have HSZ := Lib.hid hs.lays
 unfold ndV at HLN
 unfold GivesOPR vReply
 unfold GivesOP at HCP
 rw [show decide (0 ≤ layI s.data.toList) = true from decide_eq_true hc] at HLN
 rw [hp] at HIP
 generalize needI (layI s.data.toList) = nd at HLN
 generalize faceP x = fp at *
 have HSP := Lib.hid hs
 obtain ⟨⟨a0, a1, a2, a3, a4⟩, l⟩ := x
 obtain ⟨v3, v5, rfl, h3, h5⟩ := hx
 simp only at h3 h5 HSZ
 obtain ⟨ra, rc, rfl, _⟩ := sliceAt_len h3
 obtain ⟨sa, sc, rfl, hl, hcap⟩ := sliceAt_cap h5
 clear h3 h5 hs hk hcap hl
 have BS := Lib.hid (bx_start3 w [.string ⟨a0.toArray⟩, .bool a1, .bool a2, .slice ra a3.length rc, .int .i64 a4, .slice sa l.length sc] [.string ⟨#[]⟩, .bool false, .bool false, .slice none 0 0, .int .i64 0, .slice none 0 0] [.int .i64 0, .int .i64 0, .string ⟨#[]⟩, .int .i64 0, .int .i64 0] 37 37 39)
 have HR0 := Lib.hid (HX.out _ BS.out.2.2.2)
 clear hc hp
 go_enter Tryz.func55, Tryz.ntmps55
 go_wp2_with fail
 refine (HCP.out _ _ HR0.out).mono ?_
 rintro e w1 ⟨_, rfl, ⟨u3, u5, rfl, ho3, ho5⟩, hb⟩
 simp only at ho3 ho5
 obtain ⟨ga, gc, rfl⟩ := slice_of ho3
 obtain ⟨ua, uc, rfl⟩ := slice_of ho5
 have HB1 := Lib.hid ((belS BS.out.2.2.2 hb).alloc (belS BS.out.2.2.2 hb).size (.cells #[.string ⟨a0.toArray⟩, .bool a1, .bool a2, .slice ga a3.length gc, .int .i64 a4, .slice ua l.length uc] 37))
 have B41 := Lib.hid ((BS.out.2.1.below hb).alloc (.cells #[.string ⟨a0.toArray⟩, .bool a1, .bool a2, .slice ga a3.length gc, .int .i64 a4, .slice ua l.length uc] 37))
 have B51 := Lib.hid ((BS.out.2.2.1.below hb).alloc (.cells #[.string ⟨a0.toArray⟩, .bool a1, .bool a2, .slice ga a3.length gc, .int .i64 a4, .slice ua l.length uc] 37))
 have BQ1 := Lib.hid (Bx.new w1 [.string ⟨a0.toArray⟩, .bool a1, .bool a2, .slice ga a3.length gc, .int .i64 a4, .slice ua l.length uc] 37)
 have O3 := Lib.hid (ownsF_alloc (ownsF_base (B' := w.heap.size + 1 + 1 + 1) ho3 (by simp)) (.cells #[.string ⟨a0.toArray⟩, .bool a1, .bool a2, .slice ga a3.length gc, .int .i64 a4, .slice ua l.length uc] 37))
 have O5 := Lib.hid (ownsF_alloc (ownsF_base (B' := w.heap.size + 1 + 1 + 1) ho5 (by simp)) (.cells #[.string ⟨a0.toArray⟩, .bool a1, .bool a2, .slice ga a3.length gc, .int .i64 a4, .slice ua l.length uc] 37))
 have h3s := hb.size
 simp at h3s
 have HU5 := Lib.hid (fun g (h : (Value.slice ua l.length uc).ownBlock = some g) => (show w.heap.size + 1 + 1 + 1 ≤ g ∧ g < w1.heap.size from ⟨by have := (World.ownsRow.lt ho5 g h).1; simpa using this, (World.ownsRow.lt ho5 g h).2⟩))
 have HU3 := Lib.hid (fun g (h : (Value.slice ga a3.length gc).ownBlock = some g) => (show g < w1.heap.size from (World.ownsRow.lt ho3 g h).2))
 clear hb ho3 ho5 BS
 go_wp2_with fail
 refine (HLN.out _).mono ?_
 rintro e w2 ⟨rfl, rfl⟩
 have q0 := BQ1.out.cell 0 (by simp)
 have q1 := BQ1.out.cell 1 (by simp)
 have q2 := BQ1.out.cell 2 (by simp)
 have q3 := BQ1.out.cell 3 (by simp)
 have q4 := BQ1.out.cell 4 (by simp)
 have q5 := BQ1.out.cell 5 (by simp)
 simp only [List.getElem_cons_zero, List.getElem_cons_succ] at q0 q1 q2 q3 q4 q5
 have HRQ := Lib.hid (show rPart 0 (w1.alloc (.cells #[.string ⟨a0.toArray⟩, .bool a1, .bool a2, .slice ga a3.length gc, .int .i64 a4, .slice ua l.length uc] 37)) [.string ⟨a0.toArray⟩, .bool a1, .bool a2, .slice ga a3.length gc, .int .i64 a4, .slice ua l.length uc] ⟨⟨a0, a1, a2, a3, a4⟩, l⟩ from goodPart.mono (oPart_r ⟨_, _, rfl, O3.out, O5.out⟩ HSP.out) (Nat.zero_le _))
 go_wp2_with fail
 refine (HIP.out _ _ HRQ.out).mono ?_
 rintro e w2 ⟨rfl, hb⟩
 have HB2 := Lib.hid (belS HB1.out hb)
 have B42 := Lib.hid (B41.out.below hb)
 have B52 := Lib.hid (B51.out.below hb)
 have BQ2 := Lib.hid (BQ1.out.below hb)
 have P3 := Lib.hid (ownsF_below O3.out hb (Nat.le_refl _))
 have P5 := Lib.hid (ownsF_below O5.out hb (Nat.le_refl _))
 have h4s := hb.size
 simp at h4s
 clear hb q0 q1 q2 q3 q4 q5
 have h3 := H3.out
 try simp only at h3
 have hl3 : ¬ (l.length : Int) = 3 := by omega
 clear h3
 have q0 := BQ2.out.cell 0 (by simp)
 have q1 := BQ2.out.cell 1 (by simp)
 have q2 := BQ2.out.cell 2 (by simp)
 have q3 := BQ2.out.cell 3 (by simp)
 have q4 := BQ2.out.cell 4 (by simp)
 have q5 := BQ2.out.cell 5 (by simp)
 simp only [List.getElem_cons_zero, List.getElem_cons_succ] at q0 q1 q2 q3 q4 q5
 go_wp2_with fail
 refine (HTX.out _).mono ?_
 rintro e w3 ⟨rfl, hb⟩
 have HB3 := Lib.hid ((belS HB2.out hb).alloc (belS HB2.out hb).size (.cells #[.string s, .int .i64 0] 86))
 have B43 := Lib.hid ((B42.out.below hb).alloc (.cells #[.string s, .int .i64 0] 86))
 have B53 := Lib.hid ((B52.out.below hb).alloc (.cells #[.string s, .int .i64 0] 86))
 have BQ3 := Lib.hid ((BQ2.out.below hb).alloc (.cells #[.string s, .int .i64 0] 86))
 have BL3 := Lib.hid (Bx.new w3 [.string s, .int .i64 0] 86)
 have R3 := Lib.hid (ownsF_alloc (ownsF_below P3.out hb (Nat.le_refl _)) (.cells #[.string s, .int .i64 0] 86))
 have R5 := Lib.hid (ownsF_alloc (ownsF_below P5.out hb (Nat.le_refl _)) (.cells #[.string s, .int .i64 0] 86))
 have h5s := hb.size
 clear hb q0 q1 q2 q3 q4 q5
 have HRW := Lib.hid (show rPart 0 (w3.alloc (.cells #[.string s, .int .i64 0] 86)) [.string ⟨a0.toArray⟩, .bool a1, .bool a2, .slice ga a3.length gc, .int .i64 a4, .slice ua l.length uc] ⟨⟨a0, a1, a2, a3, a4⟩, l⟩ from goodPart.mono (oPart_r ⟨_, _, rfl, R3.out, R5.out⟩ HSP.out) (Nat.zero_le _))
 go_wp2_with fail
 refine (HWP.out _ _ _ HRW.out BQ3.out).mono ?_
 rintro e w4 ⟨pv, rfl, hpv, hb⟩
 have HB4 := Lib.hid (belS HB3.out hb)
 have B44 := Lib.hid (B43.out.below hb)
 have B54 := Lib.hid (B53.out.below hb)
 have BQ4 := Lib.hid (BQ3.out.below hb)
 have BL4 := Lib.hid (BL3.out.below hb)
 have S3 := Lib.hid (ownsF_below R3.out hb (Nat.le_refl _))
 have S5 := Lib.hid (ownsF_below R5.out hb (Nat.le_refl _))
 have h6s := hb.size
 simp at h6s
 have HPV := Lib.hid hpv
 have l0 := BL4.out.cell 0 (by simp)
 simp only [List.getElem_cons_zero] at l0
 rw [HNM.out] at l0
 have HWI := Lib.hid (wrapIn_c w3.heap.size 0 q HQ.out pv fp w4 l0 HPV.out)
 clear hb hpv l0
 go_wp2_with fail
 refine HWI.out.mono ?_
 rintro e w5 ⟨hb, hres⟩
 obtain rfl : e = .returned (.tuple #[wrapV w3.heap.size 0 pv q, vReply ⟨0, giveN q, [], 0, 0⟩]) := by
  rcases hres with ⟨_, h⟩ | ⟨h, _⟩
  ·exact h
  ·rw [HO.out] at h; cases h
 generalize wrapV w3.heap.size 0 pv q = nv at *
 unfold vReply
 have HB5 := Lib.hid ((belS HB4.out hb).alloc (belS HB4.out hb).size (.cells #[.int .i64 0, .int .i64 (giveN q), .string ⟨#[]⟩, .int .i64 0, .int .i64 0] 39))
 have B45 := Lib.hid ((B44.out.below hb).alloc (.cells #[.int .i64 0, .int .i64 (giveN q), .string ⟨#[]⟩, .int .i64 0, .int .i64 0] 39))
 have B55 := Lib.hid ((B54.out.below hb).alloc (.cells #[.int .i64 0, .int .i64 (giveN q), .string ⟨#[]⟩, .int .i64 0, .int .i64 0] 39))
 have BQ5 := Lib.hid ((BQ4.out.below hb).alloc (.cells #[.int .i64 0, .int .i64 (giveN q), .string ⟨#[]⟩, .int .i64 0, .int .i64 0] 39))
 have BL5 := Lib.hid ((BL4.out.below hb).alloc (.cells #[.int .i64 0, .int .i64 (giveN q), .string ⟨#[]⟩, .int .i64 0, .int .i64 0] 39))
 have BR5 := Lib.hid (Bx.new w5 [.int .i64 0, .int .i64 (giveN q), .string ⟨#[]⟩, .int .i64 0, .int .i64 0] 39)
 have T3 := Lib.hid (ownsF_alloc (ownsF_below S3.out hb (Nat.le_refl _)) (.cells #[.int .i64 0, .int .i64 (giveN q), .string ⟨#[]⟩, .int .i64 0, .int .i64 0] 39))
 have T5 := Lib.hid (ownsF_alloc (ownsF_below S5.out hb (Nat.le_refl _)) (.cells #[.int .i64 0, .int .i64 (giveN q), .string ⟨#[]⟩, .int .i64 0, .int .i64 0] 39))
 have h7s := hb.size
 clear hb hres
 have t0 := BR5.out.cell 0 (by simp)
 have t1 := BR5.out.cell 1 (by simp)
 have t2 := BR5.out.cell 2 (by simp)
 have t3 := BR5.out.cell 3 (by simp)
 have t4 := BR5.out.cell 4 (by simp)
 simp only [List.getElem_cons_zero, List.getElem_cons_succ] at t0 t1 t2 t3 t4
 have hcl : ∀ j, j < 2 → ((w5.alloc (.cells #[.int .i64 0, .int .i64 (giveN q), .string ⟨#[]⟩, .int .i64 0, .int .i64 0] 39)).alloc (.cells #[.string s, .int .i64 0] 86)).cell? ⟨w5.heap.size + 1, j, none⟩ = (cLayer ⟨s.data.toList, 0⟩)[j]? := cell_newL (w5.alloc (.cells #[.int .i64 0, .int .i64 (giveN q), .string ⟨#[]⟩, .int .i64 0, .int .i64 0] 39)) ⟨s.data.toList, 0⟩ _ (by simp)
 have hlen : (l ++ [(⟨s.data.toList, 0⟩ : LayerD)]).length = l.length + 1 := by simp
 have hcap : l.length ≤ 4194304 := by have := HSZ.out; omega
 have hBs : w.heap.size + 1 + 1 + 1 ≤ ((w5.alloc (.cells #[.int .i64 0, .int .i64 (giveN q), .string ⟨#[]⟩, .int .i64 0, .int .i64 0] 39)).alloc (.cells #[.string s, .int .i64 0] 86)).heap.size := by simp; omega
 have m0 := BL5.out.cell 0 (by simp)
 have m1 := BL5.out.cell 1 (by simp)
 simp only [List.getElem_cons_zero, List.getElem_cons_succ] at m0 m1
 have q0 := BQ5.out.cell 0 (by simp)
 have q1 := BQ5.out.cell 1 (by simp)
 have q2 := BQ5.out.cell 2 (by simp)
 have q3 := BQ5.out.cell 3 (by simp)
 have q4 := BQ5.out.cell 4 (by simp)
 have q5 := BQ5.out.cell 5 (by simp)
 simp only [List.getElem_cons_zero, List.getElem_cons_succ] at q0 q1 q2 q3 q4 q5
 have p0 := BQ5.out.froz 0 (by simp)
 have p1 := BQ5.out.froz 1 (by simp)
 have p2 := BQ5.out.froz 2 (by simp)
 have p3 := BQ5.out.froz 3 (by simp)
 have p4 := BQ5.out.froz 4 (by simp)
 have p5 := BQ5.out.froz 5 (by simp)
 go_wp2_with (at_builtin; refine append_lay rfl _ _ rfl (w.heap.size + 1 + 1 + 1) (.slice ua l.length uc) l ⟨s.data.toList, 0⟩ ((w5.alloc (.cells #[.int .i64 0, .int .i64 (giveN q), .string ⟨#[]⟩, .int .i64 0, .int .i64 0] 39)).alloc (.cells #[.string s, .int .i64 0] 86)) (w5.heap.size + 1) rfl (ownsF_alloc T5.out _) rfl hcl hcap hBs ?_; intro v6 w6 hO6 hg6; obtain ⟨va, vc, rfl⟩ := slice_lenW hO6 hlen; have HO6 := Lib.hid hO6; clear hO6; have HG6 := Lib.hid hg6; clear hg6; have QX := Lib.hid ((BQ5.out.alloc (.cells #[.string s, .int .i64 0] 86)).grown HG6.out (fun e => by have := HU5.out _ e; omega)); have q5' := QX.out.cell 5 (by simp); have p5' := QX.out.froz 5 (by simp); simp only [List.getElem_cons_zero, List.getElem_cons_succ] at q5')
 have B46 := Lib.hid ((B45.out.alloc (.cells #[.string s, .int .i64 0] 86)).grown HG6.out (fun e => by have := HU5.out _ e; omega))
 have B56 := Lib.hid ((B55.out.alloc (.cells #[.string s, .int .i64 0] 86)).grown HG6.out (fun e => by have := HU5.out _ e; omega))
 have BR6 := Lib.hid ((BR5.out.alloc (.cells #[.string s, .int .i64 0] 86)).grown HG6.out (fun e => by have := HU5.out _ e; omega))
 have HB6 := Lib.hid (below_appendF (HB5.out.alloc HB5.out.size _) (ownsF_base (B' := w.heap.size) (ownsF_alloc T5.out _) (by omega)) HG6.out (Nat.le_trans (by omega) hBs))
 have U3 := Lib.hid (ownsF_keptF (ownsF_alloc T3.out _) (ownsF_alloc T5.out _) HG6.out (by decide))
 have hnb : (Value.slice va (l.length + 1) vc).ownBlock ≠ some w1.heap.size := lay_not_bool HO6.out (by rw [hlen]; omega) (QX.out.cell 1 (by simp))
 have B47 := Lib.hid (B46.out.other (c := w1.heap.size) (by omega) 5 (.slice va (l.length + 1) vc))
 have B57 := Lib.hid (B56.out.other (c := w1.heap.size) (by omega) 5 (.slice va (l.length + 1) vc))
 have BR7 := Lib.hid (BR6.out.other (c := w1.heap.size) (by omega) 5 (.slice va (l.length + 1) vc))
 have BQ7 := Lib.hid (QX.out.set 5 (by simp) (.slice va (l.length + 1) vc))
 have HB7 := Lib.hid (HB6.out.setCell (p := ⟨w1.heap.size, 5, none⟩) (by simp; omega) (.slice va (l.length + 1) vc))
 have V3 := Lib.hid (ownsF_setNe (p := ⟨w1.heap.size, 5, none⟩) (u := .slice va (l.length + 1) vc) U3.out (fun e => Nat.lt_irrefl _ (HU3.out _ e)))
 have V5 := Lib.hid (ownsF_setNe (p := ⟨w1.heap.size, 5, none⟩) (u := .slice va (l.length + 1) vc) HO6.out hnb)
 simp only [List.set_cons_succ, List.set_cons_zero] at BQ7
 clear q0 q1 q2 q3 q4 q5 p0 p1 p2 p3 p4 p5 m0 m1 t0 t1 t2 t3 t4 q5' p5' QX HG6 BL5 BQ5 B45 B55 BR5 B46 B56 BR6
 generalize w6.setCell ⟨w1.heap.size, 5, none⟩ (.slice va (l.length + 1) vc) = w7 at *
 have q0 := BQ7.out.cell 0 (by simp)
 have q1 := BQ7.out.cell 1 (by simp)
 have q2 := BQ7.out.cell 2 (by simp)
 have q3 := BQ7.out.cell 3 (by simp)
 have q4 := BQ7.out.cell 4 (by simp)
 have q5 := BQ7.out.cell 5 (by simp)
 simp only [List.getElem_cons_zero, List.getElem_cons_succ] at q0 q1 q2 q3 q4 q5
 have t0 := BR7.out.cell 0 (by simp)
 have t1 := BR7.out.cell 1 (by simp)
 have t2 := BR7.out.cell 2 (by simp)
 have t3 := BR7.out.cell 3 (by simp)
 have t4 := BR7.out.cell 4 (by simp)
 simp only [List.getElem_cons_zero, List.getElem_cons_succ] at t0 t1 t2 t3 t4
 have r0 := B47.out.cell 0 (by simp)
 have r1 := B47.out.cell 1 (by simp)
 have r2 := B47.out.cell 2 (by simp)
 have r3 := B47.out.cell 3 (by simp)
 have r4 := B47.out.cell 4 (by simp)
 have r5 := B47.out.cell 5 (by simp)
 simp only [List.getElem_cons_zero, List.getElem_cons_succ] at r0 r1 r2 r3 r4 r5
 have z0 := B47.out.froz 0 (by simp)
 have z1 := B47.out.froz 1 (by simp)
 have z2 := B47.out.froz 2 (by simp)
 have z3 := B47.out.froz 3 (by simp)
 have z4 := B47.out.froz 4 (by simp)
 have z5 := B47.out.froz 5 (by simp)
 have s0 := B57.out.cell 0 (by simp)
 have s1 := B57.out.cell 1 (by simp)
 have s2 := B57.out.cell 2 (by simp)
 have s3 := B57.out.cell 3 (by simp)
 have s4 := B57.out.cell 4 (by simp)
 simp only [List.getElem_cons_zero, List.getElem_cons_succ] at s0 s1 s2 s3 s4
 have y0 := B57.out.froz 0 (by simp)
 have y1 := B57.out.froz 1 (by simp)
 have y2 := B57.out.froz 2 (by simp)
 have y3 := B57.out.froz 3 (by simp)
 have y4 := B57.out.froz 4 (by simp)
 go_region
 all_goals (try go_wp2_with fail)
 all_goals
  refine bodyPost_ret (v := .tuple #[.agg #[.string ⟨a0.toArray⟩, .bool a1, .bool a2, .slice ga a3.length gc, .int .i64 a4, .slice va (l.length + 1) vc], .agg #[.int .i64 0, .int .i64 (giveN q), .string ⟨#[]⟩, .int .i64 0, .int .i64 0]]) (by simp [results, Tryz.results55, go_sem, cell_set_at, cell_set_ne, t0, t1, t2, t3, t4, r0, r1, r2, r3, r4, r5, s0, s1, s2, s3, s4]) rfl ⟨_, rfl, ⟨_, _, rfl, ?_, ?_⟩, ?_⟩
  ·refine ownsF_base (B := (((w.heap.size + 1) + 1) + 1)) ?_ (by omega)
   repeat (first | with_reducible refine ownsF_set ?_ (by simp; try omega) | with_reducible refine ownsF_drew ?_)
   have h := V3.out
   simpa using h
  ·refine ownsF_base (B := (((w.heap.size + 1) + 1) + 1)) ?_ (by omega)
   repeat (first | with_reducible refine ownsF_set ?_ (by simp; try omega) | with_reducible refine ownsF_drew ?_)
   have h := V5.out
   simpa using h
  ·repeat (first | with_reducible exact HB7.out | with_reducible refine Below.setCell ?_ (by simp; try omega) _ | with_reducible refine Below.drew ?_)
theorem implWrap_any (v : Value) (x : PartD) (s : ByteArray) (w : World) (hx : ValAt rPart 0 w v x) (hs : SmallP x) (hk : ∀ c ∈ x.fCore.fCells, c.fKey.length ≤ maxLen) (hz : s.size ≤ 1048576) :
  Calls Tryz.prog 55 #[v, .string s] w fun e w' => GivesOPR (wrapP x s.data.toList) (wrapR x s.data.toList) w e w' := by
 by_cases hc : 0 ≤ layI s.data.toList
 ·cases hp : partB x with
  | false => exact implWrap_bad2 v x s w hx hs hk hz hc hp
  | true =>
   by_cases h3 : x.fLayers.length = 3
   ·exact implWrap_full v x s w hx hs hk hz hc hp h3
   ·cases ho : offersF (faceP x) (needI (layI s.data.toList)) with
    | false => exact implWrap_fail v x s w hx hs hk hz hc hp h3 ho
    | true => exact implWrap_ok v x s w hx hs hk hz hc hp h3 ho
 ·exact implWrap_bad1 v x s w hx hs hk hz hc
theorem bx_start4 (w : World) (c1 c2 c3 c4 : List Value) (t1 t2 t3 t4 : TypeId) : Bx ((((w.alloc (.cells c1.toArray t1)).alloc (.cells c2.toArray t2)).alloc (.cells c3.toArray t3)).alloc (.cells c4.toArray t4)) w.heap.size c1 ∧ Bx ((((w.alloc (.cells c1.toArray t1)).alloc (.cells c2.toArray t2)).alloc (.cells c3.toArray t3)).alloc (.cells c4.toArray t4)) (w.heap.size + 1) c2 ∧ Bx ((((w.alloc (.cells c1.toArray t1)).alloc (.cells c2.toArray t2)).alloc (.cells c3.toArray t3)).alloc (.cells c4.toArray t4)) (w.heap.size + 1 + 1) c3 ∧ Bx ((((w.alloc (.cells c1.toArray t1)).alloc (.cells c2.toArray t2)).alloc (.cells c3.toArray t3)).alloc (.cells c4.toArray t4)) (w.heap.size + 1 + 1 + 1) c4 ∧ Below w.heap.size w ((((w.alloc (.cells c1.toArray t1)).alloc (.cells c2.toArray t2)).alloc (.cells c3.toArray t3)).alloc (.cells c4.toArray t4)) := by
 obtain ⟨h1, h2, h3, h4⟩ := bx_start3 w c1 c2 c3 t1 t2 t3
 have h := Bx.new (((w.alloc (.cells c1.toArray t1)).alloc (.cells c2.toArray t2)).alloc (.cells c3.toArray t3)) c4 t4
 rw [show (((w.alloc (.cells c1.toArray t1)).alloc (.cells c2.toArray t2)).alloc (.cells c3.toArray t3)).heap.size = w.heap.size + 1 + 1 + 1 by simp] at h
 exact ⟨h1.alloc _, h2.alloc _, h3.alloc _, h, belS h4 (bx_box _ _)⟩
theorem pst_new {N : Nat} {w : World} {v3 v5 : Value} {p : PartD} (h3 : OwnsF cCell 139 2 w N v3 p.fCore.fCells) (h5 : OwnsF cLayer 86 2 w N v5 p.fLayers) (hN : N ≤ w.heap.size) :
  PSt N w.heap.size v5 v3 p (w.alloc (.cells #[.string ⟨p.fCore.fKind.toArray⟩, .bool p.fCore.fOn, .bool p.fCore.fBroken, v3, .int .i64 p.fCore.fCount, v5] 37)) := by
 have hb := Bx.new w [.string ⟨p.fCore.fKind.toArray⟩, .bool p.fCore.fOn, .bool p.fCore.fBroken, v3, .int .i64 p.fCore.fCount, v5] 37
 have c0 := hb.cell 0 (by simp)
 have c1 := hb.cell 1 (by simp)
 have c2 := hb.cell 2 (by simp)
 have c3 := hb.cell 3 (by simp)
 have c4 := hb.cell 4 (by simp)
 have c5 := hb.cell 5 (by simp)
 simp only [List.getElem_cons_zero, List.getElem_cons_succ] at c0 c1 c2 c3 c4 c5
 exact ⟨⟨⟨c0, c1, c2, c3, c4, hb.froz 1 (by simp), hb.froz 2 (by simp), hb.froz 3 (by simp), hb.froz 4 (by simp)⟩, ownsF_alloc h3 _, fun e => by have := (World.ownsRow.lt h3 _ e).2; omega, hN⟩, c5, ownsF_alloc h5 _, fun e => by have := (World.ownsRow.lt h5 _ e).2; omega⟩
set_option maxRecDepth 100000 in
set_option maxHeartbeats 3200000 in
theorem implCallPart_c (v : Value) (p : PartD) (x : CallD) (mx : Int) (w : World) (hx : ValAt rPart 0 w v p) (hs : SmallP p) (hk : x.fKey.length ≤ 1048576) (ht : x.fText.length ≤ 1048576) (hM : w.cell? ⟨0, 0, none⟩ = some (.int .i64 mx)) :
  Calls Tryz.prog 20 #[v, vCall x] w fun e w' => GivesOPR (chgP p x).1 (chgP p x).2 w e w' := by
 obtain ⟨_, rfl, hx⟩ := hx
 have HX := Lib.hid (fun W (hb : Below w.heap.size w W) => goodPart.keep hx (kept_below hb (Nat.le_refl _)))
 have HCP := Lib.hid (fun cs W (h : rPart 0 W cs p) => copyPart_c (.agg cs.toArray) p W ⟨cs, rfl, h⟩ hs)
 have hGl := World.block_lt_of_cell? w _ hM
 simp only at hGl
 have HMX := Lib.hid (fun W (hw : Below w.heap.size w W) => (hw.cell (p := ⟨0, 0, none⟩) hGl).trans hM)
 have HCH := Lib.hid (fun N b lv cv W (st : PSt N b lv cv p W) (hN : N ≤ W.heap.size) (hw : Below w.heap.size w W) (hg : w.heap.size ≤ N) =>
  changePart_c mx N b lv cv p x W ⟨st, hN, hs.cells, hs.lays, fun c hc => Nat.le_trans (hs.keys c hc) (by decide), Nat.lt_of_lt_of_le hGl hg, HMX.out W hw⟩ hk ht)
 clear hM
 unfold GivesOPR
 unfold GivesOP at HCP
 have HNW := Lib.hid (fun W (v3 v5 : Value) (h3 : OwnsF cCell 139 2 W (w.heap.size + 1 + 1 + 1 + 1) v3 p.fCore.fCells) (h5 : OwnsF cLayer 86 2 W (w.heap.size + 1 + 1 + 1 + 1) v5 p.fLayers) (hN : w.heap.size + 1 + 1 + 1 + 1 ≤ W.heap.size) => pst_new h3 h5 hN)
 generalize chgP p x = out at *
 obtain ⟨q, t0, t1, t2, t3, t4⟩ := out
 obtain ⟨xm, xk, xn, xt⟩ := x
 obtain ⟨⟨a0, a1, a2, a3, a4⟩, l⟩ := p
 obtain ⟨v3, v5, rfl, h3, h5⟩ := hx
 unfold vCall vReply
 unfold vCall at HCH
 simp only at h3 h5 HCH HNW
 obtain ⟨ra, rc, rfl, _⟩ := sliceAt_len h3
 obtain ⟨sa, sc, rfl, hl, hcap⟩ := sliceAt_cap h5
 clear h3 h5 hs hcap hl hk ht
 have BS := Lib.hid (bx_start4 w [.string ⟨a0.toArray⟩, .bool a1, .bool a2, .slice ra a3.length rc, .int .i64 a4, .slice sa l.length sc] [.string ⟨xm.toArray⟩, .string ⟨xk.toArray⟩, .int .i64 xn, .string ⟨xt.toArray⟩] [.string ⟨#[]⟩, .bool false, .bool false, .slice none 0 0, .int .i64 0, .slice none 0 0] [.int .i64 0, .int .i64 0, .string ⟨#[]⟩, .int .i64 0, .int .i64 0] 37 43 37 39)
 have HR0 := Lib.hid (HX.out _ BS.out.2.2.2.2)
 clear HX
 go_enter Tryz.func20, Tryz.ntmps20
 go_wp2_with fail
 refine (HCP.out _ _ HR0.out).mono ?_
 rintro e w1 ⟨_, rfl, ⟨u3, u5, rfl, ho3, ho5⟩, hb⟩
 simp only at ho3 ho5
 obtain ⟨ga, gc, rfl⟩ := slice_of ho3
 obtain ⟨ua, uc, rfl⟩ := slice_of ho5
 have B1 := Lib.hid ((BS.out.2.1.below hb).alloc (.cells #[.string ⟨a0.toArray⟩, .bool a1, .bool a2, .slice ga a3.length gc, .int .i64 a4, .slice ua l.length uc] 37))
 have B2 := Lib.hid ((BS.out.2.2.1.below hb).alloc (.cells #[.string ⟨a0.toArray⟩, .bool a1, .bool a2, .slice ga a3.length gc, .int .i64 a4, .slice ua l.length uc] 37))
 have B3 := Lib.hid ((BS.out.2.2.2.1.below hb).alloc (.cells #[.string ⟨a0.toArray⟩, .bool a1, .bool a2, .slice ga a3.length gc, .int .i64 a4, .slice ua l.length uc] 37))
 have h3s := hb.size
 simp at h3s
 have HB1 := Lib.hid ((belS BS.out.2.2.2.2 hb).alloc (belS BS.out.2.2.2.2 hb).size (.cells #[.string ⟨a0.toArray⟩, .bool a1, .bool a2, .slice ga a3.length gc, .int .i64 a4, .slice ua l.length uc] 37))
 have HP1 := Lib.hid (HNW.out w1 _ _ (ownsF_base (B' := w.heap.size + 1 + 1 + 1 + 1) ho3 (by simp)) (ownsF_base (B' := w.heap.size + 1 + 1 + 1 + 1) ho5 (by simp)) (by omega))
 clear hb ho3 ho5 BS HNW HCP HR0
 have b0 := B1.out.cell 0 (by simp)
 have b1 := B1.out.cell 1 (by simp)
 have b2 := B1.out.cell 2 (by simp)
 have b3 := B1.out.cell 3 (by simp)
 simp only [List.getElem_cons_zero, List.getElem_cons_succ] at b0 b1 b2 b3
 have hb1l : w.heap.size + 1 < w1.heap.size := by omega
 go_wp2_with fail
 refine (HCH.out _ _ _ _ _ HP1.out (by simp; omega) HB1.out (by omega)).mono ?_
 rintro e w3 ⟨rfl, cv, hp3, hk3⟩
 have KB := Lib.hid hk3.toBelow
 replace B2 := Lib.hid (B2.out.belowK KB.out (by omega))
 replace B3 := Lib.hid (B3.out.belowK KB.out (by omega))
 have HB3 := Lib.hid (show Below w.heap.size w w3 from HB1.out.trans (hk3.toBelow.mono (by omega)))
 have O3 := Lib.hid hp3.core.own
 have O5 := Lib.hid hp3.own
 obtain ⟨ca, cc, rfl⟩ := slice_of hp3.core.own
 obtain ⟨p0, p1, p2, p3, p4, _, _, _, _⟩ := hp3.core.box
 have p5 := hp3.c5
 have hpl := hp3.core.box.lt
 clear hk3 hp3 HCH HP1 b0 b1 b2 b3 B1
 obtain ⟨⟨q0, q1, q2, q3, q4⟩, ql⟩ := q
 simp only at *
 have c0 := B2.out.cell 0 (by simp)
 have c1 := B2.out.cell 1 (by simp)
 have c2 := B2.out.cell 2 (by simp)
 have c3 := B2.out.cell 3 (by simp)
 have c4 := B2.out.cell 4 (by simp)
 have c5 := B2.out.cell 5 (by simp)
 simp only [List.getElem_cons_zero, List.getElem_cons_succ] at c0 c1 c2 c3 c4 c5
 have fc0 := B2.out.froz 0 (by simp)
 have fc1 := B2.out.froz 1 (by simp)
 have fc2 := B2.out.froz 2 (by simp)
 have fc3 := B2.out.froz 3 (by simp)
 have fc4 := B2.out.froz 4 (by simp)
 have fc5 := B2.out.froz 5 (by simp)
 have d0 := B3.out.cell 0 (by simp)
 have d1 := B3.out.cell 1 (by simp)
 have d2 := B3.out.cell 2 (by simp)
 have d3 := B3.out.cell 3 (by simp)
 have d4 := B3.out.cell 4 (by simp)
 simp only [List.getElem_cons_zero, List.getElem_cons_succ] at d0 d1 d2 d3 d4
 have fd0 := B3.out.froz 0 (by simp)
 have fd1 := B3.out.froz 1 (by simp)
 have fd2 := B3.out.froz 2 (by simp)
 have fd3 := B3.out.froz 3 (by simp)
 have fd4 := B3.out.froz 4 (by simp)
 have hB2l := B2.out.lt
 have hB3l := B3.out.lt
 have hd1 : ¬ w1.heap.size = w.heap.size + 1 + 1 := by omega
 have hd2 : ¬ w1.heap.size = w.heap.size + 1 + 1 + 1 := by omega
 have hd3 : ¬ w.heap.size + 1 + 1 = w1.heap.size := by omega
 have hd4 : ¬ w.heap.size + 1 + 1 + 1 = w1.heap.size := by omega
 have hp2 := @past_cell (w.heap.size + 1 + 1)
 have hp3 := @past_cell (w.heap.size + 1 + 1 + 1)
 have hpc := @past_cell w1.heap.size
 have hf2 := @past_frozen (w.heap.size + 1 + 1)
 have hf3 := @past_frozen (w.heap.size + 1 + 1 + 1)
 have hd5 : ¬ w3.heap.size = w.heap.size + 1 + 1 := by omega
 have hd6 : ¬ w3.heap.size = w.heap.size + 1 + 1 + 1 := by omega
 have hd7 : ¬ w.heap.size + 1 + 1 = w3.heap.size := by omega
 have hd8 : ¬ w.heap.size + 1 + 1 + 1 = w3.heap.size := by omega
 have hd9 : ¬ w1.heap.size = w3.heap.size := by omega
 unfold vReply
 simp only
 go_wp2_with fail
 go_region
 all_goals (try go_wp2_with fail)
 all_goals
  clear c0 c1 c2 c3 c4 c5 fc0 fc1 fc2 fc3 fc4 fc5 d0 d1 d2 d3 d4 fd0 fd1 fd2 fd3 fd4 p0 p1 p2 p3 p4 p5
  have E4 := Lib.hid ((((B2.out.put6 (.string ⟨q0.toArray⟩) (.bool q1) (.bool q2) (.slice ca q3.length cc) (.int .i64 q4) (.slice ua l.length uc)).put5o (c := w.heap.size + 1 + 1 + 1) (by omega) (.int .i64 t0) (.int .i64 t1) (.string ⟨t2.toArray⟩) (.int .i64 t3) (.int .i64 t4)).alloc (.cells #[.int .i64 t0, .int .i64 t1, .string ⟨t2.toArray⟩, .int .i64 t3, .int .i64 t4] 39)).dr)
  have E5 := Lib.hid ((((B3.out.put6o (c := w.heap.size + 1 + 1) (by omega) (.string ⟨q0.toArray⟩) (.bool q1) (.bool q2) (.slice ca q3.length cc) (.int .i64 q4) (.slice ua l.length uc)).put5 (.int .i64 t0) (.int .i64 t1) (.string ⟨t2.toArray⟩) (.int .i64 t3) (.int .i64 t4)).alloc (.cells #[.int .i64 t0, .int .i64 t1, .string ⟨t2.toArray⟩, .int .i64 t3, .int .i64 t4] 39)).dr)
  have EB0 := Lib.hid (below_put5 (below_put6 HB3.out (w.heap.size + 1 + 1) (by omega) (.string ⟨q0.toArray⟩) (.bool q1) (.bool q2) (.slice ca q3.length cc) (.int .i64 q4) (.slice ua l.length uc)) (w.heap.size + 1 + 1 + 1) (by omega) (.int .i64 t0) (.int .i64 t1) (.string ⟨t2.toArray⟩) (.int .i64 t3) (.int .i64 t4))
  have EB := Lib.hid (bel_dr (EB0.out.alloc EB0.out.size (.cells #[.int .i64 t0, .int .i64 t1, .string ⟨t2.toArray⟩, .int .i64 t3, .int .i64 t4] 39)))
  have OC := Lib.hid (ownsF_drew (ownsF_alloc (ownsF_put5 (ownsF_put6 O3.out (w.heap.size + 1 + 1) (by omega) (.string ⟨q0.toArray⟩) (.bool q1) (.bool q2) (.slice ca q3.length cc) (.int .i64 q4) (.slice ua l.length uc)) (w.heap.size + 1 + 1 + 1) (by omega) (.int .i64 t0) (.int .i64 t1) (.string ⟨t2.toArray⟩) (.int .i64 t3) (.int .i64 t4)) (.cells #[.int .i64 t0, .int .i64 t1, .string ⟨t2.toArray⟩, .int .i64 t3, .int .i64 t4] 39)))
  have OL := Lib.hid (ownsF_drew (ownsF_alloc (ownsF_put5 (ownsF_put6 O5.out (w.heap.size + 1 + 1) (by omega) (.string ⟨q0.toArray⟩) (.bool q1) (.bool q2) (.slice ca q3.length cc) (.int .i64 q4) (.slice ua l.length uc)) (w.heap.size + 1 + 1 + 1) (by omega) (.int .i64 t0) (.int .i64 t1) (.string ⟨t2.toArray⟩) (.int .i64 t3) (.int .i64 t4)) (.cells #[.int .i64 t0, .int .i64 t1, .string ⟨t2.toArray⟩, .int .i64 t3, .int .i64 t4] 39)))
  clear EB0
  generalize (((((((((((((w3).setCell ⟨w.heap.size + 1 + 1, 0, none⟩ (.string ⟨q0.toArray⟩)).setCell ⟨w.heap.size + 1 + 1, 1, none⟩ (.bool q1)).setCell ⟨w.heap.size + 1 + 1, 2, none⟩ (.bool q2)).setCell ⟨w.heap.size + 1 + 1, 3, none⟩ (.slice ca q3.length cc)).setCell ⟨w.heap.size + 1 + 1, 4, none⟩ (.int .i64 q4)).setCell ⟨w.heap.size + 1 + 1, 5, none⟩ (.slice ua l.length uc)).setCell ⟨w.heap.size + 1 + 1 + 1, 0, none⟩ (.int .i64 t0)).setCell ⟨w.heap.size + 1 + 1 + 1, 1, none⟩ (.int .i64 t1)).setCell ⟨w.heap.size + 1 + 1 + 1, 2, none⟩ (.string ⟨t2.toArray⟩)).setCell ⟨w.heap.size + 1 + 1 + 1, 3, none⟩ (.int .i64 t3)).setCell ⟨w.heap.size + 1 + 1 + 1, 4, none⟩ (.int .i64 t4)).alloc (.cells #[.int .i64 t0, .int .i64 t1, .string ⟨t2.toArray⟩, .int .i64 t3, .int .i64 t4] 39)).drew = WE at *
  have r0 := E4.out.cell 0 (by simp)
  have r1 := E4.out.cell 1 (by simp)
  have r2 := E4.out.cell 2 (by simp)
  have r3 := E4.out.cell 3 (by simp)
  have r4 := E4.out.cell 4 (by simp)
  have r5 := E4.out.cell 5 (by simp)
  simp only [List.getElem_cons_zero, List.getElem_cons_succ] at r0 r1 r2 r3 r4 r5
  have s0 := E5.out.cell 0 (by simp)
  have s1 := E5.out.cell 1 (by simp)
  have s2 := E5.out.cell 2 (by simp)
  have s3 := E5.out.cell 3 (by simp)
  have s4 := E5.out.cell 4 (by simp)
  simp only [List.getElem_cons_zero, List.getElem_cons_succ] at s0 s1 s2 s3 s4
  exact bodyPost_ret (v := .tuple #[.agg #[.string ⟨q0.toArray⟩, .bool q1, .bool q2, .slice ca q3.length cc, .int .i64 q4, .slice ua l.length uc], .agg #[.int .i64 t0, .int .i64 t1, .string ⟨t2.toArray⟩, .int .i64 t3, .int .i64 t4]]) (by simp [results, Tryz.results20, go_sem, r0, r1, r2, r3, r4, r5, s0, s1, s2, s3, s4]) rfl ⟨[.string ⟨q0.toArray⟩, .bool q1, .bool q2, .slice ca q3.length cc, .int .i64 q4, .slice ua l.length uc], rfl, ⟨_, _, rfl, ownsF_base OC.out (by omega), ownsF_base OL.out (by omega)⟩, EB.out⟩
structure TopL (q p : PartD) (y : LayerD) (j : Nat) : Prop where
 eq : q = appP p [y]
 part : partB q = true
 nm : y.fName = layN j
 face : faceP q = giveN j
theorem TopL.len {q p : PartD} {y : LayerD} {j : Nat} (h : TopL q p y j) : q.fLayers.length = p.fLayers.length + 1 := by rw [h.eq]; simp [appP]
theorem TopL.nmL {q p : PartD} {y : LayerD} {j : Nat} (h : TopL q p y j) : nmL q p.fLayers.length = layN j := by rw [← h.nm, h.eq]; unfold Go.Proofs.YtcpbikilgacdlaaGreat.nmL appP; simp [List.getD_eq_getElem?_getD]
theorem TopL.cnt {q p : PartD} {y : LayerD} {j : Nat} (h : TopL q p y j) : cntL q p.fLayers.length = y.fCount := by rw [h.eq]; unfold cntL appP; simp [List.getD_eq_getElem?_getD]
theorem topL_wrap {p : PartD} {s : List UInt8} {j : Nat} (h : wrapI p s = 0) (hj : layI s = j) (hs : s = layN j) : TopL (wrapP p s) p ⟨s, 0⟩ j :=
 ⟨(wrapQ_of h hj).eq, (wrapQ_of h hj).qpart, hs, (wrapQ_of h hj).qface⟩
theorem TopL.inner {q p : PartD} {y : LayerD} {j : Nat} (h : TopL q p y j) (x : CallD) : lyDo p.fLayers.length q x = (appP (lyDo p.fLayers.length p x).1 [y], (lyDo p.fLayers.length p x).2) := by
 rw [h.eq]; exact lyDo_app _ _ _ _ (Nat.le_refl _)
theorem TopL.upd {p : PartD} {y : LayerD} : updL (appP p [y]) p.fLayers.length = appP p [⟨y.fName, upI y.fCount⟩] := by
 unfold updL appP
 simp only [List.getD_eq_getElem?_getD]
 simp
theorem off6 : ∀ j : _root_.Fin 9, offersF (giveN 3) (wantF (mtN4 j)) = true → mtN4 j = mTell ∨ keptB (mtN4 j) = true := by decide +kernel
theorem kept_off6 : offersF (giveN 3) 2 = true := by decide +kernel
theorem cnt_step {q p : PartD} {n : Int} {x : CallD} (h : TopL q p ⟨nCounts, n⟩ 3) (hx : callB x = true) (hn : n < 999) :
  ∃ p', TopL (chgP q x).1 p' ⟨nCounts, if keptB x.fMethod = true then n + 1 else n⟩ 3 := by
 have hp := chg_part x h.part
 have hf := chg_face q x
 rw [h.face] at hf
 cases ho : offersF (faceP q) (wantF x.fMethod) with
 | false =>
  have hk : ¬ keptB x.fMethod = true := fun hk => by rw [h.face, want_kept hk, kept_off6] at ho; cases ho
  rw [chg_no h.part hx ho, if_neg hk]; exact ⟨p, h⟩
 | true =>
  rw [chg_yes h.part hx ho] at hp hf ⊢
  rw [h.len] at hp hf ⊢
  obtain ⟨i, hi⟩ := mth_of hx
  have ho2 := ho
  rw [h.face, hi] at ho2
  rcases off6 i ho2 with h1 | h1
  ·have hk : ¬ keptB x.fMethod = true := by rw [hi, h1]; decide
   have e : lyDo (p.fLayers.length + 1) q x = (q, ⟨0, cntL q p.fLayers.length, [], 0, 0⟩) := if_pos ⟨h.nmL, hi.trans h1⟩
   rw [e, if_neg hk]; exact ⟨p, h⟩
  ·have hk : keptB x.fMethod = true := by rw [hi]; exact h1
   have hnt : ¬ x.fMethod = mTell := fun e => by rw [e] at hk; exact absurd hk (by decide)
   have e : lyDo (p.fLayers.length + 1) q x = (updL (lyDo p.fLayers.length q x).1 p.fLayers.length, (lyDo p.fLayers.length q x).2) := by
    show (if _ then _ else if _ then _ else _) = _
    rw [if_neg (fun h => hnt h.2), if_pos ⟨h.nmL, hk⟩]
   rw [e, h.inner] at hp hf ⊢
   simp only at hp hf ⊢
   have hl : p.fLayers.length = (lyDo p.fLayers.length p x).1.fLayers.length := (lyDo_len _ _ _).symm
   rw [show updL (appP (lyDo p.fLayers.length p x).1 [⟨nCounts, n⟩]) p.fLayers.length = appP (lyDo p.fLayers.length p x).1 [⟨nCounts, n + 1⟩] from by
    have := TopL.upd (p := (lyDo p.fLayers.length p x).1) (y := ⟨nCounts, n⟩)
    rw [← hl] at this
    rw [this]; unfold upI; rw [if_pos hn]] at hp hf ⊢
   rw [if_pos hk]
   exact ⟨_, rfl, hp, h.nm, hf⟩
theorem cnt_tell {q p : PartD} {n : Int} (h : TopL q p ⟨nCounts, n⟩ 3) : (chgP q (cX mTell)).2 = ⟨0, n, [], 0, 0⟩ := by
 have ho : offersF (faceP q) (wantF (cX mTell).fMethod) = true := by rw [h.face]; decide +kernel
 rw [chg_yes h.part tell_ok ho, h.len]
 have e : lyDo (p.fLayers.length + 1) q (cX mTell) = (q, ⟨0, cntL q p.fLayers.length, [], 0, 0⟩) := if_pos ⟨h.nmL, rfl⟩
 rw [e, h.cnt]
theorem off3_lazy : ∀ j : _root_.Fin 9, offersF (giveN j) 3 = true → (j : Nat) = 4 := by decide +kernel
theorem idle_cases (d : CoreD) : (d.fBroken = true ∧ idleI d = 3) ∨ (d.fBroken = false ∧ d.fOn = false ∧ hasI (coreF d) 0 = true ∧ idleI d = 2) ∨ (d.fBroken = false ∧ idleI d = 0) := by
 unfold idleI
 cases h1 : d.fBroken with
 | true => left; simp
 | false =>
  right
  cases h2 : d.fOn <;> cases h3 : hasI (coreF d) 0 <;> simp
theorem kept_core {d : CoreD} {x : CallD} (hd : coreB d = true) (hx : callB x = true) (hk : keptB x.fMethod = true) (ho : offersF (coreF d) 2 = true) :
  ((doD d x).2.fCode = 2 → (doD d x).1 = d ∧ d.fBroken = false ∧ d.fOn = false) ∧ (d.fBroken = false → (doD d x).1.fBroken = false ∧ (doD d x).2.fCode ≠ 3) ∧ (d.fOn = true → (doD d x).2.fCode ≠ 2) := by
 have e : doD d x = mthD d x := doD_good hd hx (by rw [want_kept hk]; exact ho)
 rw [e]
 unfold keptB at hk
 rw [Bool.or_eq_true, beq_iff_eq, beq_iff_eq] at hk
 rcases hk with hm | hm
 ·rw [mthD_Get hm]
  unfold getD1
  rcases idle_cases d with ⟨h1, h2⟩ | ⟨h1, h2, h3, h4⟩ | ⟨h1, h2⟩
  ·rw [h2, if_neg (by decide)]; exact ⟨fun h => absurd h (by show ¬ (3 : Int) = 2; decide), fun h => (by rw [h1] at h; cases h), fun _ => by show (3 : Int) ≠ 2; decide⟩
  ·rw [h4, if_neg (by decide)]; exact ⟨fun _ => ⟨rfl, h1, h2⟩, fun _ => ⟨h1, by show (2 : Int) ≠ 3; decide⟩, fun h => by rw [h2] at h; cases h⟩
  ·rw [if_pos h2]
   split
   ·exact ⟨fun h => absurd h (by show ¬ (0 : Int) = 2; decide), fun _ => ⟨h1, by show (0 : Int) ≠ 3; decide⟩, fun _ => by show (0 : Int) ≠ 2; decide⟩
   ·exact ⟨fun h => absurd h (by show ¬ (4 : Int) = 2; decide), fun _ => ⟨h1, by show (4 : Int) ≠ 3; decide⟩, fun _ => by show (4 : Int) ≠ 2; decide⟩
 ·rw [mthD_Put hm]
  unfold putD
  rcases idle_cases d with ⟨h1, h2⟩ | ⟨h1, h2, h3, h4⟩ | ⟨h1, h2⟩
  ·rw [h2, if_neg (by decide)]; exact ⟨fun h => absurd h (by show ¬ (3 : Int) = 2; decide), fun h => (by rw [h1] at h; cases h), fun _ => by show (3 : Int) ≠ 2; decide⟩
  ·rw [h4, if_neg (by decide)]; exact ⟨fun _ => ⟨rfl, h1, h2⟩, fun _ => ⟨h1, by show (2 : Int) ≠ 3; decide⟩, fun h => by rw [h2] at h; cases h⟩
  ·rw [if_pos h2]
   split
   ·exact ⟨fun h => absurd h (by show ¬ (0 : Int) = 2; decide), fun _ => ⟨h1, by show (0 : Int) ≠ 3; decide⟩, fun _ => by show (0 : Int) ≠ 2; decide⟩
   ·exact ⟨fun h => absurd h (by show ¬ (5 : Int) = 2; decide), fun _ => ⟨h1, by show (5 : Int) ≠ 3; decide⟩, fun _ => by show (5 : Int) ≠ 2; decide⟩
theorem lazy_chain : ∀ (n : Nat) (p : PartD) (x : CallD), n ≤ p.fLayers.length → partB p = true → callB x = true → keptB x.fMethod = true → offersF (faceN p n) 3 = true →
  (1 ≤ n → (lyDo n p x).2.fCode ≠ 2) ∧ (p.fCore.fBroken = false → (lyDo n p x).1.fCore.fBroken = false ∧ (lyDo n p x).2.fCode ≠ 3) := by
 intro n
 induction n with
 | zero =>
  intro p x _ hp hx hk ho
  have ho2 := (offers_3 (faceN_face p 0) ho).2
  exact ⟨fun h => by omega, (kept_core (partB_core hp) hx hk ho2).2.1⟩
 | succ n ih =>
  intro p x hn hp hx hk ho
  have hn' : n < p.fLayers.length := by omega
  obtain ⟨j, hj, h1, h2, h3⟩ := lay_of hp n hn'
  have hj4 := off3_lazy ⟨j, hj⟩ (by rw [← h2]; exact ho)
  simp only at hj4
  subst hj4
  have hb := ((below_off hp n hn').2.1 h1).2.2
  have hI := ih p x (by omega) hp hx hk hb
  have e : lyDo (n + 1) p x = if (lyDo n p x).2.fCode = 2 then lyDo n (lyDo n (lyDo n p x).1 (cX mStart)).1 x else lyDo n p x := by
   show (if _ then _ else if _ then _ else if _ then _ else _) = _
   rw [h1, if_neg (fun h => absurd h.1 (by decide)), if_neg (fun h => absurd h.1 (by decide)), if_pos ⟨rfl, hk⟩]
  rw [e]
  by_cases hc : (lyDo n p x).2.fCode = 2
  ·rw [if_pos hc]
   have hn0 : n = 0 := by
    rcases Nat.eq_zero_or_pos n with h | h
    ·exact h
    ·exact absurd hc (hI.1 h)
   subst hn0
   have hcore := partB_core hp
   have hof := offers_3 (faceN_face p 0) hb
   obtain ⟨k1, k2, k3⟩ := kept_core hcore hx hk hof.2
   obtain ⟨c1, c2, c3⟩ := k1 hc
   have es : doD p.fCore (cX mStart) = ({ p.fCore with fOn := true, fCount := upI p.fCore.fCount }, rC 0) := by
    rw [doD_good hcore start_ok (by show offersF (coreF p.fCore) 1 = true; exact hof.1), mthD_Start rfl]
    unfold startD; rw [if_neg (by rw [c2]; decide), if_neg (by rw [c3]; decide)]
   show (1 ≤ 0 + 1 → (doD (doD (doD p.fCore x).1 (cX mStart)).1 x).2.fCode ≠ 2) ∧ (p.fCore.fBroken = false → (doD (doD (doD p.fCore x).1 (cX mStart)).1 x).1.fBroken = false ∧ (doD (doD (doD p.fCore x).1 (cX mStart)).1 x).2.fCode ≠ 3)
   rw [c1, es]
   have hcs := doD_core (cX mStart) hcore
   rw [es] at hcs
   obtain ⟨m1, m2, m3⟩ := kept_core hcs hx hk (by exact hof.2)
   exact ⟨fun _ => m3 rfl, fun _ => m2 c2⟩
  ·rw [if_neg hc]; exact ⟨fun _ => hc, hI.2⟩
theorem off_g4 : offersF (giveN 4) 3 = true := by decide +kernel
theorem lazy_step {q p : PartD} {x : CallD} (h : TopL q p ⟨nLazy, 0⟩ 4) (hx : callB x = true) :
  (∃ p', TopL (chgP q x).1 p' ⟨nLazy, 0⟩ 4) ∧ (keptB x.fMethod = true → (chgP q x).2.fCode ≠ 2 ∧ (q.fCore.fBroken = false → (chgP q x).1.fCore.fBroken = false ∧ (chgP q x).2.fCode ≠ 3)) := by
 have hp := chg_part x h.part
 have hf := chg_face q x
 rw [h.face] at hf
 cases ho : offersF (faceP q) (wantF x.fMethod) with
 | false =>
  have hk : ¬ keptB x.fMethod = true := fun hk => by rw [h.face, want_kept hk] at ho; exact absurd ho (by decide +kernel)
  rw [chg_no h.part hx ho]; exact ⟨⟨p, h⟩, fun hk2 => absurd hk2 hk⟩
 | true =>
  rw [chg_yes h.part hx ho] at hp hf ⊢
  have hch := lazy_chain q.fLayers.length q x (Nat.le_refl _) h.part hx
  rw [h.len] at hp hf hch ⊢
  refine ⟨?_, fun hk => ⟨(hch hk (by rw [← h.len]; show offersF (faceP q) 3 = true; rw [h.face]; exact off_g4)).1 (by omega), (hch hk (by rw [← h.len]; show offersF (faceP q) 3 = true; rw [h.face]; exact off_g4)).2⟩⟩
  have e : ∀ z c, ∃ p', (lyDo p.fLayers.length (appP z [⟨nLazy, 0⟩]) c).1 = appP p' [⟨nLazy, 0⟩] ∨ ¬ z.fLayers.length = p.fLayers.length := fun z c => by
   by_cases hz : z.fLayers.length = p.fLayers.length
   ·exact ⟨_, Or.inl (by rw [lyDo_app _ _ _ _ (by omega)])⟩
   ·exact ⟨z, Or.inr hz⟩
  have e2 : ∀ z c, z.fLayers.length = p.fLayers.length → lyDo p.fLayers.length (appP z [⟨nLazy, 0⟩]) c = (appP (lyDo p.fLayers.length z c).1 [⟨nLazy, 0⟩], (lyDo p.fLayers.length z c).2) := fun z c hz => lyDo_app _ _ _ _ (by omega)
  have hL : ∀ z c, (lyDo p.fLayers.length z c).1.fLayers.length = z.fLayers.length := fun z c => lyDo_len _ _ _
  have key : ∃ p', (lyDo (p.fLayers.length + 1) q x).1 = appP p' [⟨nLazy, 0⟩] := by
   by_cases hw : ownB (Go.Proofs.YtcpbikilgacdlaaGreat.nmL q p.fLayers.length) x.fMethod = true
   ·rw [h.nmL] at hw
    have hk : keptB x.fMethod = true := by
     unfold ownB at hw
     simp only [Bool.or_eq_true, Bool.and_eq_true, beq_iff_eq] at hw
     rcases hw with ((((⟨a, b⟩ | ⟨a, b⟩) | ⟨a, b⟩) | ⟨a, b⟩) | ⟨a, b⟩) | ⟨a, b⟩
     ·exact absurd a (by decide)
     ·exact b
     ·exact absurd a (by decide)
     ·exact absurd a (by decide)
     ·exact absurd a (by decide)
     ·exact absurd a (by decide)
    have e3 : lyDo (p.fLayers.length + 1) q x = if (lyDo p.fLayers.length q x).2.fCode = 2 then lyDo p.fLayers.length (lyDo p.fLayers.length (lyDo p.fLayers.length q x).1 (cX mStart)).1 x else lyDo p.fLayers.length q x := by
     show (if _ then _ else if _ then _ else if _ then _ else _) = _
     rw [h.nmL, if_neg (fun h => absurd h.1 (by decide)), if_neg (fun h => absurd h.1 (by decide)), if_pos ⟨rfl, hk⟩]
    rw [e3, h.eq]
    split
    ·rw [e2 p x rfl]; simp only
     rw [e2 _ (cX mStart) (hL _ _)]; simp only
     rw [e2 _ x (by rw [hL, hL])]
     exact ⟨_, rfl⟩
    ·rw [e2 p x rfl]; exact ⟨_, rfl⟩
   ·rw [lyDo_skip _ _ _ (by simpa using hw), h.eq, e2 p x rfl]; exact ⟨_, rfl⟩
  obtain ⟨p', hp'⟩ := key
  exact ⟨p', hp', hp, rfl, hf⟩
end Go.Proofs.YtcpbikilgacdlaaGreat
namespace Go.Proofs.YtcpbikilgacdlaaGreat
set_option linter.unusedVariables false
open Go.RowKit
theorem belD {B : Nat} {a w : World} (h : Below B a w) : Below B a w.drew := ⟨h.os, h.tape, h.output, h.size, h.block⟩
def OwnR {α : Type} (f : α → List Value) (E k : Nat) (w : World) (lo hi : Nat) (v : Value) (l : List α) : Prop := OwnsF f E k w lo v l ∧ ∀ g, v.ownBlock = some g → g < hi
theorem ownR_of {α : Type} {f : α → List Value} {E k : Nat} {w : World} {lo : Nat} {v : Value} {l : List α} (h : OwnsF f E k w lo v l) : OwnR f E k w lo w.heap.size v l := ⟨h, fun g hg => (World.ownsRow.lt h g hg).2⟩
theorem ownR_below {α : Type} {f : α → List Value} {E k : Nat} {w w' : World} {lo hi B' : Nat} {v : Value} {l : List α} (h : OwnR f E k w lo hi v l) (hb : Below B' w w') (hB : w.heap.size ≤ B') : OwnR f E k w' lo hi v l := ⟨ownsF_below h.1 hb hB, h.2⟩
theorem bxP5 {w : World} {b : Nat} {c0 c1 c2 c3 c4 : Value} (h : Bx w b [c0, c1, c2, c3, c4]) (u0 u1 u2 u3 u4 : Value) :
  Bx (((((w.setCell ⟨b, 0, none⟩ u0).setCell ⟨b, 1, none⟩ u1).setCell ⟨b, 2, none⟩ u2).setCell ⟨b, 3, none⟩ u3).setCell ⟨b, 4, none⟩ u4) b [u0, u1, u2, u3, u4] :=
 (((((h.set 0 (by simp) u0).set 1 (by simp) u1).set 2 (by simp) u2).set 3 (by simp) u3).set 4 (by simp) u4)
theorem bxP5o {w : World} {b c : Nat} {cs : List Value} (h : Bx w b cs) (hne : ¬ b = c) (u0 u1 u2 u3 u4 : Value) :
  Bx (((((w.setCell ⟨c, 0, none⟩ u0).setCell ⟨c, 1, none⟩ u1).setCell ⟨c, 2, none⟩ u2).setCell ⟨c, 3, none⟩ u3).setCell ⟨c, 4, none⟩ u4) b cs :=
 (((((h.other hne 0 u0).other hne 1 u1).other hne 2 u2).other hne 3 u3).other hne 4 u4)
theorem bxP6 {w : World} {b : Nat} {c0 c1 c2 c3 c4 c5 : Value} (h : Bx w b [c0, c1, c2, c3, c4, c5]) (u0 u1 u2 u3 u4 u5 : Value) :
  Bx ((((((w.setCell ⟨b, 0, none⟩ u0).setCell ⟨b, 1, none⟩ u1).setCell ⟨b, 2, none⟩ u2).setCell ⟨b, 3, none⟩ u3).setCell ⟨b, 4, none⟩ u4).setCell ⟨b, 5, none⟩ u5) b [u0, u1, u2, u3, u4, u5] :=
 ((((((h.set 0 (by simp) u0).set 1 (by simp) u1).set 2 (by simp) u2).set 3 (by simp) u3).set 4 (by simp) u4).set 5 (by simp) u5)
theorem bxP6o {w : World} {b c : Nat} {cs : List Value} (h : Bx w b cs) (hne : ¬ b = c) (u0 u1 u2 u3 u4 u5 : Value) :
  Bx ((((((w.setCell ⟨c, 0, none⟩ u0).setCell ⟨c, 1, none⟩ u1).setCell ⟨c, 2, none⟩ u2).setCell ⟨c, 3, none⟩ u3).setCell ⟨c, 4, none⟩ u4).setCell ⟨c, 5, none⟩ u5) b cs :=
 ((((((h.other hne 0 u0).other hne 1 u1).other hne 2 u2).other hne 3 u3).other hne 4 u4).other hne 5 u5)
theorem belQ5 {B : Nat} {a w : World} (h : Below B a w) {b : Nat} (hb : B ≤ b) (u0 u1 u2 u3 u4 : Value) :
  Below B a (((((w.setCell ⟨b, 0, none⟩ u0).setCell ⟨b, 1, none⟩ u1).setCell ⟨b, 2, none⟩ u2).setCell ⟨b, 3, none⟩ u3).setCell ⟨b, 4, none⟩ u4) :=
 (((((h.setCell (p := ⟨b, 0, none⟩) hb u0).setCell (p := ⟨b, 1, none⟩) hb u1).setCell (p := ⟨b, 2, none⟩) hb u2).setCell (p := ⟨b, 3, none⟩) hb u3).setCell (p := ⟨b, 4, none⟩) hb u4)
theorem belQ6 {B : Nat} {a w : World} (h : Below B a w) {b : Nat} (hb : B ≤ b) (u0 u1 u2 u3 u4 u5 : Value) :
  Below B a ((((((w.setCell ⟨b, 0, none⟩ u0).setCell ⟨b, 1, none⟩ u1).setCell ⟨b, 2, none⟩ u2).setCell ⟨b, 3, none⟩ u3).setCell ⟨b, 4, none⟩ u4).setCell ⟨b, 5, none⟩ u5) :=
 (belQ5 h hb u0 u1 u2 u3 u4).setCell (p := ⟨b, 5, none⟩) hb u5
theorem ownR_set {α : Type} {f : α → List Value} {E k : Nat} {w : World} {lo hi : Nat} {v : Value} {l : List α} (h : OwnR f E k w lo hi v l) {b : Nat} (hd : b < lo ∨ hi ≤ b) (o : Nat) (u : Value) : OwnR f E k (w.setCell ⟨b, o, none⟩ u) lo hi v l :=
 ⟨World.ownsRow.kept h.1 (row := some b) ⟨rfl, rfl, rfl, by simp, fun i hi hne => Below.heap_setCell w ⟨b, o, none⟩ u i (fun e => hne (by rw [e]))⟩ (Or.inr (fun e => by
  have h1 := h.2 b e
  have h2 := (World.ownsRow.lt h.1 b e).1
  omega)), h.2⟩
theorem ownR_p5 {α : Type} {f : α → List Value} {E k : Nat} {w : World} {lo hi : Nat} {v : Value} {l : List α} (h : OwnR f E k w lo hi v l) {b : Nat} (hd : b < lo ∨ hi ≤ b) (u0 u1 u2 u3 u4 : Value) :
  OwnR f E k (((((w.setCell ⟨b, 0, none⟩ u0).setCell ⟨b, 1, none⟩ u1).setCell ⟨b, 2, none⟩ u2).setCell ⟨b, 3, none⟩ u3).setCell ⟨b, 4, none⟩ u4) lo hi v l :=
 ownR_set (ownR_set (ownR_set (ownR_set (ownR_set h hd 0 u0) hd 1 u1) hd 2 u2) hd 3 u3) hd 4 u4
end Go.Proofs.YtcpbikilgacdlaaGreat
namespace Go.Proofs.YtcpbikilgacdlaaGreat
set_option linter.unusedVariables false
set_option linter.unusedSimpArgs false
open Go.RowKit
structure OSl {α : Type} (f : α → List Value) (E k F : Nat) (w : World) (v : Value) (l : List α) : Prop where
 own : OwnsF f E k w F v l
theorem ownsF_kept {α : Type} {f : α → List Value} {E k : Nat} {w w' : World} {F : Nat} {v : Value} {l : List α} (h : OwnsF f E k w F v l) (hk : Kept F w w') : OwnsF f E k w' F v l := by
 refine ⟨h.1, ?_⟩
 rcases h.2 with h1 | ⟨g, cap, cur, rfl, h2, h3, h4⟩
 ·exact Or.inl h1
 ·exact Or.inr ⟨g, cap, cur, rfl, h2, (hk.block g h2 (Array.getElem?_eq_some_iff.1 h3).1).trans h3, h4⟩
theorem OSl.keep {α : Type} {f : α → List Value} {E k F m : Nat} {w w' : World} {v : Value} {l : List α} {R : Nat → World → List Value → α → Prop} (h : OSl f E k F w v l) (g : Good R m) (hk : Kept F w w') : OSl f E k F w' v l := ⟨ownsF_kept h.own hk⟩
theorem OSl.below {α : Type} {f : α → List Value} {E k F B m : Nat} {w w' : World} {v : Value} {l : List α} {R : Nat → World → List Value → α → Prop} (h : OSl f E k F w v l) (g : Good R m) (hb : Below B w w') (hB : w.heap.size ≤ B) : OSl f E k F w' v l := ⟨ownsF_below h.own hb hB⟩
theorem OSl.mono {α : Type} {f : α → List Value} {E k F F' m : Nat} {w : World} {v : Value} {l : List α} {R : Nat → World → List Value → α → Prop} (h : OSl f E k F w v l) (g : Good R m) (hF : F' ≤ F) : OSl f E k F' w v l := ⟨ownsF_base h.own hF⟩
def OwnP (w : World) (lo hi : Nat) (cs : List Value) (x : PartD) : Prop := ∃ v3 v5, cs = [.string ⟨x.fCore.fKind.toArray⟩, .bool x.fCore.fOn, .bool x.fCore.fBroken, v3, .int .i64 x.fCore.fCount, v5] ∧ OwnR cCell 139 2 w lo hi v3 x.fCore.fCells ∧ OwnR cLayer 86 2 w lo hi v5 x.fLayers
theorem ownP_of {w : World} {lo : Nat} {cs : List Value} {x : PartD} (h : oPart w lo cs x) : OwnP w lo w.heap.size cs x := by
 obtain ⟨v3, v5, rfl, h3, h5⟩ := h; exact ⟨v3, v5, rfl, ownR_of h3, ownR_of h5⟩
theorem ownP_below {w w' : World} {lo hi B' : Nat} {cs : List Value} {x : PartD} (h : OwnP w lo hi cs x) (hb : Below B' w w') (hB : w.heap.size ≤ B') : OwnP w' lo hi cs x := by
 obtain ⟨v3, v5, rfl, h3, h5⟩ := h; exact ⟨v3, v5, rfl, ownR_below h3 hb hB, ownR_below h5 hb hB⟩
theorem ownP_at {w : World} {lo hi : Nat} {cs : List Value} {x : PartD} (h : OwnP w lo hi cs x) (h1 : x.fCore.fCells.length ≤ 4194304) (h2 : x.fLayers.length ≤ 4194304) : rPart 0 w cs x := by
 obtain ⟨v3, v5, rfl, h3, h5⟩ := h
 exact ⟨v3, v5, rfl, (sliceAt_of_owns cCell_len h3.1 h1).mono (good_flat cCell_len) (Nat.zero_le _), (sliceAt_of_owns cLayer_len h5.1 h2).mono (good_flat cLayer_len) (Nat.zero_le _)⟩
end Go.Proofs.YtcpbikilgacdlaaGreat
namespace Go.Proofs.YtcpbikilgacdlaaGreat
set_option linter.unusedVariables false
open Go.RowKit
theorem rpB {w w' : World} {B : Nat} {cs : List Value} {x : PartD} (h : rPart 0 w cs x) (hb : Below B w w') (hB : w.heap.size ≤ B) : rPart 0 w' cs x := goodPart.keep h (kept_below hb hB)
theorem ownR_p6 {α : Type} {f : α → List Value} {E k : Nat} {w : World} {lo hi : Nat} {v : Value} {l : List α} (h : OwnR f E k w lo hi v l) {b : Nat} (hd : b < lo ∨ hi ≤ b) (u0 u1 u2 u3 u4 u5 : Value) :
  OwnR f E k ((((((w.setCell ⟨b, 0, none⟩ u0).setCell ⟨b, 1, none⟩ u1).setCell ⟨b, 2, none⟩ u2).setCell ⟨b, 3, none⟩ u3).setCell ⟨b, 4, none⟩ u4).setCell ⟨b, 5, none⟩ u5) lo hi v l :=
 ownR_set (ownR_p5 h hd u0 u1 u2 u3 u4) hd 5 u5
theorem ownP_p5 {w : World} {lo hi : Nat} {cs : List Value} {x : PartD} (h : OwnP w lo hi cs x) {b : Nat} (hd : b < lo ∨ hi ≤ b) (u0 u1 u2 u3 u4 : Value) :
  OwnP (((((w.setCell ⟨b, 0, none⟩ u0).setCell ⟨b, 1, none⟩ u1).setCell ⟨b, 2, none⟩ u2).setCell ⟨b, 3, none⟩ u3).setCell ⟨b, 4, none⟩ u4) lo hi cs x := by
 obtain ⟨v3, v5, e, h3, h5⟩ := h
 exact ⟨v3, v5, e, ownR_p5 h3 hd _ _ _ _ _, ownR_p5 h5 hd _ _ _ _ _⟩
theorem ownP_p6 {w : World} {lo hi : Nat} {cs : List Value} {x : PartD} (h : OwnP w lo hi cs x) {b : Nat} (hd : b < lo ∨ hi ≤ b) (u0 u1 u2 u3 u4 u5 : Value) :
  OwnP ((((((w.setCell ⟨b, 0, none⟩ u0).setCell ⟨b, 1, none⟩ u1).setCell ⟨b, 2, none⟩ u2).setCell ⟨b, 3, none⟩ u3).setCell ⟨b, 4, none⟩ u4).setCell ⟨b, 5, none⟩ u5) lo hi cs x := by
 obtain ⟨v3, v5, e, h3, h5⟩ := h
 exact ⟨v3, v5, e, ownR_p6 h3 hd _ _ _ _ _ _, ownR_p6 h5 hd _ _ _ _ _ _⟩
end Go.Proofs.YtcpbikilgacdlaaGreat
