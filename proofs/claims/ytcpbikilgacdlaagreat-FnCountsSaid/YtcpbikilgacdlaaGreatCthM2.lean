/- The draws of chapter 3: a core and a list of calls. -/
import Derived.Test.YtcpbikilgacdlaaGreatCthM1
import Derived.Test.YtcpbikilgacdlaaGreatCthM0
import Derived.Deep.RegionHeld3
import Derived.Test.YtcpbikilgacdlaaGreatProg
import Derived.Deep.AppendLies
import Derived.Deep.CutRange
namespace Go.Proofs.YtcpbikilgacdlaaGreat
set_option linter.unusedVariables false
set_option linter.unusedSimpArgs false
open Go.RowKit
set_option maxRecDepth 100000 in
set_option maxHeartbeats 3200000 in
theorem specWrap_bad1 (v : Value) (x : PartD) (s : ByteArray) (w : World) (hx : ValAt rPart 0 w v x) (hs : SmallP x) (hk : ∀ c ∈ x.fCore.fCells, c.fKey.length ≤ maxLen) (hz : s.size ≤ 1048576) (hp : partB x = false) :
  Calls Tryz.prog 56 #[v, .string s] w fun e w' => GivesOPR (wrapP x s.data.toList) (wrapR x s.data.toList) w e w' := by
 obtain ⟨hwp, hwr⟩ := wrap_bad (x := x) (s := s.data.toList) (fun h => by rw [hp] at h; exact absurd h.1 (by decide))
 rw [hwp, hwr]
 clear hwp hwr
 obtain ⟨_, rfl, hx⟩ := hx
 have HX := Lib.hid (fun W (hb : Below w.heap.size w W) => goodPart.keep hx (kept_below hb (Nat.le_refl _)))
 have HIP := Lib.hid (fun cs W (h : rPart 0 W cs x) => specIsPart_any (.agg cs.toArray) x W ⟨cs, rfl, h⟩ hk)
 have HCP := Lib.hid (fun cs W (h : rPart 0 W cs x) => l4Copy_own (.agg cs.toArray) x W ⟨cs, rfl, h⟩ hs)
 have HLN := Lib.hid (fun W => l4Row_any s W)
 have HSZ := Lib.hid hs.lays
 unfold l4V at HLN
 unfold GivesOPR vReply
 unfold GivesOP at HCP
 rw [hp] at HIP
 generalize decide (0 ≤ layI s.data.toList) = bb at *
 generalize needI (layI s.data.toList) = nd at *
 generalize giveI (layI s.data.toList) = gv at *
 obtain ⟨⟨a0, a1, a2, a3, a4⟩, l⟩ := x
 obtain ⟨v3, v5, rfl, h3, h5⟩ := hx
 simp only at h3 h5 HSZ
 obtain ⟨ra, rc, rfl, _⟩ := sliceAt_len h3
 obtain ⟨sa, sc, rfl, hl, hcap⟩ := sliceAt_cap h5
 clear h3 h5 hs hk hcap hl
 have BS := Lib.hid (bx_start3 w [.string ⟨a0.toArray⟩, .bool a1, .bool a2, .slice ra a3.length rc, .int .i64 a4, .slice sa l.length sc] [.string ⟨#[]⟩, .bool false, .bool false, .slice none 0 0, .int .i64 0, .slice none 0 0] [.int .i64 0, .int .i64 0, .string ⟨#[]⟩, .int .i64 0, .int .i64 0] 37 37 39)
 have HR0 := Lib.hid (HX.out _ BS.out.2.2.2)
 clear hp
 go_enter Tryz.func56, Tryz.ntmps56
 go_wp2_with fail
 refine (HCP.out _ _ HR0.out).mono ?_
 rintro e w1 ⟨_, rfl, ⟨u3, u5, rfl, ho3, ho5⟩, hb⟩
 simp only at ho3 ho5
 obtain ⟨ga, gc, rfl⟩ := slice_of ho3
 obtain ⟨ua, uc, rfl⟩ := slice_of ho5
 have HB1 := Lib.hid ((belS BS.out.2.2.2 hb).alloc (belS BS.out.2.2.2 hb).size (.cells #[.string ⟨a0.toArray⟩, .bool a1, .bool a2, .slice ga a3.length gc, .int .i64 a4, .slice ua l.length uc] 37))
 have B31 := Lib.hid ((BS.out.1.below hb).alloc (.cells #[.string ⟨a0.toArray⟩, .bool a1, .bool a2, .slice ga a3.length gc, .int .i64 a4, .slice ua l.length uc] 37))
 have B41 := Lib.hid ((BS.out.2.1.below hb).alloc (.cells #[.string ⟨a0.toArray⟩, .bool a1, .bool a2, .slice ga a3.length gc, .int .i64 a4, .slice ua l.length uc] 37))
 have B51 := Lib.hid ((BS.out.2.2.1.below hb).alloc (.cells #[.string ⟨a0.toArray⟩, .bool a1, .bool a2, .slice ga a3.length gc, .int .i64 a4, .slice ua l.length uc] 37))
 have BQ1 := Lib.hid (Bx.new w1 [.string ⟨a0.toArray⟩, .bool a1, .bool a2, .slice ga a3.length gc, .int .i64 a4, .slice ua l.length uc] 37)
 have O3 := Lib.hid (ownsF_alloc (ownsF_base (B' := w.heap.size + 1 + 1 + 1) ho3 (by simp)) (.cells #[.string ⟨a0.toArray⟩, .bool a1, .bool a2, .slice ga a3.length gc, .int .i64 a4, .slice ua l.length uc] 37))
 have O5 := Lib.hid (ownsF_alloc (ownsF_base (B' := w.heap.size + 1 + 1 + 1) ho5 (by simp)) (.cells #[.string ⟨a0.toArray⟩, .bool a1, .bool a2, .slice ga a3.length gc, .int .i64 a4, .slice ua l.length uc] 37))
 have h3s := hb.size
 simp at h3s
 have HU5 := Lib.hid (fun g (h : (Value.slice ua l.length uc).ownBlock = some g) => (show w.heap.size + 1 + 1 + 1 ≤ g ∧ g < w1.heap.size from ⟨by have := (World.ownsRow.lt ho5 g h).1; simpa using this, (World.ownsRow.lt ho5 g h).2⟩))
 have HU3 := Lib.hid (fun g (h : (Value.slice ga a3.length gc).ownBlock = some g) => (show g < w1.heap.size from (World.ownsRow.lt ho3 g h).2))
 clear hb ho3 ho5 BS
 go_wp2_with fail
 refine (HLN.out _).mono ?_
 rintro e w2 ⟨rfl, hb⟩
 have HB2 := Lib.hid (belS HB1.out hb)
 have B32 := Lib.hid (B31.out.below hb)
 have B42 := Lib.hid (B41.out.below hb)
 have B52 := Lib.hid (B51.out.below hb)
 have BQ2 := Lib.hid (BQ1.out.below hb)
 have P3 := Lib.hid (ownsF_below O3.out hb (Nat.le_refl _))
 have P5 := Lib.hid (ownsF_below O5.out hb (Nat.le_refl _))
 have h4s2 := hb.size
 simp at h4s2
 clear hb B31 B41 B51 BQ1
 have p0 := B32.out.cell 0 (by simp)
 have p1 := B32.out.cell 1 (by simp)
 have p2 := B32.out.cell 2 (by simp)
 have p3 := B32.out.cell 3 (by simp)
 have p4 := B32.out.cell 4 (by simp)
 have p5 := B32.out.cell 5 (by simp)
 simp only [List.getElem_cons_zero, List.getElem_cons_succ] at p0 p1 p2 p3 p4 p5
 go_wp2_with fail
 refine (HIP.out _ _ (HX.out _ HB2.out)).mono ?_
 rintro e w3 ⟨rfl, hb⟩
 clear p0 p1 p2 p3 p4 p5
 have HB3 := Lib.hid (belS HB2.out hb)
 have B33 := Lib.hid (B32.out.below hb)
 have B43 := Lib.hid (B42.out.below hb)
 have B53 := Lib.hid (B52.out.below hb)
 have BQ3 := Lib.hid (BQ2.out.below hb)
 have R3 := Lib.hid (ownsF_below P3.out hb (Nat.le_refl _))
 have R5 := Lib.hid (ownsF_below P5.out hb (Nat.le_refl _))
 have h4s3 := hb.size
 skip
 clear hb B32 B42 B52 BQ2
 have p0 := B33.out.cell 0 (by simp)
 have p1 := B33.out.cell 1 (by simp)
 have p2 := B33.out.cell 2 (by simp)
 have p3 := B33.out.cell 3 (by simp)
 have p4 := B33.out.cell 4 (by simp)
 have p5 := B33.out.cell 5 (by simp)
 simp only [List.getElem_cons_zero, List.getElem_cons_succ] at p0 p1 p2 p3 p4 p5
 have q0 := BQ3.out.cell 0 (by simp)
 have q1 := BQ3.out.cell 1 (by simp)
 have q2 := BQ3.out.cell 2 (by simp)
 have q3 := BQ3.out.cell 3 (by simp)
 have q4 := BQ3.out.cell 4 (by simp)
 have q5 := BQ3.out.cell 5 (by simp)
 simp only [List.getElem_cons_zero, List.getElem_cons_succ] at q0 q1 q2 q3 q4 q5
 have r0 := B43.out.cell 0 (by simp)
 have r1 := B43.out.cell 1 (by simp)
 have r2 := B43.out.cell 2 (by simp)
 have r3 := B43.out.cell 3 (by simp)
 have r4 := B43.out.cell 4 (by simp)
 have r5 := B43.out.cell 5 (by simp)
 simp only [List.getElem_cons_zero, List.getElem_cons_succ] at r0 r1 r2 r3 r4 r5
 have z0 := B43.out.froz 0 (by simp)
 have z1 := B43.out.froz 1 (by simp)
 have z2 := B43.out.froz 2 (by simp)
 have z3 := B43.out.froz 3 (by simp)
 have z4 := B43.out.froz 4 (by simp)
 have z5 := B43.out.froz 5 (by simp)
 have s0 := B53.out.cell 0 (by simp)
 have s1 := B53.out.cell 1 (by simp)
 have s2 := B53.out.cell 2 (by simp)
 have s3 := B53.out.cell 3 (by simp)
 have s4 := B53.out.cell 4 (by simp)
 simp only [List.getElem_cons_zero, List.getElem_cons_succ] at s0 s1 s2 s3 s4
 have y0 := B53.out.froz 0 (by simp)
 have y1 := B53.out.froz 1 (by simp)
 have y2 := B53.out.froz 2 (by simp)
 have y3 := B53.out.froz 3 (by simp)
 have y4 := B53.out.froz 4 (by simp)
 go_wp2_with fail
 clear p0 p1 p2 p3 p4 p5 q0 q1 q2 q3 q4 q5
 clear r0 r1 r2 r3 r4 r5 z0 z1 z2 z3 z4 z5 s0 s1 s2 s3 s4 y0 y1 y2 y3 y4
 have E4 := Lib.hid ((B43.out.put6 (.string ⟨a0.toArray⟩) (.bool a1) (.bool a2) (.slice ga a3.length gc) (.int .i64 a4) (.slice ua l.length uc)).put5o (c := w.heap.size + 1 + 1) (by omega) (.int .i64 7) (.int .i64 0) (.string ⟨#[]⟩) (.int .i64 0) (.int .i64 0))
 have E5 := Lib.hid ((B53.out.put6o (c := w.heap.size + 1) (by omega) (.string ⟨a0.toArray⟩) (.bool a1) (.bool a2) (.slice ga a3.length gc) (.int .i64 a4) (.slice ua l.length uc)).put5 (.int .i64 7) (.int .i64 0) (.string ⟨#[]⟩) (.int .i64 0) (.int .i64 0))
 have EB := Lib.hid (below_put5 (below_put6 HB3.out (w.heap.size + 1) (by omega) (.string ⟨a0.toArray⟩) (.bool a1) (.bool a2) (.slice ga a3.length gc) (.int .i64 a4) (.slice ua l.length uc)) (w.heap.size + 1 + 1) (by omega) (.int .i64 7) (.int .i64 0) (.string ⟨#[]⟩) (.int .i64 0) (.int .i64 0))
 have OC := Lib.hid (ownsF_put5 (ownsF_put6 R3.out (w.heap.size + 1) (by omega) (.string ⟨a0.toArray⟩) (.bool a1) (.bool a2) (.slice ga a3.length gc) (.int .i64 a4) (.slice ua l.length uc)) (w.heap.size + 1 + 1) (by omega) (.int .i64 7) (.int .i64 0) (.string ⟨#[]⟩) (.int .i64 0) (.int .i64 0))
 have OL := Lib.hid (ownsF_put5 (ownsF_put6 R5.out (w.heap.size + 1) (by omega) (.string ⟨a0.toArray⟩) (.bool a1) (.bool a2) (.slice ga a3.length gc) (.int .i64 a4) (.slice ua l.length uc)) (w.heap.size + 1 + 1) (by omega) (.int .i64 7) (.int .i64 0) (.string ⟨#[]⟩) (.int .i64 0) (.int .i64 0))
 generalize (((((((((((w3.setCell ⟨w.heap.size + 1, 0, none⟩ (.string ⟨a0.toArray⟩)).setCell ⟨w.heap.size + 1, 1, none⟩ (.bool a1)).setCell ⟨w.heap.size + 1, 2, none⟩ (.bool a2)).setCell ⟨w.heap.size + 1, 3, none⟩ (.slice ga a3.length gc)).setCell ⟨w.heap.size + 1, 4, none⟩ (.int .i64 a4)).setCell ⟨w.heap.size + 1, 5, none⟩ (.slice ua l.length uc)).setCell ⟨w.heap.size + 1 + 1, 0, none⟩ (.int .i64 7)).setCell ⟨w.heap.size + 1 + 1, 1, none⟩ (.int .i64 0)).setCell ⟨w.heap.size + 1 + 1, 2, none⟩ (.string ⟨#[]⟩)).setCell ⟨w.heap.size + 1 + 1, 3, none⟩ (.int .i64 0)).setCell ⟨w.heap.size + 1 + 1, 4, none⟩ (.int .i64 0)) = WE at *
 have r0 := E4.out.cell 0 (by simp)
 have r1 := E4.out.cell 1 (by simp)
 have r2 := E4.out.cell 2 (by simp)
 have r3 := E4.out.cell 3 (by simp)
 have r4 := E4.out.cell 4 (by simp)
 have r5 := E4.out.cell 5 (by simp)
 simp only [List.getElem_cons_zero, List.getElem_cons_succ] at r0 r1 r2 r3 r4 r5
 have s0 := E5.out.cell 0 (by simp)
 have s1 := E5.out.cell 1 (by simp)
 have s2 := E5.out.cell 2 (by simp)
 have s3 := E5.out.cell 3 (by simp)
 have s4 := E5.out.cell 4 (by simp)
 simp only [List.getElem_cons_zero, List.getElem_cons_succ] at s0 s1 s2 s3 s4
 exact bodyPost_ret (v := .tuple #[.agg #[.string ⟨a0.toArray⟩, .bool a1, .bool a2, .slice ga a3.length gc, .int .i64 a4, .slice ua l.length uc], .agg #[.int .i64 7, .int .i64 0, .string ⟨#[]⟩, .int .i64 0, .int .i64 0]]) (by simp [results, Tryz.results56, go_sem, r0, r1, r2, r3, r4, r5, s0, s1, s2, s3, s4]) rfl ⟨_, rfl, ⟨_, _, rfl, ownsF_base OC.out (by omega), ownsF_base OL.out (by omega)⟩, EB.out⟩
set_option maxRecDepth 100000 in
set_option maxHeartbeats 3200000 in
theorem specWrap_bad2 (v : Value) (x : PartD) (s : ByteArray) (w : World) (hx : ValAt rPart 0 w v x) (hs : SmallP x) (hk : ∀ c ∈ x.fCore.fCells, c.fKey.length ≤ maxLen) (hz : s.size ≤ 1048576) (hc : ¬ 0 ≤ layI s.data.toList) (hp : partB x = true) :
  Calls Tryz.prog 56 #[v, .string s] w fun e w' => GivesOPR (wrapP x s.data.toList) (wrapR x s.data.toList) w e w' := by
 obtain ⟨hwp, hwr⟩ := wrap_bad (x := x) (s := s.data.toList) (fun h => hc h.2)
 rw [hwp, hwr]
 clear hwp hwr
 obtain ⟨_, rfl, hx⟩ := hx
 have HX := Lib.hid (fun W (hb : Below w.heap.size w W) => goodPart.keep hx (kept_below hb (Nat.le_refl _)))
 have HIP := Lib.hid (fun cs W (h : rPart 0 W cs x) => specIsPart_any (.agg cs.toArray) x W ⟨cs, rfl, h⟩ hk)
 have HCP := Lib.hid (fun cs W (h : rPart 0 W cs x) => l4Copy_own (.agg cs.toArray) x W ⟨cs, rfl, h⟩ hs)
 have HLN := Lib.hid (fun W => l4Row_any s W)
 have HSZ := Lib.hid hs.lays
 unfold l4V at HLN
 unfold GivesOPR vReply
 unfold GivesOP at HCP
 rw [hp] at HIP
 rw [show decide (0 ≤ layI s.data.toList) = false from decide_eq_false hc] at HLN
 generalize needI (layI s.data.toList) = nd at *
 generalize giveI (layI s.data.toList) = gv at *
 obtain ⟨⟨a0, a1, a2, a3, a4⟩, l⟩ := x
 obtain ⟨v3, v5, rfl, h3, h5⟩ := hx
 simp only at h3 h5 HSZ
 obtain ⟨ra, rc, rfl, _⟩ := sliceAt_len h3
 obtain ⟨sa, sc, rfl, hl, hcap⟩ := sliceAt_cap h5
 clear h3 h5 hs hk hcap hl
 have BS := Lib.hid (bx_start3 w [.string ⟨a0.toArray⟩, .bool a1, .bool a2, .slice ra a3.length rc, .int .i64 a4, .slice sa l.length sc] [.string ⟨#[]⟩, .bool false, .bool false, .slice none 0 0, .int .i64 0, .slice none 0 0] [.int .i64 0, .int .i64 0, .string ⟨#[]⟩, .int .i64 0, .int .i64 0] 37 37 39)
 have HR0 := Lib.hid (HX.out _ BS.out.2.2.2)
 clear hc hp
 go_enter Tryz.func56, Tryz.ntmps56
 go_wp2_with fail
 refine (HCP.out _ _ HR0.out).mono ?_
 rintro e w1 ⟨_, rfl, ⟨u3, u5, rfl, ho3, ho5⟩, hb⟩
 simp only at ho3 ho5
 obtain ⟨ga, gc, rfl⟩ := slice_of ho3
 obtain ⟨ua, uc, rfl⟩ := slice_of ho5
 have HB1 := Lib.hid ((belS BS.out.2.2.2 hb).alloc (belS BS.out.2.2.2 hb).size (.cells #[.string ⟨a0.toArray⟩, .bool a1, .bool a2, .slice ga a3.length gc, .int .i64 a4, .slice ua l.length uc] 37))
 have B31 := Lib.hid ((BS.out.1.below hb).alloc (.cells #[.string ⟨a0.toArray⟩, .bool a1, .bool a2, .slice ga a3.length gc, .int .i64 a4, .slice ua l.length uc] 37))
 have B41 := Lib.hid ((BS.out.2.1.below hb).alloc (.cells #[.string ⟨a0.toArray⟩, .bool a1, .bool a2, .slice ga a3.length gc, .int .i64 a4, .slice ua l.length uc] 37))
 have B51 := Lib.hid ((BS.out.2.2.1.below hb).alloc (.cells #[.string ⟨a0.toArray⟩, .bool a1, .bool a2, .slice ga a3.length gc, .int .i64 a4, .slice ua l.length uc] 37))
 have BQ1 := Lib.hid (Bx.new w1 [.string ⟨a0.toArray⟩, .bool a1, .bool a2, .slice ga a3.length gc, .int .i64 a4, .slice ua l.length uc] 37)
 have O3 := Lib.hid (ownsF_alloc (ownsF_base (B' := w.heap.size + 1 + 1 + 1) ho3 (by simp)) (.cells #[.string ⟨a0.toArray⟩, .bool a1, .bool a2, .slice ga a3.length gc, .int .i64 a4, .slice ua l.length uc] 37))
 have O5 := Lib.hid (ownsF_alloc (ownsF_base (B' := w.heap.size + 1 + 1 + 1) ho5 (by simp)) (.cells #[.string ⟨a0.toArray⟩, .bool a1, .bool a2, .slice ga a3.length gc, .int .i64 a4, .slice ua l.length uc] 37))
 have h3s := hb.size
 simp at h3s
 have HU5 := Lib.hid (fun g (h : (Value.slice ua l.length uc).ownBlock = some g) => (show w.heap.size + 1 + 1 + 1 ≤ g ∧ g < w1.heap.size from ⟨by have := (World.ownsRow.lt ho5 g h).1; simpa using this, (World.ownsRow.lt ho5 g h).2⟩))
 have HU3 := Lib.hid (fun g (h : (Value.slice ga a3.length gc).ownBlock = some g) => (show g < w1.heap.size from (World.ownsRow.lt ho3 g h).2))
 clear hb ho3 ho5 BS
 go_wp2_with fail
 refine (HLN.out _).mono ?_
 rintro e w2 ⟨rfl, hb⟩
 have HB2 := Lib.hid (belS HB1.out hb)
 have B32 := Lib.hid (B31.out.below hb)
 have B42 := Lib.hid (B41.out.below hb)
 have B52 := Lib.hid (B51.out.below hb)
 have BQ2 := Lib.hid (BQ1.out.below hb)
 have P3 := Lib.hid (ownsF_below O3.out hb (Nat.le_refl _))
 have P5 := Lib.hid (ownsF_below O5.out hb (Nat.le_refl _))
 have h4s2 := hb.size
 simp at h4s2
 clear hb B31 B41 B51 BQ1
 have p0 := B32.out.cell 0 (by simp)
 have p1 := B32.out.cell 1 (by simp)
 have p2 := B32.out.cell 2 (by simp)
 have p3 := B32.out.cell 3 (by simp)
 have p4 := B32.out.cell 4 (by simp)
 have p5 := B32.out.cell 5 (by simp)
 simp only [List.getElem_cons_zero, List.getElem_cons_succ] at p0 p1 p2 p3 p4 p5
 go_wp2_with fail
 refine (HIP.out _ _ (HX.out _ HB2.out)).mono ?_
 rintro e w3 ⟨rfl, hb⟩
 clear p0 p1 p2 p3 p4 p5
 have HB3 := Lib.hid (belS HB2.out hb)
 have B33 := Lib.hid (B32.out.below hb)
 have B43 := Lib.hid (B42.out.below hb)
 have B53 := Lib.hid (B52.out.below hb)
 have BQ3 := Lib.hid (BQ2.out.below hb)
 have R3 := Lib.hid (ownsF_below P3.out hb (Nat.le_refl _))
 have R5 := Lib.hid (ownsF_below P5.out hb (Nat.le_refl _))
 have h4s3 := hb.size
 skip
 clear hb B32 B42 B52 BQ2
 have p0 := B33.out.cell 0 (by simp)
 have p1 := B33.out.cell 1 (by simp)
 have p2 := B33.out.cell 2 (by simp)
 have p3 := B33.out.cell 3 (by simp)
 have p4 := B33.out.cell 4 (by simp)
 have p5 := B33.out.cell 5 (by simp)
 simp only [List.getElem_cons_zero, List.getElem_cons_succ] at p0 p1 p2 p3 p4 p5
 have q0 := BQ3.out.cell 0 (by simp)
 have q1 := BQ3.out.cell 1 (by simp)
 have q2 := BQ3.out.cell 2 (by simp)
 have q3 := BQ3.out.cell 3 (by simp)
 have q4 := BQ3.out.cell 4 (by simp)
 have q5 := BQ3.out.cell 5 (by simp)
 simp only [List.getElem_cons_zero, List.getElem_cons_succ] at q0 q1 q2 q3 q4 q5
 have r0 := B43.out.cell 0 (by simp)
 have r1 := B43.out.cell 1 (by simp)
 have r2 := B43.out.cell 2 (by simp)
 have r3 := B43.out.cell 3 (by simp)
 have r4 := B43.out.cell 4 (by simp)
 have r5 := B43.out.cell 5 (by simp)
 simp only [List.getElem_cons_zero, List.getElem_cons_succ] at r0 r1 r2 r3 r4 r5
 have z0 := B43.out.froz 0 (by simp)
 have z1 := B43.out.froz 1 (by simp)
 have z2 := B43.out.froz 2 (by simp)
 have z3 := B43.out.froz 3 (by simp)
 have z4 := B43.out.froz 4 (by simp)
 have z5 := B43.out.froz 5 (by simp)
 have s0 := B53.out.cell 0 (by simp)
 have s1 := B53.out.cell 1 (by simp)
 have s2 := B53.out.cell 2 (by simp)
 have s3 := B53.out.cell 3 (by simp)
 have s4 := B53.out.cell 4 (by simp)
 simp only [List.getElem_cons_zero, List.getElem_cons_succ] at s0 s1 s2 s3 s4
 have y0 := B53.out.froz 0 (by simp)
 have y1 := B53.out.froz 1 (by simp)
 have y2 := B53.out.froz 2 (by simp)
 have y3 := B53.out.froz 3 (by simp)
 have y4 := B53.out.froz 4 (by simp)
 go_wp2_with fail
 clear p0 p1 p2 p3 p4 p5 q0 q1 q2 q3 q4 q5
 clear r0 r1 r2 r3 r4 r5 z0 z1 z2 z3 z4 z5 s0 s1 s2 s3 s4 y0 y1 y2 y3 y4
 have E4 := Lib.hid ((B43.out.put6 (.string ⟨a0.toArray⟩) (.bool a1) (.bool a2) (.slice ga a3.length gc) (.int .i64 a4) (.slice ua l.length uc)).put5o (c := w.heap.size + 1 + 1) (by omega) (.int .i64 7) (.int .i64 0) (.string ⟨#[]⟩) (.int .i64 0) (.int .i64 0))
 have E5 := Lib.hid ((B53.out.put6o (c := w.heap.size + 1) (by omega) (.string ⟨a0.toArray⟩) (.bool a1) (.bool a2) (.slice ga a3.length gc) (.int .i64 a4) (.slice ua l.length uc)).put5 (.int .i64 7) (.int .i64 0) (.string ⟨#[]⟩) (.int .i64 0) (.int .i64 0))
 have EB := Lib.hid (below_put5 (below_put6 HB3.out (w.heap.size + 1) (by omega) (.string ⟨a0.toArray⟩) (.bool a1) (.bool a2) (.slice ga a3.length gc) (.int .i64 a4) (.slice ua l.length uc)) (w.heap.size + 1 + 1) (by omega) (.int .i64 7) (.int .i64 0) (.string ⟨#[]⟩) (.int .i64 0) (.int .i64 0))
 have OC := Lib.hid (ownsF_put5 (ownsF_put6 R3.out (w.heap.size + 1) (by omega) (.string ⟨a0.toArray⟩) (.bool a1) (.bool a2) (.slice ga a3.length gc) (.int .i64 a4) (.slice ua l.length uc)) (w.heap.size + 1 + 1) (by omega) (.int .i64 7) (.int .i64 0) (.string ⟨#[]⟩) (.int .i64 0) (.int .i64 0))
 have OL := Lib.hid (ownsF_put5 (ownsF_put6 R5.out (w.heap.size + 1) (by omega) (.string ⟨a0.toArray⟩) (.bool a1) (.bool a2) (.slice ga a3.length gc) (.int .i64 a4) (.slice ua l.length uc)) (w.heap.size + 1 + 1) (by omega) (.int .i64 7) (.int .i64 0) (.string ⟨#[]⟩) (.int .i64 0) (.int .i64 0))
 generalize (((((((((((w3.setCell ⟨w.heap.size + 1, 0, none⟩ (.string ⟨a0.toArray⟩)).setCell ⟨w.heap.size + 1, 1, none⟩ (.bool a1)).setCell ⟨w.heap.size + 1, 2, none⟩ (.bool a2)).setCell ⟨w.heap.size + 1, 3, none⟩ (.slice ga a3.length gc)).setCell ⟨w.heap.size + 1, 4, none⟩ (.int .i64 a4)).setCell ⟨w.heap.size + 1, 5, none⟩ (.slice ua l.length uc)).setCell ⟨w.heap.size + 1 + 1, 0, none⟩ (.int .i64 7)).setCell ⟨w.heap.size + 1 + 1, 1, none⟩ (.int .i64 0)).setCell ⟨w.heap.size + 1 + 1, 2, none⟩ (.string ⟨#[]⟩)).setCell ⟨w.heap.size + 1 + 1, 3, none⟩ (.int .i64 0)).setCell ⟨w.heap.size + 1 + 1, 4, none⟩ (.int .i64 0)) = WE at *
 have r0 := E4.out.cell 0 (by simp)
 have r1 := E4.out.cell 1 (by simp)
 have r2 := E4.out.cell 2 (by simp)
 have r3 := E4.out.cell 3 (by simp)
 have r4 := E4.out.cell 4 (by simp)
 have r5 := E4.out.cell 5 (by simp)
 simp only [List.getElem_cons_zero, List.getElem_cons_succ] at r0 r1 r2 r3 r4 r5
 have s0 := E5.out.cell 0 (by simp)
 have s1 := E5.out.cell 1 (by simp)
 have s2 := E5.out.cell 2 (by simp)
 have s3 := E5.out.cell 3 (by simp)
 have s4 := E5.out.cell 4 (by simp)
 simp only [List.getElem_cons_zero, List.getElem_cons_succ] at s0 s1 s2 s3 s4
 exact bodyPost_ret (v := .tuple #[.agg #[.string ⟨a0.toArray⟩, .bool a1, .bool a2, .slice ga a3.length gc, .int .i64 a4, .slice ua l.length uc], .agg #[.int .i64 7, .int .i64 0, .string ⟨#[]⟩, .int .i64 0, .int .i64 0]]) (by simp [results, Tryz.results56, go_sem, r0, r1, r2, r3, r4, r5, s0, s1, s2, s3, s4]) rfl ⟨_, rfl, ⟨_, _, rfl, ownsF_base OC.out (by omega), ownsF_base OL.out (by omega)⟩, EB.out⟩
set_option maxRecDepth 100000 in
set_option maxHeartbeats 3200000 in
theorem specWrap_full (v : Value) (x : PartD) (s : ByteArray) (w : World) (hx : ValAt rPart 0 w v x) (hs : SmallP x) (hk : ∀ c ∈ x.fCore.fCells, c.fKey.length ≤ maxLen) (hz : s.size ≤ 1048576) (hc : 0 ≤ layI s.data.toList) (hp : partB x = true) (h3 : x.fLayers.length = 3) :
  Calls Tryz.prog 56 #[v, .string s] w fun e w' => GivesOPR (wrapP x s.data.toList) (wrapR x s.data.toList) w e w' := by
 obtain ⟨hwp, hwr⟩ := wrap_full (x := x) (s := s.data.toList) ⟨hp, hc⟩ h3
 rw [hwp, hwr]
 clear hwp hwr
 have H3 := Lib.hid h3
 clear h3
 obtain ⟨_, rfl, hx⟩ := hx
 have HX := Lib.hid (fun W (hb : Below w.heap.size w W) => goodPart.keep hx (kept_below hb (Nat.le_refl _)))
 have HIP := Lib.hid (fun cs W (h : rPart 0 W cs x) => specIsPart_any (.agg cs.toArray) x W ⟨cs, rfl, h⟩ hk)
 have HCP := Lib.hid (fun cs W (h : rPart 0 W cs x) => l4Copy_own (.agg cs.toArray) x W ⟨cs, rfl, h⟩ hs)
 have HLN := Lib.hid (fun W => l4Row_any s W)
 have HSZ := Lib.hid hs.lays
 unfold l4V at HLN
 unfold GivesOPR vReply
 unfold GivesOP at HCP
 rw [hp] at HIP
 rw [show decide (0 ≤ layI s.data.toList) = true from decide_eq_true hc] at HLN
 generalize needI (layI s.data.toList) = nd at *
 generalize giveI (layI s.data.toList) = gv at *
 obtain ⟨⟨a0, a1, a2, a3, a4⟩, l⟩ := x
 obtain ⟨v3, v5, rfl, h3, h5⟩ := hx
 simp only at h3 h5 HSZ
 obtain ⟨ra, rc, rfl, _⟩ := sliceAt_len h3
 obtain ⟨sa, sc, rfl, hl, hcap⟩ := sliceAt_cap h5
 clear h3 h5 hs hk hcap hl
 have BS := Lib.hid (bx_start3 w [.string ⟨a0.toArray⟩, .bool a1, .bool a2, .slice ra a3.length rc, .int .i64 a4, .slice sa l.length sc] [.string ⟨#[]⟩, .bool false, .bool false, .slice none 0 0, .int .i64 0, .slice none 0 0] [.int .i64 0, .int .i64 0, .string ⟨#[]⟩, .int .i64 0, .int .i64 0] 37 37 39)
 have HR0 := Lib.hid (HX.out _ BS.out.2.2.2)
 clear hc hp
 go_enter Tryz.func56, Tryz.ntmps56
 go_wp2_with fail
 refine (HCP.out _ _ HR0.out).mono ?_
 rintro e w1 ⟨_, rfl, ⟨u3, u5, rfl, ho3, ho5⟩, hb⟩
 simp only at ho3 ho5
 obtain ⟨ga, gc, rfl⟩ := slice_of ho3
 obtain ⟨ua, uc, rfl⟩ := slice_of ho5
 have HB1 := Lib.hid ((belS BS.out.2.2.2 hb).alloc (belS BS.out.2.2.2 hb).size (.cells #[.string ⟨a0.toArray⟩, .bool a1, .bool a2, .slice ga a3.length gc, .int .i64 a4, .slice ua l.length uc] 37))
 have B31 := Lib.hid ((BS.out.1.below hb).alloc (.cells #[.string ⟨a0.toArray⟩, .bool a1, .bool a2, .slice ga a3.length gc, .int .i64 a4, .slice ua l.length uc] 37))
 have B41 := Lib.hid ((BS.out.2.1.below hb).alloc (.cells #[.string ⟨a0.toArray⟩, .bool a1, .bool a2, .slice ga a3.length gc, .int .i64 a4, .slice ua l.length uc] 37))
 have B51 := Lib.hid ((BS.out.2.2.1.below hb).alloc (.cells #[.string ⟨a0.toArray⟩, .bool a1, .bool a2, .slice ga a3.length gc, .int .i64 a4, .slice ua l.length uc] 37))
 have BQ1 := Lib.hid (Bx.new w1 [.string ⟨a0.toArray⟩, .bool a1, .bool a2, .slice ga a3.length gc, .int .i64 a4, .slice ua l.length uc] 37)
 have O3 := Lib.hid (ownsF_alloc (ownsF_base (B' := w.heap.size + 1 + 1 + 1) ho3 (by simp)) (.cells #[.string ⟨a0.toArray⟩, .bool a1, .bool a2, .slice ga a3.length gc, .int .i64 a4, .slice ua l.length uc] 37))
 have O5 := Lib.hid (ownsF_alloc (ownsF_base (B' := w.heap.size + 1 + 1 + 1) ho5 (by simp)) (.cells #[.string ⟨a0.toArray⟩, .bool a1, .bool a2, .slice ga a3.length gc, .int .i64 a4, .slice ua l.length uc] 37))
 have h3s := hb.size
 simp at h3s
 have HU5 := Lib.hid (fun g (h : (Value.slice ua l.length uc).ownBlock = some g) => (show w.heap.size + 1 + 1 + 1 ≤ g ∧ g < w1.heap.size from ⟨by have := (World.ownsRow.lt ho5 g h).1; simpa using this, (World.ownsRow.lt ho5 g h).2⟩))
 have HU3 := Lib.hid (fun g (h : (Value.slice ga a3.length gc).ownBlock = some g) => (show g < w1.heap.size from (World.ownsRow.lt ho3 g h).2))
 clear hb ho3 ho5 BS
 go_wp2_with fail
 refine (HLN.out _).mono ?_
 rintro e w2 ⟨rfl, hb⟩
 have HB2 := Lib.hid (belS HB1.out hb)
 have B32 := Lib.hid (B31.out.below hb)
 have B42 := Lib.hid (B41.out.below hb)
 have B52 := Lib.hid (B51.out.below hb)
 have BQ2 := Lib.hid (BQ1.out.below hb)
 have P3 := Lib.hid (ownsF_below O3.out hb (Nat.le_refl _))
 have P5 := Lib.hid (ownsF_below O5.out hb (Nat.le_refl _))
 have h4s2 := hb.size
 simp at h4s2
 clear hb B31 B41 B51 BQ1
 have p0 := B32.out.cell 0 (by simp)
 have p1 := B32.out.cell 1 (by simp)
 have p2 := B32.out.cell 2 (by simp)
 have p3 := B32.out.cell 3 (by simp)
 have p4 := B32.out.cell 4 (by simp)
 have p5 := B32.out.cell 5 (by simp)
 simp only [List.getElem_cons_zero, List.getElem_cons_succ] at p0 p1 p2 p3 p4 p5
 go_wp2_with fail
 refine (HIP.out _ _ (HX.out _ HB2.out)).mono ?_
 rintro e w3 ⟨rfl, hb⟩
 clear p0 p1 p2 p3 p4 p5
 have HB3 := Lib.hid (belS HB2.out hb)
 have B33 := Lib.hid (B32.out.below hb)
 have B43 := Lib.hid (B42.out.below hb)
 have B53 := Lib.hid (B52.out.below hb)
 have BQ3 := Lib.hid (BQ2.out.below hb)
 have R3 := Lib.hid (ownsF_below P3.out hb (Nat.le_refl _))
 have R5 := Lib.hid (ownsF_below P5.out hb (Nat.le_refl _))
 have h4s3 := hb.size
 skip
 clear hb B32 B42 B52 BQ2
 have h3 := H3.out
 try simp only at h3
 have hl3 : ((l.length : Int) == 3) = true := by rw [h3]; rfl
 clear h3
 have p0 := B33.out.cell 0 (by simp)
 have p1 := B33.out.cell 1 (by simp)
 have p2 := B33.out.cell 2 (by simp)
 have p3 := B33.out.cell 3 (by simp)
 have p4 := B33.out.cell 4 (by simp)
 have p5 := B33.out.cell 5 (by simp)
 simp only [List.getElem_cons_zero, List.getElem_cons_succ] at p0 p1 p2 p3 p4 p5
 have q0 := BQ3.out.cell 0 (by simp)
 have q1 := BQ3.out.cell 1 (by simp)
 have q2 := BQ3.out.cell 2 (by simp)
 have q3 := BQ3.out.cell 3 (by simp)
 have q4 := BQ3.out.cell 4 (by simp)
 have q5 := BQ3.out.cell 5 (by simp)
 simp only [List.getElem_cons_zero, List.getElem_cons_succ] at q0 q1 q2 q3 q4 q5
 have r0 := B43.out.cell 0 (by simp)
 have r1 := B43.out.cell 1 (by simp)
 have r2 := B43.out.cell 2 (by simp)
 have r3 := B43.out.cell 3 (by simp)
 have r4 := B43.out.cell 4 (by simp)
 have r5 := B43.out.cell 5 (by simp)
 simp only [List.getElem_cons_zero, List.getElem_cons_succ] at r0 r1 r2 r3 r4 r5
 have z0 := B43.out.froz 0 (by simp)
 have z1 := B43.out.froz 1 (by simp)
 have z2 := B43.out.froz 2 (by simp)
 have z3 := B43.out.froz 3 (by simp)
 have z4 := B43.out.froz 4 (by simp)
 have z5 := B43.out.froz 5 (by simp)
 have s0 := B53.out.cell 0 (by simp)
 have s1 := B53.out.cell 1 (by simp)
 have s2 := B53.out.cell 2 (by simp)
 have s3 := B53.out.cell 3 (by simp)
 have s4 := B53.out.cell 4 (by simp)
 simp only [List.getElem_cons_zero, List.getElem_cons_succ] at s0 s1 s2 s3 s4
 have y0 := B53.out.froz 0 (by simp)
 have y1 := B53.out.froz 1 (by simp)
 have y2 := B53.out.froz 2 (by simp)
 have y3 := B53.out.froz 3 (by simp)
 have y4 := B53.out.froz 4 (by simp)
 go_wp2_with fail
 clear p0 p1 p2 p3 p4 p5 q0 q1 q2 q3 q4 q5
 clear r0 r1 r2 r3 r4 r5 z0 z1 z2 z3 z4 z5 s0 s1 s2 s3 s4 y0 y1 y2 y3 y4
 have E4 := Lib.hid ((B43.out.put6 (.string ⟨a0.toArray⟩) (.bool a1) (.bool a2) (.slice ga a3.length gc) (.int .i64 a4) (.slice ua l.length uc)).put5o (c := w.heap.size + 1 + 1) (by omega) (.int .i64 5) (.int .i64 0) (.string ⟨#[]⟩) (.int .i64 0) (.int .i64 0))
 have E5 := Lib.hid ((B53.out.put6o (c := w.heap.size + 1) (by omega) (.string ⟨a0.toArray⟩) (.bool a1) (.bool a2) (.slice ga a3.length gc) (.int .i64 a4) (.slice ua l.length uc)).put5 (.int .i64 5) (.int .i64 0) (.string ⟨#[]⟩) (.int .i64 0) (.int .i64 0))
 have EB := Lib.hid (below_put5 (below_put6 HB3.out (w.heap.size + 1) (by omega) (.string ⟨a0.toArray⟩) (.bool a1) (.bool a2) (.slice ga a3.length gc) (.int .i64 a4) (.slice ua l.length uc)) (w.heap.size + 1 + 1) (by omega) (.int .i64 5) (.int .i64 0) (.string ⟨#[]⟩) (.int .i64 0) (.int .i64 0))
 have OC := Lib.hid (ownsF_put5 (ownsF_put6 R3.out (w.heap.size + 1) (by omega) (.string ⟨a0.toArray⟩) (.bool a1) (.bool a2) (.slice ga a3.length gc) (.int .i64 a4) (.slice ua l.length uc)) (w.heap.size + 1 + 1) (by omega) (.int .i64 5) (.int .i64 0) (.string ⟨#[]⟩) (.int .i64 0) (.int .i64 0))
 have OL := Lib.hid (ownsF_put5 (ownsF_put6 R5.out (w.heap.size + 1) (by omega) (.string ⟨a0.toArray⟩) (.bool a1) (.bool a2) (.slice ga a3.length gc) (.int .i64 a4) (.slice ua l.length uc)) (w.heap.size + 1 + 1) (by omega) (.int .i64 5) (.int .i64 0) (.string ⟨#[]⟩) (.int .i64 0) (.int .i64 0))
 generalize (((((((((((w3.setCell ⟨w.heap.size + 1, 0, none⟩ (.string ⟨a0.toArray⟩)).setCell ⟨w.heap.size + 1, 1, none⟩ (.bool a1)).setCell ⟨w.heap.size + 1, 2, none⟩ (.bool a2)).setCell ⟨w.heap.size + 1, 3, none⟩ (.slice ga a3.length gc)).setCell ⟨w.heap.size + 1, 4, none⟩ (.int .i64 a4)).setCell ⟨w.heap.size + 1, 5, none⟩ (.slice ua l.length uc)).setCell ⟨w.heap.size + 1 + 1, 0, none⟩ (.int .i64 5)).setCell ⟨w.heap.size + 1 + 1, 1, none⟩ (.int .i64 0)).setCell ⟨w.heap.size + 1 + 1, 2, none⟩ (.string ⟨#[]⟩)).setCell ⟨w.heap.size + 1 + 1, 3, none⟩ (.int .i64 0)).setCell ⟨w.heap.size + 1 + 1, 4, none⟩ (.int .i64 0)) = WE at *
 have r0 := E4.out.cell 0 (by simp)
 have r1 := E4.out.cell 1 (by simp)
 have r2 := E4.out.cell 2 (by simp)
 have r3 := E4.out.cell 3 (by simp)
 have r4 := E4.out.cell 4 (by simp)
 have r5 := E4.out.cell 5 (by simp)
 simp only [List.getElem_cons_zero, List.getElem_cons_succ] at r0 r1 r2 r3 r4 r5
 have s0 := E5.out.cell 0 (by simp)
 have s1 := E5.out.cell 1 (by simp)
 have s2 := E5.out.cell 2 (by simp)
 have s3 := E5.out.cell 3 (by simp)
 have s4 := E5.out.cell 4 (by simp)
 simp only [List.getElem_cons_zero, List.getElem_cons_succ] at s0 s1 s2 s3 s4
 exact bodyPost_ret (v := .tuple #[.agg #[.string ⟨a0.toArray⟩, .bool a1, .bool a2, .slice ga a3.length gc, .int .i64 a4, .slice ua l.length uc], .agg #[.int .i64 5, .int .i64 0, .string ⟨#[]⟩, .int .i64 0, .int .i64 0]]) (by simp [results, Tryz.results56, go_sem, r0, r1, r2, r3, r4, r5, s0, s1, s2, s3, s4]) rfl ⟨_, rfl, ⟨_, _, rfl, ownsF_base OC.out (by omega), ownsF_base OL.out (by omega)⟩, EB.out⟩
set_option maxRecDepth 100000 in
set_option maxHeartbeats 3200000 in
theorem specWrap_fail (v : Value) (x : PartD) (s : ByteArray) (w : World) (hx : ValAt rPart 0 w v x) (hs : SmallP x) (hk : ∀ c ∈ x.fCore.fCells, c.fKey.length ≤ maxLen) (hz : s.size ≤ 1048576) (hc : 0 ≤ layI s.data.toList) (hp : partB x = true) (h3 : ¬ x.fLayers.length = 3) (ho : offersF (faceP x) (needI (layI s.data.toList)) = false) :
  Calls Tryz.prog 56 #[v, .string s] w fun e w' => GivesOPR (wrapP x s.data.toList) (wrapR x s.data.toList) w e w' := by
 obtain ⟨hwp, hwr⟩ := wrap_fail (x := x) (s := s.data.toList) ⟨hp, hc⟩ h3 ho
 rw [hwp, hwr]
 clear hwp hwr
 have H3 := Lib.hid h3
 clear h3
 have HOF := Lib.hid (fun W => specOffers_any (faceP x) (needI (layI s.data.toList)) W)
 rw [ho] at HOF
 have HFO := Lib.hid (fun cs W (h : rPart 0 W cs x) => specFaceOf_any (.agg cs.toArray) x W ⟨cs, rfl, h⟩)
 clear ho
 obtain ⟨_, rfl, hx⟩ := hx
 have HX := Lib.hid (fun W (hb : Below w.heap.size w W) => goodPart.keep hx (kept_below hb (Nat.le_refl _)))
 have HIP := Lib.hid (fun cs W (h : rPart 0 W cs x) => specIsPart_any (.agg cs.toArray) x W ⟨cs, rfl, h⟩ hk)
 have HCP := Lib.hid (fun cs W (h : rPart 0 W cs x) => l4Copy_own (.agg cs.toArray) x W ⟨cs, rfl, h⟩ hs)
 have HLN := Lib.hid (fun W => l4Row_any s W)
 have HSZ := Lib.hid hs.lays
 unfold l4V at HLN
 unfold GivesOPR vReply
 unfold GivesOP at HCP
 rw [hp] at HIP
 rw [show decide (0 ≤ layI s.data.toList) = true from decide_eq_true hc] at HLN
 generalize needI (layI s.data.toList) = nd at *
 generalize giveI (layI s.data.toList) = gv at *
 generalize faceP x = fp at *
 obtain ⟨⟨a0, a1, a2, a3, a4⟩, l⟩ := x
 obtain ⟨v3, v5, rfl, h3, h5⟩ := hx
 simp only at h3 h5 HSZ
 obtain ⟨ra, rc, rfl, _⟩ := sliceAt_len h3
 obtain ⟨sa, sc, rfl, hl, hcap⟩ := sliceAt_cap h5
 clear h3 h5 hs hk hcap hl
 have BS := Lib.hid (bx_start3 w [.string ⟨a0.toArray⟩, .bool a1, .bool a2, .slice ra a3.length rc, .int .i64 a4, .slice sa l.length sc] [.string ⟨#[]⟩, .bool false, .bool false, .slice none 0 0, .int .i64 0, .slice none 0 0] [.int .i64 0, .int .i64 0, .string ⟨#[]⟩, .int .i64 0, .int .i64 0] 37 37 39)
 have HR0 := Lib.hid (HX.out _ BS.out.2.2.2)
 clear hc hp
 go_enter Tryz.func56, Tryz.ntmps56
 go_wp2_with fail
 refine (HCP.out _ _ HR0.out).mono ?_
 rintro e w1 ⟨_, rfl, ⟨u3, u5, rfl, ho3, ho5⟩, hb⟩
 simp only at ho3 ho5
 obtain ⟨ga, gc, rfl⟩ := slice_of ho3
 obtain ⟨ua, uc, rfl⟩ := slice_of ho5
 have HB1 := Lib.hid ((belS BS.out.2.2.2 hb).alloc (belS BS.out.2.2.2 hb).size (.cells #[.string ⟨a0.toArray⟩, .bool a1, .bool a2, .slice ga a3.length gc, .int .i64 a4, .slice ua l.length uc] 37))
 have B31 := Lib.hid ((BS.out.1.below hb).alloc (.cells #[.string ⟨a0.toArray⟩, .bool a1, .bool a2, .slice ga a3.length gc, .int .i64 a4, .slice ua l.length uc] 37))
 have B41 := Lib.hid ((BS.out.2.1.below hb).alloc (.cells #[.string ⟨a0.toArray⟩, .bool a1, .bool a2, .slice ga a3.length gc, .int .i64 a4, .slice ua l.length uc] 37))
 have B51 := Lib.hid ((BS.out.2.2.1.below hb).alloc (.cells #[.string ⟨a0.toArray⟩, .bool a1, .bool a2, .slice ga a3.length gc, .int .i64 a4, .slice ua l.length uc] 37))
 have BQ1 := Lib.hid (Bx.new w1 [.string ⟨a0.toArray⟩, .bool a1, .bool a2, .slice ga a3.length gc, .int .i64 a4, .slice ua l.length uc] 37)
 have O3 := Lib.hid (ownsF_alloc (ownsF_base (B' := w.heap.size + 1 + 1 + 1) ho3 (by simp)) (.cells #[.string ⟨a0.toArray⟩, .bool a1, .bool a2, .slice ga a3.length gc, .int .i64 a4, .slice ua l.length uc] 37))
 have O5 := Lib.hid (ownsF_alloc (ownsF_base (B' := w.heap.size + 1 + 1 + 1) ho5 (by simp)) (.cells #[.string ⟨a0.toArray⟩, .bool a1, .bool a2, .slice ga a3.length gc, .int .i64 a4, .slice ua l.length uc] 37))
 have h3s := hb.size
 simp at h3s
 have HU5 := Lib.hid (fun g (h : (Value.slice ua l.length uc).ownBlock = some g) => (show w.heap.size + 1 + 1 + 1 ≤ g ∧ g < w1.heap.size from ⟨by have := (World.ownsRow.lt ho5 g h).1; simpa using this, (World.ownsRow.lt ho5 g h).2⟩))
 have HU3 := Lib.hid (fun g (h : (Value.slice ga a3.length gc).ownBlock = some g) => (show g < w1.heap.size from (World.ownsRow.lt ho3 g h).2))
 clear hb ho3 ho5 BS
 go_wp2_with fail
 refine (HLN.out _).mono ?_
 rintro e w2 ⟨rfl, hb⟩
 have HB2 := Lib.hid (belS HB1.out hb)
 have B32 := Lib.hid (B31.out.below hb)
 have B42 := Lib.hid (B41.out.below hb)
 have B52 := Lib.hid (B51.out.below hb)
 have BQ2 := Lib.hid (BQ1.out.below hb)
 have P3 := Lib.hid (ownsF_below O3.out hb (Nat.le_refl _))
 have P5 := Lib.hid (ownsF_below O5.out hb (Nat.le_refl _))
 have h4s2 := hb.size
 simp at h4s2
 clear hb B31 B41 B51 BQ1
 have p0 := B32.out.cell 0 (by simp)
 have p1 := B32.out.cell 1 (by simp)
 have p2 := B32.out.cell 2 (by simp)
 have p3 := B32.out.cell 3 (by simp)
 have p4 := B32.out.cell 4 (by simp)
 have p5 := B32.out.cell 5 (by simp)
 simp only [List.getElem_cons_zero, List.getElem_cons_succ] at p0 p1 p2 p3 p4 p5
 go_wp2_with fail
 refine (HIP.out _ _ (HX.out _ HB2.out)).mono ?_
 rintro e w3 ⟨rfl, hb⟩
 clear p0 p1 p2 p3 p4 p5
 have HB3 := Lib.hid (belS HB2.out hb)
 have B33 := Lib.hid (B32.out.below hb)
 have B43 := Lib.hid (B42.out.below hb)
 have B53 := Lib.hid (B52.out.below hb)
 have BQ3 := Lib.hid (BQ2.out.below hb)
 have R3 := Lib.hid (ownsF_below P3.out hb (Nat.le_refl _))
 have R5 := Lib.hid (ownsF_below P5.out hb (Nat.le_refl _))
 have h4s3 := hb.size
 skip
 clear hb B32 B42 B52 BQ2
 have h3 := H3.out
 try simp only at h3
 have hl3 : ¬ (l.length : Int) = 3 := by omega
 clear h3
 have p0 := B33.out.cell 0 (by simp)
 have p1 := B33.out.cell 1 (by simp)
 have p2 := B33.out.cell 2 (by simp)
 have p3 := B33.out.cell 3 (by simp)
 have p4 := B33.out.cell 4 (by simp)
 have p5 := B33.out.cell 5 (by simp)
 simp only [List.getElem_cons_zero, List.getElem_cons_succ] at p0 p1 p2 p3 p4 p5
 go_wp2_with fail
 refine (HFO.out _ _ (HX.out _ HB3.out)).mono ?_
 rintro e w4 ⟨rfl, hb⟩
 clear p0 p1 p2 p3 p4 p5
 have HB4 := Lib.hid (belS HB3.out hb)
 have B34 := Lib.hid (B33.out.below hb)
 have B44 := Lib.hid (B43.out.below hb)
 have B54 := Lib.hid (B53.out.below hb)
 have BQ4 := Lib.hid (BQ3.out.below hb)
 have S3 := Lib.hid (ownsF_below R3.out hb (Nat.le_refl _))
 have S5 := Lib.hid (ownsF_below R5.out hb (Nat.le_refl _))
 have h4s4 := hb.size
 skip
 clear hb B33 B43 B53 BQ3
 go_wp2_with fail
 refine (HOF.out _).mono ?_
 rintro e w5 ⟨rfl, rfl⟩
 have BPd := Lib.hid (bx_dr B34.out)
 have BQd := Lib.hid (bx_dr BQ4.out)
 have B4d := Lib.hid (bx_dr B44.out)
 have B5d := Lib.hid (bx_dr B54.out)
 have p0 := BPd.out.cell 0 (by simp)
 have p1 := BPd.out.cell 1 (by simp)
 have p2 := BPd.out.cell 2 (by simp)
 have p3 := BPd.out.cell 3 (by simp)
 have p4 := BPd.out.cell 4 (by simp)
 have p5 := BPd.out.cell 5 (by simp)
 simp only [List.getElem_cons_zero, List.getElem_cons_succ] at p0 p1 p2 p3 p4 p5
 have q0 := BQd.out.cell 0 (by simp)
 have q1 := BQd.out.cell 1 (by simp)
 have q2 := BQd.out.cell 2 (by simp)
 have q3 := BQd.out.cell 3 (by simp)
 have q4 := BQd.out.cell 4 (by simp)
 have q5 := BQd.out.cell 5 (by simp)
 simp only [List.getElem_cons_zero, List.getElem_cons_succ] at q0 q1 q2 q3 q4 q5
 go_wp2_with fail
 go_region_with (first
   |(go_at_call 62; (with_reducible refine (HFO.out _ _ (HX.out _ (bel_dr HB4.out))).mono ?_); rintro e w6 ⟨rfl, hb6⟩; have BQ6 := Lib.hid (BQd.out.below hb6); have B46 := Lib.hid (B4d.out.below hb6); have B56 := Lib.hid (B5d.out.below hb6); have q0' := BQ6.out.cell 0 (by simp); have q1' := BQ6.out.cell 1 (by simp); have q2' := BQ6.out.cell 2 (by simp); have q3' := BQ6.out.cell 3 (by simp); have q4' := BQ6.out.cell 4 (by simp); have q5' := BQ6.out.cell 5 (by simp); have r0 := B46.out.cell 0 (by simp); have z0 := B46.out.froz 0 (by simp); have r1 := B46.out.cell 1 (by simp); have z1 := B46.out.froz 1 (by simp); have r2 := B46.out.cell 2 (by simp); have z2 := B46.out.froz 2 (by simp); have r3 := B46.out.cell 3 (by simp); have z3 := B46.out.froz 3 (by simp); have r4 := B46.out.cell 4 (by simp); have z4 := B46.out.froz 4 (by simp); have r5 := B46.out.cell 5 (by simp); have z5 := B46.out.froz 5 (by simp); have s0 := B56.out.cell 0 (by simp); have y0 := B56.out.froz 0 (by simp); have s1 := B56.out.cell 1 (by simp); have y1 := B56.out.froz 1 (by simp); have s2 := B56.out.cell 2 (by simp); have y2 := B56.out.froz 2 (by simp); have s3 := B56.out.cell 3 (by simp); have y3 := B56.out.froz 3 (by simp); have s4 := B56.out.cell 4 (by simp); have y4 := B56.out.froz 4 (by simp); simp only [List.getElem_cons_zero, List.getElem_cons_succ] at q0' q1' q2' q3' q4' q5' r0 r1 r2 r3 r4 r5 s0 s1 s2 s3 s4))
 all_goals (try go_wp2_with fail)
 all_goals
  have HB6 := Lib.hid (belS (bel_dr HB4.out) hb6)
  have T3 := Lib.hid (ownsF_below (ownsF_drew S3.out) hb6 (Nat.le_refl _))
  have T5 := Lib.hid (ownsF_below (ownsF_drew S5.out) hb6 (Nat.le_refl _))
 all_goals
  refine bodyPost_ret (v := .tuple #[.agg #[.string ⟨a0.toArray⟩, .bool a1, .bool a2, .slice ga a3.length gc, .int .i64 a4, .slice ua l.length uc], .agg #[.int .i64 1, .int .i64 0, .string ⟨#[]⟩, .int .i64 nd, .int .i64 fp]]) (by simp [results, Tryz.results56, go_sem, cell_set_at, cell_set_ne, r0, r1, r2, r3, r4, r5, s0, s1, s2, s3, s4]) rfl ⟨_, rfl, ⟨_, _, rfl, ?_, ?_⟩, ?_⟩
  ·refine ownsF_base (B := (((w.heap.size + 1) + 1) + 1)) ?_ (by omega)
   repeat (first | with_reducible exact T3.out | with_reducible refine ownsF_set ?_ (by simp; try omega) | with_reducible refine ownsF_drew ?_)
  ·refine ownsF_base (B := (((w.heap.size + 1) + 1) + 1)) ?_ (by omega)
   repeat (first | with_reducible exact T5.out | with_reducible refine ownsF_set ?_ (by simp; try omega) | with_reducible refine ownsF_drew ?_)
  ·repeat (first | with_reducible exact HB6.out | with_reducible refine Below.setCell ?_ (by simp; try omega) _ | with_reducible refine Below.drew ?_)
set_option maxRecDepth 100000 in
set_option maxHeartbeats 3200000 in
theorem specWrap_ok (v : Value) (x : PartD) (s : ByteArray) (w : World) (hx : ValAt rPart 0 w v x) (hs : SmallP x) (hk : ∀ c ∈ x.fCore.fCells, c.fKey.length ≤ maxLen) (hz : s.size ≤ 1048576) (hc : 0 ≤ layI s.data.toList) (hp : partB x = true) (h3 : ¬ x.fLayers.length = 3) (ho : offersF (faceP x) (needI (layI s.data.toList)) = true) :
  Calls Tryz.prog 56 #[v, .string s] w fun e w' => GivesOPR (wrapP x s.data.toList) (wrapR x s.data.toList) w e w' := by
 obtain ⟨hwp, hwr⟩ := wrap_ok (x := x) (s := s.data.toList) ⟨hp, hc⟩ h3 ho
 rw [hwp, hwr]
 clear hwp hwr
 have H3 := Lib.hid h3
 clear h3
 have HOF := Lib.hid (fun W => specOffers_any (faceP x) (needI (layI s.data.toList)) W)
 rw [ho] at HOF
 have HFO := Lib.hid (fun cs W (h : rPart 0 W cs x) => specFaceOf_any (.agg cs.toArray) x W ⟨cs, rfl, h⟩)
 clear ho
 obtain ⟨_, rfl, hx⟩ := hx
 have HX := Lib.hid (fun W (hb : Below w.heap.size w W) => goodPart.keep hx (kept_below hb (Nat.le_refl _)))
 have HIP := Lib.hid (fun cs W (h : rPart 0 W cs x) => specIsPart_any (.agg cs.toArray) x W ⟨cs, rfl, h⟩ hk)
 have HCP := Lib.hid (fun cs W (h : rPart 0 W cs x) => l4Copy_own (.agg cs.toArray) x W ⟨cs, rfl, h⟩ hs)
 have HLN := Lib.hid (fun W => l4Row_any s W)
 have HSZ := Lib.hid hs.lays
 unfold l4V at HLN
 unfold GivesOPR vReply
 unfold GivesOP at HCP
 rw [hp] at HIP
 rw [show decide (0 ≤ layI s.data.toList) = true from decide_eq_true hc] at HLN
 generalize needI (layI s.data.toList) = nd at *
 generalize giveI (layI s.data.toList) = gv at *
 generalize faceP x = fp at *
 obtain ⟨⟨a0, a1, a2, a3, a4⟩, l⟩ := x
 obtain ⟨v3, v5, rfl, h3, h5⟩ := hx
 simp only at h3 h5 HSZ
 obtain ⟨ra, rc, rfl, _⟩ := sliceAt_len h3
 obtain ⟨sa, sc, rfl, hl, hcap⟩ := sliceAt_cap h5
 clear h3 h5 hs hk hcap hl
 have BS := Lib.hid (bx_start3 w [.string ⟨a0.toArray⟩, .bool a1, .bool a2, .slice ra a3.length rc, .int .i64 a4, .slice sa l.length sc] [.string ⟨#[]⟩, .bool false, .bool false, .slice none 0 0, .int .i64 0, .slice none 0 0] [.int .i64 0, .int .i64 0, .string ⟨#[]⟩, .int .i64 0, .int .i64 0] 37 37 39)
 have HR0 := Lib.hid (HX.out _ BS.out.2.2.2)
 clear hc hp
 go_enter Tryz.func56, Tryz.ntmps56
 go_wp2_with fail
 refine (HCP.out _ _ HR0.out).mono ?_
 rintro e w1 ⟨_, rfl, ⟨u3, u5, rfl, ho3, ho5⟩, hb⟩
 simp only at ho3 ho5
 obtain ⟨ga, gc, rfl⟩ := slice_of ho3
 obtain ⟨ua, uc, rfl⟩ := slice_of ho5
 have HB1 := Lib.hid ((belS BS.out.2.2.2 hb).alloc (belS BS.out.2.2.2 hb).size (.cells #[.string ⟨a0.toArray⟩, .bool a1, .bool a2, .slice ga a3.length gc, .int .i64 a4, .slice ua l.length uc] 37))
 have B31 := Lib.hid ((BS.out.1.below hb).alloc (.cells #[.string ⟨a0.toArray⟩, .bool a1, .bool a2, .slice ga a3.length gc, .int .i64 a4, .slice ua l.length uc] 37))
 have B41 := Lib.hid ((BS.out.2.1.below hb).alloc (.cells #[.string ⟨a0.toArray⟩, .bool a1, .bool a2, .slice ga a3.length gc, .int .i64 a4, .slice ua l.length uc] 37))
 have B51 := Lib.hid ((BS.out.2.2.1.below hb).alloc (.cells #[.string ⟨a0.toArray⟩, .bool a1, .bool a2, .slice ga a3.length gc, .int .i64 a4, .slice ua l.length uc] 37))
 have BQ1 := Lib.hid (Bx.new w1 [.string ⟨a0.toArray⟩, .bool a1, .bool a2, .slice ga a3.length gc, .int .i64 a4, .slice ua l.length uc] 37)
 have O3 := Lib.hid (ownsF_alloc (ownsF_base (B' := w.heap.size + 1 + 1 + 1) ho3 (by simp)) (.cells #[.string ⟨a0.toArray⟩, .bool a1, .bool a2, .slice ga a3.length gc, .int .i64 a4, .slice ua l.length uc] 37))
 have O5 := Lib.hid (ownsF_alloc (ownsF_base (B' := w.heap.size + 1 + 1 + 1) ho5 (by simp)) (.cells #[.string ⟨a0.toArray⟩, .bool a1, .bool a2, .slice ga a3.length gc, .int .i64 a4, .slice ua l.length uc] 37))
 have h3s := hb.size
 simp at h3s
 have HU5 := Lib.hid (fun g (h : (Value.slice ua l.length uc).ownBlock = some g) => (show w.heap.size + 1 + 1 + 1 ≤ g ∧ g < w1.heap.size from ⟨by have := (World.ownsRow.lt ho5 g h).1; simpa using this, (World.ownsRow.lt ho5 g h).2⟩))
 have HU3 := Lib.hid (fun g (h : (Value.slice ga a3.length gc).ownBlock = some g) => (show g < w1.heap.size from (World.ownsRow.lt ho3 g h).2))
 clear hb ho3 ho5 BS
 go_wp2_with fail
 refine (HLN.out _).mono ?_
 rintro e w2 ⟨rfl, hb⟩
 have HB2 := Lib.hid (belS HB1.out hb)
 have B32 := Lib.hid (B31.out.below hb)
 have B42 := Lib.hid (B41.out.below hb)
 have B52 := Lib.hid (B51.out.below hb)
 have BQ2 := Lib.hid (BQ1.out.below hb)
 have P3 := Lib.hid (ownsF_below O3.out hb (Nat.le_refl _))
 have P5 := Lib.hid (ownsF_below O5.out hb (Nat.le_refl _))
 have h4s2 := hb.size
 simp at h4s2
 clear hb B31 B41 B51 BQ1
 have p0 := B32.out.cell 0 (by simp)
 have p1 := B32.out.cell 1 (by simp)
 have p2 := B32.out.cell 2 (by simp)
 have p3 := B32.out.cell 3 (by simp)
 have p4 := B32.out.cell 4 (by simp)
 have p5 := B32.out.cell 5 (by simp)
 simp only [List.getElem_cons_zero, List.getElem_cons_succ] at p0 p1 p2 p3 p4 p5
 go_wp2_with fail
 refine (HIP.out _ _ (HX.out _ HB2.out)).mono ?_
 rintro e w3 ⟨rfl, hb⟩
 clear p0 p1 p2 p3 p4 p5
 have HB3 := Lib.hid (belS HB2.out hb)
 have B33 := Lib.hid (B32.out.below hb)
 have B43 := Lib.hid (B42.out.below hb)
 have B53 := Lib.hid (B52.out.below hb)
 have BQ3 := Lib.hid (BQ2.out.below hb)
 have R3 := Lib.hid (ownsF_below P3.out hb (Nat.le_refl _))
 have R5 := Lib.hid (ownsF_below P5.out hb (Nat.le_refl _))
 have h4s3 := hb.size
 skip
 clear hb B32 B42 B52 BQ2
 have h3 := H3.out
 try simp only at h3
 have hl3 : ¬ (l.length : Int) = 3 := by omega
 clear h3
 have p0 := B33.out.cell 0 (by simp)
 have p1 := B33.out.cell 1 (by simp)
 have p2 := B33.out.cell 2 (by simp)
 have p3 := B33.out.cell 3 (by simp)
 have p4 := B33.out.cell 4 (by simp)
 have p5 := B33.out.cell 5 (by simp)
 simp only [List.getElem_cons_zero, List.getElem_cons_succ] at p0 p1 p2 p3 p4 p5
 go_wp2_with fail
 refine (HFO.out _ _ (HX.out _ HB3.out)).mono ?_
 rintro e w4 ⟨rfl, hb⟩
 clear p0 p1 p2 p3 p4 p5
 have HB4 := Lib.hid (belS HB3.out hb)
 have B34 := Lib.hid (B33.out.below hb)
 have B44 := Lib.hid (B43.out.below hb)
 have B54 := Lib.hid (B53.out.below hb)
 have BQ4 := Lib.hid (BQ3.out.below hb)
 have S3 := Lib.hid (ownsF_below R3.out hb (Nat.le_refl _))
 have S5 := Lib.hid (ownsF_below R5.out hb (Nat.le_refl _))
 have h4s4 := hb.size
 skip
 clear hb B33 B43 B53 BQ3
 go_wp2_with fail
 refine (HOF.out _).mono ?_
 rintro e w5 ⟨rfl, rfl⟩
 have hcl : ∀ j, j < 2 → (w4.alloc (.cells #[.string s, .int .i64 0] 86)).cell? ⟨w4.heap.size, j, none⟩ = (cLayer ⟨s.data.toList, 0⟩)[j]? := cell_newL w4 ⟨s.data.toList, 0⟩ _ rfl
 have hlen : (l ++ [(⟨s.data.toList, 0⟩ : LayerD)]).length = l.length + 1 := by simp
 have hcap : l.length ≤ 4194304 := by have := HSZ.out; omega
 have hBs : w.heap.size + 1 + 1 + 1 ≤ (w4.alloc (.cells #[.string s, .int .i64 0] 86)).heap.size := by simp; omega
 have q0 := BQ4.out.cell 0 (by simp)
 have q1 := BQ4.out.cell 1 (by simp)
 have q2 := BQ4.out.cell 2 (by simp)
 have q3 := BQ4.out.cell 3 (by simp)
 have q4 := BQ4.out.cell 4 (by simp)
 have q5 := BQ4.out.cell 5 (by simp)
 simp only [List.getElem_cons_zero, List.getElem_cons_succ] at q0 q1 q2 q3 q4 q5
 have p0 := BQ4.out.froz 0 (by simp)
 have p1 := BQ4.out.froz 1 (by simp)
 have p2 := BQ4.out.froz 2 (by simp)
 have p3 := BQ4.out.froz 3 (by simp)
 have p4 := BQ4.out.froz 4 (by simp)
 have p5 := BQ4.out.froz 5 (by simp)
 go_wp2_with (at_builtin; refine append_lay rfl _ _ rfl (w.heap.size + 1 + 1 + 1) (.slice ua l.length uc) l ⟨s.data.toList, 0⟩ (w4.alloc (.cells #[.string s, .int .i64 0] 86)) w4.heap.size rfl (ownsF_alloc S5.out _) rfl hcl hcap hBs ?_; intro v6 w6 hO6 hg6; obtain ⟨va, vc, rfl⟩ := slice_lenW hO6 hlen; have HO6 := Lib.hid hO6; clear hO6; have HG6 := Lib.hid hg6; clear hg6; have QX := Lib.hid ((BQ4.out.alloc (.cells #[.string s, .int .i64 0] 86)).grown HG6.out (fun e => by have := HU5.out _ e; omega)); have B46 := Lib.hid ((B44.out.alloc (.cells #[.string s, .int .i64 0] 86)).grown HG6.out (fun e => by have := HU5.out _ e; omega)); have B56 := Lib.hid ((B54.out.alloc (.cells #[.string s, .int .i64 0] 86)).grown HG6.out (fun e => by have := HU5.out _ e; omega)); have B47 := Lib.hid (B46.out.other (c := w1.heap.size) (by omega) 5 (.slice va (l.length + 1) vc)); have B57 := Lib.hid (B56.out.other (c := w1.heap.size) (by omega) 5 (.slice va (l.length + 1) vc)); have BQ7 := Lib.hid (QX.out.set 5 (by simp) (.slice va (l.length + 1) vc)); have q5' := QX.out.cell 5 (by simp); have p5' := QX.out.froz 5 (by simp); simp only [List.set_cons_succ, List.set_cons_zero] at BQ7; have x0 := BQ7.out.cell 0 (by simp); have r0 := B47.out.cell 0 (by simp); have z0 := B47.out.froz 0 (by simp); have x1 := BQ7.out.cell 1 (by simp); have r1 := B47.out.cell 1 (by simp); have z1 := B47.out.froz 1 (by simp); have x2 := BQ7.out.cell 2 (by simp); have r2 := B47.out.cell 2 (by simp); have z2 := B47.out.froz 2 (by simp); have x3 := BQ7.out.cell 3 (by simp); have r3 := B47.out.cell 3 (by simp); have z3 := B47.out.froz 3 (by simp); have x4 := BQ7.out.cell 4 (by simp); have r4 := B47.out.cell 4 (by simp); have z4 := B47.out.froz 4 (by simp); have x5 := BQ7.out.cell 5 (by simp); have r5 := B47.out.cell 5 (by simp); have z5 := B47.out.froz 5 (by simp); have s0 := B57.out.cell 0 (by simp); have y0 := B57.out.froz 0 (by simp); have s1 := B57.out.cell 1 (by simp); have y1 := B57.out.froz 1 (by simp); have s2 := B57.out.cell 2 (by simp); have y2 := B57.out.froz 2 (by simp); have s3 := B57.out.cell 3 (by simp); have y3 := B57.out.froz 3 (by simp); have s4 := B57.out.cell 4 (by simp); have y4 := B57.out.froz 4 (by simp); simp only [List.getElem_cons_zero, List.getElem_cons_succ] at q5' x0 r0 x1 r1 x2 r2 x3 r3 x4 r4 x5 r5 s0 s1 s2 s3 s4)
 have HB6 := Lib.hid (below_appendF (HB4.out.alloc HB4.out.size _) (ownsF_base (B' := w.heap.size) (ownsF_alloc S5.out _) (by omega)) HG6.out (Nat.le_trans (by omega) hBs))
 have U3 := Lib.hid (ownsF_keptF (ownsF_alloc S3.out _) (ownsF_alloc S5.out _) HG6.out (by decide))
 have hnb : (Value.slice va (l.length + 1) vc).ownBlock ≠ some w1.heap.size := lay_not_bool HO6.out (by rw [hlen]; omega) (QX.out.cell 1 (by simp))
 have HB7 := Lib.hid (HB6.out.setCell (p := ⟨w1.heap.size, 5, none⟩) (by simp; omega) (.slice va (l.length + 1) vc))
 have T3 := Lib.hid (ownsF_setNe (p := ⟨w1.heap.size, 5, none⟩) (u := .slice va (l.length + 1) vc) U3.out (fun e => Nat.lt_irrefl _ (HU3.out _ e)))
 have T5 := Lib.hid (ownsF_setNe (p := ⟨w1.heap.size, 5, none⟩) (u := .slice va (l.length + 1) vc) HO6.out hnb)
 all_goals
  refine bodyPost_ret (v := .tuple #[.agg #[.string ⟨a0.toArray⟩, .bool a1, .bool a2, .slice ga a3.length gc, .int .i64 a4, .slice va (l.length + 1) vc], .agg #[.int .i64 0, .int .i64 gv, .string ⟨#[]⟩, .int .i64 0, .int .i64 0]]) (by simp [results, Tryz.results56, go_sem, cell_set_at, cell_set_ne, r0, r1, r2, r3, r4, r5, s0, s1, s2, s3, s4]) rfl ⟨_, rfl, ⟨_, _, rfl, ?_, ?_⟩, ?_⟩
  ·refine ownsF_base (B := (((w.heap.size + 1) + 1) + 1)) ?_ (by omega)
   repeat (first | with_reducible exact T3.out | with_reducible refine ownsF_set ?_ (by simp; try omega) | with_reducible refine ownsF_drew ?_)
  ·refine ownsF_base (B := (((w.heap.size + 1) + 1) + 1)) ?_ (by omega)
   repeat (first | with_reducible exact T5.out | with_reducible refine ownsF_set ?_ (by simp; try omega) | with_reducible refine ownsF_drew ?_)
  ·repeat (first | with_reducible exact HB7.out | with_reducible refine Below.setCell ?_ (by simp; try omega) _ | with_reducible refine Below.drew ?_)
theorem specWrap_any (v : Value) (x : PartD) (s : ByteArray) (w : World) (hx : ValAt rPart 0 w v x) (hs : SmallP x) (hk : ∀ c ∈ x.fCore.fCells, c.fKey.length ≤ maxLen) (hz : s.size ≤ 1048576) :
  Calls Tryz.prog 56 #[v, .string s] w fun e w' => GivesOPR (wrapP x s.data.toList) (wrapR x s.data.toList) w e w' := by
 cases hp : partB x with
 | false => exact specWrap_bad1 v x s w hx hs hk hz hp
 | true =>
  by_cases hc : 0 ≤ layI s.data.toList
  ·by_cases h3 : x.fLayers.length = 3
   ·exact specWrap_full v x s w hx hs hk hz hc hp h3
   ·cases ho : offersF (faceP x) (needI (layI s.data.toList)) with
    | false => exact specWrap_fail v x s w hx hs hk hz hc hp h3 ho
    | true => exact specWrap_ok v x s w hx hs hk hz hc hp h3 ho
  ·exact specWrap_bad2 v x s w hx hs hk hz hc hp
set_option maxRecDepth 100000 in
set_option maxHeartbeats 800000 in
theorem l4Name_any (b : Nat) (v : Value) (l : List UInt8) (w : World) (hC : Cur w b v l) :
  Calls Tryz.prog 126 #[.pointer (some ⟨b, 0, none⟩)] w fun e w' => DrawnStr (fun x => x.size ≤ 9) b v l w e w' := by
 have HC0 := Lib.hid hC
 clear hC
 go_enter Tryz.func126, Tryz.ntmps126
 go_wp2_with fail
 refine (l1Once_any b v l _ w HC0.out (by omega) (by omega)).mono ?_
 rintro e w1 ⟨x, rfl, hg, hC⟩
 have HG1 := Lib.hid (hg)
 have HC1 := Lib.hid hC
 clear hg hC
 cases x
 all_goals
  go_wp2_with fail
  refine (l1Str_new b v l w1 _ _ _ _ 9 HC1.out (by rfl) (by decide) (by decide) (by decide)).mono ?_
  rintro e w2 ⟨x, rfl, hx, hg1, hC1⟩
  have HG := Lib.hid (grown_trans HG1.out hg1)
  have HC2 := Lib.hid hC1
  clear hg1 hC1
  go_wp2_with fail
  go_ret
  exact ⟨_, rfl, hx, HG.out, HC2.out⟩
set_option maxRecDepth 100000 in
set_option maxHeartbeats 3200000 in
theorem l4Fitting_any (b : Nat) (v : Value) (l : List UInt8) (f : Int) (w : World) (hC : Cur w b v l) :
  Calls Tryz.prog 143 #[.pointer (some ⟨b, 0, none⟩), .int .i64 f] w fun e w' => DrawnStr (fun x => x.size ≤ 9) b v l w e w' := by
 have BG := Lib.hid (bag_start hC)
 clear hC
 go_enter Tryz.func143, Tryz.ntmps143
 go_wp2_with fail
 refine (l4Name_any b v l _ BG.out.cur).mono ?_
 rintro e w1 ⟨s, rfl, hs, hg, hC⟩
 replace BG := Lib.hid (BG.out.draw hg hC)
 clear hg hC
 go_wp2_with fail
 go_loopw [5, 6, 7, 8] (fun sv iv _ _ wr => ∃ (s : ByteArray) (i : Nat), sv = .string s ∧ s.size ≤ 9 ∧ iv = .int .i64 i ∧ i ≤ 6 ∧ Bag w w.heap.size b v l [] [] wr) (fun _ iv _ _ _ => 6 - (intOf iv).toNat)
 case atStart => exact ⟨s, 0, rfl, hs, rfl, by omega, BG.out⟩
 case round =>
  clear BG hs
  obtain ⟨s, i, rfl, hs, rfl, hi, hbg⟩ := hrel
  have BG := Lib.hid hbg
  have HS := Lib.hid hs
  clear hbg hs
  by_cases hlt : i < 6
  ·have HLN := Lib.hid (fun W => specLayerNeeds_any s W)
   unfold ndV at HLN
   generalize decide (0 ≤ layI s.data.toList) = q at *
   generalize needI (layI s.data.toList) = n at *
   have HOF := Lib.hid (fun W => specOffers_any f n W)
   generalize offersF f n = o at *
   go_wp2_with fail
   refine (HLN.out _).mono ?_
   rintro e w2 ⟨rfl, hb⟩
   replace BG := Lib.hid (BG.out.below hb)
   clear hb
   cases q
   case false =>
    go_wp2_with fail
    all_goals (first
     |(go_ret; exact ⟨_, rfl, HS.out, BG.out.grown, BG.out.cur⟩)
     |(refine (l4Name_any b v l _ BG.out.cur).mono ?_; rintro e w3 ⟨z, rfl, hz, hg, hC⟩; replace BG := Lib.hid (BG.out.draw hg hC); clear hg hC; go_wp2_with fail; exact ⟨⟨z, i + 1, rfl, hz, by go_num, by omega, BG.out⟩, by simp [intOf]; omega⟩))
   case true =>
    go_wp2_with fail
    refine (HOF.out _).mono ?_
    rintro e w' ⟨rfl, rfl⟩
    cases o
    all_goals go_wp2_with fail
    all_goals (first
     |(go_ret; exact ⟨_, rfl, HS.out, BG.out.grown, BG.out.cur⟩)
     |(refine (l4Name_any b v l _ BG.out.cur).mono ?_; rintro e w3 ⟨z, rfl, hz, hg, hC⟩; replace BG := Lib.hid (BG.out.draw hg hC); clear hg hC; go_wp2_with fail; exact ⟨⟨z, i + 1, rfl, hz, by go_num, by omega, BG.out⟩, by simp [intOf]; omega⟩))
  ·go_wp2_with fail
   go_ret
   exact ⟨_, rfl, HS.out, BG.out.grown, BG.out.cur⟩
end Go.Proofs.YtcpbikilgacdlaaGreat
namespace Go.Proofs.YtcpbikilgacdlaaGreat
set_option linter.unusedVariables false
set_option linter.unusedSimpArgs false
open Go
open Go.RowKit
section
variable {P : Program} {ops : Array Oper} {Q : Exit → Act → World → Prop} {md : Region.Mode} {S : World → Prop}
theorem wpOp_more {j : Nat} {oj : Oper} {d : Tmp} {v : Value} (hj : ops[j]? = some oj) (h1 : d ∉ oj.looksAt ops) (h2 : oj.dst ≠ some d)
  (hsj : ∀ cs b, oj.op ≠ .select cs b) (hQ : ∀ c a w, Q (.panic c) a w → Q (.panic c) (a.put (some d) v) w) {K : Act → World → Prop} {a : Act} {w : World}
  (h : wpOp P ops Q j K a w) : wpOp P ops Q j (fun a' w' => ∃ a0 : Act, a' = a0.put (some d) v ∧ K a0 w') (a.put (some d) v) w := by
 have e1 : ∀ d', (some d : Option Tmp) = some d' → d' ∉ oj.looksAt ops := fun d' e => by injection e with e; exact e ▸ h1
 have e2 : ∀ d', (some d : Option Tmp) = some d' → oj.dst ≠ some d' := fun d' e => by injection e with e; exact e ▸ h2
 unfold wpOp at *
 simp only [hj] at *
 rw [wanted_put oj a (some d) v e1]
 split
 ·rename_i hw
  simp only [hw, if_true] at h
  rcases h with h | ⟨hasks, hlets⟩
  case inr => exact .inr ⟨by unfold Oper.asks at *; rw [execOp_put oj hsj a (some d) v e1]; exact hasks, hlets⟩
  refine .inl ?_
  unfold Oper.wp at *
  rw [execOp_put oj hsj a (some d) v e1]
  generalize (execOp a.eval oj).run P w = r at *
  cases r with
  | ok n w' =>
   cases n <;> simp only [Oper.upon] at h ⊢
   case value u => exact ⟨_, Act.put_comm a v u e2, h⟩
   case skip => exact ⟨_, Act.put_comm a v undef e2, h⟩
   case defer x =>
    refine ⟨_, ?_, h⟩
    rw [Act.put_defers, Act.put_comm _ v undef e2]
   case enter f args =>
    refine Calls.mono h fun e w'' he => ?_
    cases e with
    | returned u => exact ⟨_, Act.put_comm a v u e2, he⟩
    | panicked c => exact hQ _ _ _ he
    | outgrown => exact he
   case row row args => exact Rows.mono h fun u w'' he => ⟨_, Act.put_comm a v u e2, he⟩
  | halt x w' =>
   cases x <;> simp only [Oper.upon] at h ⊢
   case panic u => exact hQ _ _ _ h
 ·rename_i hw
  simp only [hw] at h
  exact ⟨_, Act.put_comm a v undef e2, h⟩
structure Flo (P : Program) (ops : Array Oper) (k : Nat) (d : Tmp) (o : Obj) : Prop where
 op : ∃ x, ops[k]? = some x ∧ x.dst = some d ∧ x.guard = none ∧ ∀ (a : Act) (w : World), (execOp a.eval x).run P w = .ok (.value (.pointer (some ⟨w.heap.size, 0, none⟩))) (w.alloc o)
theorem Flo.wpOp {k : Nat} {d : Tmp} {o : Obj} (h : Flo P ops k d o) {K : Act → World → Prop} {a : Act} {w : World}
  (hK : K (a.put (some d) (.pointer (some ⟨w.heap.size, 0, none⟩))) (w.alloc o)) : wpOp P ops Q k K a w := by
 obtain ⟨x, hx, hd, hg, hr⟩ := h.op
 unfold Go.wpOp
 simp only [hx]
 have hw : Region.wanted x (yielded ops a.tmps) = true := by unfold Region.wanted; rw [hg]
 simp only [hw, if_true]
 refine .inl ?_
 unfold Oper.wp
 rw [hr, Oper.upon_value, hd]
 exact hK
def listF (k1 k2 : Nat) (L : Array Bool) (f1 f2 : Bool) : Array Bool :=
 let L1 := if f1 then L.setIfInBounds k1 true else L
 if f2 then L1.setIfInBounds k2 true else L1
def fillF (d1 d2 : Tmp) (a : Act) (s1 s2 : Option Nat) : Act :=
 let a1 := match s1 with | some b => a.put (some d1) (.pointer (some ⟨b, 0, none⟩)) | none => a
 match s2 with | some b => a1.put (some d2) (.pointer (some ⟨b, 0, none⟩)) | none => a1
def floAt (md : Region.Mode) (ops : Array Oper) (k1 k2 : Nat) (h : Option Nat) (L : Array Bool) (f1 f2 : Bool) : Bool :=
 let r := Region.ready md ops (listF k1 k2 L f1 f2)
 !r.isEmpty && r.all fun i => h == some i || (i == k1 && !f1) || (i == k2 && !f2)
def floTake (md : Region.Mode) (ops : Array Oper) (k1 k2 : Nat) (i : Nat) (L : Array Bool) (f1 f2 : Bool) : Bool :=
 Region.free md ops (listF k1 k2 L f1 f2) i && (Region.ready md ops (listF k1 k2 L f1 f2)).contains i
def floOp (ops : Array Oper) (k1 k2 : Nat) (d1 d2 : Tmp) (j : Nat) : Bool :=
 (j != k1) && (j != k2) && (match ops[j]? with | some o => !(o.looksAt ops).contains d1 && !(o.looksAt ops).contains d2 && o.dst != some d1 && o.dst != some d2 | none => false)
def floOk (md : Region.Mode) (ops : Array Oper) (k1 k2 : Nat) (d1 d2 : Tmp) : List (Nat × Bool) → Array Bool → Bool
 | [], L => floAt md ops k1 k2 none L false false && floAt md ops k1 k2 none L true false && floAt md ops k1 k2 none L false true
 |(j, false) :: js, L => floAt md ops k1 k2 (some j) L false false && floAt md ops k1 k2 (some j) L true false && floAt md ops k1 k2 (some j) L false true && floAt md ops k1 k2 (some j) L true true &&
   floOp ops k1 k2 d1 d2 j && floOk md ops k1 k2 d1 d2 js (L.setIfInBounds j true)
 |(j, true) :: js, L => floTake md ops k1 k2 j L false false && floTake md ops k1 k2 j L true false && floTake md ops k1 k2 j L false true && floTake md ops k1 k2 j L true true &&
   floOp ops k1 k2 d1 d2 j && floOk md ops k1 k2 d1 d2 js (L.setIfInBounds j true)
def wpFl (P : Program) (md : Region.Mode) (ops : Array Oper) (Q : Exit → Act → World → Prop) (S : World → Prop) (k1 k2 : Nat) (d1 d2 : Tmp) (G1 G2 : World → Nat → Prop) (base fz : Nat) : List (Nat × Bool) → List (Nat × Nat) → Array Bool → Act → World → Prop
 | [], gs, L, a, w => ∀ (W : World) (b1 b2 : Nat), Below w.heap.size w W → S W → G1 W b1 → G2 W b2 → b1 ≠ b2 → base ≤ b1 → base ≤ b2 → (∀ g ∈ gs, (b1 < g.1 ∨ g.2 ≤ b1) ∧ (b2 < g.1 ∨ g.2 ≤ b2)) →
   wpAnyH P md ops Q S fz ((L.setIfInBounds k1 true).setIfInBounds k2 true) ((a.put (some d1) (.pointer (some ⟨b1, 0, none⟩))).put (some d2) (.pointer (some ⟨b2, 0, none⟩))) W
 |(i, true) :: js, gs, L, a, w => ∃ oi v, ops[i]? = some oi ∧ YieldsIf P ops S oi v a ∧ wpFl P md ops Q S k1 k2 d1 d2 G1 G2 base fz js gs (L.setIfInBounds i true) (a.put oi.dst v) w
 |(j, false) :: js, gs, L, a, w => ∀ W, Below w.heap.size w W → S W → wpOp P ops Q j (fun a' w' => Below W.heap.size W w' ∧ S w' ∧ wpFl P md ops Q S k1 k2 d1 d2 G1 G2 base fz js ((W.heap.size, w'.heap.size) :: gs) (L.setIfInBounds j true) a' w') a W
theorem floAt_spec {k1 k2 : Nat} {h0 : Option Nat} {L : Array Bool} {f1 f2 : Bool} (h : floAt md ops k1 k2 h0 L f1 f2 = true) :
  Region.ready md ops (listF k1 k2 L f1 f2) ≠ [] ∧ ∀ i ∈ Region.ready md ops (listF k1 k2 L f1 f2), h0 = some i ∨ (i = k1 ∧ f1 = false) ∨ (i = k2 ∧ f2 = false) := by
 unfold floAt at h
 simp only [Bool.and_eq_true, Bool.not_eq_true', List.all_eq_true, Bool.or_eq_true, beq_iff_eq, List.isEmpty_eq_false_iff] at h
 refine ⟨h.1, fun i hi => ?_⟩
 have := h.2 i hi
 rcases this with (h | h) | h
 ·exact .inl h
 ·exact .inr (.inl h)
 ·exact .inr (.inr h)
theorem floOp_spec {k1 k2 : Nat} {d1 d2 : Tmp} {j : Nat} (h : floOp ops k1 k2 d1 d2 j = true) : j ≠ k1 ∧ j ≠ k2 ∧ ∃ o, ops[j]? = some o ∧ d1 ∉ o.looksAt ops ∧ d2 ∉ o.looksAt ops ∧ o.dst ≠ some d1 ∧ o.dst ≠ some d2 := by
 simp only [floOp, Bool.and_eq_true, bne_iff_ne] at h
 obtain ⟨⟨h1, h2⟩, h3⟩ := h
 split at h3
 case h_2 => cases h3
 rename_i o ho
 simp only [Bool.and_eq_true, Bool.not_eq_true', bne_iff_ne] at h3
 obtain ⟨⟨⟨l1, l2⟩, x1⟩, x2⟩ := h3
 exact ⟨h1, h2, o, ho, by simpa using l1, by simpa using l2, x1, x2⟩
theorem listF_set {k1 k2 j : Nat} (L : Array Bool) (f1 f2 : Bool) (h1 : j ≠ k1) (h2 : j ≠ k2) : (listF k1 k2 L f1 f2).setIfInBounds j true = listF k1 k2 (L.setIfInBounds j true) f1 f2 := by
 unfold listF
 cases f1 <;> cases f2 <;> simp only [if_true, Bool.false_eq_true, if_false]
 ·rw [Array.setIfInBounds_comm _ _ (Ne.symm h2)]
 ·rw [Array.setIfInBounds_comm _ _ (Ne.symm h1)]
 ·rw [Array.setIfInBounds_comm _ _ (Ne.symm h2), Array.setIfInBounds_comm _ _ (Ne.symm h1)]
theorem fillF_put {d1 d2 : Tmp} {a : Act} {x : Option Tmp} {v : Value} (t1 t2 : Option Nat) (h1 : x ≠ some d1) (h2 : x ≠ some d2) : (fillF d1 d2 a t1 t2).put x v = fillF d1 d2 (a.put x v) t1 t2 := by
 have e1 : ∀ b : Value, (a.put (some d1) b).put x v = (a.put x v).put (some d1) b := fun b => Act.put_comm a b v (fun d e => by injection e with e; subst e; exact h1)
 have e2 : ∀ (a : Act) (b : Value), (a.put (some d2) b).put x v = (a.put x v).put (some d2) b := fun a b => Act.put_comm a b v (fun d e => by injection e with e; subst e; exact h2)
 unfold fillF
 cases t1 <;> cases t2 <;> simp only [e1, e2]
theorem fillF_yields {d1 d2 : Tmp} {a : Act} {o : Oper} {v : Value} (t1 t2 : Option Nat) (hs : ∀ cs b, o.op ≠ .select cs b) (h1 : d1 ∉ o.looksAt ops) (h2 : d2 ∉ o.looksAt ops) (hy : YieldsIf P ops S o v a) : YieldsIf P ops S o v (fillF d1 d2 a t1 t2) := by
 have p1 : ∀ (a : Act) (b : Value), YieldsIf P ops S o v a → YieldsIf P ops S o v (a.put (some d1) b) := fun a b h => h.of_same (execOp_put o hs a (some d1) b (fun d e => by injection e with e; subst e; exact h1)) (wanted_put o a (some d1) b (fun d e => by injection e with e; subst e; exact h1))
 have p2 : ∀ (a : Act) (b : Value), YieldsIf P ops S o v a → YieldsIf P ops S o v (a.put (some d2) b) := fun a b h => h.of_same (execOp_put o hs a (some d2) b (fun d e => by injection e with e; subst e; exact h2)) (wanted_put o a (some d2) b (fun d e => by injection e with e; subst e; exact h2))
 unfold fillF
 cases t1 <;> cases t2 <;> simp only
 ·exact hy
 ·exact p2 _ _ hy
 ·exact p1 _ _ hy
 ·exact p2 _ _ (p1 _ _ hy)
structure Up (G : World → Nat → Prop) (base : Nat) (gs : List (Nat × Nat)) (W : World) (b : Nat) : Prop where
 g : G W b
 lo : base ≤ b
 lt : b < W.heap.size
 gap : ∀ g ∈ gs, b < g.1 ∨ g.2 ≤ b
theorem float_all {k1 k2 : Nat} {d1 d2 : Tmp} {o1 o2 : Obj} {G1 G2 : World → Nat → Prop} {base fz : Nat} (F1 : Flo P ops k1 d1 o1) (F2 : Flo P ops k2 d2 o2) (hk : k1 ≠ k2) (hd : d1 ≠ d2)
  (hsel : Region.noSelect ops = true) (hQ : ∀ c (a : Act) (d : Tmp) (v : Value) w, Q (.panic c) (a.put (some d) v) w ↔ Q (.panic c) a w) (hS : ∀ W W', S W → Below W.heap.size W W' → S W')
  (n1 : ∀ w : World, G1 (w.alloc o1) w.heap.size) (n2 : ∀ w : World, G2 (w.alloc o2) w.heap.size) (s1 : ∀ W W' b, G1 W b → Below W.heap.size W W' → G1 W' b) (s2 : ∀ W W' b, G2 W b → Below W.heap.size W W' → G2 W' b) :
  ∀ (m : Nat) (js : List (Nat × Bool)) (gs : List (Nat × Nat)) (L : Array Bool) (a : Act) (w W : World) (t1 t2 : Option Nat),
   m = js.length + (if t1.isSome then 0 else 1) + (if t2.isSome then 0 else 1) → floOk md ops k1 k2 d1 d2 js L = true →
   wpFl P md ops Q S k1 k2 d1 d2 G1 G2 base fz js gs L a w → Below w.heap.size w W → S W → base ≤ w.heap.size → (∀ g ∈ gs, g.2 ≤ w.heap.size) →
   (∀ b, t1 = some b → Up G1 base gs W b) → (∀ b, t2 = some b → Up G2 base gs W b) → (∀ b c, t1 = some b → t2 = some c → b ≠ c) →
   wpAnyH P md ops Q S (fz + m) (listF k1 k2 L t1.isSome t2.isSome) (fillF d1 d2 a t1 t2) W := by
 intro m
 induction m with
 | zero =>
  intro js gs L a w W t1 t2 hm hok hwp hb hSW hbase hgs h1 h2 hne
  cases t1 with
  | none => simp at hm; omega
  | some b1 =>
   cases t2 with
   | none => simp at hm; try omega
   | some b2 =>
    cases js with
    | cons j js => simp at hm
    | nil => exact hwp W b1 b2 hb hSW (h1 b1 rfl).g (h2 b2 rfl).g (hne b1 b2 rfl rfl) (h1 b1 rfl).lo (h2 b2 rfl).lo (fun g hg => ⟨(h1 b1 rfl).gap g hg, (h2 b2 rfl).gap g hg⟩)
 | succ m ih =>
  intro js gs L a w W t1 t2 hm hok hwp hb hSW hbase hgs h1 h2 hne
  have hflo : (t1 = none ∨ t2 = none) → floOk md ops k1 k2 d1 d2 js L = true → ∀ i, (i = k1 ∧ t1.isSome = false) ∨ (i = k2 ∧ t2.isSome = false) →
    wpOp P ops Q i (fun a' w' => S w' ∧ wpAnyH P md ops Q S (fz + m) ((listF k1 k2 L t1.isSome t2.isSome).setIfInBounds i true) a' w') (fillF d1 d2 a t1 t2) W := by
   intro _ hok i hi
   rcases hi with ⟨rfl, hf⟩ | ⟨rfl, hf⟩
   ·have ht : t1 = none := by cases t1 <;> simp_all
    subst ht
    refine F1.wpOp ?_
    have hbw : Below W.heap.size W (W.alloc o1) := (Below.refl _ _).alloc (Nat.le_refl _) o1
    refine ⟨hS _ _ hSW hbw, ?_⟩
    have hL : (listF i k2 L (Option.isSome (none : Option Nat)) t2.isSome).setIfInBounds i true = listF i k2 L (Option.isSome (some W.heap.size)) t2.isSome := by
     unfold listF
     cases t2 <;> simp only [Option.isSome, if_true, Bool.false_eq_true, if_false]
     rw [Array.setIfInBounds_comm _ _ (Ne.symm hk)]
    rw [hL]
    have ha : (fillF d1 d2 a none t2).put (some d1) (.pointer (some ⟨W.heap.size, 0, none⟩)) = fillF d1 d2 a (some W.heap.size) t2 := by
     unfold fillF
     cases t2 with
     | none => rfl
     | some b2 => exact Act.put_comm a _ _ (fun d e => by injection e with e; subst e; intro h; injection h with h; exact hd h)
    rw [ha]
    refine ih js gs L a w _ (some W.heap.size) t2 (by simp only [Option.isSome, Bool.false_eq_true, if_false, if_true] at hm ⊢; omega) hok hwp (hb.trans (hbw.mono hb.size)) (hS _ _ hSW hbw) hbase hgs ?_ ?_ ?_
    ·intro b e
     injection e with e; subst e
     exact ⟨n1 W, Nat.le_trans hbase hb.size, by simp, fun g hg => .inr (Nat.le_trans (hgs g hg) hb.size)⟩
    ·intro b e
     have h := h2 b e
     exact ⟨s2 _ _ _ h.g hbw, h.lo, by have := h.lt; simp; omega, h.gap⟩
    ·intro b c e1 e2
     injection e1 with e1; subst e1
     have := (h2 c e2).lt
     omega
   ·have ht : t2 = none := by cases t2 <;> simp_all
    subst ht
    refine F2.wpOp ?_
    have hbw : Below W.heap.size W (W.alloc o2) := (Below.refl _ _).alloc (Nat.le_refl _) o2
    refine ⟨hS _ _ hSW hbw, ?_⟩
    have hL : (listF k1 i L t1.isSome (Option.isSome (none : Option Nat))).setIfInBounds i true = listF k1 i L t1.isSome (Option.isSome (some W.heap.size)) := by
     unfold listF
     simp only [Option.isSome, if_true, Bool.false_eq_true, if_false]
    rw [hL]
    have ha : (fillF d1 d2 a t1 none).put (some d2) (.pointer (some ⟨W.heap.size, 0, none⟩)) = fillF d1 d2 a t1 (some W.heap.size) := rfl
    rw [ha]
    refine ih js gs L a w _ t1 (some W.heap.size) (by simp only [Option.isSome, Bool.false_eq_true, if_false, if_true] at hm ⊢; omega) hok hwp (hb.trans (hbw.mono hb.size)) (hS _ _ hSW hbw) hbase hgs ?_ ?_ ?_
    ·intro b e
     have h := h1 b e
     exact ⟨s1 _ _ _ h.g hbw, h.lo, by have := h.lt; simp; omega, h.gap⟩
    ·intro b e
     injection e with e; subst e
     exact ⟨n2 W, Nat.le_trans hbase hb.size, by simp, fun g hg => .inr (Nat.le_trans (hgs g hg) hb.size)⟩
    ·intro b c e1 e2
     injection e2 with e2; subst e2
     have := (h1 b e1).lt
     omega
  cases js with
  | nil =>
   have hat : floAt md ops k1 k2 none L t1.isSome t2.isSome = true := by
    simp only [floOk, Bool.and_eq_true] at hok
    cases t1 <;> cases t2 <;> first | exact hok.1.1 | exact hok.1.2 | exact hok.2 | (simp at hm)
   obtain ⟨hne0, hall⟩ := floAt_spec hat
   refine ⟨fun h0 => absurd h0 hne0, fun i hi => ?_⟩
   rcases hall i hi with hj | hj
   ·cases hj
   ·refine hflo ?_ hok i hj
    rcases hj with ⟨_, h⟩ | ⟨_, h⟩
    ·left; cases t1 <;> simp_all
    ·right; cases t2 <;> simp_all
  | cons x js =>
   obtain ⟨j, tk⟩ := x
   cases tk with
   | true =>
    have hok0 := hok
    simp only [floOk, Bool.and_eq_true] at hok
    obtain ⟨⟨⟨⟨⟨q1, q2⟩, q3⟩, q4⟩, hop⟩, hok'⟩ := hok
    have hq : floTake md ops k1 k2 j L t1.isSome t2.isSome = true := by
     cases t1 <;> cases t2
     ·exact q1
     ·exact q3
     ·exact q2
     ·exact q4
    obtain ⟨hj1, hj2, oj, hoj, l1, l2, x1, x2⟩ := floOp_spec hop
    obtain ⟨oi, v, hoi, hy, hrest⟩ := hwp
    obtain rfl : oi = oj := by rw [hoi] at hoj; injection hoj
    simp only [floTake, Bool.and_eq_true] at hq
    have hsj : ∀ cs b, oi.op ≠ .select cs b := fun cs b => Region.noSelect_spec hsel j oi cs b hoi
    refine wpAnyH_first hoi (Region.noSelect_spec hsel) (fun c a w h => by cases hdst : oi.dst with | none => rw [hdst] at h; exact h | some d => rw [hdst] at h; exact (hQ c a d v w).1 h) (fz + m) _ _ W (Region.free_spec hoi hq.1) (by simpa using hq.2) (fillF_yields t1 t2 hsj l1 l2 hy) hSW ?_
    rw [listF_set L _ _ hj1 hj2, fillF_put t1 t2 x1 x2]
    exact ih js gs _ _ w W t1 t2 (by simp only [List.length_cons] at hm; omega) hok' hrest hb hSW hbase hgs h1 h2 hne
   | false =>
    have hok0 := hok
    simp only [floOk, Bool.and_eq_true] at hok
    obtain ⟨⟨⟨⟨⟨q1, q2⟩, q3⟩, q4⟩, hop⟩, hok'⟩ := hok
    have hat : floAt md ops k1 k2 (some j) L t1.isSome t2.isSome = true := by
     cases t1 <;> cases t2
     ·exact q1
     ·exact q3
     ·exact q2
     ·exact q4
    obtain ⟨hne0, hall⟩ := floAt_spec hat
    refine ⟨fun h0 => absurd h0 hne0, fun i hi => ?_⟩
    rcases hall i hi with hj | hj
    case inr =>
     refine hflo ?_ hok0 i hj
     rcases hj with ⟨_, h⟩ | ⟨_, h⟩
     ·left; cases t1 <;> simp_all
     ·right; cases t2 <;> simp_all
    obtain rfl : j = i := by simpa using hj
    obtain ⟨hj1, hj2, oj, hoj, l1, l2, x1, x2⟩ := floOp_spec hop
    have hsj : ∀ cs b, oj.op ≠ .select cs b := fun cs b => Region.noSelect_spec hsel j oj cs b hoj
    have H := hwp W hb hSW
    have H2 : wpOp P ops Q j (fun a' w' => ∃ a0 : Act, a' = fillF d1 d2 a0 t1 t2 ∧ Below W.heap.size W w' ∧ S w' ∧ wpFl P md ops Q S k1 k2 d1 d2 G1 G2 base fz js ((W.heap.size, w'.heap.size) :: gs) (L.setIfInBounds j true) a0 w') (fillF d1 d2 a t1 t2) W := by
     unfold fillF
     cases t1 with
     | none =>
      cases t2 with
      | none => exact wpOp_mono (fun a' w' h => ⟨a', rfl, h⟩) H
      | some b2 => exact wpOp_mono (fun a' w' h => by obtain ⟨a0, rfl, h⟩ := h; exact ⟨a0, rfl, h⟩) (wpOp_more hoj l2 x2 hsj (fun c a w h => (hQ c a _ _ w).2 h) H)
     | some b1 =>
      have H1 := wpOp_more (v := .pointer (some ⟨b1, 0, none⟩)) hoj l1 x1 hsj (fun c a w h => (hQ c a _ _ w).2 h) H
      cases t2 with
      | none => exact wpOp_mono (fun a' w' h => by obtain ⟨a0, rfl, h⟩ := h; exact ⟨a0, rfl, h⟩) H1
      | some b2 => exact wpOp_mono (fun a' w' h => by obtain ⟨a1, rfl, a0, rfl, h⟩ := h; exact ⟨a0, rfl, h⟩) (wpOp_more (v := .pointer (some ⟨b2, 0, none⟩)) hoj l2 x2 hsj (fun c a w h => (hQ c a _ _ w).2 h) H1)
    refine wpOp_mono (fun a' w' h => ?_) H2
    obtain ⟨a0, rfl, hbw, hSw, hrest⟩ := h
    refine ⟨hSw, ?_⟩
    rw [listF_set L _ _ hj1 hj2]
    have hup : ∀ (G : World → Nat → Prop) (b : Nat), (∀ W W' b, G W b → Below W.heap.size W W' → G W' b) → Up G base gs W b → Up G base ((W.heap.size, w'.heap.size) :: gs) w' b := fun G b hs h =>
     ⟨hs _ _ _ h.g hbw, h.lo, Nat.lt_of_lt_of_le h.lt hbw.size, fun g hg => by
      rcases List.mem_cons.1 hg with rfl | hg
      ·exact .inl h.lt
      ·exact h.gap g hg⟩
    refine ih js _ _ a0 w' w' t1 t2 (by simp only [List.length_cons] at hm; omega) hok' hrest (Below.refl _ _) hSw (Nat.le_trans hbase (Nat.le_trans hb.size hbw.size)) ?_ (fun b e => hup G1 b s1 (h1 b e)) (fun b e => hup G2 b s2 (h2 b e)) hne
    intro g hg
    rcases List.mem_cons.1 hg with rfl | hg
    ·exact Nat.le_refl _
    ·exact Nat.le_trans (hgs g hg) (Nat.le_trans hb.size hbw.size)
theorem wpAnyH_float {k1 k2 : Nat} {d1 d2 : Tmp} {z1 z2 : List Value} {T1 T2 : TypeId} {js : List (Nat × Bool)} {fz : Nat} {L : Array Bool} {a : Act} {w : World}
  (F1 : Flo P ops k1 d1 (.cells z1.toArray T1)) (F2 : Flo P ops k2 d2 (.cells z2.toArray T2)) (hok : floOk md ops k1 k2 d1 d2 js L = true) (hk : k1 ≠ k2) (hd : d1 ≠ d2)
  (hsel : Region.noSelect ops = true) (hQ : ∀ c (a : Act) (d : Tmp) (v : Value) w, Q (.panic c) (a.put (some d) v) w ↔ Q (.panic c) a w) (hS : ∀ W W', S W → Below W.heap.size W W' → S W') (hSw : S w)
  (h : wpFl P md ops Q S k1 k2 d1 d2 (fun W b => Bx W b z1) (fun W b => Bx W b z2) w.heap.size fz js [] L a w) : wpAnyH P md ops Q S (fz + (js.length + 2)) L a w :=
 float_all F1 F2 hk hd hsel hQ hS (fun w => Bx.new w z1 T1) (fun w => Bx.new w z2 T2) (fun W W' b h hb => h.below hb) (fun W W' b h hb => h.below hb) _ js [] L a w w none none (by simp) hok h (Below.refl _ _) hSw (Nat.le_refl _) (by simp) (by simp) (by simp) (by simp)
theorem wpAnyH_floatN {n k1 k2 : Nat} {d1 d2 : Tmp} {z1 z2 : List Value} {T1 T2 : TypeId} {js : List (Nat × Bool)} {fz : Nat} {L : Array Bool} {a : Act} {w : World} (hn : n = fz + (js.length + 2))
  (F1 : Flo P ops k1 d1 (.cells z1.toArray T1)) (F2 : Flo P ops k2 d2 (.cells z2.toArray T2)) (hok : floOk md ops k1 k2 d1 d2 js L = true) (hk : k1 ≠ k2) (hd : d1 ≠ d2)
  (hsel : Region.noSelect ops = true) (hQ : ∀ c (a : Act) (d : Tmp) (v : Value) w, Q (.panic c) (a.put (some d) v) w ↔ Q (.panic c) a w) (hS : ∀ W W', S W → Below W.heap.size W W' → S W') (hSw : S w)
  (h : wpFl P md ops Q S k1 k2 d1 d2 (fun W b => Bx W b z1) (fun W b => Bx W b z2) w.heap.size fz js [] L a w) : wpAnyH P md ops Q S n L a w :=
 hn ▸ wpAnyH_float F1 F2 hok hk hd hsel hQ hS hSw h
theorem wpFl_step {k1 k2 : Nat} {d1 d2 : Tmp} {G1 G2 : World → Nat → Prop} {base fz j : Nat} {js : List (Nat × Bool)} {gs : List (Nat × Nat)} {L : Array Bool} {a : Act} {w : World} {o : Oper} (ho : ops[j]? = some o)
  (h : ∀ W, Below w.heap.size w W → S W → ∀ K' : Act → World → Prop, Shut (∀ a w', Below W.heap.size W w' → S w' → wpFl P md ops Q S k1 k2 d1 d2 G1 G2 base fz js ((W.heap.size, w'.heap.size) :: gs) (L.setIfInBounds j true) a w' → K' a w') →
   if Region.wanted o (yielded ops a.tmps) = true then Oper.wp P o a W K' Q else K' (a.put o.dst undef) W) :
  wpFl P md ops Q S k1 k2 d1 d2 G1 G2 base fz ((j, false) :: js) gs L a w := fun W hb hSW => wpOp_step ho (fun K' hK => h W hb hSW K' (fun a w' h1 h2 h3 => hK a w' ⟨h1, h2, h3⟩))
theorem wpFl_take {k1 k2 : Nat} {d1 d2 : Tmp} {G1 G2 : World → Nat → Prop} {base fz i : Nat} {js : List (Nat × Bool)} {gs : List (Nat × Nat)} {L : Array Bool} {a : Act} {w : World} {oi : Oper} {v : Value} (ho : ops[i]? = some oi) (hy : YieldsIf P ops S oi v a)
  (h : wpFl P md ops Q S k1 k2 d1 d2 G1 G2 base fz js gs (L.setIfInBounds i true) (a.put oi.dst v) w) : wpFl P md ops Q S k1 k2 d1 d2 G1 G2 base fz ((i, true) :: js) gs L a w := ⟨oi, v, ho, hy, h⟩
theorem wpFl_end {k1 k2 : Nat} {d1 d2 : Tmp} {G1 G2 : World → Nat → Prop} {base fz : Nat} {gs : List (Nat × Nat)} {L : Array Bool} {a : Act} {w : World}
  (h : ∀ (W : World) (b1 b2 : Nat), Below w.heap.size w W → S W → G1 W b1 → G2 W b2 → b1 ≠ b2 → base ≤ b1 → base ≤ b2 → (∀ g ∈ gs, (b1 < g.1 ∨ g.2 ≤ b1) ∧ (b2 < g.1 ∨ g.2 ≤ b2)) →
   wpAnyH P md ops Q S fz ((L.setIfInBounds k1 true).setIfInBounds k2 true) ((a.put (some d1) (.pointer (some ⟨b1, 0, none⟩))).put (some d2) (.pointer (some ⟨b2, 0, none⟩))) W) :
  wpFl P md ops Q S k1 k2 d1 d2 G1 G2 base fz [] gs L a w := h
end
end Go.Proofs.YtcpbikilgacdlaaGreat
namespace Go.Proofs.YtcpbikilgacdlaaGreat
set_option linter.unusedVariables false
open Go Go.RowKit
section
variable {r : Option Nat} {P : Program} {ops : Array Oper} {Q : Exit → Act → World → Prop} {md : Region.Mode} {S : World → Prop}
def wpFd (P : Program) (r : Option Nat) (md : Region.Mode) (ops : Array Oper) (Q : Exit → Act → World → Prop) (S : World → Prop) (k1 k2 : Nat) (d1 d2 : Tmp) (G1 G2 : World → Nat → Prop) (base fz : Nat) : List (Nat × Bool) → List (Nat × Nat) → Array Bool → Act → World → Prop
 | [], gs, L, a, w => ∀ (W : World) (b1 b2 : Nat), Below w.heap.size w W → S W → G1 W b1 → G2 W b2 → b1 ≠ b2 → base ≤ b1 → base ≤ b2 → (∀ g ∈ gs, (b1 < g.1 ∨ g.2 ≤ b1) ∧ (b2 < g.1 ∨ g.2 ≤ b2)) →
   wpAnyH P md ops Q S fz ((L.setIfInBounds k1 true).setIfInBounds k2 true) ((a.put (some d1) (.pointer (some ⟨b1, 0, none⟩))).put (some d2) (.pointer (some ⟨b2, 0, none⟩))) W
 |(i, true) :: js, gs, L, a, w => ∃ oi v, ops[i]? = some oi ∧ YieldsIf P ops S oi v a ∧ wpFd P r md ops Q S k1 k2 d1 d2 G1 G2 base fz js gs (L.setIfInBounds i true) (a.put oi.dst v) w
 |(j, false) :: js, gs, L, a, w => ∀ W, Below w.heap.size w W → S W → wpOp P ops Q j (fun a' w' => W.grownBy w' r ∧ S w' ∧ wpFd P r md ops Q S k1 k2 d1 d2 G1 G2 base fz js ((W.heap.size, w'.heap.size) :: gs) (L.setIfInBounds j true) a' w') a W
theorem floatD_all {k1 k2 : Nat} {d1 d2 : Tmp} {o1 o2 : Obj} {G1 G2 : World → Nat → Prop} {base fz : Nat} (F1 : Flo P ops k1 d1 o1) (F2 : Flo P ops k2 d2 o2) (hk : k1 ≠ k2) (hd : d1 ≠ d2)
  (hsel : Region.noSelect ops = true) (hQ : ∀ c (a : Act) (d : Tmp) (v : Value) w, Q (.panic c) (a.put (some d) v) w ↔ Q (.panic c) a w) (hS : ∀ W W', S W → Below W.heap.size W W' → S W')
  (n1 : ∀ w : World, G1 (w.alloc o1) w.heap.size) (n2 : ∀ w : World, G2 (w.alloc o2) w.heap.size) (s1 : ∀ W W' b, G1 W b → Below W.heap.size W W' → G1 W' b) (s2 : ∀ W W' b, G2 W b → Below W.heap.size W W' → G2 W' b)
  (g1 : ∀ W W' b, G1 W b → base ≤ b → W.grownBy W' r → G1 W' b) (g2 : ∀ W W' b, G2 W b → base ≤ b → W.grownBy W' r → G2 W' b) :
  ∀ (m : Nat) (js : List (Nat × Bool)) (gs : List (Nat × Nat)) (L : Array Bool) (a : Act) (w W : World) (t1 t2 : Option Nat),
   m = js.length + (if t1.isSome then 0 else 1) + (if t2.isSome then 0 else 1) → floOk md ops k1 k2 d1 d2 js L = true →
   wpFd P r md ops Q S k1 k2 d1 d2 G1 G2 base fz js gs L a w → Below w.heap.size w W → S W → base ≤ w.heap.size → (∀ g ∈ gs, g.2 ≤ w.heap.size) →
   (∀ b, t1 = some b → Up G1 base gs W b) → (∀ b, t2 = some b → Up G2 base gs W b) → (∀ b c, t1 = some b → t2 = some c → b ≠ c) →
   wpAnyH P md ops Q S (fz + m) (listF k1 k2 L t1.isSome t2.isSome) (fillF d1 d2 a t1 t2) W := by
 intro m
 induction m with
 | zero =>
  intro js gs L a w W t1 t2 hm hok hwp hb hSW hbase hgs h1 h2 hne
  cases t1 with
  | none => simp at hm; omega
  | some b1 =>
   cases t2 with
   | none => simp at hm; try omega
   | some b2 =>
    cases js with
    | cons j js => simp at hm
    | nil => exact hwp W b1 b2 hb hSW (h1 b1 rfl).g (h2 b2 rfl).g (hne b1 b2 rfl rfl) (h1 b1 rfl).lo (h2 b2 rfl).lo (fun g hg => ⟨(h1 b1 rfl).gap g hg, (h2 b2 rfl).gap g hg⟩)
 | succ m ih =>
  intro js gs L a w W t1 t2 hm hok hwp hb hSW hbase hgs h1 h2 hne
  have hflo : (t1 = none ∨ t2 = none) → floOk md ops k1 k2 d1 d2 js L = true → ∀ i, (i = k1 ∧ t1.isSome = false) ∨ (i = k2 ∧ t2.isSome = false) →
    wpOp P ops Q i (fun a' w' => S w' ∧ wpAnyH P md ops Q S (fz + m) ((listF k1 k2 L t1.isSome t2.isSome).setIfInBounds i true) a' w') (fillF d1 d2 a t1 t2) W := by
   intro _ hok i hi
   rcases hi with ⟨rfl, hf⟩ | ⟨rfl, hf⟩
   ·have ht : t1 = none := by cases t1 <;> simp_all
    subst ht
    refine F1.wpOp ?_
    have hbw : Below W.heap.size W (W.alloc o1) := (Below.refl _ _).alloc (Nat.le_refl _) o1
    refine ⟨hS _ _ hSW hbw, ?_⟩
    have hL : (listF i k2 L (Option.isSome (none : Option Nat)) t2.isSome).setIfInBounds i true = listF i k2 L (Option.isSome (some W.heap.size)) t2.isSome := by
     unfold listF
     cases t2 <;> simp only [Option.isSome, if_true, Bool.false_eq_true, if_false]
     rw [Array.setIfInBounds_comm _ _ (Ne.symm hk)]
    rw [hL]
    have ha : (fillF d1 d2 a none t2).put (some d1) (.pointer (some ⟨W.heap.size, 0, none⟩)) = fillF d1 d2 a (some W.heap.size) t2 := by
     unfold fillF
     cases t2 with
     | none => rfl
     | some b2 => exact Act.put_comm a _ _ (fun d e => by injection e with e; subst e; intro h; injection h with h; exact hd h)
    rw [ha]
    refine ih js gs L a w _ (some W.heap.size) t2 (by simp only [Option.isSome, Bool.false_eq_true, if_false, if_true] at hm ⊢; omega) hok hwp (hb.trans (hbw.mono hb.size)) (hS _ _ hSW hbw) hbase hgs ?_ ?_ ?_
    ·intro b e
     injection e with e; subst e
     exact ⟨n1 W, Nat.le_trans hbase hb.size, by simp, fun g hg => .inr (Nat.le_trans (hgs g hg) hb.size)⟩
    ·intro b e
     have h := h2 b e
     exact ⟨s2 _ _ _ h.g hbw, h.lo, by have := h.lt; simp; omega, h.gap⟩
    ·intro b c e1 e2
     injection e1 with e1; subst e1
     have := (h2 c e2).lt
     omega
   ·have ht : t2 = none := by cases t2 <;> simp_all
    subst ht
    refine F2.wpOp ?_
    have hbw : Below W.heap.size W (W.alloc o2) := (Below.refl _ _).alloc (Nat.le_refl _) o2
    refine ⟨hS _ _ hSW hbw, ?_⟩
    have hL : (listF k1 i L t1.isSome (Option.isSome (none : Option Nat))).setIfInBounds i true = listF k1 i L t1.isSome (Option.isSome (some W.heap.size)) := by
     unfold listF
     simp only [Option.isSome, if_true, Bool.false_eq_true, if_false]
    rw [hL]
    have ha : (fillF d1 d2 a t1 none).put (some d2) (.pointer (some ⟨W.heap.size, 0, none⟩)) = fillF d1 d2 a t1 (some W.heap.size) := rfl
    rw [ha]
    refine ih js gs L a w _ t1 (some W.heap.size) (by simp only [Option.isSome, Bool.false_eq_true, if_false, if_true] at hm ⊢; omega) hok hwp (hb.trans (hbw.mono hb.size)) (hS _ _ hSW hbw) hbase hgs ?_ ?_ ?_
    ·intro b e
     have h := h1 b e
     exact ⟨s1 _ _ _ h.g hbw, h.lo, by have := h.lt; simp; omega, h.gap⟩
    ·intro b e
     injection e with e; subst e
     exact ⟨n2 W, Nat.le_trans hbase hb.size, by simp, fun g hg => .inr (Nat.le_trans (hgs g hg) hb.size)⟩
    ·intro b c e1 e2
     injection e2 with e2; subst e2
     have := (h1 b e1).lt
     omega
  cases js with
  | nil =>
   have hat : floAt md ops k1 k2 none L t1.isSome t2.isSome = true := by
    simp only [floOk, Bool.and_eq_true] at hok
    cases t1 <;> cases t2 <;> first | exact hok.1.1 | exact hok.1.2 | exact hok.2 | (simp at hm)
   obtain ⟨hne0, hall⟩ := floAt_spec hat
   refine ⟨fun h0 => absurd h0 hne0, fun i hi => ?_⟩
   rcases hall i hi with hj | hj
   ·cases hj
   ·refine hflo ?_ hok i hj
    rcases hj with ⟨_, h⟩ | ⟨_, h⟩
    ·left; cases t1 <;> simp_all
    ·right; cases t2 <;> simp_all
  | cons x js =>
   obtain ⟨j, tk⟩ := x
   cases tk with
   | true =>
    have hok0 := hok
    simp only [floOk, Bool.and_eq_true] at hok
    obtain ⟨⟨⟨⟨⟨q1, q2⟩, q3⟩, q4⟩, hop⟩, hok'⟩ := hok
    have hq : floTake md ops k1 k2 j L t1.isSome t2.isSome = true := by
     cases t1 <;> cases t2
     ·exact q1
     ·exact q3
     ·exact q2
     ·exact q4
    obtain ⟨hj1, hj2, oj, hoj, l1, l2, x1, x2⟩ := floOp_spec hop
    obtain ⟨oi, v, hoi, hy, hrest⟩ := hwp
    obtain rfl : oi = oj := by rw [hoi] at hoj; injection hoj
    simp only [floTake, Bool.and_eq_true] at hq
    have hsj : ∀ cs b, oi.op ≠ .select cs b := fun cs b => Region.noSelect_spec hsel j oi cs b hoi
    refine wpAnyH_first hoi (Region.noSelect_spec hsel) (fun c a w h => by cases hdst : oi.dst with | none => rw [hdst] at h; exact h | some d => rw [hdst] at h; exact (hQ c a d v w).1 h) (fz + m) _ _ W (Region.free_spec hoi hq.1) (by simpa using hq.2) (fillF_yields t1 t2 hsj l1 l2 hy) hSW ?_
    rw [listF_set L _ _ hj1 hj2, fillF_put t1 t2 x1 x2]
    exact ih js gs _ _ w W t1 t2 (by simp only [List.length_cons] at hm; omega) hok' hrest hb hSW hbase hgs h1 h2 hne
   | false =>
    have hok0 := hok
    simp only [floOk, Bool.and_eq_true] at hok
    obtain ⟨⟨⟨⟨⟨q1, q2⟩, q3⟩, q4⟩, hop⟩, hok'⟩ := hok
    have hat : floAt md ops k1 k2 (some j) L t1.isSome t2.isSome = true := by
     cases t1 <;> cases t2
     ·exact q1
     ·exact q3
     ·exact q2
     ·exact q4
    obtain ⟨hne0, hall⟩ := floAt_spec hat
    refine ⟨fun h0 => absurd h0 hne0, fun i hi => ?_⟩
    rcases hall i hi with hj | hj
    case inr =>
     refine hflo ?_ hok0 i hj
     rcases hj with ⟨_, h⟩ | ⟨_, h⟩
     ·left; cases t1 <;> simp_all
     ·right; cases t2 <;> simp_all
    obtain rfl : j = i := by simpa using hj
    obtain ⟨hj1, hj2, oj, hoj, l1, l2, x1, x2⟩ := floOp_spec hop
    have hsj : ∀ cs b, oj.op ≠ .select cs b := fun cs b => Region.noSelect_spec hsel j oj cs b hoj
    have H := hwp W hb hSW
    have H2 : wpOp P ops Q j (fun a' w' => ∃ a0 : Act, a' = fillF d1 d2 a0 t1 t2 ∧ W.grownBy w' r ∧ S w' ∧ wpFd P r md ops Q S k1 k2 d1 d2 G1 G2 base fz js ((W.heap.size, w'.heap.size) :: gs) (L.setIfInBounds j true) a0 w') (fillF d1 d2 a t1 t2) W := by
     unfold fillF
     cases t1 with
     | none =>
      cases t2 with
      | none => exact wpOp_mono (fun a' w' h => ⟨a', rfl, h⟩) H
      | some b2 => exact wpOp_mono (fun a' w' h => by obtain ⟨a0, rfl, h⟩ := h; exact ⟨a0, rfl, h⟩) (wpOp_more hoj l2 x2 hsj (fun c a w h => (hQ c a _ _ w).2 h) H)
     | some b1 =>
      have H1 := wpOp_more (v := .pointer (some ⟨b1, 0, none⟩)) hoj l1 x1 hsj (fun c a w h => (hQ c a _ _ w).2 h) H
      cases t2 with
      | none => exact wpOp_mono (fun a' w' h => by obtain ⟨a0, rfl, h⟩ := h; exact ⟨a0, rfl, h⟩) H1
      | some b2 => exact wpOp_mono (fun a' w' h => by obtain ⟨a1, rfl, a0, rfl, h⟩ := h; exact ⟨a0, rfl, h⟩) (wpOp_more (v := .pointer (some ⟨b2, 0, none⟩)) hoj l2 x2 hsj (fun c a w h => (hQ c a _ _ w).2 h) H1)
    refine wpOp_mono (fun a' w' h => ?_) H2
    obtain ⟨a0, rfl, hbw, hSw, hrest⟩ := h
    refine ⟨hSw, ?_⟩
    rw [listF_set L _ _ hj1 hj2]
    have hup : ∀ (G : World → Nat → Prop) (b : Nat), (∀ W W' b, G W b → base ≤ b → W.grownBy W' r → G W' b) → Up G base gs W b → Up G base ((W.heap.size, w'.heap.size) :: gs) w' b := fun G b hs h =>
     ⟨hs _ _ _ h.g h.lo hbw, h.lo, Nat.lt_of_lt_of_le h.lt hbw.size, fun g hg => by
      rcases List.mem_cons.1 hg with rfl | hg
      ·exact .inl h.lt
      ·exact h.gap g hg⟩
    refine ih js _ _ a0 w' w' t1 t2 (by simp only [List.length_cons] at hm; omega) hok' hrest (Below.refl _ _) hSw (Nat.le_trans hbase (Nat.le_trans hb.size hbw.size)) ?_ (fun b e => hup G1 b g1 (h1 b e)) (fun b e => hup G2 b g2 (h2 b e)) hne
    intro g hg
    rcases List.mem_cons.1 hg with rfl | hg
    ·exact Nat.le_refl _
    ·exact Nat.le_trans (hgs g hg) (Nat.le_trans hb.size hbw.size)
theorem wpAnyH_float0D {k1 k2 : Nat} {d1 d2 : Tmp} {z1 z2 : List Value} {T1 T2 : TypeId} {js : List (Nat × Bool)} {fz : Nat} {L : Array Bool} {a : Act} {w : World} (hr : ∀ g, r = some g → g < w.heap.size)
  (F1 : Flo P ops k1 d1 (.cells z1.toArray T1)) (F2 : Flo P ops k2 d2 (.cells z2.toArray T2)) (hok : floOk md ops k1 k2 d1 d2 js L = true) (hk : k1 ≠ k2) (hd : d1 ≠ d2)
  (hsel : Region.noSelect ops = true) (hQ : ∀ c (a : Act) (d : Tmp) (v : Value) w, Q (.panic c) (a.put (some d) v) w ↔ Q (.panic c) a w) (hS : ∀ W W', S W → Below W.heap.size W W' → S W') (hSw : S w)
  (h : wpFd P r md ops Q S k1 k2 d1 d2 (fun W b => Bx W b z1) (fun W b => Bx W b z2) w.heap.size fz js [] L a w) : wpAnyH P md ops Q S (fz + (js.length + 2)) L a w :=
 floatD_all (r := r) (G1 := fun W b => Bx W b z1) (G2 := fun W b => Bx W b z2) (base := w.heap.size) F1 F2 hk hd hsel hQ hS (fun w => Bx.new w z1 T1) (fun w => Bx.new w z2 T2) (fun W W' b h hb => h.below hb) (fun W W' b h hb => h.below hb) (fun W W' b1 h hlo hg => bx_own h hg (fun (e : r = some b1) => by have := hr b1 e; omega)) (fun W W' b1 h hlo hg => bx_own h hg (fun (e : r = some b1) => by have := hr b1 e; omega)) _ js [] L a w w none none (by simp) hok h (Below.refl _ _) hSw (Nat.le_refl _) (by simp) (by simp) (by simp) (by simp)
theorem wpAnyH_floatD {n k1 k2 : Nat} {d1 d2 : Tmp} {z1 z2 : List Value} {T1 T2 : TypeId} {js : List (Nat × Bool)} {fz : Nat} {L : Array Bool} {a : Act} {w : World} (hn : n = fz + (js.length + 2)) (hr : ∀ g, r = some g → g < w.heap.size)
  (F1 : Flo P ops k1 d1 (.cells z1.toArray T1)) (F2 : Flo P ops k2 d2 (.cells z2.toArray T2)) (hok : floOk md ops k1 k2 d1 d2 js L = true) (hk : k1 ≠ k2) (hd : d1 ≠ d2)
  (hsel : Region.noSelect ops = true) (hQ : ∀ c (a : Act) (d : Tmp) (v : Value) w, Q (.panic c) (a.put (some d) v) w ↔ Q (.panic c) a w) (hS : ∀ W W', S W → Below W.heap.size W W' → S W') (hSw : S w)
  (h : wpFd P r md ops Q S k1 k2 d1 d2 (fun W b => Bx W b z1) (fun W b => Bx W b z2) w.heap.size fz js [] L a w) : wpAnyH P md ops Q S n L a w :=
 hn ▸ wpAnyH_float0D hr F1 F2 hok hk hd hsel hQ hS hSw h
theorem wpFd_step {k1 k2 : Nat} {d1 d2 : Tmp} {G1 G2 : World → Nat → Prop} {base fz j : Nat} {js : List (Nat × Bool)} {gs : List (Nat × Nat)} {L : Array Bool} {a : Act} {w : World} {o : Oper} (ho : ops[j]? = some o)
  (h : ∀ W, Below w.heap.size w W → S W → ∀ K' : Act → World → Prop, Shut (∀ a w', W.grownBy w' r → S w' → wpFd P r md ops Q S k1 k2 d1 d2 G1 G2 base fz js ((W.heap.size, w'.heap.size) :: gs) (L.setIfInBounds j true) a w' → K' a w') →
   if Region.wanted o (yielded ops a.tmps) = true then Oper.wp P o a W K' Q else K' (a.put o.dst undef) W) :
  wpFd P r md ops Q S k1 k2 d1 d2 G1 G2 base fz ((j, false) :: js) gs L a w := fun W hb hSW => wpOp_step ho (fun K' hK => h W hb hSW K' (fun a w' h1 h2 h3 => hK a w' ⟨h1, h2, h3⟩))
theorem wpFd_take {k1 k2 : Nat} {d1 d2 : Tmp} {G1 G2 : World → Nat → Prop} {base fz i : Nat} {js : List (Nat × Bool)} {gs : List (Nat × Nat)} {L : Array Bool} {a : Act} {w : World} {oi : Oper} {v : Value} (ho : ops[i]? = some oi) (hy : YieldsIf P ops S oi v a)
  (h : wpFd P r md ops Q S k1 k2 d1 d2 G1 G2 base fz js gs (L.setIfInBounds i true) (a.put oi.dst v) w) : wpFd P r md ops Q S k1 k2 d1 d2 G1 G2 base fz ((i, true) :: js) gs L a w := ⟨oi, v, ho, hy, h⟩
theorem wpFd_end {k1 k2 : Nat} {d1 d2 : Tmp} {G1 G2 : World → Nat → Prop} {base fz : Nat} {gs : List (Nat × Nat)} {L : Array Bool} {a : Act} {w : World}
  (h : ∀ (W : World) (b1 b2 : Nat), Below w.heap.size w W → S W → G1 W b1 → G2 W b2 → b1 ≠ b2 → base ≤ b1 → base ≤ b2 → (∀ g ∈ gs, (b1 < g.1 ∨ g.2 ≤ b1) ∧ (b2 < g.1 ∨ g.2 ≤ b2)) →
   wpAnyH P md ops Q S fz ((L.setIfInBounds k1 true).setIfInBounds k2 true) ((a.put (some d1) (.pointer (some ⟨b1, 0, none⟩))).put (some d2) (.pointer (some ⟨b2, 0, none⟩))) W) :
  wpFd P r md ops Q S k1 k2 d1 d2 G1 G2 base fz [] gs L a w := h
end
end Go.Proofs.YtcpbikilgacdlaaGreat
namespace Go.Proofs.YtcpbikilgacdlaaGreat
open Go
section
variable {P : Program} {ops : Array Oper} {Q : Exit → Act → World → Prop} {md : Region.Mode} {S : World → Prop} {t : Nat}
def ClosedL (md : Region.Mode) (ops : Array Oper) (listed : Array Bool) : Prop :=
 ∀ k o, ops[k]? = some o → k < ops.size → listed.getD k false = true → ∀ e ∈ o.after, Region.binds md e = true → listed.getD e.on false = true
def closedB (md : Region.Mode) (ops : Array Oper) (listed : Array Bool) : Bool :=
 (List.range ops.size).all fun k => !listed.getD k false || match ops[k]? with
  | some o => o.after.all fun e => !Region.binds md e || listed.getD e.on false
  | none => true
def reachB (md : Region.Mode) (ops : Array Oper) (i : Nat) : Nat → Nat → Bool
 | 0, _ => false
 | n + 1, t => match ops[t]? with
  | some o => o.after.any fun e => Region.binds md e && (e.on == i || reachB md ops i n e.on)
  | none => false
theorem closed_of {listed : Array Bool} (h : closedB md ops listed = true) : ClosedL md ops listed := by
 intro k o hk hlt hl e he hb
 have h1 := List.all_eq_true.1 h k (List.mem_range.2 hlt)
 simp only [hl, hk, Bool.not_true, Bool.false_or] at h1
 have h2 := Array.all_eq_true_iff_forall_mem.1 h1 e he
 simpa [hb] using h2
theorem closed_set {listed : Array Bool} {j : Nat} (hc : ClosedL md ops listed) (hj : j ∈ Region.ready md ops listed) : ClosedL md ops (listed.setIfInBounds j true) := by
 intro k o hk hlt hl e he hb
 obtain ⟨_, oj, hoj, hall⟩ := mem_ready.1 hj
 by_cases hjk : j = k
 ·subst hjk
  rw [hoj] at hk; injection hk with hk; subst hk
  exact getD_set_true (hall e he hb)
 ·rw [getD_set_ne false hjk] at hl
  exact getD_set_true (hc k o hk hlt hl e he hb)
theorem reach_listed {listed : Array Bool} (hc : ClosedL md ops listed) (i : Nat) : ∀ n s, reachB md ops i n s = true →
  (∀ o, ops[s]? = some o → ∀ e ∈ o.after, Region.binds md e = true → listed.getD e.on false = true) → listed.getD i false = true := by
 intro n
 induction n with
 | zero => intro s h; cases h
 | succ n ih =>
  intro s h hall
  unfold reachB at h
  split at h
  case h_2 => cases h
  rename_i o ho
  obtain ⟨e, he, h1⟩ := Array.any_eq_true'.1 h
  rw [Bool.and_eq_true, Bool.or_eq_true, beq_iff_eq] at h1
  have h2 := hall o ho e he h1.1
  rcases h1.2 with h3 | h3
  ·rw [← h3]; exact h2
  ·refine ih e.on h3 fun o' ho' => ?_
   exact hc e.on o' ho' (Array.getElem?_eq_some_iff.1 ho').1 h2
def wpAnyT (P : Program) (md : Region.Mode) (ops : Array Oper) (Q : Exit → Act → World → Prop) (S : World → Prop) (t : Nat) : Nat → Array Bool → Act → World → Prop
 | 0, listed, a, w => Region.ready md ops listed = [] ∧ Q .normal a w
 | fuel + 1, listed, a, w =>
  (Region.ready md ops listed = [] → Q .normal a w) ∧
  ∀ i ∈ Region.ready md ops listed, wpOp P ops Q i (fun a' w' => (i ≠ t → S w') ∧ wpAnyT P md ops Q S t fuel (listed.setIfInBounds i true) a' w') a w
theorem any_of_T : ∀ (fuel : Nat) (listed : Array Bool) (a : Act) (w : World), wpAnyT P md ops Q S t fuel listed a w → wpAny P md ops Q fuel listed a w
 | 0, _, _, _, h => h
 | fuel + 1, _, _, _, h => ⟨h.1, fun i hi => wpOp_mono (fun a' w' h' => any_of_T fuel _ a' w' h'.2) (h.2 i hi)⟩
theorem anyT_first {i n : Nat} {oi : Oper} {v : Value} (hi : ops[i]? = some oi) (hsel : ∀ (j : Nat) (o : Oper) cs b, ops[j]? = some o → o.op ≠ .select cs b)
  (hQ : ∀ c a w, Q (.panic c) (a.put oi.dst v) w → Q (.panic c) a w) (hre : reachB md ops i n t = true) :
  ∀ (fuel : Nat) (listed : Array Bool) (a : Act) (w : World), ClosedL md ops listed →
   (∀ j oj, ops[j]? = some oj → j ≠ i → listed.getD j true = false → (∀ e ∈ oj.after, Region.binds md e = true → e.on ≠ i) → oi.apart ops oj = true) →
   i ∈ Region.ready md ops listed → YieldsIf P ops S oi v a → S w →
   wpAnyT P md ops Q S t fuel (listed.setIfInBounds i true) (a.put oi.dst v) w → wpAnyT P md ops Q S t (fuel + 1) listed a w := by
 intro fuel
 have unl : ∀ listed : Array Bool, i ∈ Region.ready md ops listed → listed.getD i false = false := fun listed hr => by
  have h0 := (mem_ready.1 hr).1
  rcases Nat.lt_or_ge i listed.size with h' | h'
  ·simp [h'] at h0 ⊢; exact h0
  ·simp [Array.getElem?_eq_none h']
 induction fuel with
 | zero =>
  intro listed a w hc _ hr hy hS H
  refine ⟨fun h => (by rw [h] at hr; cases hr), fun j hj => ?_⟩
  by_cases hji : j = i
  ·subst hji; exact hy.wpOp hi hS ⟨fun _ => hS, H⟩
  ·have := ready_mono hj hji
   rw [H.1] at this; cases this
 | succ fuel ih =>
  intro listed a w hc hfree hr hy hS H
  refine ⟨fun h => (by rw [h] at hr; cases hr), fun j hj => ?_⟩
  by_cases hji : j = i
  ·subst hji; exact hy.wpOp hi hS ⟨fun _ => hS, H⟩
  ·obtain ⟨hjun, oj, hoj, hall⟩ := mem_ready.1 hj
   have hjt : j ≠ t := fun e => by
    have := reach_listed hc i n t hre (fun o ho e' he' hb' => by rw [← e, hoj] at ho; injection ho with ho; subst ho; exact hall e' he' hb')
    rw [unl listed hr] at this; cases this
   have hnot : ∀ e ∈ oj.after, Region.binds md e = true → e.on ≠ i := fun e he hb heq => by
    have h1 := hall e he hb
    rw [heq, unl listed hr] at h1; cases h1
   have h2 := wpOp_putIf hoj (hfree j oj hoj hji hjun hnot) (fun cs b => hsel i oi cs b hi) (fun cs b => hsel j oj cs b hoj) hQ hy (H.2 j (ready_mono hj hji))
   refine wpOp_mono (fun a' w' h3 => ⟨fun _ => h3.2.1 hjt, ih (listed.setIfInBounds j true) a' w' (closed_set hc hj) ?_ (ready_mono hr (Ne.symm hji)) h3.1 (h3.2.1 hjt) ?_⟩) h2
   ·intro k ok hk hki hun hno
    refine hfree k ok hk hki ?_ hno
    by_cases hjk : j = k
    ·subst hjk; exact hjun
    ·rw [getD_set_ne true hjk] at hun; exact hun
   ·rw [Array.setIfInBounds_comm _ _ hji]; exact h3.2.2
theorem anyT_take {i : Nat} {oi : Oper} {v : Value} {fuel : Nat} {listed : Array Bool} {a : Act} {w : World} (hi : ops[i]? = some oi)
  (hs : Region.noSelect ops = true) (hf : Region.free md ops listed i = true) (hr : (Region.ready md ops listed).contains i = true) (hre : reachB md ops i ops.size t = true) (hc : closedB md ops listed = true)
  (hQ : ∀ c a w, Q (.panic c) (a.put oi.dst v) w → Q (.panic c) a w) (hy : YieldsIf P ops S oi v a) (hS : S w)
  (h : wpAnyT P md ops Q S t fuel (listed.setIfInBounds i true) (a.put oi.dst v) w) : wpAnyT P md ops Q S t (fuel + 1) listed a w :=
 anyT_first hi (Region.noSelect_spec hs) hQ hre fuel listed a w (closed_of hc) (Region.free_spec hi hf) (by simpa using hr) hy hS h
theorem anyT_only {i : Nat} {o : Oper} {fuel : Nat} {listed : Array Bool} {a : Act} {w : World} (hr : Region.ready md ops listed = [i]) (ho : ops[i]? = some o)
  (h : ∀ K' : Act → World → Prop, Shut (∀ a w, S w → (S w → wpAnyT P md ops Q S t fuel (listed.setIfInBounds i true) a w) → K' a w) → if Region.wanted o (yielded ops a.tmps) = true then Oper.wp P o a w K' Q else K' (a.put o.dst undef) w) :
  wpAnyT P md ops Q S t (fuel + 1) listed a w := by
 refine ⟨fun h0 => (by rw [h0] at hr; cases hr), fun j hj => ?_⟩
 rw [hr] at hj
 obtain rfl : j = i := by simpa using hj
 exact wpOp_step ho (fun K' hK => h K' (fun a w hS hW => hK a w ⟨fun _ => hS, hW hS⟩))
theorem anyT_tail {o : Oper} {fuel : Nat} {listed : Array Bool} {a : Act} {w : World} (hr : Region.ready md ops listed = [t]) (ho : ops[t]? = some o)
  (h : ∀ K' : Act → World → Prop, Shut (∀ a w, wpAnyT P md ops Q S t fuel (listed.setIfInBounds t true) a w → K' a w) → if Region.wanted o (yielded ops a.tmps) = true then Oper.wp P o a w K' Q else K' (a.put o.dst undef) w) :
  wpAnyT P md ops Q S t (fuel + 1) listed a w := by
 refine ⟨fun h0 => (by rw [h0] at hr; cases hr), fun j hj => ?_⟩
 rw [hr] at hj
 obtain rfl : j = t := by simpa using hj
 exact wpOp_step ho (fun K' hK => h K' (fun a w hW => hK a w ⟨fun h => absurd rfl h, hW⟩))
theorem anyT_done {listed : Array Bool} {a : Act} {w : World} (hr : Region.ready md ops listed = []) (h : Q .normal a w) : ∀ fuel, wpAnyT P md ops Q S t fuel listed a w
 | 0 => ⟨hr, h⟩
 | _ + 1 => ⟨fun _ => h, by rw [hr]; simp⟩
theorem region_T {id : Nat} {a : Act} {w : World} (hm : P.follows .mixedOrders = true) (hS : S w.drew)
  (h : S w.drew → wpAnyT P .any ops Q S t ops.size (Array.replicate ops.size false) a w.drew) : (Code.region id ops true).wp P Q a w :=
 wp_region_any hm (any_of_T _ _ _ _ (h hS))
end
end Go.Proofs.YtcpbikilgacdlaaGreat
namespace Go.Proofs.YtcpbikilgacdlaaGreat
set_option linter.unusedVariables false
open Go.RowKit
theorem past_cellN {b : Nat} (W : World) (o : Obj) (k : Nat) (h : b < W.heap.size) : (W.alloc o).cell? ⟨b, k, none⟩ = W.cell? ⟨b, k, none⟩ := ((Below.refl W.heap.size W).alloc (Nat.le_refl _) o).cell (p := ⟨b, k, none⟩) h
theorem row_not_bool {w : World} {N b : Nat} {v : Value} {l : List CellD} {x : Bool} (h : OwnsF cCell 139 2 w N v l) (hl : 0 < l.length) (hb : w.cell? ⟨b, 1, none⟩ = some (.bool x)) : v.ownBlock ≠ some b := by
 rcases h.2 with ⟨rfl, _⟩ | ⟨g, cap, cur, rfl, _⟩
 ·simp [Value.ownBlock]
 ·intro e
  simp [Value.ownBlock] at e
  subst e
  have h1 := World.ownsRow.cellAt h 1 (by omega)
  rw [hb] at h1
  cases l with
  | nil => simp at hl
  | cons d r => simp [cCell] at h1
theorem row_not_int {w : World} {N b : Nat} {v : Value} {l : List CellD} {x : Int} (h : OwnsF cCell 139 2 w N v l) (hl : 0 < l.length) (hb : w.cell? ⟨b, 0, none⟩ = some (.int .i64 x)) : v.ownBlock ≠ some b := by
 rcases h.2 with ⟨rfl, _⟩ | ⟨g, cap, cur, rfl, _⟩
 ·simp [Value.ownBlock]
 ·intro e
  simp [Value.ownBlock] at e
  subst e
  have h1 := World.ownsRow.cellAt h 0 (by omega)
  rw [hb] at h1
  cases l with
  | nil => simp at hl
  | cons d r => simp [cCell] at h1
end Go.Proofs.YtcpbikilgacdlaaGreat
namespace Go.Proofs.YtcpbikilgacdlaaGreat
set_option linter.unusedVariables false
set_option linter.unusedSimpArgs false
open Go.RowKit
theorem ownsF_nilC {α : Type} (f : α → List Value) (E k : Nat) (w : World) (B : Nat) : OwnsF f E k w B (.slice none 0 0) [] := ⟨by simp, Or.inl ⟨rfl, rfl⟩⟩
theorem bx_grownC {w w' : World} {c b : Nat} {cs : List Value} (h : Bx w c cs) (hg : w.grownBy w' (some b)) (hne : c ≠ b) : Bx w' c cs :=
 ⟨Nat.lt_of_lt_of_le h.lt hg.size, fun j hj => (World.cell?_of_block (a := ⟨c, j, none⟩) (hg.block c h.lt (fun e => hne (by injection e)))).trans (h.cell j hj), fun j hj => (World.frozen?_of_block (a := ⟨c, j, none⟩) (hg.block c h.lt (fun e => hne (by injection e)))).trans (h.froz j hj)⟩
theorem grown_setO {a w : World} {b c : Nat} (h : a.grownBy w (some b)) (hc : a.heap.size ≤ c) (o : Nat) (u : Value) : a.grownBy (w.setCell ⟨c, o, none⟩ u) (some b) :=
 ⟨h.os, h.tape, h.output, by simpa [World.setCell] using h.size, fun j hj hne => (Below.heap_setCell w ⟨c, o, none⟩ u j (fun e => by have e2 : j = c := e; omega)).trans (h.block j hj hne)⟩
theorem cur_setO {w : World} {b c : Nat} {v : Value} {l : List UInt8} (hC : Cur w b v l) (hb : b < c) (o : Nat) (u : Value) : Cur (w.setCell ⟨c, o, none⟩ u) b v l := hC.far (grown_set (grown_refl w (some c)) o u) hb
def okDr (n : Nat) (d : CoreD) : Prop := d.fKind.length ≤ 9 ∧ d.fCells.length ≤ n ∧ (∀ c ∈ d.fCells, c.fKey.length ≤ 9 ∧ I64 c.fValue) ∧ I64 d.fCount
def DrawnCore (n : Nat) (b : Nat) (v : Value) (l : List UInt8) (w : World) (e : Ending) (w' : World) : Prop := ∃ d cv, e = .returned (vCore d cv) ∧ OwnsF cCell 139 2 w' w.heap.size cv d.fCells ∧ okDr n d ∧ w.grownBy w' (some b) ∧ Cur w' b v l
abbrev zCoreV : List Value := [.string ⟨#[]⟩, .bool false, .bool false, .slice none 0 0, .int .i64 0]
abbrev cCoreV (d : CoreD) (cv : Value) : List Value := [.string ⟨d.fKind.toArray⟩, .bool d.fOn, .bool d.fBroken, cv, .int .i64 d.fCount]
structure DSt (w : World) (b : Nat) (v : Value) (l : List UInt8) (R B : Nat) (d : CoreD) (cv : Value) (wx : World) : Prop where
 grown : w.grownBy wx (some b)
 cur : Cur wx b v l
 res : Bx wx R zCoreV
 box : Bx wx B (cCoreV d cv)
 own : OwnsF cCell 139 2 wx w.heap.size cv d.fCells
 bw : b < w.heap.size
 wR : w.heap.size ≤ R
 RB : R < B
 nB : cv.ownBlock ≠ some B
 nR : cv.ownBlock ≠ some R
theorem DSt.draw {w : World} {b : Nat} {v : Value} {l : List UInt8} {R B : Nat} {d : CoreD} {cv : Value} {wx w' : World} (h : DSt w b v l R B d cv wx) (hg : wx.grownBy w' (some b)) (hC : Cur w' b v l) : DSt w b v l R B d cv w' :=
 ⟨grown_trans h.grown hg, hC, bx_grownC h.res hg (by have := h.bw; have := h.wR; omega), bx_grownC h.box hg (by have := h.bw; have := h.wR; have := h.RB; omega), ownsF_grownC h.own hg h.bw, h.bw, h.wR, h.RB, h.nB, h.nR⟩
theorem DSt.below {w : World} {b : Nat} {v : Value} {l : List UInt8} {R B : Nat} {d : CoreD} {cv : Value} {wx w' : World} (h : DSt w b v l R B d cv wx) (hb : Below wx.heap.size wx w') : DSt w b v l R B d cv w' :=
 ⟨grown_below h.grown hb h.grown.size, h.cur.below hb h.cur.lt, h.res.below hb, h.box.below hb, ownsF_below h.own hb (Nat.le_refl _), h.bw, h.wR, h.RB, h.nB, h.nR⟩
theorem DSt.drew {w : World} {b : Nat} {v : Value} {l : List UInt8} {R B : Nat} {d : CoreD} {cv : Value} {wx : World} (h : DSt w b v l R B d cv wx) : DSt w b v l R B d cv wx.drew := h.below ((Below.refl _ _).drew)
theorem DSt.set {w : World} {b : Nat} {v : Value} {l : List UInt8} {R B : Nat} {d d' : CoreD} {cv : Value} {wx : World} (h : DSt w b v l R B d cv wx) (j : Nat) (hj : j < 5) (u : Value) (hd : (cCoreV d cv).set j u = cCoreV d' cv) (hc : d'.fCells = d.fCells) : DSt w b v l R B d' cv (wx.setCell ⟨B, j, none⟩ u) :=
 ⟨grown_setO h.grown (by have := h.wR; have := h.RB; omega) j u, cur_setO h.cur (by have := h.bw; have := h.wR; have := h.RB; omega) j u, h.res.other (by have := h.RB; omega) j u, by rw [← hd]; exact h.box.set j hj u, by
  rw [hc]; exact World.ownsRow.kept h.own (row := some B) ⟨rfl, rfl, rfl, by simp, fun i hi hne => Below.heap_setCell wx ⟨B, j, none⟩ u i (fun e => hne (by rw [e]))⟩ (Or.inr h.nB), h.bw, h.wR, h.RB, h.nB, h.nR⟩
theorem DSt.setC {w : World} {b : Nat} {v : Value} {l : List UInt8} {R B : Nat} {d : CoreD} {cv : Value} {wx : World} (h : DSt w b v l R B d cv wx) (u : Value) (y : List CellD) (ho : OwnsF cCell 139 2 wx w.heap.size u y) (n1 : u.ownBlock ≠ some B) (n2 : u.ownBlock ≠ some R) : DSt w b v l R B { d with fCells := y } u (wx.setCell ⟨B, 3, none⟩ u) :=
 ⟨grown_setO h.grown (by have := h.wR; have := h.RB; omega) 3 u, cur_setO h.cur (by have := h.bw; have := h.wR; have := h.RB; omega) 3 u, h.res.other (by have := h.RB; omega) 3 u, h.box.set 3 (by simp) u,
  World.ownsRow.kept ho (row := some B) ⟨rfl, rfl, rfl, by simp, fun i hi hne => Below.heap_setCell wx ⟨B, 3, none⟩ u i (fun e => hne (by rw [e]))⟩ (Or.inr n1), h.bw, h.wR, h.RB, n1, n2⟩
theorem DSt.fin {w : World} {b : Nat} {v : Value} {l : List UInt8} {R B : Nat} {d : CoreD} {cv : Value} {wx : World} {n : Nat} (h : DSt w b v l R B d cv wx) (hk : okDr n d) (u0 u1 u2 u3 u4 : Value) :
  DrawnCore n b v l w (.returned (vCore d cv)) (((((wx.setCell ⟨R, 0, none⟩ u0).setCell ⟨R, 1, none⟩ u1).setCell ⟨R, 2, none⟩ u2).setCell ⟨R, 3, none⟩ u3).setCell ⟨R, 4, none⟩ u4) := by
 have hb : b < R := Nat.lt_of_lt_of_le h.bw h.wR
 have hs : ∀ {W : World} (o : Nat) (u : Value), OwnsF cCell 139 2 W w.heap.size cv d.fCells → OwnsF cCell 139 2 (W.setCell ⟨R, o, none⟩ u) w.heap.size cv d.fCells := fun o u ho =>
  World.ownsRow.kept ho (row := some R) ⟨rfl, rfl, rfl, by simp, fun i hi hne => Below.heap_setCell _ ⟨R, o, none⟩ u i (fun e => hne (by rw [e]))⟩ (Or.inr h.nR)
 exact ⟨d, cv, rfl, hs 4 u4 (hs 3 u3 (hs 2 u2 (hs 1 u1 (hs 0 u0 h.own)))), hk, grown_setO (grown_setO (grown_setO (grown_setO (grown_setO h.grown h.wR 0 u0) h.wR 1 u1) h.wR 2 u2) h.wR 3 u3) h.wR 4 u4, cur_setO (cur_setO (cur_setO (cur_setO (cur_setO h.cur hb 0 u0) hb 1 u1) hb 2 u2) hb 3 u3) hb 4 u4⟩
theorem DSt.app {w : World} {b : Nat} {v : Value} {l : List UInt8} {R B : Nat} {d : CoreD} {cv : Value} {wx w' : World} (h : DSt w b v l R B d cv wx) (hg : wx.grownBy w' cv.ownBlock) :
  w.grownBy w' (some b) ∧ Cur w' b v l ∧ Bx w' R zCoreV ∧ Bx w' B (cCoreV d cv) := by
 have hge : ∀ g, cv.ownBlock = some g → w.heap.size ≤ g := fun g e => (World.ownsRow.lt h.own g e).1
 have hsz := h.grown.size
 refine ⟨⟨hg.os.trans h.grown.os, hg.tape.trans h.grown.tape, hg.output.trans h.grown.output, Nat.le_trans h.grown.size hg.size, fun k hk hne => (hg.block k (by omega) (fun e => by have := hge k e.symm; omega)).trans (h.grown.block k hk hne)⟩, ?_, ?_, ?_⟩
 ·cases ho : cv.ownBlock with
  | none => rw [ho] at hg; exact h.cur.below (B := wx.heap.size) ⟨hg.os, hg.tape, hg.output, hg.size, fun k hk => hg.block k hk (by simp)⟩ h.cur.lt
  | some g => rw [ho] at hg; exact h.cur.far hg (by have := hge g ho; have := h.bw; omega)
 ·exact ⟨Nat.lt_of_lt_of_le h.res.lt hg.size, fun j hj => (World.cell?_of_block (a := ⟨R, j, none⟩) (hg.block R h.res.lt (fun e => h.nR e.symm))).trans (h.res.cell j hj), fun j hj => (World.frozen?_of_block (a := ⟨R, j, none⟩) (hg.block R h.res.lt (fun e => h.nR e.symm))).trans (h.res.froz j hj)⟩
 ·exact ⟨Nat.lt_of_lt_of_le h.box.lt hg.size, fun j hj => (World.cell?_of_block (a := ⟨B, j, none⟩) (hg.block B h.box.lt (fun e => h.nB e.symm))).trans (h.box.cell j hj), fun j hj => (World.frozen?_of_block (a := ⟨B, j, none⟩) (hg.block B h.box.lt (fun e => h.nB e.symm))).trans (h.box.froz j hj)⟩
theorem kfI_face2 (k : List UInt8) : isF (kfI (kindI k)) = true := kfI_face _
set_option maxRecDepth 100000 in
set_option maxHeartbeats 6400000 in
theorem l3Draw_any (b : Nat) (v : Value) (l : List UInt8) (w : World) (hC : Cur w b v l) :
  Calls Tryz.prog 142 #[.pointer (some ⟨b, 0, none⟩)] w fun e w' => DrawnCore 6 b v l w e w' := by
 have hbl := hC.lt
 have HC0 := Lib.hid (cur_alloc hC (.cells #[.string ⟨#[]⟩, .bool false, .bool false, .slice none 0 0, .int .i64 0] 34))
 have BR0 := Lib.hid (Bx.new w zCoreV 34)
 have HG0 := Lib.hid (grown_alloc (grown_refl w (some b)) (.cells #[.string ⟨#[]⟩, .bool false, .bool false, .slice none 0 0, .int .i64 0] 34))
 clear hC
 go_enter Tryz.func142, Tryz.ntmps142
 go_wp2_with fail
 refine (l3Kind_any b v l _ HC0.out).mono ?_
 rintro e w1 ⟨z, rfl, hz, hg, hC⟩
 obtain ⟨⟨kl⟩⟩ := z
 have hkl := Lib.hid (show kl.length ≤ 9 from hz)
 have HG1 := Lib.hid (grown_trans HG0.out hg)
 have HC1 := Lib.hid hC
 have BR1 := Lib.hid (bx_grownC BR0.out hg (by omega))
 clear hg hC hz HG0 HC0 BR0
 have HKF := Lib.hid (fun W => specKind_b kl _ rfl W)
 have hff := Lib.hid (kfI_face2 kl)
 generalize kfI (kindI kl) = f at *
 generalize decide (0 ≤ kindI kl) = q at *
 go_wp2_with fail
 refine (HKF.out _).mono ?_
 rintro e w2 ⟨rfl, hb⟩
 have HG2 := Lib.hid (grown_below HG1.out hb HG1.out.size)
 have HC2 := Lib.hid (HC1.out.below hb HC1.out.lt)
 have BR2 := Lib.hid (BR1.out.below hb)
 clear hb HG1 HC1 BR1 HKF
 cases q
 case false =>
  go_wp2_with fail
  refine (l1Below_any b v l _ _ HC2.out (by omega) (by omega)).mono ?_
  rintro e w3 ⟨cnt, rfl, ⟨c0, c1, c2⟩, hg, hC⟩
  have c3 := c2 (by omega)
  clear c2 c1
  have hRl : w.heap.size < w3.heap.size := Nat.lt_of_lt_of_le BR2.out.lt hg.size
  have S := Lib.hid (show DSt w b v l w.heap.size w3.heap.size ⟨[114, 111, 98, 111, 116], false, false, [], cnt⟩ (.slice none 0 0) (w3.alloc (.cells #[.string ⟨#[114, 111, 98, 111, 116]⟩, .bool false, .bool false, .slice none 0 0, .int .i64 cnt] 34)) from ⟨grown_alloc (grown_trans HG2.out hg) _, cur_alloc hC _, (bx_grownC BR2.out hg (by omega)).alloc _, Bx.new w3 (cCoreV ⟨[114, 111, 98, 111, 116], false, false, [], cnt⟩ (.slice none 0 0)) 34, ownsF_nilC _ _ _ _ _, hbl, Nat.le_refl _, hRl, by simp [Value.ownBlock], by simp [Value.ownBlock]⟩)
  clear hg hC HG2 HC2 BR2
  have HH0 := Lib.hid (fun W => l2Has_0 63 _ rfl rfl W)
  have HH1 := Lib.hid (fun W => l2Has_1 63 _ rfl rfl W)
  generalize hasI 63 0 = h0 at *
  generalize hasI 63 1 = h1 at *
  go_wp2_with fail
  generalize w3.alloc (.cells #[.string ⟨#[114, 111, 98, 111, 116]⟩, .bool false, .bool false, .slice none 0 0, .int .i64 cnt] 34) = w4 at *
  refine (HH0.out _).mono ?_
  rintro e w' ⟨rfl, rfl⟩
  cases h0
  case false =>
   go_wp2_with fail
   refine (HH1.out _).mono ?_
   rintro e w' ⟨rfl, rfl⟩
   cases h1
   case false =>
    go_wp2_with fail
    refine (l1Once_any b v l _ _ S.out.cur (by omega) (by omega)).mono ?_
    rintro e w1 ⟨o, rfl, hg, hC⟩
    have S := Lib.hid (S.out.draw hg hC)
    clear hg hC
    cases o
    case false =>
     have BP := Lib.hid S.out.box
     have BR := Lib.hid S.out.res
     have p0 := BP.out.cell 0 (by simp)
     have p1 := BP.out.cell 1 (by simp)
     have p2 := BP.out.cell 2 (by simp)
     have p3 := BP.out.cell 3 (by simp)
     have p4 := BP.out.cell 4 (by simp)
     simp only [List.getElem_cons_zero, List.getElem_cons_succ] at p0 p1 p2 p3 p4
     have x0 := BP.out.froz 0 (by simp)
     have x1 := BP.out.froz 1 (by simp)
     have x2 := BP.out.froz 2 (by simp)
     have x3 := BP.out.froz 3 (by simp)
     have x4 := BP.out.froz 4 (by simp)
     have r0 := BR.out.cell 0 (by simp)
     have r1 := BR.out.cell 1 (by simp)
     have r2 := BR.out.cell 2 (by simp)
     have r3 := BR.out.cell 3 (by simp)
     have r4 := BR.out.cell 4 (by simp)
     simp only [List.getElem_cons_zero, List.getElem_cons_succ] at r0 r1 r2 r3 r4
     have y0 := BR.out.froz 0 (by simp)
     have y1 := BR.out.froz 1 (by simp)
     have y2 := BR.out.froz 2 (by simp)
     have y3 := BR.out.froz 3 (by simp)
     have y4 := BR.out.froz 4 (by simp)
     have lB := BP.out.lt
     have lR := BR.out.lt
     have hRB := S.out.RB
     go_wp2_with fail
     refine bodyPost_ret (v := .agg #[.string ⟨#[114, 111, 98, 111, 116]⟩, .bool false, .bool false, (.slice none 0 0), .int .i64 cnt]) (by simp [results, Tryz.results142, go_sem, cell_set_at, cell_set_ne, r0, r1, r2, r3, r4]) rfl ?_
     exact DSt.fin (d := ⟨[114, 111, 98, 111, 116], false, false, [], cnt⟩) S.out ⟨by simp, by simp, by simp, show I64 cnt from ⟨by omega, by omega⟩⟩ _ _ _ _ _
    case true =>
     go_wp2_with fail
     refine (l1Below_any b v l _ _ S.out.cur (by omega) (by omega)).mono ?_
     rintro e w1 ⟨k, rfl, ⟨k0, k1, k2⟩, hg, hC⟩
     have k3 := k2 (by omega)
     have hk9 : IntKind.i64.wrap (999 - k) = 999 - k := by rw [IntKind.wrap_i64]; omega
     have S := Lib.hid (S.out.draw hg hC)
     clear hg hC k1 k2
     have BP := Lib.hid S.out.box
     have BR := Lib.hid S.out.res
     have p0 := BP.out.cell 0 (by simp)
     have p1 := BP.out.cell 1 (by simp)
     have p2 := BP.out.cell 2 (by simp)
     have p3 := BP.out.cell 3 (by simp)
     have p4 := BP.out.cell 4 (by simp)
     simp only [List.getElem_cons_zero, List.getElem_cons_succ] at p0 p1 p2 p3 p4
     have x0 := BP.out.froz 0 (by simp)
     have x1 := BP.out.froz 1 (by simp)
     have x2 := BP.out.froz 2 (by simp)
     have x3 := BP.out.froz 3 (by simp)
     have x4 := BP.out.froz 4 (by simp)
     have r0 := BR.out.cell 0 (by simp)
     have r1 := BR.out.cell 1 (by simp)
     have r2 := BR.out.cell 2 (by simp)
     have r3 := BR.out.cell 3 (by simp)
     have r4 := BR.out.cell 4 (by simp)
     simp only [List.getElem_cons_zero, List.getElem_cons_succ] at r0 r1 r2 r3 r4
     have y0 := BR.out.froz 0 (by simp)
     have y1 := BR.out.froz 1 (by simp)
     have y2 := BR.out.froz 2 (by simp)
     have y3 := BR.out.froz 3 (by simp)
     have y4 := BR.out.froz 4 (by simp)
     have lB := BP.out.lt
     have lR := BR.out.lt
     have hRB := S.out.RB
     have S9 := Lib.hid (DSt.set (d' := ⟨[114, 111, 98, 111, 116], false, false, [], 999 - k⟩) S.out 4 (by decide) (.int .i64 (999 - k)) rfl rfl)
     go_wp2_with fail
     refine bodyPost_ret (v := .agg #[.string ⟨#[114, 111, 98, 111, 116]⟩, .bool false, .bool false, (.slice none 0 0), .int .i64 (999 - k)]) (by simp [results, Tryz.results142, go_sem, cell_set_at, cell_set_ne, r0, r1, r2, r3, r4]) rfl ?_
     exact DSt.fin (d := ⟨[114, 111, 98, 111, 116], false, false, [], 999 - k⟩) S9.out ⟨by simp, by simp, by simp, show I64 (999 - k) from ⟨by omega, by omega⟩⟩ _ _ _ _ _
   case true =>
    go_wp2_with fail
    have hsz := S.out.box.lt
    have hRB0 := S.out.RB
    refine (l3Cells_any b v l _ S.out.cur).mono ?_
    rintro e w1 ⟨u, y, rfl, ho, hsm, hg, hC⟩
    have HSM := Lib.hid hsm
    obtain ⟨ua, uc, rfl⟩ := slice_of ho
    have n1 : (Value.slice ua y.length uc).ownBlock ≠ some w3.heap.size := fun e => by have := (World.ownsRow.lt ho _ e).1; omega
    have n2 : (Value.slice ua y.length uc).ownBlock ≠ some w.heap.size := fun e => by have := (World.ownsRow.lt ho _ e).1; omega
    have hgs := S.out.grown.size
    have S1 := Lib.hid (S.out.draw hg hC)
    have S := Lib.hid (S1.out.setC _ y (ownsF_base ho hgs) n1 n2)
    have BP1 := Lib.hid S1.out.box
    have p0 := BP1.out.cell 0 (by simp)
    have p1 := BP1.out.cell 1 (by simp)
    have p2 := BP1.out.cell 2 (by simp)
    have p3 := BP1.out.cell 3 (by simp)
    have p4 := BP1.out.cell 4 (by simp)
    simp only [List.getElem_cons_zero, List.getElem_cons_succ] at p0 p1 p2 p3 p4
    have x0 := BP1.out.froz 0 (by simp)
    have x1 := BP1.out.froz 1 (by simp)
    have x2 := BP1.out.froz 2 (by simp)
    have x3 := BP1.out.froz 3 (by simp)
    have x4 := BP1.out.froz 4 (by simp)
    have lB := BP1.out.lt
    clear ho hsm hg hC hsz hRB0 n1 n2 hgs
    go_wp2_with fail
    clear p0 p1 p2 p3 p4 x0 x1 x2 x3 x4 lB BP1 S1
    refine (l1Once_any b v l _ _ S.out.cur (by omega) (by omega)).mono ?_
    rintro e w1 ⟨o, rfl, hg, hC⟩
    have S := Lib.hid (S.out.draw hg hC)
    clear hg hC
    cases o
    case false =>
     have BP := Lib.hid S.out.box
     have BR := Lib.hid S.out.res
     have p0 := BP.out.cell 0 (by simp)
     have p1 := BP.out.cell 1 (by simp)
     have p2 := BP.out.cell 2 (by simp)
     have p3 := BP.out.cell 3 (by simp)
     have p4 := BP.out.cell 4 (by simp)
     simp only [List.getElem_cons_zero, List.getElem_cons_succ] at p0 p1 p2 p3 p4
     have x0 := BP.out.froz 0 (by simp)
     have x1 := BP.out.froz 1 (by simp)
     have x2 := BP.out.froz 2 (by simp)
     have x3 := BP.out.froz 3 (by simp)
     have x4 := BP.out.froz 4 (by simp)
     have r0 := BR.out.cell 0 (by simp)
     have r1 := BR.out.cell 1 (by simp)
     have r2 := BR.out.cell 2 (by simp)
     have r3 := BR.out.cell 3 (by simp)
     have r4 := BR.out.cell 4 (by simp)
     simp only [List.getElem_cons_zero, List.getElem_cons_succ] at r0 r1 r2 r3 r4
     have y0 := BR.out.froz 0 (by simp)
     have y1 := BR.out.froz 1 (by simp)
     have y2 := BR.out.froz 2 (by simp)
     have y3 := BR.out.froz 3 (by simp)
     have y4 := BR.out.froz 4 (by simp)
     have lB := BP.out.lt
     have lR := BR.out.lt
     have hRB := S.out.RB
     go_wp2_with fail
     refine bodyPost_ret (v := .agg #[.string ⟨#[114, 111, 98, 111, 116]⟩, .bool false, .bool false, (.slice ua y.length uc), .int .i64 cnt]) (by simp [results, Tryz.results142, go_sem, cell_set_at, cell_set_ne, r0, r1, r2, r3, r4]) rfl ?_
     exact DSt.fin (d := ⟨[114, 111, 98, 111, 116], false, false, y, cnt⟩) S.out ⟨by simp, HSM.out.1, HSM.out.2, show I64 cnt from ⟨by omega, by omega⟩⟩ _ _ _ _ _
    case true =>
     go_wp2_with fail
     refine (l1Below_any b v l _ _ S.out.cur (by omega) (by omega)).mono ?_
     rintro e w1 ⟨k, rfl, ⟨k0, k1, k2⟩, hg, hC⟩
     have k3 := k2 (by omega)
     have hk9 : IntKind.i64.wrap (999 - k) = 999 - k := by rw [IntKind.wrap_i64]; omega
     have S := Lib.hid (S.out.draw hg hC)
     clear hg hC k1 k2
     have BP := Lib.hid S.out.box
     have BR := Lib.hid S.out.res
     have p0 := BP.out.cell 0 (by simp)
     have p1 := BP.out.cell 1 (by simp)
     have p2 := BP.out.cell 2 (by simp)
     have p3 := BP.out.cell 3 (by simp)
     have p4 := BP.out.cell 4 (by simp)
     simp only [List.getElem_cons_zero, List.getElem_cons_succ] at p0 p1 p2 p3 p4
     have x0 := BP.out.froz 0 (by simp)
     have x1 := BP.out.froz 1 (by simp)
     have x2 := BP.out.froz 2 (by simp)
     have x3 := BP.out.froz 3 (by simp)
     have x4 := BP.out.froz 4 (by simp)
     have r0 := BR.out.cell 0 (by simp)
     have r1 := BR.out.cell 1 (by simp)
     have r2 := BR.out.cell 2 (by simp)
     have r3 := BR.out.cell 3 (by simp)
     have r4 := BR.out.cell 4 (by simp)
     simp only [List.getElem_cons_zero, List.getElem_cons_succ] at r0 r1 r2 r3 r4
     have y0 := BR.out.froz 0 (by simp)
     have y1 := BR.out.froz 1 (by simp)
     have y2 := BR.out.froz 2 (by simp)
     have y3 := BR.out.froz 3 (by simp)
     have y4 := BR.out.froz 4 (by simp)
     have lB := BP.out.lt
     have lR := BR.out.lt
     have hRB := S.out.RB
     have S9 := Lib.hid (DSt.set (d' := ⟨[114, 111, 98, 111, 116], false, false, y, 999 - k⟩) S.out 4 (by decide) (.int .i64 (999 - k)) rfl rfl)
     go_wp2_with fail
     refine bodyPost_ret (v := .agg #[.string ⟨#[114, 111, 98, 111, 116]⟩, .bool false, .bool false, (.slice ua y.length uc), .int .i64 (999 - k)]) (by simp [results, Tryz.results142, go_sem, cell_set_at, cell_set_ne, r0, r1, r2, r3, r4]) rfl ?_
     exact DSt.fin (d := ⟨[114, 111, 98, 111, 116], false, false, y, 999 - k⟩) S9.out ⟨by simp, HSM.out.1, HSM.out.2, show I64 (999 - k) from ⟨by omega, by omega⟩⟩ _ _ _ _ _
  case true =>
   go_wp2_with fail
   refine (l1Below_any b v l _ _ S.out.cur (by omega) (by omega)).mono ?_
   rintro e w5 ⟨n, rfl, ⟨n0, n1, n2⟩, hg, hC⟩
   have S0 := Lib.hid (S.out.draw hg hC)
   clear hg hC n1 n2
   by_cases hn : 0 < n
   ·skip
    have hdn : decide (0 < n) = true := by simpa using hn
    have S1 := Lib.hid (DSt.set (d' := ⟨[114, 111, 98, 111, 116], true, false, [], cnt⟩) S0.out 1 (by decide) (.bool true) rfl rfl)
    have BP := Lib.hid S0.out.box
    have p0 := BP.out.cell 0 (by simp)
    have p1 := BP.out.cell 1 (by simp)
    have p2 := BP.out.cell 2 (by simp)
    have p3 := BP.out.cell 3 (by simp)
    have p4 := BP.out.cell 4 (by simp)
    simp only [List.getElem_cons_zero, List.getElem_cons_succ] at p0 p1 p2 p3 p4
    have x0 := BP.out.froz 0 (by simp)
    have x1 := BP.out.froz 1 (by simp)
    have x2 := BP.out.froz 2 (by simp)
    have x3 := BP.out.froz 3 (by simp)
    have x4 := BP.out.froz 4 (by simp)
    have lB := BP.out.lt
    go_wp2_with fail
    have S := Lib.hid (DSt.set (d' := ⟨[114, 111, 98, 111, 116], true, false, [], cnt⟩) S1.out 2 (by decide) (.bool false) rfl rfl)
    clear S0 S1 BP p0 p1 p2 p3 p4 x0 x1 x2 x3 x4 lB
    refine (HH1.out _).mono ?_
    rintro e w' ⟨rfl, rfl⟩
    cases h1
    case false =>
     go_wp2_with fail
     refine (l1Once_any b v l _ _ S.out.cur (by omega) (by omega)).mono ?_
     rintro e w1 ⟨o, rfl, hg, hC⟩
     have S := Lib.hid (S.out.draw hg hC)
     clear hg hC
     cases o
     case false =>
      have BP := Lib.hid S.out.box
      have BR := Lib.hid S.out.res
      have p0 := BP.out.cell 0 (by simp)
      have p1 := BP.out.cell 1 (by simp)
      have p2 := BP.out.cell 2 (by simp)
      have p3 := BP.out.cell 3 (by simp)
      have p4 := BP.out.cell 4 (by simp)
      simp only [List.getElem_cons_zero, List.getElem_cons_succ] at p0 p1 p2 p3 p4
      have x0 := BP.out.froz 0 (by simp)
      have x1 := BP.out.froz 1 (by simp)
      have x2 := BP.out.froz 2 (by simp)
      have x3 := BP.out.froz 3 (by simp)
      have x4 := BP.out.froz 4 (by simp)
      have r0 := BR.out.cell 0 (by simp)
      have r1 := BR.out.cell 1 (by simp)
      have r2 := BR.out.cell 2 (by simp)
      have r3 := BR.out.cell 3 (by simp)
      have r4 := BR.out.cell 4 (by simp)
      simp only [List.getElem_cons_zero, List.getElem_cons_succ] at r0 r1 r2 r3 r4
      have y0 := BR.out.froz 0 (by simp)
      have y1 := BR.out.froz 1 (by simp)
      have y2 := BR.out.froz 2 (by simp)
      have y3 := BR.out.froz 3 (by simp)
      have y4 := BR.out.froz 4 (by simp)
      have lB := BP.out.lt
      have lR := BR.out.lt
      have hRB := S.out.RB
      go_wp2_with fail
      refine bodyPost_ret (v := .agg #[.string ⟨#[114, 111, 98, 111, 116]⟩, .bool true, .bool false, (.slice none 0 0), .int .i64 cnt]) (by simp [results, Tryz.results142, go_sem, cell_set_at, cell_set_ne, r0, r1, r2, r3, r4]) rfl ?_
      exact DSt.fin (d := ⟨[114, 111, 98, 111, 116], true, false, [], cnt⟩) S.out ⟨by simp, by simp, by simp, show I64 cnt from ⟨by omega, by omega⟩⟩ _ _ _ _ _
     case true =>
      go_wp2_with fail
      refine (l1Below_any b v l _ _ S.out.cur (by omega) (by omega)).mono ?_
      rintro e w1 ⟨k, rfl, ⟨k0, k1, k2⟩, hg, hC⟩
      have k3 := k2 (by omega)
      have hk9 : IntKind.i64.wrap (999 - k) = 999 - k := by rw [IntKind.wrap_i64]; omega
      have S := Lib.hid (S.out.draw hg hC)
      clear hg hC k1 k2
      have BP := Lib.hid S.out.box
      have BR := Lib.hid S.out.res
      have p0 := BP.out.cell 0 (by simp)
      have p1 := BP.out.cell 1 (by simp)
      have p2 := BP.out.cell 2 (by simp)
      have p3 := BP.out.cell 3 (by simp)
      have p4 := BP.out.cell 4 (by simp)
      simp only [List.getElem_cons_zero, List.getElem_cons_succ] at p0 p1 p2 p3 p4
      have x0 := BP.out.froz 0 (by simp)
      have x1 := BP.out.froz 1 (by simp)
      have x2 := BP.out.froz 2 (by simp)
      have x3 := BP.out.froz 3 (by simp)
      have x4 := BP.out.froz 4 (by simp)
      have r0 := BR.out.cell 0 (by simp)
      have r1 := BR.out.cell 1 (by simp)
      have r2 := BR.out.cell 2 (by simp)
      have r3 := BR.out.cell 3 (by simp)
      have r4 := BR.out.cell 4 (by simp)
      simp only [List.getElem_cons_zero, List.getElem_cons_succ] at r0 r1 r2 r3 r4
      have y0 := BR.out.froz 0 (by simp)
      have y1 := BR.out.froz 1 (by simp)
      have y2 := BR.out.froz 2 (by simp)
      have y3 := BR.out.froz 3 (by simp)
      have y4 := BR.out.froz 4 (by simp)
      have lB := BP.out.lt
      have lR := BR.out.lt
      have hRB := S.out.RB
      have S9 := Lib.hid (DSt.set (d' := ⟨[114, 111, 98, 111, 116], true, false, [], 999 - k⟩) S.out 4 (by decide) (.int .i64 (999 - k)) rfl rfl)
      go_wp2_with fail
      refine bodyPost_ret (v := .agg #[.string ⟨#[114, 111, 98, 111, 116]⟩, .bool true, .bool false, (.slice none 0 0), .int .i64 (999 - k)]) (by simp [results, Tryz.results142, go_sem, cell_set_at, cell_set_ne, r0, r1, r2, r3, r4]) rfl ?_
      exact DSt.fin (d := ⟨[114, 111, 98, 111, 116], true, false, [], 999 - k⟩) S9.out ⟨by simp, by simp, by simp, show I64 (999 - k) from ⟨by omega, by omega⟩⟩ _ _ _ _ _
    case true =>
     go_wp2_with fail
     have hsz := S.out.box.lt
     have hRB0 := S.out.RB
     refine (l3Cells_any b v l _ S.out.cur).mono ?_
     rintro e w1 ⟨u, y, rfl, ho, hsm, hg, hC⟩
     have HSM := Lib.hid hsm
     obtain ⟨ua, uc, rfl⟩ := slice_of ho
     have n1 : (Value.slice ua y.length uc).ownBlock ≠ some w3.heap.size := fun e => by have := (World.ownsRow.lt ho _ e).1; omega
     have n2 : (Value.slice ua y.length uc).ownBlock ≠ some w.heap.size := fun e => by have := (World.ownsRow.lt ho _ e).1; omega
     have hgs := S.out.grown.size
     have S1 := Lib.hid (S.out.draw hg hC)
     have S := Lib.hid (S1.out.setC _ y (ownsF_base ho hgs) n1 n2)
     have BP1 := Lib.hid S1.out.box
     have p0 := BP1.out.cell 0 (by simp)
     have p1 := BP1.out.cell 1 (by simp)
     have p2 := BP1.out.cell 2 (by simp)
     have p3 := BP1.out.cell 3 (by simp)
     have p4 := BP1.out.cell 4 (by simp)
     simp only [List.getElem_cons_zero, List.getElem_cons_succ] at p0 p1 p2 p3 p4
     have x0 := BP1.out.froz 0 (by simp)
     have x1 := BP1.out.froz 1 (by simp)
     have x2 := BP1.out.froz 2 (by simp)
     have x3 := BP1.out.froz 3 (by simp)
     have x4 := BP1.out.froz 4 (by simp)
     have lB := BP1.out.lt
     clear ho hsm hg hC hsz hRB0 n1 n2 hgs
     go_wp2_with fail
     clear p0 p1 p2 p3 p4 x0 x1 x2 x3 x4 lB BP1 S1
     refine (l1Once_any b v l _ _ S.out.cur (by omega) (by omega)).mono ?_
     rintro e w1 ⟨o, rfl, hg, hC⟩
     have S := Lib.hid (S.out.draw hg hC)
     clear hg hC
     cases o
     case false =>
      have BP := Lib.hid S.out.box
      have BR := Lib.hid S.out.res
      have p0 := BP.out.cell 0 (by simp)
      have p1 := BP.out.cell 1 (by simp)
      have p2 := BP.out.cell 2 (by simp)
      have p3 := BP.out.cell 3 (by simp)
      have p4 := BP.out.cell 4 (by simp)
      simp only [List.getElem_cons_zero, List.getElem_cons_succ] at p0 p1 p2 p3 p4
      have x0 := BP.out.froz 0 (by simp)
      have x1 := BP.out.froz 1 (by simp)
      have x2 := BP.out.froz 2 (by simp)
      have x3 := BP.out.froz 3 (by simp)
      have x4 := BP.out.froz 4 (by simp)
      have r0 := BR.out.cell 0 (by simp)
      have r1 := BR.out.cell 1 (by simp)
      have r2 := BR.out.cell 2 (by simp)
      have r3 := BR.out.cell 3 (by simp)
      have r4 := BR.out.cell 4 (by simp)
      simp only [List.getElem_cons_zero, List.getElem_cons_succ] at r0 r1 r2 r3 r4
      have y0 := BR.out.froz 0 (by simp)
      have y1 := BR.out.froz 1 (by simp)
      have y2 := BR.out.froz 2 (by simp)
      have y3 := BR.out.froz 3 (by simp)
      have y4 := BR.out.froz 4 (by simp)
      have lB := BP.out.lt
      have lR := BR.out.lt
      have hRB := S.out.RB
      go_wp2_with fail
      refine bodyPost_ret (v := .agg #[.string ⟨#[114, 111, 98, 111, 116]⟩, .bool true, .bool false, (.slice ua y.length uc), .int .i64 cnt]) (by simp [results, Tryz.results142, go_sem, cell_set_at, cell_set_ne, r0, r1, r2, r3, r4]) rfl ?_
      exact DSt.fin (d := ⟨[114, 111, 98, 111, 116], true, false, y, cnt⟩) S.out ⟨by simp, HSM.out.1, HSM.out.2, show I64 cnt from ⟨by omega, by omega⟩⟩ _ _ _ _ _
     case true =>
      go_wp2_with fail
      refine (l1Below_any b v l _ _ S.out.cur (by omega) (by omega)).mono ?_
      rintro e w1 ⟨k, rfl, ⟨k0, k1, k2⟩, hg, hC⟩
      have k3 := k2 (by omega)
      have hk9 : IntKind.i64.wrap (999 - k) = 999 - k := by rw [IntKind.wrap_i64]; omega
      have S := Lib.hid (S.out.draw hg hC)
      clear hg hC k1 k2
      have BP := Lib.hid S.out.box
      have BR := Lib.hid S.out.res
      have p0 := BP.out.cell 0 (by simp)
      have p1 := BP.out.cell 1 (by simp)
      have p2 := BP.out.cell 2 (by simp)
      have p3 := BP.out.cell 3 (by simp)
      have p4 := BP.out.cell 4 (by simp)
      simp only [List.getElem_cons_zero, List.getElem_cons_succ] at p0 p1 p2 p3 p4
      have x0 := BP.out.froz 0 (by simp)
      have x1 := BP.out.froz 1 (by simp)
      have x2 := BP.out.froz 2 (by simp)
      have x3 := BP.out.froz 3 (by simp)
      have x4 := BP.out.froz 4 (by simp)
      have r0 := BR.out.cell 0 (by simp)
      have r1 := BR.out.cell 1 (by simp)
      have r2 := BR.out.cell 2 (by simp)
      have r3 := BR.out.cell 3 (by simp)
      have r4 := BR.out.cell 4 (by simp)
      simp only [List.getElem_cons_zero, List.getElem_cons_succ] at r0 r1 r2 r3 r4
      have y0 := BR.out.froz 0 (by simp)
      have y1 := BR.out.froz 1 (by simp)
      have y2 := BR.out.froz 2 (by simp)
      have y3 := BR.out.froz 3 (by simp)
      have y4 := BR.out.froz 4 (by simp)
      have lB := BP.out.lt
      have lR := BR.out.lt
      have hRB := S.out.RB
      have S9 := Lib.hid (DSt.set (d' := ⟨[114, 111, 98, 111, 116], true, false, y, 999 - k⟩) S.out 4 (by decide) (.int .i64 (999 - k)) rfl rfl)
      go_wp2_with fail
      refine bodyPost_ret (v := .agg #[.string ⟨#[114, 111, 98, 111, 116]⟩, .bool true, .bool false, (.slice ua y.length uc), .int .i64 (999 - k)]) (by simp [results, Tryz.results142, go_sem, cell_set_at, cell_set_ne, r0, r1, r2, r3, r4]) rfl ?_
      exact DSt.fin (d := ⟨[114, 111, 98, 111, 116], true, false, y, 999 - k⟩) S9.out ⟨by simp, HSM.out.1, HSM.out.2, show I64 (999 - k) from ⟨by omega, by omega⟩⟩ _ _ _ _ _
   ·skip
    have hdn : decide (0 < n) = false := by simpa using hn
    have S1 := Lib.hid (DSt.set (d' := ⟨[114, 111, 98, 111, 116], false, false, [], cnt⟩) S0.out 1 (by decide) (.bool false) rfl rfl)
    have BP := Lib.hid S0.out.box
    have p0 := BP.out.cell 0 (by simp)
    have p1 := BP.out.cell 1 (by simp)
    have p2 := BP.out.cell 2 (by simp)
    have p3 := BP.out.cell 3 (by simp)
    have p4 := BP.out.cell 4 (by simp)
    simp only [List.getElem_cons_zero, List.getElem_cons_succ] at p0 p1 p2 p3 p4
    have x0 := BP.out.froz 0 (by simp)
    have x1 := BP.out.froz 1 (by simp)
    have x2 := BP.out.froz 2 (by simp)
    have x3 := BP.out.froz 3 (by simp)
    have x4 := BP.out.froz 4 (by simp)
    have lB := BP.out.lt
    go_wp2_with fail
    refine (l1Once_any b v l _ _ S1.out.cur (by omega) (by omega)).mono ?_
    rintro e w6 ⟨o, rfl, hg, hC⟩
    have S2 := Lib.hid (S1.out.draw hg hC)
    have S := Lib.hid (DSt.set (d' := ⟨[114, 111, 98, 111, 116], false, o, [], cnt⟩) S2.out 2 (by decide) (.bool o) rfl rfl)
    clear hg hC BP p0 p1 p2 p3 p4 x0 x1 x2 x3 x4 lB
    have BP := Lib.hid S2.out.box
    have p0 := BP.out.cell 0 (by simp)
    have p1 := BP.out.cell 1 (by simp)
    have p2 := BP.out.cell 2 (by simp)
    have p3 := BP.out.cell 3 (by simp)
    have p4 := BP.out.cell 4 (by simp)
    simp only [List.getElem_cons_zero, List.getElem_cons_succ] at p0 p1 p2 p3 p4
    have x0 := BP.out.froz 0 (by simp)
    have x1 := BP.out.froz 1 (by simp)
    have x2 := BP.out.froz 2 (by simp)
    have x3 := BP.out.froz 3 (by simp)
    have x4 := BP.out.froz 4 (by simp)
    have lB := BP.out.lt
    go_wp2_with fail
    clear S0 S1 S2 BP p0 p1 p2 p3 p4 x0 x1 x2 x3 x4 lB
    refine (HH1.out _).mono ?_
    rintro e w' ⟨rfl, rfl⟩
    cases h1
    case false =>
     go_wp2_with fail
     refine (l1Once_any b v l _ _ S.out.cur (by omega) (by omega)).mono ?_
     rintro e w1 ⟨o, rfl, hg, hC⟩
     have S := Lib.hid (S.out.draw hg hC)
     clear hg hC
     cases o
     case false =>
      have BP := Lib.hid S.out.box
      have BR := Lib.hid S.out.res
      have p0 := BP.out.cell 0 (by simp)
      have p1 := BP.out.cell 1 (by simp)
      have p2 := BP.out.cell 2 (by simp)
      have p3 := BP.out.cell 3 (by simp)
      have p4 := BP.out.cell 4 (by simp)
      simp only [List.getElem_cons_zero, List.getElem_cons_succ] at p0 p1 p2 p3 p4
      have x0 := BP.out.froz 0 (by simp)
      have x1 := BP.out.froz 1 (by simp)
      have x2 := BP.out.froz 2 (by simp)
      have x3 := BP.out.froz 3 (by simp)
      have x4 := BP.out.froz 4 (by simp)
      have r0 := BR.out.cell 0 (by simp)
      have r1 := BR.out.cell 1 (by simp)
      have r2 := BR.out.cell 2 (by simp)
      have r3 := BR.out.cell 3 (by simp)
      have r4 := BR.out.cell 4 (by simp)
      simp only [List.getElem_cons_zero, List.getElem_cons_succ] at r0 r1 r2 r3 r4
      have y0 := BR.out.froz 0 (by simp)
      have y1 := BR.out.froz 1 (by simp)
      have y2 := BR.out.froz 2 (by simp)
      have y3 := BR.out.froz 3 (by simp)
      have y4 := BR.out.froz 4 (by simp)
      have lB := BP.out.lt
      have lR := BR.out.lt
      have hRB := S.out.RB
      go_wp2_with fail
      refine bodyPost_ret (v := .agg #[.string ⟨#[114, 111, 98, 111, 116]⟩, .bool false, .bool o, (.slice none 0 0), .int .i64 cnt]) (by simp [results, Tryz.results142, go_sem, cell_set_at, cell_set_ne, r0, r1, r2, r3, r4]) rfl ?_
      exact DSt.fin (d := ⟨[114, 111, 98, 111, 116], false, o, [], cnt⟩) S.out ⟨by simp, by simp, by simp, show I64 cnt from ⟨by omega, by omega⟩⟩ _ _ _ _ _
     case true =>
      go_wp2_with fail
      refine (l1Below_any b v l _ _ S.out.cur (by omega) (by omega)).mono ?_
      rintro e w1 ⟨k, rfl, ⟨k0, k1, k2⟩, hg, hC⟩
      have k3 := k2 (by omega)
      have hk9 : IntKind.i64.wrap (999 - k) = 999 - k := by rw [IntKind.wrap_i64]; omega
      have S := Lib.hid (S.out.draw hg hC)
      clear hg hC k1 k2
      have BP := Lib.hid S.out.box
      have BR := Lib.hid S.out.res
      have p0 := BP.out.cell 0 (by simp)
      have p1 := BP.out.cell 1 (by simp)
      have p2 := BP.out.cell 2 (by simp)
      have p3 := BP.out.cell 3 (by simp)
      have p4 := BP.out.cell 4 (by simp)
      simp only [List.getElem_cons_zero, List.getElem_cons_succ] at p0 p1 p2 p3 p4
      have x0 := BP.out.froz 0 (by simp)
      have x1 := BP.out.froz 1 (by simp)
      have x2 := BP.out.froz 2 (by simp)
      have x3 := BP.out.froz 3 (by simp)
      have x4 := BP.out.froz 4 (by simp)
      have r0 := BR.out.cell 0 (by simp)
      have r1 := BR.out.cell 1 (by simp)
      have r2 := BR.out.cell 2 (by simp)
      have r3 := BR.out.cell 3 (by simp)
      have r4 := BR.out.cell 4 (by simp)
      simp only [List.getElem_cons_zero, List.getElem_cons_succ] at r0 r1 r2 r3 r4
      have y0 := BR.out.froz 0 (by simp)
      have y1 := BR.out.froz 1 (by simp)
      have y2 := BR.out.froz 2 (by simp)
      have y3 := BR.out.froz 3 (by simp)
      have y4 := BR.out.froz 4 (by simp)
      have lB := BP.out.lt
      have lR := BR.out.lt
      have hRB := S.out.RB
      have S9 := Lib.hid (DSt.set (d' := ⟨[114, 111, 98, 111, 116], false, o, [], 999 - k⟩) S.out 4 (by decide) (.int .i64 (999 - k)) rfl rfl)
      go_wp2_with fail
      refine bodyPost_ret (v := .agg #[.string ⟨#[114, 111, 98, 111, 116]⟩, .bool false, .bool o, (.slice none 0 0), .int .i64 (999 - k)]) (by simp [results, Tryz.results142, go_sem, cell_set_at, cell_set_ne, r0, r1, r2, r3, r4]) rfl ?_
      exact DSt.fin (d := ⟨[114, 111, 98, 111, 116], false, o, [], 999 - k⟩) S9.out ⟨by simp, by simp, by simp, show I64 (999 - k) from ⟨by omega, by omega⟩⟩ _ _ _ _ _
    case true =>
     go_wp2_with fail
     have hsz := S.out.box.lt
     have hRB0 := S.out.RB
     refine (l3Cells_any b v l _ S.out.cur).mono ?_
     rintro e w1 ⟨u, y, rfl, ho, hsm, hg, hC⟩
     have HSM := Lib.hid hsm
     obtain ⟨ua, uc, rfl⟩ := slice_of ho
     have n1 : (Value.slice ua y.length uc).ownBlock ≠ some w3.heap.size := fun e => by have := (World.ownsRow.lt ho _ e).1; omega
     have n2 : (Value.slice ua y.length uc).ownBlock ≠ some w.heap.size := fun e => by have := (World.ownsRow.lt ho _ e).1; omega
     have hgs := S.out.grown.size
     have S1 := Lib.hid (S.out.draw hg hC)
     have S := Lib.hid (S1.out.setC _ y (ownsF_base ho hgs) n1 n2)
     have BP1 := Lib.hid S1.out.box
     have p0 := BP1.out.cell 0 (by simp)
     have p1 := BP1.out.cell 1 (by simp)
     have p2 := BP1.out.cell 2 (by simp)
     have p3 := BP1.out.cell 3 (by simp)
     have p4 := BP1.out.cell 4 (by simp)
     simp only [List.getElem_cons_zero, List.getElem_cons_succ] at p0 p1 p2 p3 p4
     have x0 := BP1.out.froz 0 (by simp)
     have x1 := BP1.out.froz 1 (by simp)
     have x2 := BP1.out.froz 2 (by simp)
     have x3 := BP1.out.froz 3 (by simp)
     have x4 := BP1.out.froz 4 (by simp)
     have lB := BP1.out.lt
     clear ho hsm hg hC hsz hRB0 n1 n2 hgs
     go_wp2_with fail
     clear p0 p1 p2 p3 p4 x0 x1 x2 x3 x4 lB BP1 S1
     refine (l1Once_any b v l _ _ S.out.cur (by omega) (by omega)).mono ?_
     rintro e w1 ⟨o, rfl, hg, hC⟩
     have S := Lib.hid (S.out.draw hg hC)
     clear hg hC
     cases o
     case false =>
      have BP := Lib.hid S.out.box
      have BR := Lib.hid S.out.res
      have p0 := BP.out.cell 0 (by simp)
      have p1 := BP.out.cell 1 (by simp)
      have p2 := BP.out.cell 2 (by simp)
      have p3 := BP.out.cell 3 (by simp)
      have p4 := BP.out.cell 4 (by simp)
      simp only [List.getElem_cons_zero, List.getElem_cons_succ] at p0 p1 p2 p3 p4
      have x0 := BP.out.froz 0 (by simp)
      have x1 := BP.out.froz 1 (by simp)
      have x2 := BP.out.froz 2 (by simp)
      have x3 := BP.out.froz 3 (by simp)
      have x4 := BP.out.froz 4 (by simp)
      have r0 := BR.out.cell 0 (by simp)
      have r1 := BR.out.cell 1 (by simp)
      have r2 := BR.out.cell 2 (by simp)
      have r3 := BR.out.cell 3 (by simp)
      have r4 := BR.out.cell 4 (by simp)
      simp only [List.getElem_cons_zero, List.getElem_cons_succ] at r0 r1 r2 r3 r4
      have y0 := BR.out.froz 0 (by simp)
      have y1 := BR.out.froz 1 (by simp)
      have y2 := BR.out.froz 2 (by simp)
      have y3 := BR.out.froz 3 (by simp)
      have y4 := BR.out.froz 4 (by simp)
      have lB := BP.out.lt
      have lR := BR.out.lt
      have hRB := S.out.RB
      go_wp2_with fail
      refine bodyPost_ret (v := .agg #[.string ⟨#[114, 111, 98, 111, 116]⟩, .bool false, .bool o, (.slice ua y.length uc), .int .i64 cnt]) (by simp [results, Tryz.results142, go_sem, cell_set_at, cell_set_ne, r0, r1, r2, r3, r4]) rfl ?_
      exact DSt.fin (d := ⟨[114, 111, 98, 111, 116], false, o, y, cnt⟩) S.out ⟨by simp, HSM.out.1, HSM.out.2, show I64 cnt from ⟨by omega, by omega⟩⟩ _ _ _ _ _
     case true =>
      go_wp2_with fail
      refine (l1Below_any b v l _ _ S.out.cur (by omega) (by omega)).mono ?_
      rintro e w1 ⟨k, rfl, ⟨k0, k1, k2⟩, hg, hC⟩
      have k3 := k2 (by omega)
      have hk9 : IntKind.i64.wrap (999 - k) = 999 - k := by rw [IntKind.wrap_i64]; omega
      have S := Lib.hid (S.out.draw hg hC)
      clear hg hC k1 k2
      have BP := Lib.hid S.out.box
      have BR := Lib.hid S.out.res
      have p0 := BP.out.cell 0 (by simp)
      have p1 := BP.out.cell 1 (by simp)
      have p2 := BP.out.cell 2 (by simp)
      have p3 := BP.out.cell 3 (by simp)
      have p4 := BP.out.cell 4 (by simp)
      simp only [List.getElem_cons_zero, List.getElem_cons_succ] at p0 p1 p2 p3 p4
      have x0 := BP.out.froz 0 (by simp)
      have x1 := BP.out.froz 1 (by simp)
      have x2 := BP.out.froz 2 (by simp)
      have x3 := BP.out.froz 3 (by simp)
      have x4 := BP.out.froz 4 (by simp)
      have r0 := BR.out.cell 0 (by simp)
      have r1 := BR.out.cell 1 (by simp)
      have r2 := BR.out.cell 2 (by simp)
      have r3 := BR.out.cell 3 (by simp)
      have r4 := BR.out.cell 4 (by simp)
      simp only [List.getElem_cons_zero, List.getElem_cons_succ] at r0 r1 r2 r3 r4
      have y0 := BR.out.froz 0 (by simp)
      have y1 := BR.out.froz 1 (by simp)
      have y2 := BR.out.froz 2 (by simp)
      have y3 := BR.out.froz 3 (by simp)
      have y4 := BR.out.froz 4 (by simp)
      have lB := BP.out.lt
      have lR := BR.out.lt
      have hRB := S.out.RB
      have S9 := Lib.hid (DSt.set (d' := ⟨[114, 111, 98, 111, 116], false, o, y, 999 - k⟩) S.out 4 (by decide) (.int .i64 (999 - k)) rfl rfl)
      go_wp2_with fail
      refine bodyPost_ret (v := .agg #[.string ⟨#[114, 111, 98, 111, 116]⟩, .bool false, .bool o, (.slice ua y.length uc), .int .i64 (999 - k)]) (by simp [results, Tryz.results142, go_sem, cell_set_at, cell_set_ne, r0, r1, r2, r3, r4]) rfl ?_
      exact DSt.fin (d := ⟨[114, 111, 98, 111, 116], false, o, y, 999 - k⟩) S9.out ⟨by simp, HSM.out.1, HSM.out.2, show I64 (999 - k) from ⟨by omega, by omega⟩⟩ _ _ _ _ _
 case true =>
  go_wp2_with fail
  refine (l1Below_any b v l _ _ HC2.out (by omega) (by omega)).mono ?_
  rintro e w3 ⟨cnt, rfl, ⟨c0, c1, c2⟩, hg, hC⟩
  have c3 := c2 (by omega)
  clear c2 c1
  have hRl : w.heap.size < w3.heap.size := Nat.lt_of_lt_of_le BR2.out.lt hg.size
  have S := Lib.hid (show DSt w b v l w.heap.size w3.heap.size ⟨kl, false, false, [], cnt⟩ (.slice none 0 0) (w3.alloc (.cells #[.string ⟨kl.toArray⟩, .bool false, .bool false, .slice none 0 0, .int .i64 cnt] 34)) from ⟨grown_alloc (grown_trans HG2.out hg) _, cur_alloc hC _, (bx_grownC BR2.out hg (by omega)).alloc _, Bx.new w3 (cCoreV ⟨kl, false, false, [], cnt⟩ (.slice none 0 0)) 34, ownsF_nilC _ _ _ _ _, hbl, Nat.le_refl _, hRl, by simp [Value.ownBlock], by simp [Value.ownBlock]⟩)
  clear hg hC HG2 HC2 BR2
  have HH0 := Lib.hid (fun W => l2Has_0 f _ rfl hff.out W)
  have HH1 := Lib.hid (fun W => l2Has_1 f _ rfl hff.out W)
  generalize hasI f 0 = h0 at *
  generalize hasI f 1 = h1 at *
  go_wp2_with fail
  generalize w3.alloc (.cells #[.string ⟨kl.toArray⟩, .bool false, .bool false, .slice none 0 0, .int .i64 cnt] 34) = w4 at *
  refine (HH0.out _).mono ?_
  rintro e w' ⟨rfl, rfl⟩
  cases h0
  case false =>
   go_wp2_with fail
   refine (HH1.out _).mono ?_
   rintro e w' ⟨rfl, rfl⟩
   cases h1
   case false =>
    go_wp2_with fail
    refine (l1Once_any b v l _ _ S.out.cur (by omega) (by omega)).mono ?_
    rintro e w1 ⟨o, rfl, hg, hC⟩
    have S := Lib.hid (S.out.draw hg hC)
    clear hg hC
    cases o
    case false =>
     have BP := Lib.hid S.out.box
     have BR := Lib.hid S.out.res
     have p0 := BP.out.cell 0 (by simp)
     have p1 := BP.out.cell 1 (by simp)
     have p2 := BP.out.cell 2 (by simp)
     have p3 := BP.out.cell 3 (by simp)
     have p4 := BP.out.cell 4 (by simp)
     simp only [List.getElem_cons_zero, List.getElem_cons_succ] at p0 p1 p2 p3 p4
     have x0 := BP.out.froz 0 (by simp)
     have x1 := BP.out.froz 1 (by simp)
     have x2 := BP.out.froz 2 (by simp)
     have x3 := BP.out.froz 3 (by simp)
     have x4 := BP.out.froz 4 (by simp)
     have r0 := BR.out.cell 0 (by simp)
     have r1 := BR.out.cell 1 (by simp)
     have r2 := BR.out.cell 2 (by simp)
     have r3 := BR.out.cell 3 (by simp)
     have r4 := BR.out.cell 4 (by simp)
     simp only [List.getElem_cons_zero, List.getElem_cons_succ] at r0 r1 r2 r3 r4
     have y0 := BR.out.froz 0 (by simp)
     have y1 := BR.out.froz 1 (by simp)
     have y2 := BR.out.froz 2 (by simp)
     have y3 := BR.out.froz 3 (by simp)
     have y4 := BR.out.froz 4 (by simp)
     have lB := BP.out.lt
     have lR := BR.out.lt
     have hRB := S.out.RB
     go_wp2_with fail
     refine bodyPost_ret (v := .agg #[.string ⟨kl.toArray⟩, .bool false, .bool false, (.slice none 0 0), .int .i64 cnt]) (by simp [results, Tryz.results142, go_sem, cell_set_at, cell_set_ne, r0, r1, r2, r3, r4]) rfl ?_
     exact DSt.fin (d := ⟨kl, false, false, [], cnt⟩) S.out ⟨hkl.out, by simp, by simp, show I64 cnt from ⟨by omega, by omega⟩⟩ _ _ _ _ _
    case true =>
     go_wp2_with fail
     refine (l1Below_any b v l _ _ S.out.cur (by omega) (by omega)).mono ?_
     rintro e w1 ⟨k, rfl, ⟨k0, k1, k2⟩, hg, hC⟩
     have k3 := k2 (by omega)
     have hk9 : IntKind.i64.wrap (999 - k) = 999 - k := by rw [IntKind.wrap_i64]; omega
     have S := Lib.hid (S.out.draw hg hC)
     clear hg hC k1 k2
     have BP := Lib.hid S.out.box
     have BR := Lib.hid S.out.res
     have p0 := BP.out.cell 0 (by simp)
     have p1 := BP.out.cell 1 (by simp)
     have p2 := BP.out.cell 2 (by simp)
     have p3 := BP.out.cell 3 (by simp)
     have p4 := BP.out.cell 4 (by simp)
     simp only [List.getElem_cons_zero, List.getElem_cons_succ] at p0 p1 p2 p3 p4
     have x0 := BP.out.froz 0 (by simp)
     have x1 := BP.out.froz 1 (by simp)
     have x2 := BP.out.froz 2 (by simp)
     have x3 := BP.out.froz 3 (by simp)
     have x4 := BP.out.froz 4 (by simp)
     have r0 := BR.out.cell 0 (by simp)
     have r1 := BR.out.cell 1 (by simp)
     have r2 := BR.out.cell 2 (by simp)
     have r3 := BR.out.cell 3 (by simp)
     have r4 := BR.out.cell 4 (by simp)
     simp only [List.getElem_cons_zero, List.getElem_cons_succ] at r0 r1 r2 r3 r4
     have y0 := BR.out.froz 0 (by simp)
     have y1 := BR.out.froz 1 (by simp)
     have y2 := BR.out.froz 2 (by simp)
     have y3 := BR.out.froz 3 (by simp)
     have y4 := BR.out.froz 4 (by simp)
     have lB := BP.out.lt
     have lR := BR.out.lt
     have hRB := S.out.RB
     have S9 := Lib.hid (DSt.set (d' := ⟨kl, false, false, [], 999 - k⟩) S.out 4 (by decide) (.int .i64 (999 - k)) rfl rfl)
     go_wp2_with fail
     refine bodyPost_ret (v := .agg #[.string ⟨kl.toArray⟩, .bool false, .bool false, (.slice none 0 0), .int .i64 (999 - k)]) (by simp [results, Tryz.results142, go_sem, cell_set_at, cell_set_ne, r0, r1, r2, r3, r4]) rfl ?_
     exact DSt.fin (d := ⟨kl, false, false, [], 999 - k⟩) S9.out ⟨hkl.out, by simp, by simp, show I64 (999 - k) from ⟨by omega, by omega⟩⟩ _ _ _ _ _
   case true =>
    go_wp2_with fail
    have hsz := S.out.box.lt
    have hRB0 := S.out.RB
    refine (l3Cells_any b v l _ S.out.cur).mono ?_
    rintro e w1 ⟨u, y, rfl, ho, hsm, hg, hC⟩
    have HSM := Lib.hid hsm
    obtain ⟨ua, uc, rfl⟩ := slice_of ho
    have n1 : (Value.slice ua y.length uc).ownBlock ≠ some w3.heap.size := fun e => by have := (World.ownsRow.lt ho _ e).1; omega
    have n2 : (Value.slice ua y.length uc).ownBlock ≠ some w.heap.size := fun e => by have := (World.ownsRow.lt ho _ e).1; omega
    have hgs := S.out.grown.size
    have S1 := Lib.hid (S.out.draw hg hC)
    have S := Lib.hid (S1.out.setC _ y (ownsF_base ho hgs) n1 n2)
    have BP1 := Lib.hid S1.out.box
    have p0 := BP1.out.cell 0 (by simp)
    have p1 := BP1.out.cell 1 (by simp)
    have p2 := BP1.out.cell 2 (by simp)
    have p3 := BP1.out.cell 3 (by simp)
    have p4 := BP1.out.cell 4 (by simp)
    simp only [List.getElem_cons_zero, List.getElem_cons_succ] at p0 p1 p2 p3 p4
    have x0 := BP1.out.froz 0 (by simp)
    have x1 := BP1.out.froz 1 (by simp)
    have x2 := BP1.out.froz 2 (by simp)
    have x3 := BP1.out.froz 3 (by simp)
    have x4 := BP1.out.froz 4 (by simp)
    have lB := BP1.out.lt
    clear ho hsm hg hC hsz hRB0 n1 n2 hgs
    go_wp2_with fail
    clear p0 p1 p2 p3 p4 x0 x1 x2 x3 x4 lB BP1 S1
    refine (l1Once_any b v l _ _ S.out.cur (by omega) (by omega)).mono ?_
    rintro e w1 ⟨o, rfl, hg, hC⟩
    have S := Lib.hid (S.out.draw hg hC)
    clear hg hC
    cases o
    case false =>
     have BP := Lib.hid S.out.box
     have BR := Lib.hid S.out.res
     have p0 := BP.out.cell 0 (by simp)
     have p1 := BP.out.cell 1 (by simp)
     have p2 := BP.out.cell 2 (by simp)
     have p3 := BP.out.cell 3 (by simp)
     have p4 := BP.out.cell 4 (by simp)
     simp only [List.getElem_cons_zero, List.getElem_cons_succ] at p0 p1 p2 p3 p4
     have x0 := BP.out.froz 0 (by simp)
     have x1 := BP.out.froz 1 (by simp)
     have x2 := BP.out.froz 2 (by simp)
     have x3 := BP.out.froz 3 (by simp)
     have x4 := BP.out.froz 4 (by simp)
     have r0 := BR.out.cell 0 (by simp)
     have r1 := BR.out.cell 1 (by simp)
     have r2 := BR.out.cell 2 (by simp)
     have r3 := BR.out.cell 3 (by simp)
     have r4 := BR.out.cell 4 (by simp)
     simp only [List.getElem_cons_zero, List.getElem_cons_succ] at r0 r1 r2 r3 r4
     have y0 := BR.out.froz 0 (by simp)
     have y1 := BR.out.froz 1 (by simp)
     have y2 := BR.out.froz 2 (by simp)
     have y3 := BR.out.froz 3 (by simp)
     have y4 := BR.out.froz 4 (by simp)
     have lB := BP.out.lt
     have lR := BR.out.lt
     have hRB := S.out.RB
     go_wp2_with fail
     refine bodyPost_ret (v := .agg #[.string ⟨kl.toArray⟩, .bool false, .bool false, (.slice ua y.length uc), .int .i64 cnt]) (by simp [results, Tryz.results142, go_sem, cell_set_at, cell_set_ne, r0, r1, r2, r3, r4]) rfl ?_
     exact DSt.fin (d := ⟨kl, false, false, y, cnt⟩) S.out ⟨hkl.out, HSM.out.1, HSM.out.2, show I64 cnt from ⟨by omega, by omega⟩⟩ _ _ _ _ _
    case true =>
     go_wp2_with fail
     refine (l1Below_any b v l _ _ S.out.cur (by omega) (by omega)).mono ?_
     rintro e w1 ⟨k, rfl, ⟨k0, k1, k2⟩, hg, hC⟩
     have k3 := k2 (by omega)
     have hk9 : IntKind.i64.wrap (999 - k) = 999 - k := by rw [IntKind.wrap_i64]; omega
     have S := Lib.hid (S.out.draw hg hC)
     clear hg hC k1 k2
     have BP := Lib.hid S.out.box
     have BR := Lib.hid S.out.res
     have p0 := BP.out.cell 0 (by simp)
     have p1 := BP.out.cell 1 (by simp)
     have p2 := BP.out.cell 2 (by simp)
     have p3 := BP.out.cell 3 (by simp)
     have p4 := BP.out.cell 4 (by simp)
     simp only [List.getElem_cons_zero, List.getElem_cons_succ] at p0 p1 p2 p3 p4
     have x0 := BP.out.froz 0 (by simp)
     have x1 := BP.out.froz 1 (by simp)
     have x2 := BP.out.froz 2 (by simp)
     have x3 := BP.out.froz 3 (by simp)
     have x4 := BP.out.froz 4 (by simp)
     have r0 := BR.out.cell 0 (by simp)
     have r1 := BR.out.cell 1 (by simp)
     have r2 := BR.out.cell 2 (by simp)
     have r3 := BR.out.cell 3 (by simp)
     have r4 := BR.out.cell 4 (by simp)
     simp only [List.getElem_cons_zero, List.getElem_cons_succ] at r0 r1 r2 r3 r4
     have y0 := BR.out.froz 0 (by simp)
     have y1 := BR.out.froz 1 (by simp)
     have y2 := BR.out.froz 2 (by simp)
     have y3 := BR.out.froz 3 (by simp)
     have y4 := BR.out.froz 4 (by simp)
     have lB := BP.out.lt
     have lR := BR.out.lt
     have hRB := S.out.RB
     have S9 := Lib.hid (DSt.set (d' := ⟨kl, false, false, y, 999 - k⟩) S.out 4 (by decide) (.int .i64 (999 - k)) rfl rfl)
     go_wp2_with fail
     refine bodyPost_ret (v := .agg #[.string ⟨kl.toArray⟩, .bool false, .bool false, (.slice ua y.length uc), .int .i64 (999 - k)]) (by simp [results, Tryz.results142, go_sem, cell_set_at, cell_set_ne, r0, r1, r2, r3, r4]) rfl ?_
     exact DSt.fin (d := ⟨kl, false, false, y, 999 - k⟩) S9.out ⟨hkl.out, HSM.out.1, HSM.out.2, show I64 (999 - k) from ⟨by omega, by omega⟩⟩ _ _ _ _ _
  case true =>
   go_wp2_with fail
   refine (l1Below_any b v l _ _ S.out.cur (by omega) (by omega)).mono ?_
   rintro e w5 ⟨n, rfl, ⟨n0, n1, n2⟩, hg, hC⟩
   have S0 := Lib.hid (S.out.draw hg hC)
   clear hg hC n1 n2
   by_cases hn : 0 < n
   ·skip
    have hdn : decide (0 < n) = true := by simpa using hn
    have S1 := Lib.hid (DSt.set (d' := ⟨kl, true, false, [], cnt⟩) S0.out 1 (by decide) (.bool true) rfl rfl)
    have BP := Lib.hid S0.out.box
    have p0 := BP.out.cell 0 (by simp)
    have p1 := BP.out.cell 1 (by simp)
    have p2 := BP.out.cell 2 (by simp)
    have p3 := BP.out.cell 3 (by simp)
    have p4 := BP.out.cell 4 (by simp)
    simp only [List.getElem_cons_zero, List.getElem_cons_succ] at p0 p1 p2 p3 p4
    have x0 := BP.out.froz 0 (by simp)
    have x1 := BP.out.froz 1 (by simp)
    have x2 := BP.out.froz 2 (by simp)
    have x3 := BP.out.froz 3 (by simp)
    have x4 := BP.out.froz 4 (by simp)
    have lB := BP.out.lt
    go_wp2_with fail
    have S := Lib.hid (DSt.set (d' := ⟨kl, true, false, [], cnt⟩) S1.out 2 (by decide) (.bool false) rfl rfl)
    clear S0 S1 BP p0 p1 p2 p3 p4 x0 x1 x2 x3 x4 lB
    refine (HH1.out _).mono ?_
    rintro e w' ⟨rfl, rfl⟩
    cases h1
    case false =>
     go_wp2_with fail
     refine (l1Once_any b v l _ _ S.out.cur (by omega) (by omega)).mono ?_
     rintro e w1 ⟨o, rfl, hg, hC⟩
     have S := Lib.hid (S.out.draw hg hC)
     clear hg hC
     cases o
     case false =>
      have BP := Lib.hid S.out.box
      have BR := Lib.hid S.out.res
      have p0 := BP.out.cell 0 (by simp)
      have p1 := BP.out.cell 1 (by simp)
      have p2 := BP.out.cell 2 (by simp)
      have p3 := BP.out.cell 3 (by simp)
      have p4 := BP.out.cell 4 (by simp)
      simp only [List.getElem_cons_zero, List.getElem_cons_succ] at p0 p1 p2 p3 p4
      have x0 := BP.out.froz 0 (by simp)
      have x1 := BP.out.froz 1 (by simp)
      have x2 := BP.out.froz 2 (by simp)
      have x3 := BP.out.froz 3 (by simp)
      have x4 := BP.out.froz 4 (by simp)
      have r0 := BR.out.cell 0 (by simp)
      have r1 := BR.out.cell 1 (by simp)
      have r2 := BR.out.cell 2 (by simp)
      have r3 := BR.out.cell 3 (by simp)
      have r4 := BR.out.cell 4 (by simp)
      simp only [List.getElem_cons_zero, List.getElem_cons_succ] at r0 r1 r2 r3 r4
      have y0 := BR.out.froz 0 (by simp)
      have y1 := BR.out.froz 1 (by simp)
      have y2 := BR.out.froz 2 (by simp)
      have y3 := BR.out.froz 3 (by simp)
      have y4 := BR.out.froz 4 (by simp)
      have lB := BP.out.lt
      have lR := BR.out.lt
      have hRB := S.out.RB
      go_wp2_with fail
      refine bodyPost_ret (v := .agg #[.string ⟨kl.toArray⟩, .bool true, .bool false, (.slice none 0 0), .int .i64 cnt]) (by simp [results, Tryz.results142, go_sem, cell_set_at, cell_set_ne, r0, r1, r2, r3, r4]) rfl ?_
      exact DSt.fin (d := ⟨kl, true, false, [], cnt⟩) S.out ⟨hkl.out, by simp, by simp, show I64 cnt from ⟨by omega, by omega⟩⟩ _ _ _ _ _
     case true =>
      go_wp2_with fail
      refine (l1Below_any b v l _ _ S.out.cur (by omega) (by omega)).mono ?_
      rintro e w1 ⟨k, rfl, ⟨k0, k1, k2⟩, hg, hC⟩
      have k3 := k2 (by omega)
      have hk9 : IntKind.i64.wrap (999 - k) = 999 - k := by rw [IntKind.wrap_i64]; omega
      have S := Lib.hid (S.out.draw hg hC)
      clear hg hC k1 k2
      have BP := Lib.hid S.out.box
      have BR := Lib.hid S.out.res
      have p0 := BP.out.cell 0 (by simp)
      have p1 := BP.out.cell 1 (by simp)
      have p2 := BP.out.cell 2 (by simp)
      have p3 := BP.out.cell 3 (by simp)
      have p4 := BP.out.cell 4 (by simp)
      simp only [List.getElem_cons_zero, List.getElem_cons_succ] at p0 p1 p2 p3 p4
      have x0 := BP.out.froz 0 (by simp)
      have x1 := BP.out.froz 1 (by simp)
      have x2 := BP.out.froz 2 (by simp)
      have x3 := BP.out.froz 3 (by simp)
      have x4 := BP.out.froz 4 (by simp)
      have r0 := BR.out.cell 0 (by simp)
      have r1 := BR.out.cell 1 (by simp)
      have r2 := BR.out.cell 2 (by simp)
      have r3 := BR.out.cell 3 (by simp)
      have r4 := BR.out.cell 4 (by simp)
      simp only [List.getElem_cons_zero, List.getElem_cons_succ] at r0 r1 r2 r3 r4
      have y0 := BR.out.froz 0 (by simp)
      have y1 := BR.out.froz 1 (by simp)
      have y2 := BR.out.froz 2 (by simp)
      have y3 := BR.out.froz 3 (by simp)
      have y4 := BR.out.froz 4 (by simp)
      have lB := BP.out.lt
      have lR := BR.out.lt
      have hRB := S.out.RB
      have S9 := Lib.hid (DSt.set (d' := ⟨kl, true, false, [], 999 - k⟩) S.out 4 (by decide) (.int .i64 (999 - k)) rfl rfl)
      go_wp2_with fail
      refine bodyPost_ret (v := .agg #[.string ⟨kl.toArray⟩, .bool true, .bool false, (.slice none 0 0), .int .i64 (999 - k)]) (by simp [results, Tryz.results142, go_sem, cell_set_at, cell_set_ne, r0, r1, r2, r3, r4]) rfl ?_
      exact DSt.fin (d := ⟨kl, true, false, [], 999 - k⟩) S9.out ⟨hkl.out, by simp, by simp, show I64 (999 - k) from ⟨by omega, by omega⟩⟩ _ _ _ _ _
    case true =>
     go_wp2_with fail
     have hsz := S.out.box.lt
     have hRB0 := S.out.RB
     refine (l3Cells_any b v l _ S.out.cur).mono ?_
     rintro e w1 ⟨u, y, rfl, ho, hsm, hg, hC⟩
     have HSM := Lib.hid hsm
     obtain ⟨ua, uc, rfl⟩ := slice_of ho
     have n1 : (Value.slice ua y.length uc).ownBlock ≠ some w3.heap.size := fun e => by have := (World.ownsRow.lt ho _ e).1; omega
     have n2 : (Value.slice ua y.length uc).ownBlock ≠ some w.heap.size := fun e => by have := (World.ownsRow.lt ho _ e).1; omega
     have hgs := S.out.grown.size
     have S1 := Lib.hid (S.out.draw hg hC)
     have S := Lib.hid (S1.out.setC _ y (ownsF_base ho hgs) n1 n2)
     have BP1 := Lib.hid S1.out.box
     have p0 := BP1.out.cell 0 (by simp)
     have p1 := BP1.out.cell 1 (by simp)
     have p2 := BP1.out.cell 2 (by simp)
     have p3 := BP1.out.cell 3 (by simp)
     have p4 := BP1.out.cell 4 (by simp)
     simp only [List.getElem_cons_zero, List.getElem_cons_succ] at p0 p1 p2 p3 p4
     have x0 := BP1.out.froz 0 (by simp)
     have x1 := BP1.out.froz 1 (by simp)
     have x2 := BP1.out.froz 2 (by simp)
     have x3 := BP1.out.froz 3 (by simp)
     have x4 := BP1.out.froz 4 (by simp)
     have lB := BP1.out.lt
     clear ho hsm hg hC hsz hRB0 n1 n2 hgs
     go_wp2_with fail
     clear p0 p1 p2 p3 p4 x0 x1 x2 x3 x4 lB BP1 S1
     refine (l1Once_any b v l _ _ S.out.cur (by omega) (by omega)).mono ?_
     rintro e w1 ⟨o, rfl, hg, hC⟩
     have S := Lib.hid (S.out.draw hg hC)
     clear hg hC
     cases o
     case false =>
      have BP := Lib.hid S.out.box
      have BR := Lib.hid S.out.res
      have p0 := BP.out.cell 0 (by simp)
      have p1 := BP.out.cell 1 (by simp)
      have p2 := BP.out.cell 2 (by simp)
      have p3 := BP.out.cell 3 (by simp)
      have p4 := BP.out.cell 4 (by simp)
      simp only [List.getElem_cons_zero, List.getElem_cons_succ] at p0 p1 p2 p3 p4
      have x0 := BP.out.froz 0 (by simp)
      have x1 := BP.out.froz 1 (by simp)
      have x2 := BP.out.froz 2 (by simp)
      have x3 := BP.out.froz 3 (by simp)
      have x4 := BP.out.froz 4 (by simp)
      have r0 := BR.out.cell 0 (by simp)
      have r1 := BR.out.cell 1 (by simp)
      have r2 := BR.out.cell 2 (by simp)
      have r3 := BR.out.cell 3 (by simp)
      have r4 := BR.out.cell 4 (by simp)
      simp only [List.getElem_cons_zero, List.getElem_cons_succ] at r0 r1 r2 r3 r4
      have y0 := BR.out.froz 0 (by simp)
      have y1 := BR.out.froz 1 (by simp)
      have y2 := BR.out.froz 2 (by simp)
      have y3 := BR.out.froz 3 (by simp)
      have y4 := BR.out.froz 4 (by simp)
      have lB := BP.out.lt
      have lR := BR.out.lt
      have hRB := S.out.RB
      go_wp2_with fail
      refine bodyPost_ret (v := .agg #[.string ⟨kl.toArray⟩, .bool true, .bool false, (.slice ua y.length uc), .int .i64 cnt]) (by simp [results, Tryz.results142, go_sem, cell_set_at, cell_set_ne, r0, r1, r2, r3, r4]) rfl ?_
      exact DSt.fin (d := ⟨kl, true, false, y, cnt⟩) S.out ⟨hkl.out, HSM.out.1, HSM.out.2, show I64 cnt from ⟨by omega, by omega⟩⟩ _ _ _ _ _
     case true =>
      go_wp2_with fail
      refine (l1Below_any b v l _ _ S.out.cur (by omega) (by omega)).mono ?_
      rintro e w1 ⟨k, rfl, ⟨k0, k1, k2⟩, hg, hC⟩
      have k3 := k2 (by omega)
      have hk9 : IntKind.i64.wrap (999 - k) = 999 - k := by rw [IntKind.wrap_i64]; omega
      have S := Lib.hid (S.out.draw hg hC)
      clear hg hC k1 k2
      have BP := Lib.hid S.out.box
      have BR := Lib.hid S.out.res
      have p0 := BP.out.cell 0 (by simp)
      have p1 := BP.out.cell 1 (by simp)
      have p2 := BP.out.cell 2 (by simp)
      have p3 := BP.out.cell 3 (by simp)
      have p4 := BP.out.cell 4 (by simp)
      simp only [List.getElem_cons_zero, List.getElem_cons_succ] at p0 p1 p2 p3 p4
      have x0 := BP.out.froz 0 (by simp)
      have x1 := BP.out.froz 1 (by simp)
      have x2 := BP.out.froz 2 (by simp)
      have x3 := BP.out.froz 3 (by simp)
      have x4 := BP.out.froz 4 (by simp)
      have r0 := BR.out.cell 0 (by simp)
      have r1 := BR.out.cell 1 (by simp)
      have r2 := BR.out.cell 2 (by simp)
      have r3 := BR.out.cell 3 (by simp)
      have r4 := BR.out.cell 4 (by simp)
      simp only [List.getElem_cons_zero, List.getElem_cons_succ] at r0 r1 r2 r3 r4
      have y0 := BR.out.froz 0 (by simp)
      have y1 := BR.out.froz 1 (by simp)
      have y2 := BR.out.froz 2 (by simp)
      have y3 := BR.out.froz 3 (by simp)
      have y4 := BR.out.froz 4 (by simp)
      have lB := BP.out.lt
      have lR := BR.out.lt
      have hRB := S.out.RB
      have S9 := Lib.hid (DSt.set (d' := ⟨kl, true, false, y, 999 - k⟩) S.out 4 (by decide) (.int .i64 (999 - k)) rfl rfl)
      go_wp2_with fail
      refine bodyPost_ret (v := .agg #[.string ⟨kl.toArray⟩, .bool true, .bool false, (.slice ua y.length uc), .int .i64 (999 - k)]) (by simp [results, Tryz.results142, go_sem, cell_set_at, cell_set_ne, r0, r1, r2, r3, r4]) rfl ?_
      exact DSt.fin (d := ⟨kl, true, false, y, 999 - k⟩) S9.out ⟨hkl.out, HSM.out.1, HSM.out.2, show I64 (999 - k) from ⟨by omega, by omega⟩⟩ _ _ _ _ _
   ·skip
    have hdn : decide (0 < n) = false := by simpa using hn
    have S1 := Lib.hid (DSt.set (d' := ⟨kl, false, false, [], cnt⟩) S0.out 1 (by decide) (.bool false) rfl rfl)
    have BP := Lib.hid S0.out.box
    have p0 := BP.out.cell 0 (by simp)
    have p1 := BP.out.cell 1 (by simp)
    have p2 := BP.out.cell 2 (by simp)
    have p3 := BP.out.cell 3 (by simp)
    have p4 := BP.out.cell 4 (by simp)
    simp only [List.getElem_cons_zero, List.getElem_cons_succ] at p0 p1 p2 p3 p4
    have x0 := BP.out.froz 0 (by simp)
    have x1 := BP.out.froz 1 (by simp)
    have x2 := BP.out.froz 2 (by simp)
    have x3 := BP.out.froz 3 (by simp)
    have x4 := BP.out.froz 4 (by simp)
    have lB := BP.out.lt
    go_wp2_with fail
    refine (l1Once_any b v l _ _ S1.out.cur (by omega) (by omega)).mono ?_
    rintro e w6 ⟨o, rfl, hg, hC⟩
    have S2 := Lib.hid (S1.out.draw hg hC)
    have S := Lib.hid (DSt.set (d' := ⟨kl, false, o, [], cnt⟩) S2.out 2 (by decide) (.bool o) rfl rfl)
    clear hg hC BP p0 p1 p2 p3 p4 x0 x1 x2 x3 x4 lB
    have BP := Lib.hid S2.out.box
    have p0 := BP.out.cell 0 (by simp)
    have p1 := BP.out.cell 1 (by simp)
    have p2 := BP.out.cell 2 (by simp)
    have p3 := BP.out.cell 3 (by simp)
    have p4 := BP.out.cell 4 (by simp)
    simp only [List.getElem_cons_zero, List.getElem_cons_succ] at p0 p1 p2 p3 p4
    have x0 := BP.out.froz 0 (by simp)
    have x1 := BP.out.froz 1 (by simp)
    have x2 := BP.out.froz 2 (by simp)
    have x3 := BP.out.froz 3 (by simp)
    have x4 := BP.out.froz 4 (by simp)
    have lB := BP.out.lt
    go_wp2_with fail
    clear S0 S1 S2 BP p0 p1 p2 p3 p4 x0 x1 x2 x3 x4 lB
    refine (HH1.out _).mono ?_
    rintro e w' ⟨rfl, rfl⟩
    cases h1
    case false =>
     go_wp2_with fail
     refine (l1Once_any b v l _ _ S.out.cur (by omega) (by omega)).mono ?_
     rintro e w1 ⟨o, rfl, hg, hC⟩
     have S := Lib.hid (S.out.draw hg hC)
     clear hg hC
     cases o
     case false =>
      have BP := Lib.hid S.out.box
      have BR := Lib.hid S.out.res
      have p0 := BP.out.cell 0 (by simp)
      have p1 := BP.out.cell 1 (by simp)
      have p2 := BP.out.cell 2 (by simp)
      have p3 := BP.out.cell 3 (by simp)
      have p4 := BP.out.cell 4 (by simp)
      simp only [List.getElem_cons_zero, List.getElem_cons_succ] at p0 p1 p2 p3 p4
      have x0 := BP.out.froz 0 (by simp)
      have x1 := BP.out.froz 1 (by simp)
      have x2 := BP.out.froz 2 (by simp)
      have x3 := BP.out.froz 3 (by simp)
      have x4 := BP.out.froz 4 (by simp)
      have r0 := BR.out.cell 0 (by simp)
      have r1 := BR.out.cell 1 (by simp)
      have r2 := BR.out.cell 2 (by simp)
      have r3 := BR.out.cell 3 (by simp)
      have r4 := BR.out.cell 4 (by simp)
      simp only [List.getElem_cons_zero, List.getElem_cons_succ] at r0 r1 r2 r3 r4
      have y0 := BR.out.froz 0 (by simp)
      have y1 := BR.out.froz 1 (by simp)
      have y2 := BR.out.froz 2 (by simp)
      have y3 := BR.out.froz 3 (by simp)
      have y4 := BR.out.froz 4 (by simp)
      have lB := BP.out.lt
      have lR := BR.out.lt
      have hRB := S.out.RB
      go_wp2_with fail
      refine bodyPost_ret (v := .agg #[.string ⟨kl.toArray⟩, .bool false, .bool o, (.slice none 0 0), .int .i64 cnt]) (by simp [results, Tryz.results142, go_sem, cell_set_at, cell_set_ne, r0, r1, r2, r3, r4]) rfl ?_
      exact DSt.fin (d := ⟨kl, false, o, [], cnt⟩) S.out ⟨hkl.out, by simp, by simp, show I64 cnt from ⟨by omega, by omega⟩⟩ _ _ _ _ _
     case true =>
      go_wp2_with fail
      refine (l1Below_any b v l _ _ S.out.cur (by omega) (by omega)).mono ?_
      rintro e w1 ⟨k, rfl, ⟨k0, k1, k2⟩, hg, hC⟩
      have k3 := k2 (by omega)
      have hk9 : IntKind.i64.wrap (999 - k) = 999 - k := by rw [IntKind.wrap_i64]; omega
      have S := Lib.hid (S.out.draw hg hC)
      clear hg hC k1 k2
      have BP := Lib.hid S.out.box
      have BR := Lib.hid S.out.res
      have p0 := BP.out.cell 0 (by simp)
      have p1 := BP.out.cell 1 (by simp)
      have p2 := BP.out.cell 2 (by simp)
      have p3 := BP.out.cell 3 (by simp)
      have p4 := BP.out.cell 4 (by simp)
      simp only [List.getElem_cons_zero, List.getElem_cons_succ] at p0 p1 p2 p3 p4
      have x0 := BP.out.froz 0 (by simp)
      have x1 := BP.out.froz 1 (by simp)
      have x2 := BP.out.froz 2 (by simp)
      have x3 := BP.out.froz 3 (by simp)
      have x4 := BP.out.froz 4 (by simp)
      have r0 := BR.out.cell 0 (by simp)
      have r1 := BR.out.cell 1 (by simp)
      have r2 := BR.out.cell 2 (by simp)
      have r3 := BR.out.cell 3 (by simp)
      have r4 := BR.out.cell 4 (by simp)
      simp only [List.getElem_cons_zero, List.getElem_cons_succ] at r0 r1 r2 r3 r4
      have y0 := BR.out.froz 0 (by simp)
      have y1 := BR.out.froz 1 (by simp)
      have y2 := BR.out.froz 2 (by simp)
      have y3 := BR.out.froz 3 (by simp)
      have y4 := BR.out.froz 4 (by simp)
      have lB := BP.out.lt
      have lR := BR.out.lt
      have hRB := S.out.RB
      have S9 := Lib.hid (DSt.set (d' := ⟨kl, false, o, [], 999 - k⟩) S.out 4 (by decide) (.int .i64 (999 - k)) rfl rfl)
      go_wp2_with fail
      refine bodyPost_ret (v := .agg #[.string ⟨kl.toArray⟩, .bool false, .bool o, (.slice none 0 0), .int .i64 (999 - k)]) (by simp [results, Tryz.results142, go_sem, cell_set_at, cell_set_ne, r0, r1, r2, r3, r4]) rfl ?_
      exact DSt.fin (d := ⟨kl, false, o, [], 999 - k⟩) S9.out ⟨hkl.out, by simp, by simp, show I64 (999 - k) from ⟨by omega, by omega⟩⟩ _ _ _ _ _
    case true =>
     go_wp2_with fail
     have hsz := S.out.box.lt
     have hRB0 := S.out.RB
     refine (l3Cells_any b v l _ S.out.cur).mono ?_
     rintro e w1 ⟨u, y, rfl, ho, hsm, hg, hC⟩
     have HSM := Lib.hid hsm
     obtain ⟨ua, uc, rfl⟩ := slice_of ho
     have n1 : (Value.slice ua y.length uc).ownBlock ≠ some w3.heap.size := fun e => by have := (World.ownsRow.lt ho _ e).1; omega
     have n2 : (Value.slice ua y.length uc).ownBlock ≠ some w.heap.size := fun e => by have := (World.ownsRow.lt ho _ e).1; omega
     have hgs := S.out.grown.size
     have S1 := Lib.hid (S.out.draw hg hC)
     have S := Lib.hid (S1.out.setC _ y (ownsF_base ho hgs) n1 n2)
     have BP1 := Lib.hid S1.out.box
     have p0 := BP1.out.cell 0 (by simp)
     have p1 := BP1.out.cell 1 (by simp)
     have p2 := BP1.out.cell 2 (by simp)
     have p3 := BP1.out.cell 3 (by simp)
     have p4 := BP1.out.cell 4 (by simp)
     simp only [List.getElem_cons_zero, List.getElem_cons_succ] at p0 p1 p2 p3 p4
     have x0 := BP1.out.froz 0 (by simp)
     have x1 := BP1.out.froz 1 (by simp)
     have x2 := BP1.out.froz 2 (by simp)
     have x3 := BP1.out.froz 3 (by simp)
     have x4 := BP1.out.froz 4 (by simp)
     have lB := BP1.out.lt
     clear ho hsm hg hC hsz hRB0 n1 n2 hgs
     go_wp2_with fail
     clear p0 p1 p2 p3 p4 x0 x1 x2 x3 x4 lB BP1 S1
     refine (l1Once_any b v l _ _ S.out.cur (by omega) (by omega)).mono ?_
     rintro e w1 ⟨o, rfl, hg, hC⟩
     have S := Lib.hid (S.out.draw hg hC)
     clear hg hC
     cases o
     case false =>
      have BP := Lib.hid S.out.box
      have BR := Lib.hid S.out.res
      have p0 := BP.out.cell 0 (by simp)
      have p1 := BP.out.cell 1 (by simp)
      have p2 := BP.out.cell 2 (by simp)
      have p3 := BP.out.cell 3 (by simp)
      have p4 := BP.out.cell 4 (by simp)
      simp only [List.getElem_cons_zero, List.getElem_cons_succ] at p0 p1 p2 p3 p4
      have x0 := BP.out.froz 0 (by simp)
      have x1 := BP.out.froz 1 (by simp)
      have x2 := BP.out.froz 2 (by simp)
      have x3 := BP.out.froz 3 (by simp)
      have x4 := BP.out.froz 4 (by simp)
      have r0 := BR.out.cell 0 (by simp)
      have r1 := BR.out.cell 1 (by simp)
      have r2 := BR.out.cell 2 (by simp)
      have r3 := BR.out.cell 3 (by simp)
      have r4 := BR.out.cell 4 (by simp)
      simp only [List.getElem_cons_zero, List.getElem_cons_succ] at r0 r1 r2 r3 r4
      have y0 := BR.out.froz 0 (by simp)
      have y1 := BR.out.froz 1 (by simp)
      have y2 := BR.out.froz 2 (by simp)
      have y3 := BR.out.froz 3 (by simp)
      have y4 := BR.out.froz 4 (by simp)
      have lB := BP.out.lt
      have lR := BR.out.lt
      have hRB := S.out.RB
      go_wp2_with fail
      refine bodyPost_ret (v := .agg #[.string ⟨kl.toArray⟩, .bool false, .bool o, (.slice ua y.length uc), .int .i64 cnt]) (by simp [results, Tryz.results142, go_sem, cell_set_at, cell_set_ne, r0, r1, r2, r3, r4]) rfl ?_
      exact DSt.fin (d := ⟨kl, false, o, y, cnt⟩) S.out ⟨hkl.out, HSM.out.1, HSM.out.2, show I64 cnt from ⟨by omega, by omega⟩⟩ _ _ _ _ _
     case true =>
      go_wp2_with fail
      refine (l1Below_any b v l _ _ S.out.cur (by omega) (by omega)).mono ?_
      rintro e w1 ⟨k, rfl, ⟨k0, k1, k2⟩, hg, hC⟩
      have k3 := k2 (by omega)
      have hk9 : IntKind.i64.wrap (999 - k) = 999 - k := by rw [IntKind.wrap_i64]; omega
      have S := Lib.hid (S.out.draw hg hC)
      clear hg hC k1 k2
      have BP := Lib.hid S.out.box
      have BR := Lib.hid S.out.res
      have p0 := BP.out.cell 0 (by simp)
      have p1 := BP.out.cell 1 (by simp)
      have p2 := BP.out.cell 2 (by simp)
      have p3 := BP.out.cell 3 (by simp)
      have p4 := BP.out.cell 4 (by simp)
      simp only [List.getElem_cons_zero, List.getElem_cons_succ] at p0 p1 p2 p3 p4
      have x0 := BP.out.froz 0 (by simp)
      have x1 := BP.out.froz 1 (by simp)
      have x2 := BP.out.froz 2 (by simp)
      have x3 := BP.out.froz 3 (by simp)
      have x4 := BP.out.froz 4 (by simp)
      have r0 := BR.out.cell 0 (by simp)
      have r1 := BR.out.cell 1 (by simp)
      have r2 := BR.out.cell 2 (by simp)
      have r3 := BR.out.cell 3 (by simp)
      have r4 := BR.out.cell 4 (by simp)
      simp only [List.getElem_cons_zero, List.getElem_cons_succ] at r0 r1 r2 r3 r4
      have y0 := BR.out.froz 0 (by simp)
      have y1 := BR.out.froz 1 (by simp)
      have y2 := BR.out.froz 2 (by simp)
      have y3 := BR.out.froz 3 (by simp)
      have y4 := BR.out.froz 4 (by simp)
      have lB := BP.out.lt
      have lR := BR.out.lt
      have hRB := S.out.RB
      have S9 := Lib.hid (DSt.set (d' := ⟨kl, false, o, y, 999 - k⟩) S.out 4 (by decide) (.int .i64 (999 - k)) rfl rfl)
      go_wp2_with fail
      refine bodyPost_ret (v := .agg #[.string ⟨kl.toArray⟩, .bool false, .bool o, (.slice ua y.length uc), .int .i64 (999 - k)]) (by simp [results, Tryz.results142, go_sem, cell_set_at, cell_set_ne, r0, r1, r2, r3, r4]) rfl ?_
      exact DSt.fin (d := ⟨kl, false, o, y, 999 - k⟩) S9.out ⟨hkl.out, HSM.out.1, HSM.out.2, show I64 (999 - k) from ⟨by omega, by omega⟩⟩ _ _ _ _ _
end Go.Proofs.YtcpbikilgacdlaaGreat
namespace Go.Proofs.YtcpbikilgacdlaaGreat
set_option linter.unusedVariables false
open Go.RowKit
section
variable {w : World} {N b : Nat} {v : Value} {l : List UInt8} {bs : List (Nat × List Value)} {rs : List Held} {wx : World}
theorem Bag.join {B : Nat} {cs : List Value} (h : Bag w N b v l bs rs wx) (hx : Bx wx B cs) (hN : N ≤ B) (hb : B ≠ b) (hne : ∀ p ∈ bs, p.1 ≠ B) (hrs : ∀ r ∈ rs, ¬ r.own B) : Bag w N b v l ((B, cs) :: bs) rs wx := by
 refine ⟨h.os, h.tape, h.output, h.size, h.block, h.nw, h.code, h.cur, ?_, h.row, ?_, h.geR, ?_, ?_, h.rdis⟩
 ·intro p hp
  rcases List.mem_cons.1 hp with rfl | hp
  ·exact hx
  ·exact h.box p hp
 ·intro p hp
  rcases List.mem_cons.1 hp with rfl | hp
  ·exact ⟨hN, hb⟩
  ·exact h.geB p hp
 ·intro p hp r hr
  rcases List.mem_cons.1 hp with rfl | hp
  ·exact hrs r hr
  ·exact h.sep p hp r hr
 ·exact List.pairwise_cons.2 ⟨fun p hp e => hne p hp e.symm, h.dis⟩
theorem Bag.elem2 {α : Type} {f : α → List Value} {E B g n cap : Nat} {x : List α} (h : Bag w N b v l bs rs wx) (i : Nat) (hi : rs[i]? = some (hRow f E 2 B (.slice (some ⟨g, 0, none⟩) n cap) x)) (hn : n = x.length) (hk : ∀ y, (f y).length = 2) (j : Nat) (hj : j < x.length) (z : α) (u : Value) (hz : f z = (f x[j]).set 1 u) :
  Bag w N b v l bs (rs.set i (hRow f E 2 B (.slice (some ⟨g, 0, none⟩) n cap) (x.set j z))) (wx.setCell ⟨g, j * 2 + 1, none⟩ u) := by
 subst hn
 obtain ⟨hlt, he⟩ := List.getElem?_eq_some_iff.1 hi
 have ho : OwnsF f E 2 wx B (.slice (some ⟨g, 0, none⟩) x.length cap) x := by
  have := h.row _ (List.getElem_mem hlt)
  rw [he] at this; exact this
 obtain ⟨h1, h2⟩ := World.ownsRow.stored ho (j * 2 + 1) u
 refine h.app i hi h2 ?_ (fun c _ hne => hne)
 unfold OwnsF
 rw [List.length_set]
 have e : (x.flatMap f).set (j * 2 + 1) u = (x.set j z).flatMap f := by
  refine List.ext_getElem? fun m => ?_
  have hm : m / 2 * 2 + m % 2 = m := by omega
  have hr : m % 2 < 2 := Nat.mod_lt _ (by decide)
  by_cases hq : m / 2 < x.length
  ·have e1 := flat_get f 2 hk x (m / 2) hq (m % 2) hr
   have e2 := flat_get f 2 hk (x.set j z) (m / 2) (by simpa using hq) (m % 2) hr
   rw [hm] at e1 e2
   rw [e2, List.getElem?_set]
   by_cases hjm : j * 2 + 1 = m
   ·subst hjm
    have hjj : (j * 2 + 1) / 2 = j := by omega
    have hjr : (j * 2 + 1) % 2 = 1 := by omega
    have hlen := flat_len f 2 hk x
    simp only [hjj, hjr, List.getElem_set_self, if_true]
    rw [if_pos (by rw [hlen]; omega), hz, List.getElem?_set]
    simp [hk]
   ·rw [if_neg hjm, e1, List.getElem_set]
    split
    ·rename_i hjq
     have hmr : m % 2 = 0 := by omega
     rw [hz, hmr, List.getElem?_set_ne (by decide)]
     subst hjq; rfl
    ·rfl
  ·have hlen := flat_len f 2 hk x
   have hlen2 := flat_len f 2 hk (x.set j z)
   rw [List.getElem?_eq_none (by rw [List.length_set, hlen]; omega), List.getElem?_eq_none (by rw [hlen2, List.length_set]; omega)]
 rw [← e]; exact h1
theorem Bag.put6 {B : Nat} {c0 c1 c2 c3 c4 c5 : Value} (h : Bag w N b v l bs rs wx) (i : Nat) (hi : bs[i]? = some (B, [c0, c1, c2, c3, c4, c5])) (u0 u1 u2 u3 u4 u5 : Value) :
  Bag w N b v l (bs.set i (B, [u0, u1, u2, u3, u4, u5])) rs ((((((wx.setCell ⟨B, 0, none⟩ u0).setCell ⟨B, 1, none⟩ u1).setCell ⟨B, 2, none⟩ u2).setCell ⟨B, 3, none⟩ u3).setCell ⟨B, 4, none⟩ u4).setCell ⟨B, 5, none⟩ u5) := by
 obtain ⟨hlt, he⟩ := List.getElem?_eq_some_iff.1 hi
 have h0 := h.set i hi (j := 0) (by simp) u0
 have h1 := h0.set i (B := B) (cs := [u0, c1, c2, c3, c4, c5]) (by rw [List.getElem?_set_self (by simp [hlt])]; rfl) (j := 1) (by simp) u1
 have h2 := h1.set i (B := B) (cs := [u0, u1, c2, c3, c4, c5]) (by rw [List.getElem?_set_self (by simp [hlt])]; rfl) (j := 2) (by simp) u2
 have h3 := h2.set i (B := B) (cs := [u0, u1, u2, c3, c4, c5]) (by rw [List.getElem?_set_self (by simp [hlt])]; rfl) (j := 3) (by simp) u3
 have h4 := h3.set i (B := B) (cs := [u0, u1, u2, u3, c4, c5]) (by rw [List.getElem?_set_self (by simp [hlt])]; rfl) (j := 4) (by simp) u4
 have h5 := h4.set i (B := B) (cs := [u0, u1, u2, u3, u4, c5]) (by rw [List.getElem?_set_self (by simp [hlt])]; rfl) (j := 5) (by simp) u5
 simpa using h5
theorem Bag.put5 {B : Nat} {c0 c1 c2 c3 c4 : Value} {cr : List Value} (h : Bag w N b v l bs rs wx) (i : Nat) (hi : bs[i]? = some (B, c0 :: c1 :: c2 :: c3 :: c4 :: cr)) (u0 u1 u2 u3 u4 : Value) :
  Bag w N b v l (bs.set i (B, u0 :: u1 :: u2 :: u3 :: u4 :: cr)) rs (((((wx.setCell ⟨B, 0, none⟩ u0).setCell ⟨B, 1, none⟩ u1).setCell ⟨B, 2, none⟩ u2).setCell ⟨B, 3, none⟩ u3).setCell ⟨B, 4, none⟩ u4) := by
 obtain ⟨hlt, he⟩ := List.getElem?_eq_some_iff.1 hi
 have h0 := h.set i hi (j := 0) (by simp) u0
 have h1 := h0.set i (B := B) (cs := u0 :: c1 :: c2 :: c3 :: c4 :: cr) (by rw [List.getElem?_set_self (by simp [hlt])]; rfl) (j := 1) (by simp) u1
 have h2 := h1.set i (B := B) (cs := u0 :: u1 :: c2 :: c3 :: c4 :: cr) (by rw [List.getElem?_set_self (by simp [hlt])]; rfl) (j := 2) (by simp) u2
 have h3 := h2.set i (B := B) (cs := u0 :: u1 :: u2 :: c3 :: c4 :: cr) (by rw [List.getElem?_set_self (by simp [hlt])]; rfl) (j := 3) (by simp) u3
 have h4 := h3.set i (B := B) (cs := u0 :: u1 :: u2 :: u3 :: c4 :: cr) (by rw [List.getElem?_set_self (by simp [hlt])]; rfl) (j := 4) (by simp) u4
 simpa using h4
end
theorem gr_below {w w' : World} {r : Option Nat} (hb : Below w.heap.size w w') : w.grownBy w' r := ⟨hb.os, hb.tape, hb.output, hb.size, fun k hk _ => hb.block k hk⟩
theorem Bag.add {w : World} {N b : Nat} {v : Value} {l : List UInt8} {bs : List (Nat × List Value)} {rs : List Held} {wx : World} (h : Bag w N b v l bs rs wx) (r : Held) (hP : r.P wx) (hge : ∀ g, r.own g → N ≤ g ∧ b < g) (hsep : ∀ p ∈ bs, ¬ r.own p.1) (hd : ∀ s ∈ rs, ∀ g, r.own g → ¬ s.own g) : Bag w N b v l bs (r :: rs) wx := by
 refine ⟨h.os, h.tape, h.output, h.size, h.block, h.nw, h.code, h.cur, h.box, ?_, h.geB, ?_, ?_, h.dis, List.pairwise_cons.2 ⟨hd, h.rdis⟩⟩
 ·intro s hs
  rcases List.mem_cons.1 hs with rfl | hs
  ·exact hP
  ·exact h.row s hs
 ·intro s hs g hg
  rcases List.mem_cons.1 hs with rfl | hs
  ·exact hge g hg
  ·exact h.geR s hs g hg
 ·intro p hp s hs
  rcases List.mem_cons.1 hs with rfl | hs
  ·exact hsep p hp
  ·exact h.sep p hp s hs
def six (W : World) (P : Nat) (c0 c1 c2 c3 c4 c5 : Value) : Prop := W.cell? ⟨P, 0, none⟩ = some c0 ∧ W.cell? ⟨P, 1, none⟩ = some c1 ∧ W.cell? ⟨P, 2, none⟩ = some c2 ∧ W.cell? ⟨P, 3, none⟩ = some c3 ∧ W.cell? ⟨P, 4, none⟩ = some c4 ∧ W.cell? ⟨P, 5, none⟩ = some c5
theorem bx_six {W : World} {P : Nat} {c0 c1 c2 c3 c4 c5 : Value} (h : Bx W P [c0, c1, c2, c3, c4, c5]) : six W P c0 c1 c2 c3 c4 c5 :=
 ⟨h.cell 0 (by simp), h.cell 1 (by simp), h.cell 2 (by simp), h.cell 3 (by simp), h.cell 4 (by simp), h.cell 5 (by simp)⟩
theorem six_below {W W' : World} {P : Nat} {c0 c1 c2 c3 c4 c5 : Value} (h : six W P c0 c1 c2 c3 c4 c5) (hb : Below W.heap.size W W') : six W' P c0 c1 c2 c3 c4 c5 := by
 obtain ⟨h0, h1, h2, h3, h4, h5⟩ := h
 have hl : P < W.heap.size := World.block_lt_of_cell? W _ h0
 exact ⟨(hb.cell (p := ⟨P, 0, none⟩) hl).trans h0, (hb.cell (p := ⟨P, 1, none⟩) hl).trans h1, (hb.cell (p := ⟨P, 2, none⟩) hl).trans h2, (hb.cell (p := ⟨P, 3, none⟩) hl).trans h3, (hb.cell (p := ⟨P, 4, none⟩) hl).trans h4, (hb.cell (p := ⟨P, 5, none⟩) hl).trans h5⟩
def okPt (n : Nat) (x : PartD) : Prop := okDr 7 x.fCore ∧ x.fLayers.length ≤ n ∧ ∀ y ∈ x.fLayers, y.fName.length ≤ 9 ∧ I64 y.fCount
theorem okPt_small {n : Nat} {x : PartD} (h : okPt n x) (hn : n ≤ 100) : SmallP x := by
 obtain ⟨⟨h1, h2, h3, _⟩, h5, h6⟩ := h
 refine smallP_of ?_
 have e1 := sumF_le zCell 9 x.fCore.fCells (fun c hc => (h3 c hc).1)
 have e2 := sumF_le zLayer 9 x.fLayers (fun y hy => (h6 y hy).1)
 have e3 : x.fCore.fCells.length * 9 ≤ 63 := by omega
 have e4 : x.fLayers.length * 9 ≤ 900 := by omega
 unfold zPart zCore
 omega
theorem okPt_keys {n : Nat} {x : PartD} (h : okPt n x) : ∀ c ∈ x.fCore.fCells, c.fKey.length ≤ maxLen := fun c hc => Nat.le_trans (h.1.2.2.1 c hc).1 (by decide)
theorem okPt_wrap {x : PartD} {s : List UInt8} (h : okPt 3 x) (hs : s.length ≤ 9) : okPt 3 (wrapP x s) := by
 unfold wrapP
 split
 ·rename_i hi
  obtain ⟨h1, h2, h3⟩ := h
  have hl : x.fLayers.length ≠ 3 := by
   unfold wrapI at hi
   intro e
   by_cases hp : partB x = true ∧ 0 ≤ layI s
   ·rw [if_pos hp, if_pos e] at hi; cases hi
   ·rw [if_neg hp] at hi; cases hi
  refine ⟨h1, by simp; omega, fun y hy => ?_⟩
  rcases List.mem_append.1 hy with hy | hy
  ·exact h3 y hy
  ·rw [List.mem_singleton.1 hy]; exact ⟨hs, by unfold I64; simp⟩
 ·exact h
abbrev hPC (w : World) (u : Value) (x : List CellD) : Held := hRow cCell 139 2 w.heap.size u x
abbrev hPL (w : World) (u : Value) (x : List LayerD) : Held := hRow cLayer 86 2 w.heap.size u x
abbrev zPartV : List Value := [.string ⟨#[]⟩, .bool false, .bool false, .slice none 0 0, .int .i64 0, .slice none 0 0]
abbrev zReplyV : List Value := [.int .i64 0, .int .i64 0, .string ⟨#[]⟩, .int .i64 0, .int .i64 0]
abbrev cPartV (k : List UInt8) (on br : Bool) (cv : Value) (ct : Int) (lv : Value) : List Value := [.string ⟨k.toArray⟩, .bool on, .bool br, cv, .int .i64 ct, lv]
def DrawnPart (n : Nat) (b : Nat) (v : Value) (l : List UInt8) (w : World) (e : Ending) (w' : World) : Prop := ∃ (x : PartD) (cv lv : Value), e = .returned (.agg (cPartV x.fCore.fKind x.fCore.fOn x.fCore.fBroken cv x.fCore.fCount lv).toArray) ∧ OwnsF cCell 139 2 w' w.heap.size cv x.fCore.fCells ∧ OwnsF cLayer 86 2 w' w.heap.size lv x.fLayers ∧ okPt n x ∧ w.grownBy w' (some b) ∧ Cur w' b v l
theorem row_form {α : Type} {f : α → List Value} {E k : Nat} {w : World} {B n c : Nat} {a : Option Addr} {x : List α} (h : OwnsF f E k w B (.slice a n c) x) (hk : ∀ y, (f y).length = k) (h0 : 0 < n) :
  ∃ g, a = some ⟨g, 0, none⟩ ∧ g < w.heap.size ∧ ∀ (i : Nat) (hi : i < x.length), ∀ j, j < k → w.cell? ⟨g, i * k + j, none⟩ = (f x[i])[j]? ∧ w.frozen? ⟨g, i * k + j, none⟩ = false := by
 have hl := h.1
 rcases h.2 with ⟨e, hn⟩ | ⟨g, cap, cur, e, hb, hg, _⟩
 ·injection e with e1 e2 e3; omega
 ·injection e with e1 e2 e3
  subst e1; subst e2; subst e3
  refine ⟨g, rfl, (World.ownsRow.lt h g rfl).2, fun i hi j hj => ⟨?_, World.ownsRow.frozenAt h _⟩⟩
  have h3 : (i + 1) * k ≤ x.length * k := Nat.mul_le_mul_right k hi
  rw [Nat.succ_mul] at h3
  rw [World.ownsRow.cellAt h (i * k + j) (by omega)]
  exact flat_get f k hk x i hi j hj
theorem Bag.add2 {w : World} {b : Nat} {v : Value} {l : List UInt8} {bs : List (Nat × List Value)} {rs : List Held} {wx : World} {u3 u5 : Value} {y : List CellD} {z : List LayerD} {F : Nat} (h : Bag w w.heap.size b v l bs rs wx) (ho3 : OwnsF cCell 139 2 wx F u3 y) (ho5 : OwnsF cLayer 86 2 wx F u5 z)
  (hw : w.heap.size ≤ F) (hb : b < F) (hbs : ∀ p ∈ bs, p.1 < F) (hrs : ∀ s ∈ rs, ∀ g, s.own g → g < F) : Bag w w.heap.size b v l bs (hPL w u5 z :: hPC w u3 y :: rs) wx := by
 have h3 := h.hold (F := F) (hPC w u3 y) (ownsF_base ho3 hw) (fun g e => (World.ownsRow.lt ho3 g e).1) hw hb hbs hrs
 refine h3.add (hPL w u5 z) (ownsF_base ho5 hw) (fun g e => ?_) (fun p hp e => ?_) (fun s hs g e e2 => ?_)
 ·have := (World.ownsRow.lt ho5 g e).1; omega
 ·have h1 := (World.ownsRow.lt ho5 _ e).1; have := hbs p hp; omega
 ·have h1 := (World.ownsRow.lt ho5 g e).1
  rcases List.mem_cons.1 hs with rfl | hs
  ·have e3 : u5.ownBlock = some g := e
   have e4 : u3.ownBlock = some g := e2
   rcases rows_apart ho5 ho3 (by decide) with h2 | h2
   ·rw [h2] at e3; cases e3
   ·exact h2 (by rw [e3, e4])
  ·have := hrs s hs g e2; omega
theorem Bag.made2 {w : World} {b : Nat} {v : Value} {l : List UInt8} {bs : List (Nat × List Value)} {rs : List Held} {wx w' : World} {u3 u5 : Value} {y : List CellD} {z : List LayerD} (h : Bag w w.heap.size b v l bs rs wx) (hb : Below wx.heap.size wx w') (ho3 : OwnsF cCell 139 2 w' wx.heap.size u3 y) (ho5 : OwnsF cLayer 86 2 w' wx.heap.size u5 z) :
  Bag w w.heap.size b v l bs (hPL w u5 z :: hPC w u3 y :: rs) w' :=
 (h.below hb).add2 ho3 ho5 h.sizes.1 h.sizes.2.1 h.sizes.2.2.1 h.sizes.2.2.2
theorem Bag.drawn2 {w : World} {b : Nat} {v : Value} {l : List UInt8} {bs : List (Nat × List Value)} {rs : List Held} {wx w' : World} {u3 u5 : Value} {y : List CellD} {z : List LayerD} (h : Bag w w.heap.size b v l bs rs wx) (hg : wx.grownBy w' (some b)) (hC : Cur w' b v l) (ho3 : OwnsF cCell 139 2 w' wx.heap.size u3 y) (ho5 : OwnsF cLayer 86 2 w' wx.heap.size u5 z) :
  Bag w w.heap.size b v l bs (hPL w u5 z :: hPC w u3 y :: rs) w' :=
 (h.draw hg hC).add2 ho3 ho5 h.sizes.1 h.sizes.2.1 h.sizes.2.2.1 h.sizes.2.2.2
theorem bag_part {w : World} {N b : Nat} {v : Value} {l : List UInt8} {bs : List (Nat × List Value)} {rs : List Held} {wx : World} {u5 u3 : Value} {n : Nat} {x : PartD} (h : Bag w N b v l bs rs wx) (h5 : hPL w u5 x.fLayers ∈ rs) (h3 : hPC w u3 x.fCore.fCells ∈ rs) (hk : okPt n x) (hn : n ≤ 100) :
  rPart 0 wx (cPartV x.fCore.fKind x.fCore.fOn x.fCore.fBroken u3 x.fCore.fCount u5) x :=
 goodPart.mono (oPart_r (B := w.heap.size) ⟨u3, u5, rfl, h.row _ h3, h.row _ h5⟩ (okPt_small hk hn)) (Nat.zero_le _)
end Go.Proofs.YtcpbikilgacdlaaGreat
namespace Go.Proofs.YtcpbikilgacdlaaGreat
set_option linter.unusedVariables false
set_option linter.unusedSimpArgs false
open Go.RowKit
set_option maxRecDepth 100000 in
set_option maxHeartbeats 6400000 in
theorem l4Draw_any (b : Nat) (v : Value) (l : List UInt8) (w : World) (hC : Cur w b v l) :
  Calls Tryz.prog 106 #[.pointer (some ⟨b, 0, none⟩)] w fun e w' => DrawnPart 3 b v l w e w' := by
 have BG := Lib.hid ((bag_start hC).var zPartV 37)
 clear hC
 go_enter Tryz.func106, Tryz.ntmps106
 go_wp2_with fail
 generalize w.alloc (.cells #[.string ⟨#[]⟩, .bool false, .bool false, .slice none 0 0, .int .i64 0, .slice none 0 0] 37) = w0 at *
 refine (l3Draw_any b v l _ BG.out.cur).mono ?_
 rintro e w1 ⟨⟨kd, on, br, y, cnt⟩, cv, rfl, ho, hok, hg, hC⟩
 obtain ⟨ca, cc, rfl⟩ := slice_of ho
 simp only at ho
 have HOK := Lib.hid (show okPt 3 ⟨⟨kd, on, br, y, cnt⟩, []⟩ from ⟨⟨hok.1, Nat.le_trans hok.2.1 (by decide), hok.2.2⟩, by simp, by simp⟩)
 replace BG := Lib.hid (BG.out.drawn2 hg hC (u5 := .slice none 0 0) (z := []) ho (ownsF_no _ _ _ _ _))
 clear ho hok hg hC
 replace BG := Lib.hid (BG.out.var (cPartV kd on br (.slice ca y.length cc) cnt (.slice none 0 0)) 37)
 unfold vCore
 simp only
 go_wp2_with fail
 generalize w1.alloc (.cells #[.string ⟨kd.toArray⟩, .bool on, .bool br, .slice ca y.length cc, .int .i64 cnt, .slice none 0 0] 37) = w2 at *
 generalize w1.heap.size = P at *
 refine (l1Below_any b v l _ _ BG.out.cur (by omega) (by omega)).mono ?_
 rintro e w3 ⟨n, rfl, ⟨n0, n1, n2⟩, hg, hC⟩
 have n3 := n2 (by omega)
 replace BG := Lib.hid (BG.out.draw hg hC)
 clear hg hC n1 n2
 go_wp2_with fail
 go_loopw [4, 5, 6] (fun nv _ _ wr => ∃ (n : Int) (kd : List UInt8) (on br : Bool) (ca la : Option Addr) (cc lc : Nat) (y : List CellD) (z : List LayerD) (cnt : Int), nv = .int .i64 n ∧ 0 ≤ n ∧ n ≤ 3 ∧ okPt 3 (⟨⟨kd, on, br, y, cnt⟩, z⟩ : PartD) ∧ Bag w w.heap.size b v l [(P, cPartV kd on br (.slice ca y.length cc) cnt (.slice la z.length lc)), (w.heap.size, zPartV)] [hPL w (.slice la z.length lc) z, hPC w (.slice ca y.length cc) y] wr) (fun nv _ _ _ => (intOf nv).toNat)
 case atStart => exact ⟨n, kd, on, br, ca, none, cc, 0, y, [], cnt, rfl, by omega, by omega, HOK.out, BG.out⟩
 case round =>
  clear BG HOK n0 n3
  obtain ⟨n, kd, on, br, ca, la, cc, lc, y, z, cnt, rfl, hn0, hn3, hok, hbg⟩ := hrel
  have BG := Lib.hid hbg
  have HOK := Lib.hid hok
  clear hbg hok
  by_cases hp : 0 < n
  ·skip
   go_wp2_with fail
   have HSof := Lib.hid (fun W (h : Bx W P (cPartV kd on br (.slice ca y.length cc) cnt (.slice la z.length lc))) => (show six W P (.string ⟨kd.toArray⟩) (.bool on) (.bool br) (.slice ca y.length cc) (.int .i64 cnt) (.slice la z.length lc) from bx_six h))
   have HFS := Lib.hid (show ∀ W W' : World, six W P (.string ⟨kd.toArray⟩) (.bool on) (.bool br) (.slice ca y.length cc) (.int .i64 cnt) (.slice la z.length lc) → Below W.heap.size W W' → six W' P (.string ⟨kd.toArray⟩) (.bool on) (.bool br) (.slice ca y.length cc) (.int .i64 cnt) (.slice la z.length lc) from fun W W' hh hb => six_below hh hb)
   refine wp_region_held_drew (S := fun w' => six w' P (.string ⟨kd.toArray⟩) (.bool on) (.bool br) (.slice ca y.length cc) (.int .i64 cnt) (.slice la z.length lc)) (by kernel_rfl) ?_ (fun hHeld => ?_)
   ·exact HSof.out _ (BG.out.drew.box (P, cPartV kd on br (.slice ca y.length cc) cnt (.slice la z.length lc)) (by simp))
   replace BG := Lib.hid BG.out.drew
   generalize wr.drew = v0 at *
   refine wpAnyH_take (i := 0) (v := ?_) rfl (by kernel_rfl) (by kernel_rfl) (by kernel_rfl) (fun _ _ _ h => h) (Or.inl ⟨by rfl, ?_⟩) (by assumption) ?_
   rotate_left
   ·intro w hSw; (try dsimp only at hSw); obtain ⟨s0, s1, s2, s3, s4, s5⟩ := hSw; go_simp; with_reducible rfl
   try simp only [Act.put, List.getElem_toArray, List.getElem_cons_zero, List.getElem_cons_succ, List.setIfInBounds_toArray, List.set_cons_zero, List.set_cons_succ]
   refine wpAnyH_take (i := 1) (v := ?_) rfl (by kernel_rfl) (by kernel_rfl) (by kernel_rfl) (fun _ _ _ h => h) (Or.inl ⟨by rfl, ?_⟩) (by assumption) ?_
   rotate_left
   ·intro w hSw; (try dsimp only at hSw); obtain ⟨s0, s1, s2, s3, s4, s5⟩ := hSw; go_simp; with_reducible rfl
   try simp only [Act.put, List.getElem_toArray, List.getElem_cons_zero, List.getElem_cons_succ, List.setIfInBounds_toArray, List.set_cons_zero, List.set_cons_succ]
   refine wpAnyH_take (i := 2) (v := ?_) rfl (by kernel_rfl) (by kernel_rfl) (by kernel_rfl) (fun _ _ _ h => h) (Or.inl ⟨by rfl, ?_⟩) (by assumption) ?_
   rotate_left
   ·intro w hSw; (try dsimp only at hSw); obtain ⟨s0, s1, s2, s3, s4, s5⟩ := hSw; go_simp; with_reducible rfl
   try simp only [Act.put, List.getElem_toArray, List.getElem_cons_zero, List.getElem_cons_succ, List.setIfInBounds_toArray, List.set_cons_zero, List.set_cons_succ]
   have ZS := Lib.hid BG.out.sizes
   refine wpAnyH_floatD (r := some b) (k1 := 9) (k2 := 10) (d1 := 5) (d2 := 6) (z1 := zPartV) (z2 := zReplyV) (T1 := 37) (T2 := 39) (js := [(3, false), (4, false), (5, false), (6, true), (7, true), (8, true)]) (fz := 2) rfl (fun g e => by injection e with e; subst e; exact BG.out.cur.lt) ⟨⟨_, rfl, rfl, rfl, fun a w => ?_⟩⟩ ⟨⟨_, rfl, rfl, rfl, fun a w => ?_⟩⟩ (by kernel_rfl) (by decide) (by decide) (by kernel_rfl) (fun _ _ _ _ _ => Iff.rfl) HFS.out (by assumption) ?_
   ·rfl
   ·rfl
   refine wpFd_step rfl (fun v1 hbG hHeld K hK => ?_)
   replace BG := Lib.hid (BG.out.below hbG)
   clear hbG
   go_simp
   go_at_call 62
   refine (specFaceOf_any _ (⟨⟨kd, on, br, y, cnt⟩, z⟩ : PartD) _ (show ValAt rPart 0 _ (.agg #[.string ⟨kd.toArray⟩, .bool on, .bool br, .slice ca y.length cc, .int .i64 cnt, .slice la z.length lc]) (⟨⟨kd, on, br, y, cnt⟩, z⟩ : PartD) from ⟨cPartV kd on br (.slice ca y.length cc) cnt (.slice la z.length lc), rfl, bag_part (n := 3) (x := (⟨⟨kd, on, br, y, cnt⟩, z⟩ : PartD)) BG.out (by simp) (by simp) HOK.out (by decide)⟩)).mono ?_
   rintro e v2 ⟨rfl, hb⟩
   replace BG := Lib.hid (BG.out.below hb)
   refine hK.out _ _ (gr_below hb) (HSof.out _ (BG.out.box (P, cPartV kd on br (.slice ca y.length cc) cnt (.slice la z.length lc)) (by simp))) ?_
   clear hK K hb hHeld
   try simp only [Act.put, List.getElem_toArray, List.getElem_cons_zero, List.getElem_cons_succ, List.setIfInBounds_toArray, List.set_cons_zero, List.set_cons_succ]
   generalize faceP (⟨⟨kd, on, br, y, cnt⟩, z⟩ : PartD) = fc at *
   refine wpFd_step rfl (fun v3 hbG hHeld K hK => ?_)
   replace BG := Lib.hid (BG.out.below hbG)
   clear hbG
   go_simp
   go_at_call 143
   refine (l4Fitting_any b v l _ _ BG.out.cur).mono ?_
   rintro e v4 ⟨s, rfl, hs, hg, hC⟩
   obtain ⟨⟨sl⟩⟩ := s
   have hsl : sl.length ≤ 9 := hs
   replace BG := Lib.hid (BG.out.draw hg hC)
   refine hK.out _ _ hg (HSof.out _ (BG.out.box (P, cPartV kd on br (.slice ca y.length cc) cnt (.slice la z.length lc)) (by simp))) ?_
   clear hK K hg hC hHeld hs
   try simp only [Act.put, List.getElem_toArray, List.getElem_cons_zero, List.getElem_cons_succ, List.setIfInBounds_toArray, List.set_cons_zero, List.set_cons_succ]
   refine wpFd_step rfl (fun v5 hbG hHeld K hK => ?_)
   replace BG := Lib.hid (BG.out.below hbG)
   clear hbG
   have HOK2 := Lib.hid (okPt_wrap HOK.out hsl)
   have HW := Lib.hid (specWrap_any _ (⟨⟨kd, on, br, y, cnt⟩, z⟩ : PartD) ⟨sl.toArray⟩ v5 (show ValAt rPart 0 v5 (.agg #[.string ⟨kd.toArray⟩, .bool on, .bool br, .slice ca y.length cc, .int .i64 cnt, .slice la z.length lc]) (⟨⟨kd, on, br, y, cnt⟩, z⟩ : PartD) from ⟨cPartV kd on br (.slice ca y.length cc) cnt (.slice la z.length lc), rfl, bag_part (n := 3) (x := (⟨⟨kd, on, br, y, cnt⟩, z⟩ : PartD)) BG.out (by simp) (by simp) HOK.out (by decide)⟩) (okPt_small HOK.out (by decide)) (okPt_keys HOK.out) (Nat.le_trans hsl (by decide)))
   simp only [List.toList_toArray] at HW
   generalize wrapP (⟨⟨kd, on, br, y, cnt⟩, z⟩ : PartD) sl = p2 at *
   generalize wrapR (⟨⟨kd, on, br, y, cnt⟩, z⟩ : PartD) sl = r2 at *
   obtain ⟨⟨kd2, on2, br2, y2, cnt2⟩, z2⟩ := p2
   obtain ⟨t0, t1, t2, t3, t4⟩ := r2
   unfold GivesOPR vReply at HW
   simp only at HW
   go_simp
   go_at_call 56
   refine HW.out.mono ?_
   rintro e v6 ⟨_, rfl, ⟨u3, u5, rfl, ho3, ho5⟩, hb⟩
   simp only at ho3 ho5
   obtain ⟨ca2, cc2, rfl⟩ := slice_of ho3
   obtain ⟨la2, lc2, rfl⟩ := slice_of ho5
   have HN3 := Lib.hid (fun g e => World.ownsRow.lt ho3 g e)
   have HN5 := Lib.hid (fun g e => World.ownsRow.lt ho5 g e)
   have hv5 := BG.out.size
   replace BG := Lib.hid (BG.out.made2 hb ho3 ho5)
   refine hK.out _ _ (gr_below hb) (HSof.out _ (BG.out.box (P, cPartV kd on br (.slice ca y.length cc) cnt (.slice la z.length lc)) (by simp))) ?_
   clear hK K hb hHeld ho3 ho5 HW
   try simp only [Act.put, List.getElem_toArray, List.getElem_cons_zero, List.getElem_cons_succ, List.setIfInBounds_toArray, List.set_cons_zero, List.set_cons_succ]
   refine wpFd_take (v := ?_) rfl (Or.inl ⟨by rfl, ?_⟩) ?_
   rotate_left
   ·intro w hSw; (try dsimp only at hSw); go_simp; with_reducible rfl
   try simp only [Act.put, List.getElem_toArray, List.getElem_cons_zero, List.getElem_cons_succ, List.setIfInBounds_toArray, List.set_cons_zero, List.set_cons_succ]
   refine wpFd_take (v := ?_) rfl (Or.inl ⟨by rfl, ?_⟩) ?_
   rotate_left
   ·intro w hSw; (try dsimp only at hSw); go_simp; with_reducible rfl
   try simp only [Act.put, List.getElem_toArray, List.getElem_cons_zero, List.getElem_cons_succ, List.setIfInBounds_toArray, List.set_cons_zero, List.set_cons_succ]
   refine wpFd_take (v := ?_) rfl (Or.inl ⟨by rfl, ?_⟩) ?_
   rotate_left
   ·intro w hSw; (try dsimp only at hSw); go_simp; with_reducible rfl
   try simp only [Act.put, List.getElem_toArray, List.getElem_cons_zero, List.getElem_cons_succ, List.setIfInBounds_toArray, List.set_cons_zero, List.set_cons_succ]
   refine wpFd_end (fun v7 Q1 Q2 hbG hHeld hx1 hx2 hne hl1 hl2 hgap => ?_)
   replace BG := Lib.hid (BG.out.below hbG)
   have hg5 := hgap (v5.heap.size, v6.heap.size) (by simp)
   simp only at hg5
   clear hbG hgap
   have z1 := ZS.out.1
   have z2s := ZS.out.2.1
   have Z3 := Lib.hid ZS.out.2.2.1
   have Z4 := Lib.hid ZS.out.2.2.2
   clear ZS
   have JB2 : ∀ p ∈ [(P, cPartV kd on br (.slice ca y.length cc) cnt (.slice la z.length lc)), (w.heap.size, zPartV)], p.1 ≠ Q2 := by
    intro p hp e
    have := Z3.out p hp; omega
   have JR2 : ∀ r ∈ [hPL w (.slice la2 z2.length lc2) z2, hPC w (.slice ca2 y2.length cc2) y2, hPL w (.slice la z.length lc) z, hPC w (.slice ca y.length cc) y], ¬ r.own Q2 := by
    intro r hr ho
    rcases List.mem_cons.1 hr with rfl | hr
    ·have := HN5.out Q2 ho; omega
    rcases List.mem_cons.1 hr with rfl | hr
    ·have := HN3.out Q2 ho; omega
    have := Z4.out r hr Q2 ho; omega
   replace BG := Lib.hid (BG.out.join hx2 (by omega) (by omega) JB2 JR2)
   have JB1 : ∀ p ∈ [(Q2, zReplyV), (P, cPartV kd on br (.slice ca y.length cc) cnt (.slice la z.length lc)), (w.heap.size, zPartV)], p.1 ≠ Q1 := by
    intro p hp e
    rcases List.mem_cons.1 hp with rfl | hp
    ·exact hne e.symm
    ·have := Z3.out p hp; omega
   have JR1 : ∀ r ∈ [hPL w (.slice la2 z2.length lc2) z2, hPC w (.slice ca2 y2.length cc2) y2, hPL w (.slice la z.length lc) z, hPC w (.slice ca y.length cc) y], ¬ r.own Q1 := by
    intro r hr ho
    rcases List.mem_cons.1 hr with rfl | hr
    ·have := HN5.out Q1 ho; omega
    rcases List.mem_cons.1 hr with rfl | hr
    ·have := HN3.out Q1 ho; omega
    have := Z4.out r hr Q1 ho; omega
   replace BG := Lib.hid (BG.out.join hx1 (by omega) (by omega) JB1 JR1)
   clear hx1 hx2 JB1 JB2 JR1 JR2 hg5 Z3 Z4 HN3 HN5 z1 z2s hl1 hl2
   try simp only [Act.put, List.getElem_toArray, List.getElem_cons_zero, List.getElem_cons_succ, List.setIfInBounds_toArray, List.set_cons_zero, List.set_cons_succ]
   have B_x := Lib.hid (BG.out.box (Q1, zPartV) (by simp))
   have x0 := B_x.out.cell 0 (by simp)
   have x1 := B_x.out.cell 1 (by simp)
   have x2 := B_x.out.cell 2 (by simp)
   have x3 := B_x.out.cell 3 (by simp)
   have x4 := B_x.out.cell 4 (by simp)
   have x5 := B_x.out.cell 5 (by simp)
   simp only [List.getElem_cons_zero, List.getElem_cons_succ] at x0 x1 x2 x3 x4 x5
   have fx0 := B_x.out.froz 0 (by simp)
   have fx1 := B_x.out.froz 1 (by simp)
   have fx2 := B_x.out.froz 2 (by simp)
   have fx3 := B_x.out.froz 3 (by simp)
   have fx4 := B_x.out.froz 4 (by simp)
   have fx5 := B_x.out.froz 5 (by simp)
   have l_x := B_x.out.lt
   have B_e := Lib.hid (BG.out.box (Q2, zReplyV) (by simp))
   have e0 := B_e.out.cell 0 (by simp)
   have e1 := B_e.out.cell 1 (by simp)
   have e2 := B_e.out.cell 2 (by simp)
   have e3 := B_e.out.cell 3 (by simp)
   have e4 := B_e.out.cell 4 (by simp)
   simp only [List.getElem_cons_zero, List.getElem_cons_succ] at e0 e1 e2 e3 e4
   have fe0 := B_e.out.froz 0 (by simp)
   have fe1 := B_e.out.froz 1 (by simp)
   have fe2 := B_e.out.froz 2 (by simp)
   have fe3 := B_e.out.froz 3 (by simp)
   have fe4 := B_e.out.froz 4 (by simp)
   have l_e := B_e.out.lt
   have ne12 : ¬ Q1 = Q2 := hne
   have ne21 : ¬ Q2 = Q1 := fun e => hne e.symm
   refine wpAnyH_ready (rs := [11]) (by kernel_rfl) (by simp) ?_
   refine AllReadyH.cons rfl (fun K hK => ?_) AllReadyH.nil
   go_simp
   have BG2 := Lib.hid (BG.out.put6 0 rfl (.string ⟨kd2.toArray⟩) (.bool on2) (.bool br2) (.slice ca2 y2.length cc2) (.int .i64 cnt2) (.slice la2 z2.length lc2))
   simp only [List.set_cons_zero, List.set_cons_succ] at BG2
   refine hK.out _ _ (HSof.out _ (BG2.out.box (P, cPartV kd on br (.slice ca y.length cc) cnt (.slice la z.length lc)) (by simp))) (fun hHeld => ?_)
   clear hK K
   try simp only [Act.put, List.getElem_toArray, List.getElem_cons_zero, List.getElem_cons_succ, List.setIfInBounds_toArray, List.set_cons_zero, List.set_cons_succ]
   refine wpAnyH_ready (rs := [12]) (by kernel_rfl) (by simp) ?_
   refine AllReadyH.cons rfl (fun K hK => ?_) AllReadyH.nil
   go_simp
   have BG3 := Lib.hid (BG2.out.put5 1 rfl (.int .i64 t0) (.int .i64 t1) (.string ⟨t2.toArray⟩) (.int .i64 t3) (.int .i64 t4))
   simp only [List.set_cons_zero, List.set_cons_succ] at BG3
   refine hK.out _ _ (HSof.out _ (BG3.out.box (P, cPartV kd on br (.slice ca y.length cc) cnt (.slice la z.length lc)) (by simp))) (fun hHeld => ?_)
   clear hK K
   try simp only [Act.put, List.getElem_toArray, List.getElem_cons_zero, List.getElem_cons_succ, List.setIfInBounds_toArray, List.set_cons_zero, List.set_cons_succ]
   refine wpAnyH_done (by kernel_rfl) ?_ _
   replace BG := BG3
   clear BG2 BG3
   clear B_x l_x x0 x1 x2 x3 x4 x5 fx0 fx1 fx2 fx3 fx4 fx5
   clear B_e l_e e0 e1 e2 e3 e4 fe0 fe1 fe2 fe3 fe4
   generalize (((((((((((v7.setCell ⟨Q1, 0, none⟩ (.string ⟨kd2.toArray⟩)).setCell ⟨Q1, 1, none⟩ (.bool on2)).setCell ⟨Q1, 2, none⟩ (.bool br2)).setCell ⟨Q1, 3, none⟩ (.slice ca2 y2.length cc2)).setCell ⟨Q1, 4, none⟩ (.int .i64 cnt2)).setCell ⟨Q1, 5, none⟩ (.slice la2 z2.length lc2)).setCell ⟨Q2, 0, none⟩ (.int .i64 t0)).setCell ⟨Q2, 1, none⟩ (.int .i64 t1)).setCell ⟨Q2, 2, none⟩ (.string ⟨t2.toArray⟩)).setCell ⟨Q2, 3, none⟩ (.int .i64 t3)).setCell ⟨Q2, 4, none⟩ (.int .i64 t4)) = v8 at *
   clear hHeld HSof HFS
   have B_x := Lib.hid (BG.out.box (Q1, cPartV kd2 on2 br2 (.slice ca2 y2.length cc2) cnt2 (.slice la2 z2.length lc2)) (by simp))
   have x0 := B_x.out.cell 0 (by simp)
   have x1 := B_x.out.cell 1 (by simp)
   have x2 := B_x.out.cell 2 (by simp)
   have x3 := B_x.out.cell 3 (by simp)
   have x4 := B_x.out.cell 4 (by simp)
   have x5 := B_x.out.cell 5 (by simp)
   simp only [List.getElem_cons_zero, List.getElem_cons_succ] at x0 x1 x2 x3 x4 x5
   have l_x := B_x.out.lt
   have B_e := Lib.hid (BG.out.box (Q2, [.int .i64 t0, .int .i64 t1, .string ⟨t2.toArray⟩, .int .i64 t3, .int .i64 t4]) (by simp))
   have e0 := B_e.out.cell 0 (by simp)
   have e1 := B_e.out.cell 1 (by simp)
   have e2 := B_e.out.cell 2 (by simp)
   have e3 := B_e.out.cell 3 (by simp)
   have e4 := B_e.out.cell 4 (by simp)
   simp only [List.getElem_cons_zero, List.getElem_cons_succ] at e0 e1 e2 e3 e4
   have l_e := B_e.out.lt
   have B_q := Lib.hid (BG.out.box (P, cPartV kd on br (.slice ca y.length cc) cnt (.slice la z.length lc)) (by simp))
   have q0 := B_q.out.cell 0 (by simp)
   have q1 := B_q.out.cell 1 (by simp)
   have q2 := B_q.out.cell 2 (by simp)
   have q3 := B_q.out.cell 3 (by simp)
   have q4 := B_q.out.cell 4 (by simp)
   have q5 := B_q.out.cell 5 (by simp)
   simp only [List.getElem_cons_zero, List.getElem_cons_succ] at q0 q1 q2 q3 q4 q5
   have fq0 := B_q.out.froz 0 (by simp)
   have fq1 := B_q.out.froz 1 (by simp)
   have fq2 := B_q.out.froz 2 (by simp)
   have fq3 := B_q.out.froz 3 (by simp)
   have fq4 := B_q.out.froz 4 (by simp)
   have fq5 := B_q.out.froz 5 (by simp)
   have l_q := B_q.out.lt
   by_cases e0 : t0 = 0
   ·subst e0
    have BG4 := Lib.hid ((BG.out.put6 2 rfl (.string ⟨kd2.toArray⟩) (.bool on2) (.bool br2) (.slice ca2 y2.length cc2) (.int .i64 cnt2) (.slice la2 z2.length lc2)).less (bs' := [(P, cPartV kd2 on2 br2 (.slice ca2 y2.length cc2) cnt2 (.slice la2 z2.length lc2)), (w.heap.size, zPartV)]) (rs' := [hPL w (.slice la2 z2.length lc2) z2, hPC w (.slice ca2 y2.length cc2) y2]) (.cons _ (.cons _ (.refl _))) (.cons_cons _ (.cons_cons _ (.cons _ (.cons _ .slnil)))))
    go_wp2_with fail
    exact ⟨⟨n - 1, kd2, on2, br2, ca2, la2, cc2, lc2, y2, z2, cnt2, by go_num, by omega, by omega, HOK2.out, BG4.out⟩, by simp [intOf]; omega⟩
   ·have E0 : (t0 == 0) = false := by simpa using e0
    have BG4 := Lib.hid (BG.out.less (bs' := [(P, cPartV kd on br (.slice ca y.length cc) cnt (.slice la z.length lc)), (w.heap.size, zPartV)]) (rs' := [hPL w (.slice la z.length lc) z, hPC w (.slice ca y.length cc) y]) (.cons _ (.cons _ (.refl _))) (.cons _ (.cons _ (.refl _))))
    go_wp2_with fail
    exact ⟨⟨n - 1, kd, on, br, ca, la, cc, lc, y, z, cnt, by go_num, by omega, by omega, HOK.out, BG4.out⟩, by simp [intOf]; omega⟩
  ·have hn : n = 0 := by omega
   subst hn
   have B_q := Lib.hid (BG.out.box (P, cPartV kd on br (.slice ca y.length cc) cnt (.slice la z.length lc)) (by simp))
   have q0 := B_q.out.cell 0 (by simp)
   have q1 := B_q.out.cell 1 (by simp)
   have q2 := B_q.out.cell 2 (by simp)
   have q3 := B_q.out.cell 3 (by simp)
   have q4 := B_q.out.cell 4 (by simp)
   have q5 := B_q.out.cell 5 (by simp)
   simp only [List.getElem_cons_zero, List.getElem_cons_succ] at q0 q1 q2 q3 q4 q5
   have fq0 := B_q.out.froz 0 (by simp)
   have fq1 := B_q.out.froz 1 (by simp)
   have fq2 := B_q.out.froz 2 (by simp)
   have fq3 := B_q.out.froz 3 (by simp)
   have fq4 := B_q.out.froz 4 (by simp)
   have fq5 := B_q.out.froz 5 (by simp)
   have l_q := B_q.out.lt
   go_wp2_with fail
   clear B_q l_q q0 q1 q2 q3 q4 q5 fq0 fq1 fq2 fq3 fq4 fq5
   have hzm : z.length = z.length := rfl
   have hz3 : z.length ≤ 3 := HOK.out.2.1
   have Z0 := Lib.hid (show z.length = z.length from rfl)
   clear hzm Z0
   generalize hm : z.length = m at *
   go_loopw [7, 8, 34] (fun _ _ iv wr => ∃ (k : Nat) (z : List LayerD), iv = .int .i64 k ∧ k ≤ m ∧ z.length = m ∧ okPt 3 (⟨⟨kd, on, br, y, cnt⟩, z⟩ : PartD) ∧ Bag w w.heap.size b v l [(P, cPartV kd on br (.slice ca y.length cc) cnt (.slice la m lc)), (w.heap.size, zPartV)] [hPL w (.slice la m lc) z, hPC w (.slice ca y.length cc) y] wr) (fun _ _ iv _ => m - (intOf iv).toNat)
   case atStart => exact ⟨0, z, rfl, Nat.zero_le _, hm, HOK.out, BG.out⟩
   case round =>
    clear BG HOK hm
    obtain ⟨k, z, rfl, hk, hzm, hok, hbg⟩ := hrel
    have BG := Lib.hid hbg
    have HOK := Lib.hid hok
    clear hbg hok
    by_cases hlt : k < m
    ·skip
     have hkz : k < z.length := by omega
     have hic : (k : Int) < (m : Int) := by omega
     obtain ⟨g, rfl, hgl, hf⟩ := row_form (show OwnsF cLayer 86 2 _ w.heap.size (.slice la m lc) z from BG.out.row (hPL w (.slice la m lc) z) (by simp)) cLayer_len (by omega)
     have d0 := (hf k hkz 0 (by decide)).1
     have d1 := (hf k hkz 1 (by decide)).1
     clear hf
     have HM := Lib.hid (HOK.out.2.2 z[k] (List.getElem_mem hkz))
     have HZK := Lib.hid (show z[k] = z[k] from rfl)
     generalize hzk : z[k] = e at d0 d1 HM
     obtain ⟨nm, ct⟩ := e
     simp only [cLayer, List.getElem?_cons_zero, List.getElem?_cons_succ, Nat.add_zero] at d0 d1
     clear HZK
     have HZK := Lib.hid hzk
     clear hzk
     have BV := Lib.hid (BG.out.var [.string ⟨nm.toArray⟩, .int .i64 ct] 86)
     go_upto_region 11 with fail
     clear d0 d1
     generalize wr.alloc (.cells #[.string ⟨nm.toArray⟩, .int .i64 ct] 86) = w20 at *
     generalize wr.heap.size = XB at *
     by_cases hcn : countedB nm = true
     ·skip
      have hcn2 : nm = [99, 111, 117, 110, 116, 115] ∨ nm = [104, 101, 97, 114, 115] := by simpa [countedB] using hcn
      clear hcn
      replace BG := BV
      clear BV
      have BX0 := Lib.hid (BG.out.box (XB, [.string ⟨nm.toArray⟩, .int .i64 ct]) (by simp))
      have x0 := BX0.out.cell 0 (by simp)
      have x1 := BX0.out.cell 1 (by simp)
      simp only [List.getElem_cons_zero, List.getElem_cons_succ] at x0 x1
      have hXl := BX0.out.lt
      rcases hcn2 with rfl | rfl
      ·skip
       go_wp2_with fail
       clear x0 x1 BX0 hXl
       replace BG := Lib.hid BG.out.drew
       refine region_T (S := fun w' => w'.cell? ⟨P, 5, none⟩ = some (.slice (some ⟨g, 0, none⟩) m lc)) (t := 7) (by kernel_rfl) ?_ (fun hHeld => ?_)
       ·exact (BG.out.box (P, cPartV kd on br (.slice ca y.length cc) cnt (.slice (some ⟨g, 0, none⟩) m lc)) (by simp)).cell 5 (by simp)
       refine anyT_take (i := 0) (v := ?_) rfl (by kernel_rfl) (by kernel_rfl) (by kernel_rfl) (by kernel_rfl) (by kernel_rfl) (fun _ _ _ h => h) (Or.inl ⟨by rfl, ?_⟩) (by assumption) ?_
       rotate_left
       ·intro w hSw; (try dsimp only at hSw); go_simp; with_reducible rfl
       try simp only [Act.put, List.getElem_toArray, List.getElem_cons_zero, List.getElem_cons_succ, List.setIfInBounds_toArray, List.set_cons_zero, List.set_cons_succ]
       refine anyT_take (i := 2) (v := ?_) rfl (by kernel_rfl) (by kernel_rfl) (by kernel_rfl) (by kernel_rfl) (by kernel_rfl) (fun _ _ _ h => h) (Or.inl ⟨by rfl, ?_⟩) (by assumption) ?_
       rotate_left
       ·intro w hSw; (try dsimp only at hSw); go_simp; with_reducible rfl
       try simp only [Act.put, List.getElem_toArray, List.getElem_cons_zero, List.getElem_cons_succ, List.setIfInBounds_toArray, List.set_cons_zero, List.set_cons_succ]
       refine anyT_take (i := 3) (v := ?_) rfl (by kernel_rfl) (by kernel_rfl) (by kernel_rfl) (by kernel_rfl) (by kernel_rfl) (fun _ _ _ h => h) (Or.inl ⟨by rfl, ?_⟩) (by assumption) ?_
       rotate_left
       ·intro w hSw; (try dsimp only at hSw); go_simp; with_reducible rfl
       try simp only [Act.put, List.getElem_toArray, List.getElem_cons_zero, List.getElem_cons_succ, List.setIfInBounds_toArray, List.set_cons_zero, List.set_cons_succ]
       refine anyT_take (i := 1) (v := ?_) rfl (by kernel_rfl) (by kernel_rfl) (by kernel_rfl) (by kernel_rfl) (by kernel_rfl) (fun _ _ _ h => h) (Or.inl ⟨by rfl, ?_⟩) (by assumption) ?_
       rotate_left
       ·intro w hSw; (try dsimp only at hSw); go_simp; with_reducible rfl
       try simp only [Act.put, List.getElem_toArray, List.getElem_cons_zero, List.getElem_cons_succ, List.setIfInBounds_toArray, List.set_cons_zero, List.set_cons_succ]
       refine anyT_only (i := 4) (by kernel_rfl) rfl (fun K hK => ?_)
       go_simp
       go_at_call 101; refine (l1Below_any b v l _ _ BG.out.cur (by omega) (by omega)).mono ?_; rintro e w21 ⟨cn, rfl, ⟨c0, c1, c2⟩, hg, hC⟩; have c3 := c2 (by omega); replace BG := Lib.hid (BG.out.draw hg hC); clear hg hC c1 c2
       refine hK.out _ _ ?_ (fun hHeld => ?_)
       ·exact (BG.out.box (P, cPartV kd on br (.slice ca y.length cc) cnt (.slice (some ⟨g, 0, none⟩) m lc)) (by simp)).cell 5 (by simp)
       clear hK K
       try simp only [Act.put, List.getElem_toArray, List.getElem_cons_zero, List.getElem_cons_succ, List.setIfInBounds_toArray, List.set_cons_zero, List.set_cons_succ]
       refine anyT_take (i := 5) (v := ?_) rfl (by kernel_rfl) (by kernel_rfl) (by kernel_rfl) (by kernel_rfl) (by kernel_rfl) (fun _ _ _ h => h) (Or.inl ⟨by rfl, ?_⟩) (by assumption) ?_
       rotate_left
       ·intro w hSw; (try dsimp only at hSw); go_simp; with_reducible rfl
       try simp only [Act.put, List.getElem_toArray, List.getElem_cons_zero, List.getElem_cons_succ, List.setIfInBounds_toArray, List.set_cons_zero, List.set_cons_succ]
       refine anyT_take (i := 6) (v := ?_) rfl (by kernel_rfl) (by kernel_rfl) (by kernel_rfl) (by kernel_rfl) (by kernel_rfl) (fun _ _ _ h => h) (Or.inl ⟨by rfl, ?_⟩) (by assumption) ?_
       rotate_left
       ·intro w hSw; (try dsimp only at hSw); go_simp; with_reducible rfl
       try simp only [Act.put, List.getElem_toArray, List.getElem_cons_zero, List.getElem_cons_succ, List.setIfInBounds_toArray, List.set_cons_zero, List.set_cons_succ]
       obtain ⟨g2, hg2, hgl2, hf⟩ := row_form (show OwnsF cLayer 86 2 _ w.heap.size (.slice (some ⟨g, 0, none⟩) m lc) z from BG.out.row (hPL w (.slice (some ⟨g, 0, none⟩) m lc) z) (by simp)) cLayer_len (by omega)
       obtain rfl : g = g2 := by injection hg2 with hg2; injection hg2
       have d0 := (hf k hkz 0 (by decide)).1
       have d1 := (hf k hkz 1 (by decide)).1
       have fz1 := (hf k hkz 1 (by decide)).2
       clear hf hg2
       rw [HZK.out] at d0 d1
       simp only [cLayer, List.getElem?_cons_zero, List.getElem?_cons_succ, Nat.add_zero] at d0 d1
       have BG2 := Lib.hid (BG.out.elem2 0 rfl hzm.symm cLayer_len k hkz (⟨[99, 111, 117, 110, 116, 115], cn⟩ : LayerD) (.int .i64 cn) (by rw [HZK.out]; rfl))
       simp only [List.set_cons_zero, List.set_cons_succ] at BG2
       refine anyT_tail (by kernel_rfl) rfl (fun K hK => ?_)
       go_simp
       refine hK.out _ _ ?_
       clear hK K
       try simp only [Act.put, List.getElem_toArray, List.getElem_cons_zero, List.getElem_cons_succ, List.setIfInBounds_toArray, List.set_cons_zero, List.set_cons_succ]
       refine anyT_done (by kernel_rfl) ?_ _
       have hkz3 : k < (z.set k (⟨[99, 111, 117, 110, 116, 115], cn⟩ : LayerD)).length := by rw [List.length_set]; exact hkz
       have HOK3 := Lib.hid (show okPt 3 ⟨⟨kd, on, br, y, cnt⟩, z.set k (⟨[99, 111, 117, 110, 116, 115], cn⟩ : LayerD)⟩ from ⟨HOK.out.1, by simp only [List.length_set]; exact HOK.out.2.1, fun t ht => by rcases List.mem_or_eq_of_mem_set ht with ht | rfl; exact HOK.out.2.2 t ht; exact ⟨by simp, by unfold I64; simp only; omega⟩⟩)
       have hzm3 : (z.set k (⟨[99, 111, 117, 110, 116, 115], cn⟩ : LayerD)).length = m := by rw [List.length_set]; exact hzm
       have HZK3 := Lib.hid (show (z.set k (⟨[99, 111, 117, 110, 116, 115], cn⟩ : LayerD))[k] = ⟨[99, 111, 117, 110, 116, 115], cn⟩ from List.getElem_set_self ..)
       generalize z.set k (⟨[99, 111, 117, 110, 116, 115], cn⟩ : LayerD) = z3 at *
       replace BG := BG2
       clear BG2 d0 d1 fz1 hgl2 hHeld
       go_wp2_with fail
       generalize w21.setCell ⟨g, k * 2 + 1, none⟩ (.int .i64 cn) = w22 at *
       refine (l1Once_any b v l _ _ BG.out.cur (by omega) (by omega)).mono ?_
       rintro e w23 ⟨bo, rfl, hg, hC⟩
       replace BG := Lib.hid (BG.out.draw hg hC)
       clear hg hC
       cases bo
       case false =>
        have BG4 := Lib.hid (BG.out.less (bs' := [(P, cPartV kd on br (.slice ca y.length cc) cnt (.slice (some ⟨g, 0, none⟩) m lc)), (w.heap.size, zPartV)]) (.cons _ (.refl _)) (.refl _))
        go_wp2_with fail
        exact ⟨⟨k + 1, z3, by go_num, by omega, hzm3, HOK3.out, BG4.out⟩, by simp [intOf]; omega⟩
       case true =>
        obtain ⟨g2, hg2, hgl2, hf⟩ := row_form (show OwnsF cLayer 86 2 _ w.heap.size (.slice (some ⟨g, 0, none⟩) m lc) z3 from BG.out.row (hPL w (.slice (some ⟨g, 0, none⟩) m lc) z3) (by simp)) cLayer_len (by omega)
        obtain rfl : g = g2 := by injection hg2 with hg2; injection hg2
        have d1 := (hf k hkz3 1 (by decide)).1
        have fz1 := (hf k hkz3 1 (by decide)).2
        clear hf hg2
        rw [HZK3.out] at d1
        simp only [cLayer, List.getElem?_cons_zero, List.getElem?_cons_succ, Nat.add_zero] at d1
        have BG2 := Lib.hid (BG.out.elem2 0 rfl hzm3.symm cLayer_len k hkz3 (⟨[99, 111, 117, 110, 116, 115], 999⟩ : LayerD) (.int .i64 999) (by rw [HZK3.out]; rfl))
        simp only [List.set_cons_zero, List.set_cons_succ] at BG2
        have HOK5 := Lib.hid (show okPt 3 ⟨⟨kd, on, br, y, cnt⟩, z3.set k (⟨[99, 111, 117, 110, 116, 115], 999⟩ : LayerD)⟩ from ⟨HOK3.out.1, by simp only [List.length_set]; exact HOK3.out.2.1, fun t ht => by rcases List.mem_or_eq_of_mem_set ht with ht | rfl; exact HOK3.out.2.2 t ht; exact ⟨by simp, by unfold I64; simp⟩⟩)
        have hzm5 : (z3.set k (⟨[99, 111, 117, 110, 116, 115], 999⟩ : LayerD)).length = m := by rw [List.length_set]; exact hzm3
        have BG4 := Lib.hid (BG2.out.less (bs' := [(P, cPartV kd on br (.slice ca y.length cc) cnt (.slice (some ⟨g, 0, none⟩) m lc)), (w.heap.size, zPartV)]) (.cons _ (.refl _)) (.refl _))
        have B_q := Lib.hid (BG.out.box (P, cPartV kd on br (.slice ca y.length cc) cnt (.slice (some ⟨g, 0, none⟩) m lc)) (by simp))
        have q0 := B_q.out.cell 0 (by simp)
        have q1 := B_q.out.cell 1 (by simp)
        have q2 := B_q.out.cell 2 (by simp)
        have q3 := B_q.out.cell 3 (by simp)
        have q4 := B_q.out.cell 4 (by simp)
        have q5 := B_q.out.cell 5 (by simp)
        simp only [List.getElem_cons_zero, List.getElem_cons_succ] at q0 q1 q2 q3 q4 q5
        have l_q := B_q.out.lt
        go_wp2_with fail
        exact ⟨⟨k + 1, _, by go_num, by omega, hzm5, HOK5.out, BG4.out⟩, by simp [intOf]; omega⟩
      ·skip
       go_wp2_with fail
       clear x0 x1 BX0 hXl
       replace BG := Lib.hid BG.out.drew
       refine region_T (S := fun w' => w'.cell? ⟨P, 5, none⟩ = some (.slice (some ⟨g, 0, none⟩) m lc)) (t := 7) (by kernel_rfl) ?_ (fun hHeld => ?_)
       ·exact (BG.out.box (P, cPartV kd on br (.slice ca y.length cc) cnt (.slice (some ⟨g, 0, none⟩) m lc)) (by simp)).cell 5 (by simp)
       refine anyT_take (i := 0) (v := ?_) rfl (by kernel_rfl) (by kernel_rfl) (by kernel_rfl) (by kernel_rfl) (by kernel_rfl) (fun _ _ _ h => h) (Or.inl ⟨by rfl, ?_⟩) (by assumption) ?_
       rotate_left
       ·intro w hSw; (try dsimp only at hSw); go_simp; with_reducible rfl
       try simp only [Act.put, List.getElem_toArray, List.getElem_cons_zero, List.getElem_cons_succ, List.setIfInBounds_toArray, List.set_cons_zero, List.set_cons_succ]
       refine anyT_take (i := 2) (v := ?_) rfl (by kernel_rfl) (by kernel_rfl) (by kernel_rfl) (by kernel_rfl) (by kernel_rfl) (fun _ _ _ h => h) (Or.inl ⟨by rfl, ?_⟩) (by assumption) ?_
       rotate_left
       ·intro w hSw; (try dsimp only at hSw); go_simp; with_reducible rfl
       try simp only [Act.put, List.getElem_toArray, List.getElem_cons_zero, List.getElem_cons_succ, List.setIfInBounds_toArray, List.set_cons_zero, List.set_cons_succ]
       refine anyT_take (i := 3) (v := ?_) rfl (by kernel_rfl) (by kernel_rfl) (by kernel_rfl) (by kernel_rfl) (by kernel_rfl) (fun _ _ _ h => h) (Or.inl ⟨by rfl, ?_⟩) (by assumption) ?_
       rotate_left
       ·intro w hSw; (try dsimp only at hSw); go_simp; with_reducible rfl
       try simp only [Act.put, List.getElem_toArray, List.getElem_cons_zero, List.getElem_cons_succ, List.setIfInBounds_toArray, List.set_cons_zero, List.set_cons_succ]
       refine anyT_take (i := 1) (v := ?_) rfl (by kernel_rfl) (by kernel_rfl) (by kernel_rfl) (by kernel_rfl) (by kernel_rfl) (fun _ _ _ h => h) (Or.inl ⟨by rfl, ?_⟩) (by assumption) ?_
       rotate_left
       ·intro w hSw; (try dsimp only at hSw); go_simp; with_reducible rfl
       try simp only [Act.put, List.getElem_toArray, List.getElem_cons_zero, List.getElem_cons_succ, List.setIfInBounds_toArray, List.set_cons_zero, List.set_cons_succ]
       refine anyT_only (i := 4) (by kernel_rfl) rfl (fun K hK => ?_)
       go_simp
       go_at_call 101; refine (l1Below_any b v l _ _ BG.out.cur (by omega) (by omega)).mono ?_; rintro e w21 ⟨cn, rfl, ⟨c0, c1, c2⟩, hg, hC⟩; have c3 := c2 (by omega); replace BG := Lib.hid (BG.out.draw hg hC); clear hg hC c1 c2
       refine hK.out _ _ ?_ (fun hHeld => ?_)
       ·exact (BG.out.box (P, cPartV kd on br (.slice ca y.length cc) cnt (.slice (some ⟨g, 0, none⟩) m lc)) (by simp)).cell 5 (by simp)
       clear hK K
       try simp only [Act.put, List.getElem_toArray, List.getElem_cons_zero, List.getElem_cons_succ, List.setIfInBounds_toArray, List.set_cons_zero, List.set_cons_succ]
       refine anyT_take (i := 5) (v := ?_) rfl (by kernel_rfl) (by kernel_rfl) (by kernel_rfl) (by kernel_rfl) (by kernel_rfl) (fun _ _ _ h => h) (Or.inl ⟨by rfl, ?_⟩) (by assumption) ?_
       rotate_left
       ·intro w hSw; (try dsimp only at hSw); go_simp; with_reducible rfl
       try simp only [Act.put, List.getElem_toArray, List.getElem_cons_zero, List.getElem_cons_succ, List.setIfInBounds_toArray, List.set_cons_zero, List.set_cons_succ]
       refine anyT_take (i := 6) (v := ?_) rfl (by kernel_rfl) (by kernel_rfl) (by kernel_rfl) (by kernel_rfl) (by kernel_rfl) (fun _ _ _ h => h) (Or.inl ⟨by rfl, ?_⟩) (by assumption) ?_
       rotate_left
       ·intro w hSw; (try dsimp only at hSw); go_simp; with_reducible rfl
       try simp only [Act.put, List.getElem_toArray, List.getElem_cons_zero, List.getElem_cons_succ, List.setIfInBounds_toArray, List.set_cons_zero, List.set_cons_succ]
       obtain ⟨g2, hg2, hgl2, hf⟩ := row_form (show OwnsF cLayer 86 2 _ w.heap.size (.slice (some ⟨g, 0, none⟩) m lc) z from BG.out.row (hPL w (.slice (some ⟨g, 0, none⟩) m lc) z) (by simp)) cLayer_len (by omega)
       obtain rfl : g = g2 := by injection hg2 with hg2; injection hg2
       have d0 := (hf k hkz 0 (by decide)).1
       have d1 := (hf k hkz 1 (by decide)).1
       have fz1 := (hf k hkz 1 (by decide)).2
       clear hf hg2
       rw [HZK.out] at d0 d1
       simp only [cLayer, List.getElem?_cons_zero, List.getElem?_cons_succ, Nat.add_zero] at d0 d1
       have BG2 := Lib.hid (BG.out.elem2 0 rfl hzm.symm cLayer_len k hkz (⟨[104, 101, 97, 114, 115], cn⟩ : LayerD) (.int .i64 cn) (by rw [HZK.out]; rfl))
       simp only [List.set_cons_zero, List.set_cons_succ] at BG2
       refine anyT_tail (by kernel_rfl) rfl (fun K hK => ?_)
       go_simp
       refine hK.out _ _ ?_
       clear hK K
       try simp only [Act.put, List.getElem_toArray, List.getElem_cons_zero, List.getElem_cons_succ, List.setIfInBounds_toArray, List.set_cons_zero, List.set_cons_succ]
       refine anyT_done (by kernel_rfl) ?_ _
       have hkz3 : k < (z.set k (⟨[104, 101, 97, 114, 115], cn⟩ : LayerD)).length := by rw [List.length_set]; exact hkz
       have HOK3 := Lib.hid (show okPt 3 ⟨⟨kd, on, br, y, cnt⟩, z.set k (⟨[104, 101, 97, 114, 115], cn⟩ : LayerD)⟩ from ⟨HOK.out.1, by simp only [List.length_set]; exact HOK.out.2.1, fun t ht => by rcases List.mem_or_eq_of_mem_set ht with ht | rfl; exact HOK.out.2.2 t ht; exact ⟨by simp, by unfold I64; simp only; omega⟩⟩)
       have hzm3 : (z.set k (⟨[104, 101, 97, 114, 115], cn⟩ : LayerD)).length = m := by rw [List.length_set]; exact hzm
       have HZK3 := Lib.hid (show (z.set k (⟨[104, 101, 97, 114, 115], cn⟩ : LayerD))[k] = ⟨[104, 101, 97, 114, 115], cn⟩ from List.getElem_set_self ..)
       generalize z.set k (⟨[104, 101, 97, 114, 115], cn⟩ : LayerD) = z3 at *
       replace BG := BG2
       clear BG2 d0 d1 fz1 hgl2 hHeld
       go_wp2_with fail
       generalize w21.setCell ⟨g, k * 2 + 1, none⟩ (.int .i64 cn) = w22 at *
       refine (l1Once_any b v l _ _ BG.out.cur (by omega) (by omega)).mono ?_
       rintro e w23 ⟨bo, rfl, hg, hC⟩
       replace BG := Lib.hid (BG.out.draw hg hC)
       clear hg hC
       cases bo
       case false =>
        have BG4 := Lib.hid (BG.out.less (bs' := [(P, cPartV kd on br (.slice ca y.length cc) cnt (.slice (some ⟨g, 0, none⟩) m lc)), (w.heap.size, zPartV)]) (.cons _ (.refl _)) (.refl _))
        go_wp2_with fail
        exact ⟨⟨k + 1, z3, by go_num, by omega, hzm3, HOK3.out, BG4.out⟩, by simp [intOf]; omega⟩
       case true =>
        obtain ⟨g2, hg2, hgl2, hf⟩ := row_form (show OwnsF cLayer 86 2 _ w.heap.size (.slice (some ⟨g, 0, none⟩) m lc) z3 from BG.out.row (hPL w (.slice (some ⟨g, 0, none⟩) m lc) z3) (by simp)) cLayer_len (by omega)
        obtain rfl : g = g2 := by injection hg2 with hg2; injection hg2
        have d1 := (hf k hkz3 1 (by decide)).1
        have fz1 := (hf k hkz3 1 (by decide)).2
        clear hf hg2
        rw [HZK3.out] at d1
        simp only [cLayer, List.getElem?_cons_zero, List.getElem?_cons_succ, Nat.add_zero] at d1
        have BG2 := Lib.hid (BG.out.elem2 0 rfl hzm3.symm cLayer_len k hkz3 (⟨[104, 101, 97, 114, 115], 999⟩ : LayerD) (.int .i64 999) (by rw [HZK3.out]; rfl))
        simp only [List.set_cons_zero, List.set_cons_succ] at BG2
        have HOK5 := Lib.hid (show okPt 3 ⟨⟨kd, on, br, y, cnt⟩, z3.set k (⟨[104, 101, 97, 114, 115], 999⟩ : LayerD)⟩ from ⟨HOK3.out.1, by simp only [List.length_set]; exact HOK3.out.2.1, fun t ht => by rcases List.mem_or_eq_of_mem_set ht with ht | rfl; exact HOK3.out.2.2 t ht; exact ⟨by simp, by unfold I64; simp⟩⟩)
        have hzm5 : (z3.set k (⟨[104, 101, 97, 114, 115], 999⟩ : LayerD)).length = m := by rw [List.length_set]; exact hzm3
        have BG4 := Lib.hid (BG2.out.less (bs' := [(P, cPartV kd on br (.slice ca y.length cc) cnt (.slice (some ⟨g, 0, none⟩) m lc)), (w.heap.size, zPartV)]) (.cons _ (.refl _)) (.refl _))
        have B_q := Lib.hid (BG.out.box (P, cPartV kd on br (.slice ca y.length cc) cnt (.slice (some ⟨g, 0, none⟩) m lc)) (by simp))
        have q0 := B_q.out.cell 0 (by simp)
        have q1 := B_q.out.cell 1 (by simp)
        have q2 := B_q.out.cell 2 (by simp)
        have q3 := B_q.out.cell 3 (by simp)
        have q4 := B_q.out.cell 4 (by simp)
        have q5 := B_q.out.cell 5 (by simp)
        simp only [List.getElem_cons_zero, List.getElem_cons_succ] at q0 q1 q2 q3 q4 q5
        have l_q := B_q.out.lt
        go_wp2_with fail
        exact ⟨⟨k + 1, _, by go_num, by omega, hzm5, HOK5.out, BG4.out⟩, by simp [intOf]; omega⟩
     ·skip
      have g0 : (nm == [99, 111, 117, 110, 116, 115]) = false := by cases h : (nm == [99, 111, 117, 110, 116, 115]) with | false => rfl | true => exact absurd (by unfold countedB; rw [h]; rfl) hcn
      have g1 : (nm == [104, 101, 97, 114, 115]) = false := by cases h : (nm == [104, 101, 97, 114, 115]) with | false => rfl | true => exact absurd (by unfold countedB; rw [h]; simp) hcn
      clear hcn
      replace BG := BV
      clear BV
      have BX0 := Lib.hid (BG.out.box (XB, [.string ⟨nm.toArray⟩, .int .i64 ct]) (by simp))
      have x0 := BX0.out.cell 0 (by simp)
      have x1 := BX0.out.cell 1 (by simp)
      simp only [List.getElem_cons_zero, List.getElem_cons_succ] at x0 x1
      have hXl := BX0.out.lt
      have BG4 := Lib.hid (BG.out.less (bs' := [(P, cPartV kd on br (.slice ca y.length cc) cnt (.slice (some ⟨g, 0, none⟩) m lc)), (w.heap.size, zPartV)]) (.cons _ (.refl _)) (.refl _))
      go_wp2_with fail
      exact ⟨⟨k + 1, z, by go_num, by omega, hzm, HOK.out, BG4.out⟩, by simp [intOf]; omega⟩
    ·skip
     have hic : ¬ (k : Int) < (m : Int) := by omega
     have B_q := Lib.hid (BG.out.box (P, cPartV kd on br (.slice ca y.length cc) cnt (.slice la m lc)) (by simp))
     have q0 := B_q.out.cell 0 (by simp)
     have q1 := B_q.out.cell 1 (by simp)
     have q2 := B_q.out.cell 2 (by simp)
     have q3 := B_q.out.cell 3 (by simp)
     have q4 := B_q.out.cell 4 (by simp)
     have q5 := B_q.out.cell 5 (by simp)
     simp only [List.getElem_cons_zero, List.getElem_cons_succ] at q0 q1 q2 q3 q4 q5
     have l_q := B_q.out.lt
     have B_r := Lib.hid (BG.out.box (w.heap.size, zPartV) (by simp))
     have r0 := B_r.out.cell 0 (by simp)
     have r1 := B_r.out.cell 1 (by simp)
     have r2 := B_r.out.cell 2 (by simp)
     have r3 := B_r.out.cell 3 (by simp)
     have r4 := B_r.out.cell 4 (by simp)
     have r5 := B_r.out.cell 5 (by simp)
     simp only [List.getElem_cons_zero, List.getElem_cons_succ] at r0 r1 r2 r3 r4 r5
     have fr0 := B_r.out.froz 0 (by simp)
     have fr1 := B_r.out.froz 1 (by simp)
     have fr2 := B_r.out.froz 2 (by simp)
     have fr3 := B_r.out.froz 3 (by simp)
     have fr4 := B_r.out.froz 4 (by simp)
     have fr5 := B_r.out.froz 5 (by simp)
     have l_r := B_r.out.lt
     have BGf := Lib.hid (BG.out.put6 1 rfl (.string ⟨kd.toArray⟩) (.bool on) (.bool br) (.slice ca y.length cc) (.int .i64 cnt) (.slice la m lc))
     simp only [List.set_cons_zero, List.set_cons_succ] at BGf
     have hPR : ¬ P = w.heap.size := by have := BG.out.dis; simp only [List.pairwise_cons, List.mem_cons, List.not_mem_nil, or_false, forall_eq] at this; exact this.1
     have hRP : ¬ w.heap.size = P := fun e => hPR e.symm
     go_wp2_with fail
     refine bodyPost_ret (v := .agg #[.string ⟨kd.toArray⟩, .bool on, .bool br, .slice ca y.length cc, .int .i64 cnt, .slice la m lc]) (by simp [results, Tryz.results106, go_sem, cell_set_at, cell_set_ne, r0, r1, r2, r3, r4, r5]) rfl ?_
     exact ⟨⟨⟨kd, on, br, y, cnt⟩, z⟩, .slice ca y.length cc, .slice la m lc, rfl, BGf.out.row (hPC w (.slice ca y.length cc) y) (by simp), BGf.out.row (hPL w (.slice la m lc) z) (by simp), HOK.out, BGf.out.grown, BGf.out.cur⟩
end Go.Proofs.YtcpbikilgacdlaaGreat
namespace Go.Proofs.YtcpbikilgacdlaaGreat
set_option linter.unusedVariables false
open Go.RowKit
theorem cellT_cat (a0 : List UInt8) (z : Nat) : ((⟨a0.toArray⟩ ++ ⟨#[61]⟩ ++ ⟨(numL z).toArray⟩ : ByteArray)).data.toList = cellT ⟨a0, z⟩ := by
 rw [data_app, data_app]; simp [cellT]
theorem cell_cat (w : World) (a0 : List UInt8) (z : Nat) (t : TypeId) (blk : Nat) (h : blk = w.heap.size) : (w.alloc (.cells #[.string (⟨a0.toArray⟩ ++ ⟨#[61]⟩ ++ ⟨(numL z).toArray⟩ : ByteArray)] t)).cell? ⟨blk, 0, none⟩ = some (strV (cellT ⟨a0, z⟩)) := by
 rw [cell_newS _ _ _ _ h, cellT_cat]
set_option maxRecDepth 100000 in
set_option maxHeartbeats 1600000 in
theorem specFormatCells_any (v : Value) (l : List CellD) (w : World) (hx : FlatAt cCell 2 w v l) (hs : ∀ d ∈ l, d.fKey.length ≤ maxLen) :
  Calls Tryz.prog 155 #[v] w fun e w' => e = .returned (.string ⟨(fmtC l).toArray⟩) ∧ Below w.heap.size w w' := by
 have HC := Lib.hid (fun o => specIsCells_any v l (w.alloc o) (hx.below ((Below.refl w.heap.size w).alloc (Nat.le_refl _) o) (Nat.le_refl _)) hs)
 obtain ⟨a, c, rfl, hl⟩ := flatAt_len hx
 have HX := Lib.hid hx
 clear hx hs
 unfold maxLen at hl
 have HA0 := Lib.hid (show ∀ o, Below w.heap.size w (w.alloc o) from fun o => (Below.refl w.heap.size w).alloc (Nat.le_refl _) o)
 cases hc : cellsB l with
 | false =>
  have HF := Lib.hid (show fmtC l = [] by unfold fmtC; rw [hc]; rfl)
  rw [hc] at HC
  clear hc
  go_enter Tryz.func155, Tryz.ntmps155
  go_wp2_with fail
  refine (HC.out _).mono ?_
  rintro e w1 ⟨rfl, hb⟩
  go_wp2_with fail
  go_ret
  exact ⟨ret_str (by rw [HF.out]), (HA0.out _).trans (hb.mono (HA0.out _).size)⟩
 | true =>
  have hm := cellsB_mem hc
  have hl4 := cellsB_len hc
  have HSM := Lib.hid (fmt_small l hm hl4)
  have HM := Lib.hid hm
  have HF0 := Lib.hid (show l = [] → fmtC l = [45] by rintro rfl; rfl)
  have HF := Lib.hid (show l ≠ [] → fmtC l = joinL (l.map cellT) [44] from fun h0 => by unfold fmtC; rw [if_pos hc, if_neg h0])
  rw [hc] at HC
  clear hc hm
  have HO := Lib.hid (owns_new w)
  go_enter Tryz.func155, Tryz.ntmps155
  go_wp2_with fail
  refine (HC.out _).mono ?_
  rintro e w1 ⟨rfl, hb⟩
  have HO1 := Lib.hid (owns_below HO.out hb (Nat.le_refl _))
  have HB := Lib.hid ((HA0.out _).trans (hb.mono (HA0.out _).size))
  have HX1 := Lib.hid (FlatAt.below HX.out HB.out (Nat.le_refl _))
  clear hb
  go_wp2_with fail
  go_loopw [3, 5, 12] (fun ov _ i wr => ∃ k : Nat, k ≤ l.length ∧ i = .int .i64 k ∧ Owns wr w.heap.size ov ((l.take k).map cellT) ∧ Below w.heap.size w wr) (fun _ _ i _ => l.length - (intOf i).toNat)
  case atStart => exact ⟨0, Nat.zero_le _, rfl, HO1.out, HB.out⟩
  case round =>
   obtain ⟨k, hk, rfl, hO, hb⟩ := hrel
   have HO2 := Lib.hid hO
   have HB2 := Lib.hid hb
   have HXr := Lib.hid (FlatAt.below HX.out hb (Nat.le_refl _))
   clear hO hb
   by_cases hlt : k < l.length
   ·obtain ⟨b, o, rfl, hbl, hd⟩ := flatAt_cell cCell_len HXr.out k hlt (by decide)
    have d0 := hd 0 (by decide)
    have d1 := hd 1 (by decide)
    clear hd
    have HSN := Lib.hid (map_cellT_snoc l k hlt)
    have hmm := HM.out l[k] (List.getElem_mem hlt)
    obtain ⟨z, hz, hz9⟩ := numB_nat hmm.2
    have HFM := Lib.hid (fun w0 => specFormat_any z w0 (by omega) (by omega))
    have hn8 := nameB_len8 hmm.1
    have hz3 := numL_len hz9
    clear hmm
    generalize l[k] = p at *
    obtain ⟨a0, a1⟩ := p
    simp only [cCell, List.getElem?_cons_zero, List.getElem?_cons_succ, Nat.add_zero] at d0 d1 hz
    subst hz
    have hc1 : ∀ w0, (Op.stringOp .add ⟨a0.toArray⟩ ⟨#[61]⟩).run Tryz.prog w0 = .ok (.string (⟨a0.toArray⟩ ++ ⟨#[61]⟩)) w0 := fun w0 => run_string_add_sum w0 _ _ (by rw [size_strB]; show a0.length + 1 ≤ _; simp only at hn8; omega)
    have hc2 : ∀ w0, (Op.stringOp .add (⟨a0.toArray⟩ ++ ⟨#[61]⟩) ⟨(numL z).toArray⟩).run Tryz.prog w0 = .ok (.string (⟨a0.toArray⟩ ++ ⟨#[61]⟩ ++ ⟨(numL z).toArray⟩)) w0 := fun w0 => run_string_add_sum w0 _ _ (by have h3 := size_strB (numL z); rw [ByteArray.size_append, size_strB]; show a0.length + 1 + _ ≤ _; simp only at hn8; omega)
    have HLT := Lib.hid (show ∀ g, u3.ownBlock = some g → g < wr.heap.size from fun g h => (World.ownsRow.lt HO2.out g h).2)
    go_wp2_with fail
    go_region_held3 (fun w' => w'.cell? ⟨wr.heap.size, 0, none⟩ = some (.string ⟨a0.toArray⟩) ∧ w'.cell? ⟨wr.heap.size, 1, none⟩ = some (.int .i64 z))
     (first
      | go_keep
      |(rw [hb1.cell (p := ⟨wr.heap.size, 0, none⟩) (by simp), hb1.cell (p := ⟨wr.heap.size, 1, none⟩) (by simp)]; assumption)
      |(rw [hg1.cell_far ⟨wr.heap.size, 0, none⟩ (by have := hb1.size; simp at *; omega) (by intro e; have := HLT.out _ e.symm; simp at this), hg1.cell_far ⟨wr.heap.size, 1, none⟩ (by have := hb1.size; simp at *; omega) (by intro e; have := HLT.out _ e.symm; simp at this)]; assumption))
     (first
      |(go_at_call 170; refine (HFM.out _).mono ?_; rintro e w2 ⟨rfl, hb1⟩)
      |(refine step_strs rfl _ _ rfl w.heap.size u3 ((l.take k).map cellT) (cellT ⟨a0, z⟩) _ w2.heap.size rfl (owns_alloc (owns_below (owns_drew (owns_alloc HO2.out _)) hb1 (Nat.le_refl _)) _) rfl (cell_cat _ a0 z _ _ rfl) ?_ ?_ ?_; (simp; omega); (have h1 := hb1.size; have h3 := HB2.out.size; simp at h1 h3; simp; omega); intro v' w4 hO4 hg1))
    have HA := Lib.hid (below_drew ((Below.refl wr.heap.size wr).alloc (Nat.le_refl _) (.cells #[.string ⟨a0.toArray⟩, .int .i64 z] 139)))
    have HA1 := Lib.hid ((HA.out.trans (hb1.mono HA.out.size)).alloc (HA.out.trans (hb1.mono HA.out.size)).size (.cells #[.string (⟨a0.toArray⟩ ++ ⟨#[61]⟩ ++ ⟨(numL z).toArray⟩ : ByteArray)] 9))
    have HA3 := Lib.hid (below_append (HB2.out.trans (HA1.out.mono HB2.out.size)) (owns_alloc (owns_below (owns_drew (owns_alloc HO2.out _)) hb1 (Nat.le_refl _)) _) hg1 (HB2.out.trans (HA1.out.mono HB2.out.size)).size)
    have HO4' := Lib.hid hO4
    rename_i hheld
    clear hb1 hg1 hO4 hheld
    go_wp2_with fail
    exact ⟨⟨k + 1, by omega, by go_num, by rw [HSN.out]; exact HO4'.out, HA3.out⟩, by simp [intOf]; omega⟩
   ·have HN := Lib.hid (show (l.take k).map cellT = l.map cellT from by rw [List.take_of_length_le (by omega)])
    have hkl : k = l.length := by omega
    obtain ⟨a', c', e', _⟩ := rowAt_len (owns_row HO2.out (by simp; omega))
    rw [List.length_map, List.length_map, List.length_take, Nat.min_eq_left hk] at e'
    subst e'
    have HJ := Lib.hid (specJoin_any (.slice a' k c') (l.map cellT) ⟨#[44]⟩ wr (by rw [← HN.out]; exact owns_row HO2.out (by simp; omega)) (by have := HSM.out; simp only at *; omega) (by decide))
    by_cases h0 : k = 0
    ·have hne : ((k : Int) == 0) = true := by rw [beq_iff_eq]; omega
     have HR := Lib.hid (HF0.out (List.eq_nil_of_length_eq_zero (by omega)))
     clear h0 hkl
     go_wp2_with fail
     go_ret
     exact ⟨ret_str (by rw [HR.out]), HB2.out⟩
    ·have hne : ((k : Int) == 0) = false := by rw [beq_eq_false_iff_ne]; omega
     have HR := Lib.hid (HF.out (by intro h; rw [h] at hkl; exact h0 hkl))
     clear h0 hkl
     go_wp2_with fail
     refine HJ.out.mono ?_
     rintro e w2 ⟨rfl, hb⟩
     go_wp2_with fail
     go_ret
     exact ⟨ret_str HR.out.symm, HB2.out.trans (hb.mono HB2.out.size)⟩
end Go.Proofs.YtcpbikilgacdlaaGreat
namespace Go.Proofs.YtcpbikilgacdlaaGreat
set_option linter.unusedVariables false
set_option linter.unusedSimpArgs false
open Go.RowKit
def okCl (d : CallD) : Prop := d.fMethod.length ≤ 9 ∧ d.fKey.length ≤ 9 ∧ I64 d.fValue ∧ d.fText.length ≤ 120
def DrawnCall (b : Nat) (v : Value) (l : List UInt8) (w : World) (e : Ending) (w' : World) : Prop := ∃ d : CallD, e = .returned (vCall d) ∧ okCl d ∧ w.grownBy w' (some b) ∧ Cur w' b v l
abbrev zCallV : List Value := [.string ⟨#[]⟩, .string ⟨#[]⟩, .int .i64 0, .string ⟨#[]⟩]
abbrev cCallV (d : CallD) : List Value := [.string ⟨d.fMethod.toArray⟩, .string ⟨d.fKey.toArray⟩, .int .i64 d.fValue, .string ⟨d.fText.toArray⟩]
structure KSt (w : World) (b : Nat) (v : Value) (l : List UInt8) (R B : Nat) (d : CallD) (wx : World) : Prop where
 grown : w.grownBy wx (some b)
 cur : Cur wx b v l
 res : Bx wx R zCallV
 box : Bx wx B (cCallV d)
 bw : b < w.heap.size
 wR : w.heap.size ≤ R
 RB : R < B
theorem KSt.draw {w : World} {b : Nat} {v : Value} {l : List UInt8} {R B : Nat} {d : CallD} {wx w' : World} (h : KSt w b v l R B d wx) (hg : wx.grownBy w' (some b)) (hC : Cur w' b v l) : KSt w b v l R B d w' :=
 ⟨grown_trans h.grown hg, hC, bx_grownC h.res hg (by have := h.bw; have := h.wR; omega), bx_grownC h.box hg (by have := h.bw; have := h.wR; have := h.RB; omega), h.bw, h.wR, h.RB⟩
theorem KSt.set {w : World} {b : Nat} {v : Value} {l : List UInt8} {R B : Nat} {d d' : CallD} {wx : World} (h : KSt w b v l R B d wx) (j : Nat) (hj : j < 4) (u : Value) (hd : (cCallV d).set j u = cCallV d') : KSt w b v l R B d' (wx.setCell ⟨B, j, none⟩ u) :=
 ⟨grown_setO h.grown (by have := h.wR; have := h.RB; omega) j u, cur_setO h.cur (by have := h.bw; have := h.wR; have := h.RB; omega) j u, h.res.other (by have := h.RB; omega) j u, by rw [← hd]; exact h.box.set j hj u, h.bw, h.wR, h.RB⟩
theorem KSt.fin {w : World} {b : Nat} {v : Value} {l : List UInt8} {R B : Nat} {d : CallD} {wx : World} (h : KSt w b v l R B d wx) (hk : okCl d) (u0 u1 u2 u3 : Value) :
  DrawnCall b v l w (.returned (vCall d)) ((((wx.setCell ⟨R, 0, none⟩ u0).setCell ⟨R, 1, none⟩ u1).setCell ⟨R, 2, none⟩ u2).setCell ⟨R, 3, none⟩ u3) :=
 have hb : b < R := Nat.lt_of_lt_of_le h.bw h.wR
 ⟨d, rfl, hk, grown_setO (grown_setO (grown_setO (grown_setO h.grown h.wR 0 u0) h.wR 1 u1) h.wR 2 u2) h.wR 3 u3, cur_setO (cur_setO (cur_setO (cur_setO h.cur hb 0 u0) hb 1 u1) hb 2 u2) hb 3 u3⟩
theorem size_appS (a b : ByteArray) : (a ++ b).size = a.size + b.size := ByteArray.size_append
theorem size_litS (l : List UInt8) : (⟨l.toArray⟩ : ByteArray).size = l.length := by simp [ByteArray.size]
set_option maxHeartbeats 800000 in
theorem l2Method_any (b : Nat) (v : Value) (l : List UInt8) (w : World) (hC : Cur w b v l) :
  Calls Tryz.prog 161 #[.pointer (some ⟨b, 0, none⟩)] w fun e w' => DrawnStr (fun x => x.size ≤ 9) b v l w e w' := by
 have HC0 := Lib.hid hC
 clear hC
 go_enter Tryz.func161, Tryz.ntmps161
 go_wp2_with fail
 refine (l1Once_any b v l _ w HC0.out (by omega) (by omega)).mono ?_
 rintro e w1 ⟨x, rfl, hg, hC⟩
 have HG1 := Lib.hid (hg)
 have HC1 := Lib.hid hC
 clear hg hC
 cases x
 ·go_wp2_with fail
  refine (l1Str_new b v l w1 _ _ _ _ 9 HC1.out (by rfl) (by decide) (by decide) (by decide)).mono ?_
  rintro e w2 ⟨x, rfl, hx, hg1, hC1⟩
  have HG := Lib.hid (grown_trans HG1.out hg1)
  have HC2 := Lib.hid hC1
  clear hg1 hC1
  go_wp2_with fail
  go_ret
  exact ⟨_, rfl, hx, HG.out, HC2.out⟩
 ·go_wp2_with fail
  refine (l1Str_new b v l w1 _ _ _ _ 9 HC1.out (by rfl) (by decide) (by decide) (by decide)).mono ?_
  rintro e w2 ⟨x, rfl, hx, hg1, hC1⟩
  have HG := Lib.hid (grown_trans HG1.out hg1)
  have HC2 := Lib.hid hC1
  clear hg1 hC1
  go_wp2_with fail
  go_ret
  exact ⟨_, rfl, hx, HG.out, HC2.out⟩
theorem fmtC_len (x : List CellD) : (fmtC x).length ≤ 100 := by
 unfold fmtC
 split
 ·rename_i h
  split
  ·simp
  ·have hc := h
   simp only [cellsB, Bool.and_eq_true, decide_eq_true_eq] at hc
   refine fmt_small x (fun d hd => ?_) hc.1
   obtain ⟨i, hi, rfl⟩ := List.mem_iff_getElem.1 hd
   have := okTo_at x _ i hc.2 hi
   simp only [okAt, Bool.and_eq_true] at this
   rw [getD_at x i hi] at this
   exact this.1
 ·simp
set_option maxRecDepth 100000 in
set_option maxHeartbeats 1600000 in
theorem l3Text_any (b : Nat) (v : Value) (l : List UInt8) (w : World) (hC : Cur w b v l) :
  Calls Tryz.prog 163 #[.pointer (some ⟨b, 0, none⟩)] w fun e w' => DrawnStr (fun x => x.size ≤ 120) b v l w e w' := by
 have HC0 := Lib.hid hC
 clear hC
 go_enter Tryz.func163, Tryz.ntmps163
 go_wp2_with fail
 refine (l3Cells_any b v l _ HC0.out).mono ?_
 rintro e w1 ⟨u, y, rfl, ho, hsm, hg, hC⟩
 have HFC := Lib.hid (specFormatCells_any u y w1 (ownsF_at ho (by have := hsm.1; omega)) (fun d hd => by have := (hsm.2 d hd).1; unfold maxLen; omega))
 have HG1 := Lib.hid hg
 have HC1 := Lib.hid hC
 have hfl := fmtC_len y
 generalize fmtC y = ft at *
 obtain ⟨ua, uc, rfl⟩ := slice_of ho
 clear ho hsm hg hC
 go_wp2_with fail
 refine HFC.out.mono ?_
 rintro e w2 ⟨rfl, hb⟩
 have HG2 := Lib.hid (grown_below HG1.out hb HG1.out.size)
 have HC2 := Lib.hid (HC1.out.below hb HC1.out.lt)
 clear hb
 go_wp2_with fail
 refine (l1Below_any b v l _ _ HC2.out (by omega) (by omega)).mono ?_
 rintro e w3 ⟨k, rfl, ⟨k0, k1, k2⟩, hg, hC⟩
 have HG3 := Lib.hid (grown_trans HG2.out hg)
 have HC3 := Lib.hid hC
 clear hg hC k1 k2
 by_cases e0 : k = 0
 ·subst e0
  go_wp2_with fail
  refine (l1Str_new b v l _ _ _ _ _ 9 HC3.out (by rfl) (by decide) (by decide) (by decide)).mono ?_
  rintro e w4 ⟨z, rfl, hz, hg, hC⟩
  have HG4 := Lib.hid (grown_trans HG3.out hg)
  have HC4 := Lib.hid hC
  clear hg hC
  go_wp2_with fail
  go_ret
  exact ⟨_, rfl, by show ByteArray.size _ ≤ 120; rw [size_appS, size_litS]; omega, HG4.out, HC4.out⟩
 ·have E0 : (k == 0) = false := by simpa using e0
  by_cases e1 : k = 1
  ·subst e1
   clear e0 E0
   go_wp2_with fail
   refine (l1Str_new b v l _ _ _ _ _ 30 HC3.out (by rfl) (by decide) (by decide) (by decide)).mono ?_
   rintro e w4 ⟨z, rfl, hz, hg, hC⟩
   have HG4 := Lib.hid (grown_trans HG3.out hg)
   have HC4 := Lib.hid hC
   clear hg hC
   go_wp2_with fail
   go_ret
   exact ⟨_, rfl, by show ByteArray.size _ ≤ 120; omega, HG4.out, HC4.out⟩
  ·have E1 : (k == 1) = false := by simpa using e1
   clear e0 e1
   go_wp2_with fail
   go_ret
   exact ⟨_, rfl, by show ByteArray.size _ ≤ 120; rw [size_litS]; omega, HG3.out, HC3.out⟩
set_option maxRecDepth 100000 in
set_option maxHeartbeats 6400000 in
theorem l3Call_any (b : Nat) (v : Value) (l : List UInt8) (w : World) (hC : Cur w b v l) :
  Calls Tryz.prog 129 #[.pointer (some ⟨b, 0, none⟩)] w fun e w' => DrawnCall b v l w e w' := by
 have hbl := hC.lt
 have HC0 := Lib.hid (cur_alloc hC (.cells #[.string ⟨#[]⟩, .string ⟨#[]⟩, .int .i64 0, .string ⟨#[]⟩] 43))
 have BR0 := Lib.hid (Bx.new w zCallV 43)
 have HG0 := Lib.hid (grown_alloc (grown_refl w (some b)) (.cells #[.string ⟨#[]⟩, .string ⟨#[]⟩, .int .i64 0, .string ⟨#[]⟩] 43))
 clear hC
 go_enter Tryz.func129, Tryz.ntmps129
 go_wp2_with fail
 have HST := Lib.hid (l1Str_new b v l (w.alloc (.cells #[.string ⟨#[]⟩, .string ⟨#[]⟩, .int .i64 0, .string ⟨#[]⟩] 43)) #[.string ⟨#[83, 116, 97, 114, 116]⟩, .string ⟨#[83, 116, 97, 114, 116]⟩, .string ⟨#[83, 116, 111, 112]⟩, .string ⟨#[71, 101, 116]⟩, .string ⟨#[71, 101, 116]⟩, .string ⟨#[80, 117, 116]⟩, .string ⟨#[80, 117, 116]⟩, .string ⟨#[84, 101, 108, 108]⟩, .string ⟨#[72, 101, 97, 114]⟩, .string ⟨#[76, 111, 97, 100]⟩, .string ⟨#[83, 97, 118, 101]⟩, .string ⟨#[72, 101, 97, 108]⟩] 9 12 12 9 HC0.out (by rfl) (by decide) (by decide) (by decide))
 rw [show (w.alloc (.cells #[.string ⟨#[]⟩, .string ⟨#[]⟩, .int .i64 0, .string ⟨#[]⟩] 43)).heap.size = w.heap.size + 1 by simp] at HST
 refine HST.out.mono ?_
 rintro e w1 ⟨z, rfl, hz, hg, hC⟩
 obtain ⟨m, rfl⟩ : ∃ m : List UInt8, z = ⟨m.toArray⟩ := ⟨z.data.toList, by cases z; simp⟩
 have hml : m.length ≤ 9 := by rw [size_litS] at hz; exact hz
 have hwl : w.heap.size < w1.heap.size := Nat.lt_of_lt_of_le BR0.out.lt hg.size
 have S := Lib.hid (show KSt w b v l w.heap.size w1.heap.size ⟨m, [], 0, []⟩ (w1.alloc (.cells #[.string ⟨m.toArray⟩, .string ⟨#[]⟩, .int .i64 0, .string ⟨#[]⟩] 43)) from ⟨grown_alloc (grown_trans HG0.out hg) _, cur_alloc hC _, (bx_grownC BR0.out hg (by omega)).alloc _, Bx.new w1 (cCallV ⟨m, [], 0, []⟩) 43, hbl, Nat.le_refl _, hwl⟩)
 have BRw := Lib.hid (bx_grownC BR0.out hg (by omega))
 have HGw := Lib.hid (grown_trans HG0.out hg)
 have HCw := Lib.hid hC
 clear hg hC HC0 BR0 HG0 hz HST
 by_cases e0 : m = [71, 101, 116]
 ·subst e0
  go_wp2_with fail
  generalize w1.alloc (.cells #[.string ⟨#[71, 101, 116]⟩, .string ⟨#[]⟩, .int .i64 0, .string ⟨#[]⟩] 43) = w2 at *
  refine (l3Key_any b v l _ S.out.cur).mono ?_
  rintro e w4 ⟨z, rfl, hz, hg, hC⟩
  obtain ⟨⟨zl⟩⟩ := z
  have hzl : zl.length ≤ 9 := hz
  have S := Lib.hid (S.out.draw hg hC)
  clear hg hC hz
  have BP := Lib.hid S.out.box
  have BR := Lib.hid S.out.res
  have p0 := BP.out.cell 0 (by simp)
  have p1 := BP.out.cell 1 (by simp)
  have p2 := BP.out.cell 2 (by simp)
  have p3 := BP.out.cell 3 (by simp)
  simp only [List.getElem_cons_zero, List.getElem_cons_succ] at p0 p1 p2 p3
  have x0 := BP.out.froz 0 (by simp)
  have x1 := BP.out.froz 1 (by simp)
  have x2 := BP.out.froz 2 (by simp)
  have x3 := BP.out.froz 3 (by simp)
  have r0 := BR.out.cell 0 (by simp)
  have r1 := BR.out.cell 1 (by simp)
  have r2 := BR.out.cell 2 (by simp)
  have r3 := BR.out.cell 3 (by simp)
  simp only [List.getElem_cons_zero, List.getElem_cons_succ] at r0 r1 r2 r3
  have y0 := BR.out.froz 0 (by simp)
  have y1 := BR.out.froz 1 (by simp)
  have y2 := BR.out.froz 2 (by simp)
  have y3 := BR.out.froz 3 (by simp)
  have lB := BP.out.lt
  have lR := BR.out.lt
  have hRB := S.out.RB
  have S9 := Lib.hid (KSt.set (d' := ⟨[71, 101, 116], zl, 0, []⟩) S.out 1 (by decide) (.string ⟨zl.toArray⟩) rfl)
  go_wp2_with fail
  refine bodyPost_ret (v := .agg #[.string ⟨#[71, 101, 116]⟩, .string ⟨zl.toArray⟩, .int .i64 0, .string ⟨#[]⟩]) (by simp [results, Tryz.results129, go_sem, cell_set_at, cell_set_ne, r0, r1, r2, r3]) rfl ?_
  exact KSt.fin (d := ⟨[71, 101, 116], zl, 0, []⟩) S9.out ⟨by simp, hzl, (show I64 0 from ⟨by omega, by omega⟩), by simp⟩ _ _ _ _
 have E0 : (m == [71, 101, 116]) = false := by simpa using e0
 by_cases e1 : m = [80, 117, 116]
 ·subst e1
  go_wp2_with fail
  generalize w1.alloc (.cells #[.string ⟨#[80, 117, 116]⟩, .string ⟨#[]⟩, .int .i64 0, .string ⟨#[]⟩] 43) = w2 at *
  refine (l3Key_any b v l _ S.out.cur).mono ?_
  rintro e w4 ⟨z, rfl, hz, hg, hC⟩
  obtain ⟨⟨zl⟩⟩ := z
  have hzl : zl.length ≤ 9 := hz
  have S0 := Lib.hid (S.out.draw hg hC)
  clear hg hC hz
  have S1 := Lib.hid (KSt.set (d' := ⟨[80, 117, 116], zl, 0, []⟩) S0.out 1 (by decide) (.string ⟨zl.toArray⟩) rfl)
  have BP := Lib.hid S0.out.box
  have BR := Lib.hid S0.out.res
  have p0 := BP.out.cell 0 (by simp)
  have p1 := BP.out.cell 1 (by simp)
  have p2 := BP.out.cell 2 (by simp)
  have p3 := BP.out.cell 3 (by simp)
  simp only [List.getElem_cons_zero, List.getElem_cons_succ] at p0 p1 p2 p3
  have x0 := BP.out.froz 0 (by simp)
  have x1 := BP.out.froz 1 (by simp)
  have x2 := BP.out.froz 2 (by simp)
  have x3 := BP.out.froz 3 (by simp)
  have r0 := BR.out.cell 0 (by simp)
  have r1 := BR.out.cell 1 (by simp)
  have r2 := BR.out.cell 2 (by simp)
  have r3 := BR.out.cell 3 (by simp)
  simp only [List.getElem_cons_zero, List.getElem_cons_succ] at r0 r1 r2 r3
  have y0 := BR.out.froz 0 (by simp)
  have y1 := BR.out.froz 1 (by simp)
  have y2 := BR.out.froz 2 (by simp)
  have y3 := BR.out.froz 3 (by simp)
  have lB := BP.out.lt
  have lR := BR.out.lt
  have hRB := S0.out.RB
  go_wp2_with fail
  clear BP BR p0 p1 p2 p3 x0 x1 x2 x3 r0 r1 r2 r3 y0 y1 y2 y3 lB lR hRB
  refine (l1Below_any b v l _ _ S1.out.cur (by omega) (by omega)).mono ?_
  rintro e w5 ⟨q, rfl, ⟨q0, q1, q2⟩, hg, hC⟩
  have q3 := q2 (by omega)
  have S := Lib.hid (S1.out.draw hg hC)
  clear hg hC q1 q2 S0 S1
  have BP := Lib.hid S.out.box
  have BR := Lib.hid S.out.res
  have p0 := BP.out.cell 0 (by simp)
  have p1 := BP.out.cell 1 (by simp)
  have p2 := BP.out.cell 2 (by simp)
  have p3 := BP.out.cell 3 (by simp)
  simp only [List.getElem_cons_zero, List.getElem_cons_succ] at p0 p1 p2 p3
  have x0 := BP.out.froz 0 (by simp)
  have x1 := BP.out.froz 1 (by simp)
  have x2 := BP.out.froz 2 (by simp)
  have x3 := BP.out.froz 3 (by simp)
  have r0 := BR.out.cell 0 (by simp)
  have r1 := BR.out.cell 1 (by simp)
  have r2 := BR.out.cell 2 (by simp)
  have r3 := BR.out.cell 3 (by simp)
  simp only [List.getElem_cons_zero, List.getElem_cons_succ] at r0 r1 r2 r3
  have y0 := BR.out.froz 0 (by simp)
  have y1 := BR.out.froz 1 (by simp)
  have y2 := BR.out.froz 2 (by simp)
  have y3 := BR.out.froz 3 (by simp)
  have lB := BP.out.lt
  have lR := BR.out.lt
  have hRB := S.out.RB
  have S9 := Lib.hid (KSt.set (d' := ⟨[80, 117, 116], zl, q, []⟩) S.out 2 (by decide) (.int .i64 q) rfl)
  go_wp2_with fail
  refine bodyPost_ret (v := .agg #[.string ⟨#[80, 117, 116]⟩, .string ⟨zl.toArray⟩, .int .i64 q, .string ⟨#[]⟩]) (by simp [results, Tryz.results129, go_sem, cell_set_at, cell_set_ne, r0, r1, r2, r3]) rfl ?_
  exact KSt.fin (d := ⟨[80, 117, 116], zl, q, []⟩) S9.out ⟨by simp, hzl, (show I64 q from ⟨by omega, by omega⟩), by simp⟩ _ _ _ _
 have E1 : (m == [80, 117, 116]) = false := by simpa using e1
 by_cases e2 : m = [72, 101, 97, 114]
 ·subst e2
  go_wp2_with fail
  generalize w1.alloc (.cells #[.string ⟨#[72, 101, 97, 114]⟩, .string ⟨#[]⟩, .int .i64 0, .string ⟨#[]⟩] 43) = w2 at *
  refine (l1Below_any b v l _ _ S.out.cur (by omega) (by omega)).mono ?_
  rintro e w5 ⟨q, rfl, ⟨q0, q1, q2⟩, hg, hC⟩
  have q3 := q2 (by omega)
  have S := Lib.hid (S.out.draw hg hC)
  clear hg hC q1 q2
  have BP := Lib.hid S.out.box
  have BR := Lib.hid S.out.res
  have p0 := BP.out.cell 0 (by simp)
  have p1 := BP.out.cell 1 (by simp)
  have p2 := BP.out.cell 2 (by simp)
  have p3 := BP.out.cell 3 (by simp)
  simp only [List.getElem_cons_zero, List.getElem_cons_succ] at p0 p1 p2 p3
  have x0 := BP.out.froz 0 (by simp)
  have x1 := BP.out.froz 1 (by simp)
  have x2 := BP.out.froz 2 (by simp)
  have x3 := BP.out.froz 3 (by simp)
  have r0 := BR.out.cell 0 (by simp)
  have r1 := BR.out.cell 1 (by simp)
  have r2 := BR.out.cell 2 (by simp)
  have r3 := BR.out.cell 3 (by simp)
  simp only [List.getElem_cons_zero, List.getElem_cons_succ] at r0 r1 r2 r3
  have y0 := BR.out.froz 0 (by simp)
  have y1 := BR.out.froz 1 (by simp)
  have y2 := BR.out.froz 2 (by simp)
  have y3 := BR.out.froz 3 (by simp)
  have lB := BP.out.lt
  have lR := BR.out.lt
  have hRB := S.out.RB
  have S9 := Lib.hid (KSt.set (d' := ⟨[72, 101, 97, 114], [], q, []⟩) S.out 2 (by decide) (.int .i64 q) rfl)
  go_wp2_with fail
  refine bodyPost_ret (v := .agg #[.string ⟨#[72, 101, 97, 114]⟩, .string ⟨#[]⟩, .int .i64 q, .string ⟨#[]⟩]) (by simp [results, Tryz.results129, go_sem, cell_set_at, cell_set_ne, r0, r1, r2, r3]) rfl ?_
  exact KSt.fin (d := ⟨[72, 101, 97, 114], [], q, []⟩) S9.out ⟨by simp, by simp, (show I64 q from ⟨by omega, by omega⟩), by simp⟩ _ _ _ _
 have E2 : (m == [72, 101, 97, 114]) = false := by simpa using e2
 by_cases e3 : m = [76, 111, 97, 100]
 ·subst e3
  go_wp2_with fail
  generalize w1.alloc (.cells #[.string ⟨#[76, 111, 97, 100]⟩, .string ⟨#[]⟩, .int .i64 0, .string ⟨#[]⟩] 43) = w2 at *
  refine (l3Text_any b v l _ S.out.cur).mono ?_
  rintro e w4 ⟨z, rfl, hz, hg, hC⟩
  obtain ⟨⟨zl⟩⟩ := z
  have hzl : zl.length ≤ 120 := hz
  have S := Lib.hid (S.out.draw hg hC)
  clear hg hC hz
  have BP := Lib.hid S.out.box
  have BR := Lib.hid S.out.res
  have p0 := BP.out.cell 0 (by simp)
  have p1 := BP.out.cell 1 (by simp)
  have p2 := BP.out.cell 2 (by simp)
  have p3 := BP.out.cell 3 (by simp)
  simp only [List.getElem_cons_zero, List.getElem_cons_succ] at p0 p1 p2 p3
  have x0 := BP.out.froz 0 (by simp)
  have x1 := BP.out.froz 1 (by simp)
  have x2 := BP.out.froz 2 (by simp)
  have x3 := BP.out.froz 3 (by simp)
  have r0 := BR.out.cell 0 (by simp)
  have r1 := BR.out.cell 1 (by simp)
  have r2 := BR.out.cell 2 (by simp)
  have r3 := BR.out.cell 3 (by simp)
  simp only [List.getElem_cons_zero, List.getElem_cons_succ] at r0 r1 r2 r3
  have y0 := BR.out.froz 0 (by simp)
  have y1 := BR.out.froz 1 (by simp)
  have y2 := BR.out.froz 2 (by simp)
  have y3 := BR.out.froz 3 (by simp)
  have lB := BP.out.lt
  have lR := BR.out.lt
  have hRB := S.out.RB
  have S9 := Lib.hid (KSt.set (d' := ⟨[76, 111, 97, 100], [], 0, zl⟩) S.out 3 (by decide) (.string ⟨zl.toArray⟩) rfl)
  go_wp2_with fail
  refine bodyPost_ret (v := .agg #[.string ⟨#[76, 111, 97, 100]⟩, .string ⟨#[]⟩, .int .i64 0, .string ⟨zl.toArray⟩]) (by simp [results, Tryz.results129, go_sem, cell_set_at, cell_set_ne, r0, r1, r2, r3]) rfl ?_
  exact KSt.fin (d := ⟨[76, 111, 97, 100], [], 0, zl⟩) S9.out ⟨by simp, by simp, (show I64 0 from ⟨by omega, by omega⟩), hzl⟩ _ _ _ _
 have E3 : (m == [76, 111, 97, 100]) = false := by simpa using e3
 clear e0 e1 e2 e3
 have r0 := BRw.out.cell 0 (by simp)
 have r1 := BRw.out.cell 1 (by simp)
 have r2 := BRw.out.cell 2 (by simp)
 have r3 := BRw.out.cell 3 (by simp)
 simp only [List.getElem_cons_zero, List.getElem_cons_succ] at r0 r1 r2 r3
 have y0 := BRw.out.froz 0 (by simp)
 have y1 := BRw.out.froz 1 (by simp)
 have y2 := BRw.out.froz 2 (by simp)
 have y3 := BRw.out.froz 3 (by simp)
 have lR := BRw.out.lt
 have hRB := S.out.RB
 go_wp2_with fail
 refine bodyPost_ret (v := .agg #[.string ⟨m.toArray⟩, .string ⟨#[]⟩, .int .i64 0, .string ⟨#[]⟩]) (by simp [results, Tryz.results129, go_sem, past_cellN, lR, cell_set_at, cell_set_ne, r0, r1, r2, r3]) rfl ?_
 exact ⟨⟨m, [], 0, []⟩, rfl, ⟨hml, by simp, (show I64 0 from ⟨by omega, by omega⟩), by simp⟩, grown_alloc (grown_setO (grown_setO (grown_setO (grown_setO HGw.out (Nat.le_refl _) 0 _) (Nat.le_refl _) 1 _) (Nat.le_refl _) 2 _) (Nat.le_refl _) 3 _) _, cur_alloc (cur_setO (cur_setO (cur_setO (cur_setO HCw.out hbl 0 _) hbl 1 _) hbl 2 _) hbl 3 _) _⟩
set_option maxRecDepth 100000 in
set_option maxHeartbeats 6400000 in
theorem l3AnyCall_any (b : Nat) (v : Value) (l : List UInt8) (w : World) (hC : Cur w b v l) :
  Calls Tryz.prog 128 #[.pointer (some ⟨b, 0, none⟩)] w fun e w' => DrawnCall b v l w e w' := by
 have hbl := hC.lt
 have HC0 := Lib.hid (cur_alloc hC (.cells #[.string ⟨#[]⟩, .string ⟨#[]⟩, .int .i64 0, .string ⟨#[]⟩] 43))
 have BR0 := Lib.hid (Bx.new w zCallV 43)
 have HG0 := Lib.hid (grown_alloc (grown_refl w (some b)) (.cells #[.string ⟨#[]⟩, .string ⟨#[]⟩, .int .i64 0, .string ⟨#[]⟩] 43))
 clear hC
 go_enter Tryz.func128, Tryz.ntmps128
 go_wp2_with fail
 refine (l3Call_any b v l _ HC0.out).mono ?_
 rintro e w1 ⟨⟨m, k, n, t⟩, rfl, hok, hg, hC⟩
 have HOK := Lib.hid hok
 have hwl : w.heap.size < w1.heap.size := Nat.lt_of_lt_of_le BR0.out.lt hg.size
 have S := Lib.hid (show KSt w b v l w.heap.size w1.heap.size ⟨m, k, n, t⟩ (w1.alloc (.cells #[.string ⟨m.toArray⟩, .string ⟨k.toArray⟩, .int .i64 n, .string ⟨t.toArray⟩] 43)) from ⟨grown_alloc (grown_trans HG0.out hg) _, cur_alloc hC _, (bx_grownC BR0.out hg (by omega)).alloc _, Bx.new w1 (cCallV ⟨m, k, n, t⟩) 43, hbl, Nat.le_refl _, hwl⟩)
 clear hok hg hC HC0 BR0 HG0
 unfold vCall
 simp only
 go_wp2_with fail
 generalize w1.alloc (.cells #[.string ⟨m.toArray⟩, .string ⟨k.toArray⟩, .int .i64 n, .string ⟨t.toArray⟩] 43) = w2 at *
 refine (l1Below_any b v l _ _ S.out.cur (by omega) (by omega)).mono ?_
 rintro e w3 ⟨j, rfl, ⟨j0, j1, j2⟩, hg, hC⟩
 have S := Lib.hid (S.out.draw hg hC)
 clear hg hC j1 j2
 by_cases e0 : j = 0
 ·subst e0
  go_wp2_with fail
  refine (l2Method_any b v l _ S.out.cur).mono ?_
  rintro e w4 ⟨z, rfl, hz, hg, hC⟩
  obtain ⟨⟨zl⟩⟩ := z
  have hzl : zl.length ≤ 9 := hz
  have S := Lib.hid (S.out.draw hg hC)
  clear hg hC hz
  have BP := Lib.hid S.out.box
  have BR := Lib.hid S.out.res
  have p0 := BP.out.cell 0 (by simp)
  have p1 := BP.out.cell 1 (by simp)
  have p2 := BP.out.cell 2 (by simp)
  have p3 := BP.out.cell 3 (by simp)
  simp only [List.getElem_cons_zero, List.getElem_cons_succ] at p0 p1 p2 p3
  have x0 := BP.out.froz 0 (by simp)
  have x1 := BP.out.froz 1 (by simp)
  have x2 := BP.out.froz 2 (by simp)
  have x3 := BP.out.froz 3 (by simp)
  have r0 := BR.out.cell 0 (by simp)
  have r1 := BR.out.cell 1 (by simp)
  have r2 := BR.out.cell 2 (by simp)
  have r3 := BR.out.cell 3 (by simp)
  simp only [List.getElem_cons_zero, List.getElem_cons_succ] at r0 r1 r2 r3
  have y0 := BR.out.froz 0 (by simp)
  have y1 := BR.out.froz 1 (by simp)
  have y2 := BR.out.froz 2 (by simp)
  have y3 := BR.out.froz 3 (by simp)
  have lB := BP.out.lt
  have lR := BR.out.lt
  have hRB := S.out.RB
  have S9 := Lib.hid (KSt.set (d' := ⟨zl, k, n, t⟩) S.out 0 (by decide) (.string ⟨zl.toArray⟩) rfl)
  go_wp2_with fail
  refine bodyPost_ret (v := .agg #[.string ⟨zl.toArray⟩, .string ⟨k.toArray⟩, .int .i64 n, .string ⟨t.toArray⟩]) (by simp [results, Tryz.results128, go_sem, cell_set_at, cell_set_ne, r0, r1, r2, r3]) rfl ?_
  exact KSt.fin (d := ⟨zl, k, n, t⟩) S9.out ⟨(Nat.le_trans hzl (by decide)), HOK.out.2.1, HOK.out.2.2.1, HOK.out.2.2.2⟩ _ _ _ _
 have E0 : (j == 0) = false := by simpa using e0
 by_cases e1 : j = 1
 ·subst e1
  go_wp2_with fail
  refine (l1Word_any b v l _ S.out.cur).mono ?_
  rintro e w4 ⟨z, rfl, hz, hg, hC⟩
  obtain ⟨⟨zl⟩⟩ := z
  have hzl : zl.length ≤ 9 := hz
  have S := Lib.hid (S.out.draw hg hC)
  clear hg hC hz
  have BP := Lib.hid S.out.box
  have BR := Lib.hid S.out.res
  have p0 := BP.out.cell 0 (by simp)
  have p1 := BP.out.cell 1 (by simp)
  have p2 := BP.out.cell 2 (by simp)
  have p3 := BP.out.cell 3 (by simp)
  simp only [List.getElem_cons_zero, List.getElem_cons_succ] at p0 p1 p2 p3
  have x0 := BP.out.froz 0 (by simp)
  have x1 := BP.out.froz 1 (by simp)
  have x2 := BP.out.froz 2 (by simp)
  have x3 := BP.out.froz 3 (by simp)
  have r0 := BR.out.cell 0 (by simp)
  have r1 := BR.out.cell 1 (by simp)
  have r2 := BR.out.cell 2 (by simp)
  have r3 := BR.out.cell 3 (by simp)
  simp only [List.getElem_cons_zero, List.getElem_cons_succ] at r0 r1 r2 r3
  have y0 := BR.out.froz 0 (by simp)
  have y1 := BR.out.froz 1 (by simp)
  have y2 := BR.out.froz 2 (by simp)
  have y3 := BR.out.froz 3 (by simp)
  have lB := BP.out.lt
  have lR := BR.out.lt
  have hRB := S.out.RB
  have S9 := Lib.hid (KSt.set (d' := ⟨m, zl, n, t⟩) S.out 1 (by decide) (.string ⟨zl.toArray⟩) rfl)
  go_wp2_with fail
  refine bodyPost_ret (v := .agg #[.string ⟨m.toArray⟩, .string ⟨zl.toArray⟩, .int .i64 n, .string ⟨t.toArray⟩]) (by simp [results, Tryz.results128, go_sem, cell_set_at, cell_set_ne, r0, r1, r2, r3]) rfl ?_
  exact KSt.fin (d := ⟨m, zl, n, t⟩) S9.out ⟨HOK.out.1, (Nat.le_trans hzl (by decide)), HOK.out.2.2.1, HOK.out.2.2.2⟩ _ _ _ _
 have E1 : (j == 1) = false := by simpa using e1
 by_cases e2 : j = 2
 ·subst e2
  go_wp2_with fail
  refine (l1Odd_any b v l _ S.out.cur).mono ?_
  rintro e w4 ⟨z, rfl, ⟨z0, z1⟩, hg, hC⟩
  have S := Lib.hid (S.out.draw hg hC)
  clear hg hC
  have BP := Lib.hid S.out.box
  have BR := Lib.hid S.out.res
  have p0 := BP.out.cell 0 (by simp)
  have p1 := BP.out.cell 1 (by simp)
  have p2 := BP.out.cell 2 (by simp)
  have p3 := BP.out.cell 3 (by simp)
  simp only [List.getElem_cons_zero, List.getElem_cons_succ] at p0 p1 p2 p3
  have x0 := BP.out.froz 0 (by simp)
  have x1 := BP.out.froz 1 (by simp)
  have x2 := BP.out.froz 2 (by simp)
  have x3 := BP.out.froz 3 (by simp)
  have r0 := BR.out.cell 0 (by simp)
  have r1 := BR.out.cell 1 (by simp)
  have r2 := BR.out.cell 2 (by simp)
  have r3 := BR.out.cell 3 (by simp)
  simp only [List.getElem_cons_zero, List.getElem_cons_succ] at r0 r1 r2 r3
  have y0 := BR.out.froz 0 (by simp)
  have y1 := BR.out.froz 1 (by simp)
  have y2 := BR.out.froz 2 (by simp)
  have y3 := BR.out.froz 3 (by simp)
  have lB := BP.out.lt
  have lR := BR.out.lt
  have hRB := S.out.RB
  have S9 := Lib.hid (KSt.set (d' := ⟨m, k, z, t⟩) S.out 2 (by decide) (.int .i64 z) rfl)
  go_wp2_with fail
  refine bodyPost_ret (v := .agg #[.string ⟨m.toArray⟩, .string ⟨k.toArray⟩, .int .i64 z, .string ⟨t.toArray⟩]) (by simp [results, Tryz.results128, go_sem, cell_set_at, cell_set_ne, r0, r1, r2, r3]) rfl ?_
  exact KSt.fin (d := ⟨m, k, z, t⟩) S9.out ⟨HOK.out.1, HOK.out.2.1, (show I64 z from ⟨z0, z1⟩), HOK.out.2.2.2⟩ _ _ _ _
 have E2 : (j == 2) = false := by simpa using e2
 by_cases e3 : j = 3
 ·subst e3
  go_wp2_with fail
  refine (l1Str_new b v l _ _ _ _ _ 9 S.out.cur (by rfl) (by decide) (by decide) (by decide)).mono ?_
  rintro e w4 ⟨z, rfl, hz, hg, hC⟩
  obtain ⟨⟨zl⟩⟩ := z
  have hzl : zl.length ≤ 9 := hz
  have S := Lib.hid (S.out.draw hg hC)
  clear hg hC hz
  have BP := Lib.hid S.out.box
  have BR := Lib.hid S.out.res
  have p0 := BP.out.cell 0 (by simp)
  have p1 := BP.out.cell 1 (by simp)
  have p2 := BP.out.cell 2 (by simp)
  have p3 := BP.out.cell 3 (by simp)
  simp only [List.getElem_cons_zero, List.getElem_cons_succ] at p0 p1 p2 p3
  have x0 := BP.out.froz 0 (by simp)
  have x1 := BP.out.froz 1 (by simp)
  have x2 := BP.out.froz 2 (by simp)
  have x3 := BP.out.froz 3 (by simp)
  have r0 := BR.out.cell 0 (by simp)
  have r1 := BR.out.cell 1 (by simp)
  have r2 := BR.out.cell 2 (by simp)
  have r3 := BR.out.cell 3 (by simp)
  simp only [List.getElem_cons_zero, List.getElem_cons_succ] at r0 r1 r2 r3
  have y0 := BR.out.froz 0 (by simp)
  have y1 := BR.out.froz 1 (by simp)
  have y2 := BR.out.froz 2 (by simp)
  have y3 := BR.out.froz 3 (by simp)
  have lB := BP.out.lt
  have lR := BR.out.lt
  have hRB := S.out.RB
  have S9 := Lib.hid (KSt.set (d' := ⟨m, k, n, zl⟩) S.out 3 (by decide) (.string ⟨zl.toArray⟩) rfl)
  go_wp2_with fail
  refine bodyPost_ret (v := .agg #[.string ⟨m.toArray⟩, .string ⟨k.toArray⟩, .int .i64 n, .string ⟨zl.toArray⟩]) (by simp [results, Tryz.results128, go_sem, cell_set_at, cell_set_ne, r0, r1, r2, r3]) rfl ?_
  exact KSt.fin (d := ⟨m, k, n, zl⟩) S9.out ⟨HOK.out.1, HOK.out.2.1, HOK.out.2.2.1, (Nat.le_trans hzl (by decide))⟩ _ _ _ _
 have E3 : (j == 3) = false := by simpa using e3
 clear e0 e1 e2 e3
 have BP := Lib.hid S.out.box
 have BR := Lib.hid S.out.res
 have p0 := BP.out.cell 0 (by simp)
 have p1 := BP.out.cell 1 (by simp)
 have p2 := BP.out.cell 2 (by simp)
 have p3 := BP.out.cell 3 (by simp)
 simp only [List.getElem_cons_zero, List.getElem_cons_succ] at p0 p1 p2 p3
 have x0 := BP.out.froz 0 (by simp)
 have x1 := BP.out.froz 1 (by simp)
 have x2 := BP.out.froz 2 (by simp)
 have x3 := BP.out.froz 3 (by simp)
 have r0 := BR.out.cell 0 (by simp)
 have r1 := BR.out.cell 1 (by simp)
 have r2 := BR.out.cell 2 (by simp)
 have r3 := BR.out.cell 3 (by simp)
 simp only [List.getElem_cons_zero, List.getElem_cons_succ] at r0 r1 r2 r3
 have y0 := BR.out.froz 0 (by simp)
 have y1 := BR.out.froz 1 (by simp)
 have y2 := BR.out.froz 2 (by simp)
 have y3 := BR.out.froz 3 (by simp)
 have lB := BP.out.lt
 have lR := BR.out.lt
 have hRB := S.out.RB
 go_wp2_with fail
 refine bodyPost_ret (v := .agg #[.string ⟨m.toArray⟩, .string ⟨k.toArray⟩, .int .i64 n, .string ⟨t.toArray⟩]) (by simp [results, Tryz.results128, go_sem, cell_set_at, cell_set_ne, r0, r1, r2, r3]) rfl ?_
 exact KSt.fin (d := ⟨m, k, n, t⟩) S.out ⟨HOK.out.1, HOK.out.2.1, HOK.out.2.2.1, HOK.out.2.2.2⟩ _ _ _ _
theorem call_new (w : World) (y : CallD) (blk : Nat) (h : blk = w.heap.size) : ∀ j, j < 4 → (w.alloc (.cells #[.string ⟨y.fMethod.toArray⟩, .string ⟨y.fKey.toArray⟩, .int .i64 y.fValue, .string ⟨y.fText.toArray⟩] 43)).cell? ⟨blk, j, none⟩ = (cCall y)[j]? := by
 subst h
 intro j hj
 rw [cell_of_row _ _ _ _ 43 (0, 0) (heap_alloc_new w _)]
 simp [cCall]
end Go.Proofs.YtcpbikilgacdlaaGreat
