/- Contracts of chapter 4: Unwrap, the model's. -/
import Derived.Test.YtmoliamenekemaaUnw1
import Derived.Test.YtmoliamenekemaaPart7
import Derived.Test.YtmoliamenekemaaPart9d
namespace Go.Proofs.Ytmoliamenekemaa
set_option linter.unusedVariables false
set_option linter.unusedSimpArgs false
open Go.RowKit
def GivesPB (x : PartD) (b : Bool) (w : World) (e : Ending) (w' : World) : Prop := ∃ cs, e = .returned (.tuple #[.agg cs.toArray, .bool b]) ∧ rPart w.heap.size w' cs x ∧ Below w.heap.size w w'
theorem smallP_unw {x : PartD} (h : SmallP x) : SmallP (unwP x) := by unfold unwP; split; exact smallP_take h _; exact h
theorem kept_put6 {F : Nat} {a w : World} (h : Kept F a w) (b : Nat) (hb : b < F) (u0 u1 u2 u3 u4 u5 : Value) :
    Kept F a ((((((w.setCell ⟨b, 0, none⟩ u0).setCell ⟨b, 1, none⟩ u1).setCell ⟨b, 2, none⟩ u2).setCell ⟨b, 3, none⟩ u3).setCell ⟨b, 4, none⟩ u4).setCell ⟨b, 5, none⟩ u5) :=
  (((((h.setCell (p := ⟨b, 0, none⟩) hb u0).setCell (p := ⟨b, 1, none⟩) hb u1).setCell (p := ⟨b, 2, none⟩) hb u2).setCell (p := ⟨b, 3, none⟩) hb u3).setCell (p := ⟨b, 4, none⟩) hb u4).setCell (p := ⟨b, 5, none⟩) hb u5
theorem kept_setNew {F : Nat} {a w : World} (h : Kept F a w) {p : Addr} (hp : a.heap.size ≤ p.block) (u : Value) : Kept F a (w.setCell p u) :=
  ⟨by simpa using h.size, fun i hF hi => (Below.heap_setCell w p u i (by omega)).trans (h.block i hF hi)⟩
set_option maxRecDepth 100000 in
set_option maxHeartbeats 3200000 in
theorem specUnwrap_any (v : Value) (x : PartD) (w : World) (hx : ValAt rPart 0 w v x) (hs : SmallP x) (hk : ∀ c ∈ x.fCore.fCells, c.fKey.length ≤ maxLen) :
    Calls Try.prog 14 #[v] w fun e w' => GivesPB (unwP x) (unwB x) w e w' := by
  obtain ⟨_, rfl, hx⟩ := hx
  have HX := Lib.hid (fun W (hb : Below w.heap.size w W) => goodPart.keep hx (kept_below hb (Nat.le_refl _)))
  have HIP := Lib.hid (fun cs W (h : rPart 0 W cs x) => specIsPart_any (.agg cs.toArray) x W ⟨cs, rfl, h⟩ hk)
  have HCP := Lib.hid (fun cs W (h : rPart 0 W cs x) => l4Copy_any (.agg cs.toArray) x W ⟨cs, rfl, h⟩ hs)
  have HU := Lib.hid (show unwB x = (partB x && !(decide (x.fLayers.length = 0))) from rfl)
  have HY := Lib.hid (show unwB x = true → unwP x = ⟨x.fCore, x.fLayers.take (x.fLayers.length - 1)⟩ from fun h => if_pos h)
  have HZ := Lib.hid (show unwB x = false → unwP x = x from fun h => if_neg (by simp [h]))
  unfold GivesPB
  unfold GivesV at HCP
  generalize unwB x = ub at *
  generalize unwP x = ux at *
  generalize partB x = pb at *
  obtain ⟨⟨a0, a1, a2, a3, a4⟩, l⟩ := x
  obtain ⟨v3, v5, rfl, h3, h5⟩ := hx
  simp only at h3 h5 HU HY HZ
  obtain ⟨ra, rc, rfl, _⟩ := sliceAt_len h3
  obtain ⟨sa, sc, rfl, hl, hcap⟩ := sliceAt_cap h5
  clear h3 h5 hs hk
  unfold maxLen at hl
  have BS := Lib.hid (bx_start2 w [.string ⟨a0.toArray⟩, .bool a1, .bool a2, .slice ra a3.length rc, .int .i64 a4, .slice sa l.length sc] [.string ⟨#[]⟩, .bool false, .bool false, .slice none 0 0, .int .i64 0, .slice none 0 0] 35 35)
  have HR0 := Lib.hid (HX.out _ BS.out.2.2)
  go_enter Try.func14, Try.ntmps14
  go_wp2_with fail
  refine (HCP.out _ _ HR0.out).mono ?_
  rintro e w1 ⟨_, rfl, ⟨u3, u5, rfl, hu3, hu5⟩, hb⟩
  simp only at hu3 hu5
  obtain ⟨ga, gc, rfl, _⟩ := sliceAt_len hu3
  obtain ⟨ua, uc, rfl, _, hucap⟩ := sliceAt_cap hu5
  have HB1 := Lib.hid (belS BS.out.2.2 hb)
  have BP1 := Lib.hid ((BS.out.1.below hb).alloc (.cells #[.string ⟨a0.toArray⟩, .bool a1, .bool a2, .slice ga a3.length gc, .int .i64 a4, .slice ua l.length uc] 35))
  have BR1 := Lib.hid ((BS.out.2.1.below hb).alloc (.cells #[.string ⟨a0.toArray⟩, .bool a1, .bool a2, .slice ga a3.length gc, .int .i64 a4, .slice ua l.length uc] 35))
  have BQ1 := Lib.hid (Bx.new w1 [.string ⟨a0.toArray⟩, .bool a1, .bool a2, .slice ga a3.length gc, .int .i64 a4, .slice ua l.length uc] 35)
  have HB2 := Lib.hid (belS HB1.out (bx_box w1 (.cells #[.string ⟨a0.toArray⟩, .bool a1, .bool a2, .slice ga a3.length gc, .int .i64 a4, .slice ua l.length uc] 35)))
  have hF : w.heap.size + 2 ≤ ((w.alloc (.cells #[.string ⟨a0.toArray⟩, .bool a1, .bool a2, .slice ra a3.length rc, .int .i64 a4, .slice sa l.length sc] 35)).alloc (.cells #[.string ⟨#[]⟩, .bool false, .bool false, .slice none 0 0, .int .i64 0, .slice none 0 0] 35)).heap.size := by simp
  have K3 := Lib.hid (hu3.mono (good_flat cCell_len) hF)
  have K5 := Lib.hid (hu5.mono (good_flat cLayer_len) hF)
  have KK := Lib.hid ((Kept.refl (w.heap.size + 2) w1).alloc (.cells #[.string ⟨a0.toArray⟩, .bool a1, .bool a2, .slice ga a3.length gc, .int .i64 a4, .slice ua l.length uc] 35))
  have lp := (BS.out.1.below hb).lt
  have lr := (BS.out.2.1.below hb).lt
  clear hb hu3 hu5 hF
  have p0 := BP1.out.cell 0 (by simp)
  have p1 := BP1.out.cell 1 (by simp)
  have p2 := BP1.out.cell 2 (by simp)
  have p3 := BP1.out.cell 3 (by simp)
  have p4 := BP1.out.cell 4 (by simp)
  have p5 := BP1.out.cell 5 (by simp)
  simp only [List.getElem_cons_zero, List.getElem_cons_succ] at p0 p1 p2 p3 p4 p5
  go_wp2_with fail
  refine (HIP.out _ _ (HX.out _ HB2.out)).mono ?_
  rintro e w2 ⟨rfl, hb⟩
  have HB3 := Lib.hid (belS HB2.out hb)
  have BP2 := Lib.hid (BP1.out.below hb)
  have BR2 := Lib.hid (BR1.out.below hb)
  have BQ2 := Lib.hid (BQ1.out.below hb)
  have KK2 := Lib.hid (KK.out.thenB hb (Nat.le_refl _))
  have lq := BQ2.out.lt
  have lp2 := BP2.out.lt
  have lr2 := BR2.out.lt
  have n1 : ¬ w.heap.size = w1.heap.size := by omega
  have n2 : ¬ w.heap.size + 1 = w1.heap.size := by omega
  have n3 : ¬ w1.heap.size = w.heap.size + 1 := by omega
  have n4 : ¬ w1.heap.size = w.heap.size := by omega
  clear hb p0 p1 p2 p3 p4 p5
  have p0 := BP2.out.cell 0 (by simp)
  have p1 := BP2.out.cell 1 (by simp)
  have p2 := BP2.out.cell 2 (by simp)
  have p3 := BP2.out.cell 3 (by simp)
  have p4 := BP2.out.cell 4 (by simp)
  have p5 := BP2.out.cell 5 (by simp)
  simp only [List.getElem_cons_zero, List.getElem_cons_succ] at p0 p1 p2 p3 p4 p5
  have q0 := BQ2.out.cell 0 (by simp)
  have q1 := BQ2.out.cell 1 (by simp)
  have q2 := BQ2.out.cell 2 (by simp)
  have q3 := BQ2.out.cell 3 (by simp)
  have q4 := BQ2.out.cell 4 (by simp)
  have q5 := BQ2.out.cell 5 (by simp)
  simp only [List.getElem_cons_zero, List.getElem_cons_succ] at q0 q1 q2 q3 q4 q5
  have y0 := BQ2.out.froz 0 (by simp)
  have y1 := BQ2.out.froz 1 (by simp)
  have y2 := BQ2.out.froz 2 (by simp)
  have y3 := BQ2.out.froz 3 (by simp)
  have y4 := BQ2.out.froz 4 (by simp)
  have y5 := BQ2.out.froz 5 (by simp)
  have r0 := BR2.out.cell 0 (by simp)
  have r1 := BR2.out.cell 1 (by simp)
  have r2 := BR2.out.cell 2 (by simp)
  have r3 := BR2.out.cell 3 (by simp)
  have r4 := BR2.out.cell 4 (by simp)
  have r5 := BR2.out.cell 5 (by simp)
  simp only [List.getElem_cons_zero, List.getElem_cons_succ] at r0 r1 r2 r3 r4 r5
  have z0 := BR2.out.froz 0 (by simp)
  have z1 := BR2.out.froz 1 (by simp)
  have z2 := BR2.out.froz 2 (by simp)
  have z3 := BR2.out.froz 3 (by simp)
  have z4 := BR2.out.froz 4 (by simp)
  have z5 := BR2.out.froz 5 (by simp)
  by_cases hg : pb = true ∧ 0 < l.length
  · obtain ⟨rfl, hl0⟩ := hg
    have hub : ub = true := by rw [HU.out, show decide (l.length = 0) = false from decide_eq_false (by omega)]; rfl
    obtain rfl : ux = ⟨⟨a0, a1, a2, a3, a4⟩, l.take (l.length - 1)⟩ := HY.out hub
    subst hub
    have hne : ¬ (l.length : Int) = 0 := by omega
    have hsub : IntKind.i64.wrap ((l.length : Int) - 1) = ((l.length - 1 : Nat) : Int) := by rw [IntWalk.i64_in _ (by omega)]; omega
    have hcap2 : l.length - 1 ≤ uc := by omega
    go_wp2_with fail
    have BRQ := Lib.hid (BR2.out.other (c := w1.heap.size) (by omega) 5 (.slice ua (l.length - 1) uc))
    have HBQ := Lib.hid (HB3.out.setCell (p := ⟨w1.heap.size, 5, none⟩) (by have := HB1.out.size; simp; omega) (.slice ua (l.length - 1) uc))
    have KKQ := Lib.hid (kept_setNew KK2.out (p := ⟨w1.heap.size, 5, none⟩) (Nat.le_refl _) (.slice ua (l.length - 1) uc))
    clear p0 p1 p2 p3 p4 p5 r0 r1 r2 r3 r4 r5 z0 z1 z2 z3 z4 z5 q0 q1 q2 q3 q4 q5 y0 y1 y2 y3 y4 y5
    have BR4 := Lib.hid (BRQ.out.put6 (.string ⟨a0.toArray⟩) (.bool a1) (.bool a2) (.slice ga a3.length gc) (.int .i64 a4) (.slice ua (l.length - 1) uc))
    have HB6 := Lib.hid (below_put6 HBQ.out (w.heap.size + 1) (by omega) (.string ⟨a0.toArray⟩) (.bool a1) (.bool a2) (.slice ga a3.length gc) (.int .i64 a4) (.slice ua (l.length - 1) uc))
    have KE := Lib.hid (kept_put6 KKQ.out (w.heap.size + 1) (by omega) (.string ⟨a0.toArray⟩) (.bool a1) (.bool a2) (.slice ga a3.length gc) (.int .i64 a4) (.slice ua (l.length - 1) uc))
    generalize (((((((w2.setCell ⟨w1.heap.size, 5, none⟩ (.slice ua (l.length - 1) uc)).setCell ⟨w.heap.size + 1, 0, none⟩ (.string ⟨a0.toArray⟩)).setCell ⟨w.heap.size + 1, 1, none⟩ (.bool a1)).setCell ⟨w.heap.size + 1, 2, none⟩ (.bool a2)).setCell ⟨w.heap.size + 1, 3, none⟩ (.slice ga a3.length gc)).setCell ⟨w.heap.size + 1, 4, none⟩ (.int .i64 a4)).setCell ⟨w.heap.size + 1, 5, none⟩ (.slice ua (l.length - 1) uc)) = WE at *
    have r0 := BR4.out.cell 0 (by simp)
    have r1 := BR4.out.cell 1 (by simp)
    have r2 := BR4.out.cell 2 (by simp)
    have r3 := BR4.out.cell 3 (by simp)
    have r4 := BR4.out.cell 4 (by simp)
    have r5 := BR4.out.cell 5 (by simp)
    simp only [List.getElem_cons_zero, List.getElem_cons_succ] at r0 r1 r2 r3 r4 r5
    exact bodyPost_ret (v := .tuple #[.agg #[.string ⟨a0.toArray⟩, .bool a1, .bool a2, .slice ga a3.length gc, .int .i64 a4, .slice ua (l.length - 1) uc], .bool true]) (by simp [results, Try.results14, go_sem, r0, r1, r2, r3, r4, r5]) rfl ⟨_, rfl, ⟨_, _, rfl, (K3.out.keep (good_flat cCell_len) KE.out).mono (good_flat cCell_len) (by omega), sliceAt_take ((K5.out.keep (good_flat cLayer_len) KE.out).mono (good_flat cLayer_len) (by omega)) (l.length - 1) (by omega) (by omega)⟩, HB6.out⟩
  · have hub : ub = false := by
      rw [HU.out]
      cases pb with
      | false => rfl
      | true => rw [show decide (l.length = 0) = true from decide_eq_true (by have h9 : ¬ 0 < l.length := fun h => hg ⟨rfl, h⟩; omega)]; rfl
    obtain rfl : ux = ⟨⟨a0, a1, a2, a3, a4⟩, l⟩ := HZ.out hub
    subst hub
    have hnil : pb = true → l.length = 0 := fun h => by have h9 : ¬ 0 < l.length := fun h2 => hg ⟨h, h2⟩; omega
    cases pb
    · clear hnil hg
      go_wp2_with fail
      clear p0 p1 p2 p3 p4 p5 r0 r1 r2 r3 r4 r5 z0 z1 z2 z3 z4 z5 q0 q1 q2 q3 q4 q5 y0 y1 y2 y3 y4 y5
      have BR4 := Lib.hid (BR2.out.put6 (.string ⟨a0.toArray⟩) (.bool a1) (.bool a2) (.slice ga a3.length gc) (.int .i64 a4) (.slice ua l.length uc))
      have HB6 := Lib.hid (below_put6 HB3.out (w.heap.size + 1) (by omega) (.string ⟨a0.toArray⟩) (.bool a1) (.bool a2) (.slice ga a3.length gc) (.int .i64 a4) (.slice ua l.length uc))
      have KE := Lib.hid (kept_put6 KK2.out (w.heap.size + 1) (by omega) (.string ⟨a0.toArray⟩) (.bool a1) (.bool a2) (.slice ga a3.length gc) (.int .i64 a4) (.slice ua l.length uc))
      generalize ((((((w2.setCell ⟨w.heap.size + 1, 0, none⟩ (.string ⟨a0.toArray⟩)).setCell ⟨w.heap.size + 1, 1, none⟩ (.bool a1)).setCell ⟨w.heap.size + 1, 2, none⟩ (.bool a2)).setCell ⟨w.heap.size + 1, 3, none⟩ (.slice ga a3.length gc)).setCell ⟨w.heap.size + 1, 4, none⟩ (.int .i64 a4)).setCell ⟨w.heap.size + 1, 5, none⟩ (.slice ua l.length uc)) = WE at *
      have r0 := BR4.out.cell 0 (by simp)
      have r1 := BR4.out.cell 1 (by simp)
      have r2 := BR4.out.cell 2 (by simp)
      have r3 := BR4.out.cell 3 (by simp)
      have r4 := BR4.out.cell 4 (by simp)
      have r5 := BR4.out.cell 5 (by simp)
      simp only [List.getElem_cons_zero, List.getElem_cons_succ] at r0 r1 r2 r3 r4 r5
      exact bodyPost_ret (v := .tuple #[.agg #[.string ⟨a0.toArray⟩, .bool a1, .bool a2, .slice ga a3.length gc, .int .i64 a4, .slice ua l.length uc], .bool false]) (by simp [results, Try.results14, go_sem, r0, r1, r2, r3, r4, r5]) rfl ⟨_, rfl, ⟨_, _, rfl, (K3.out.keep (good_flat cCell_len) KE.out).mono (good_flat cCell_len) (by omega), (K5.out.keep (good_flat cLayer_len) KE.out).mono (good_flat cLayer_len) (by omega)⟩, HB6.out⟩
    · obtain rfl : l = [] := List.eq_nil_of_length_eq_zero (hnil rfl)
      clear hnil hg
      simp only [List.length_nil] at *
      go_wp2_with fail
      clear p0 p1 p2 p3 p4 p5 r0 r1 r2 r3 r4 r5 z0 z1 z2 z3 z4 z5 q0 q1 q2 q3 q4 q5 y0 y1 y2 y3 y4 y5
      have BR4 := Lib.hid (BR2.out.put6 (.string ⟨a0.toArray⟩) (.bool a1) (.bool a2) (.slice ga a3.length gc) (.int .i64 a4) (.slice ua 0 uc))
      have HB6 := Lib.hid (below_put6 HB3.out (w.heap.size + 1) (by omega) (.string ⟨a0.toArray⟩) (.bool a1) (.bool a2) (.slice ga a3.length gc) (.int .i64 a4) (.slice ua 0 uc))
      have KE := Lib.hid (kept_put6 KK2.out (w.heap.size + 1) (by omega) (.string ⟨a0.toArray⟩) (.bool a1) (.bool a2) (.slice ga a3.length gc) (.int .i64 a4) (.slice ua 0 uc))
      generalize ((((((w2.setCell ⟨w.heap.size + 1, 0, none⟩ (.string ⟨a0.toArray⟩)).setCell ⟨w.heap.size + 1, 1, none⟩ (.bool a1)).setCell ⟨w.heap.size + 1, 2, none⟩ (.bool a2)).setCell ⟨w.heap.size + 1, 3, none⟩ (.slice ga a3.length gc)).setCell ⟨w.heap.size + 1, 4, none⟩ (.int .i64 a4)).setCell ⟨w.heap.size + 1, 5, none⟩ (.slice ua 0 uc)) = WE at *
      have r0 := BR4.out.cell 0 (by simp)
      have r1 := BR4.out.cell 1 (by simp)
      have r2 := BR4.out.cell 2 (by simp)
      have r3 := BR4.out.cell 3 (by simp)
      have r4 := BR4.out.cell 4 (by simp)
      have r5 := BR4.out.cell 5 (by simp)
      simp only [List.getElem_cons_zero, List.getElem_cons_succ] at r0 r1 r2 r3 r4 r5
      exact bodyPost_ret (v := .tuple #[.agg #[.string ⟨a0.toArray⟩, .bool a1, .bool a2, .slice ga a3.length gc, .int .i64 a4, .slice ua 0 uc], .bool false]) (by simp [results, Try.results14, go_sem, r0, r1, r2, r3, r4, r5]) rfl ⟨_, rfl, ⟨_, _, rfl, (K3.out.keep (good_flat cCell_len) KE.out).mono (good_flat cCell_len) (by omega), (K5.out.keep (good_flat cLayer_len) KE.out).mono (good_flat cLayer_len) (by omega)⟩, HB6.out⟩
end Go.Proofs.Ytmoliamenekemaa
