/- Contracts of chapter 3: IsCore, the program's and the model's. -/
import Derived.Test.YtlkpinlkbikokaeIsSlotsLawM0
import Derived.WalkKit
import Derived.WalkSpells
import Derived.WalkLawsBesides
import Derived.Lib.Hide
import Derived.Lib.Bytes
import Derived.Deep.QuietTactic
import Derived.BigQuiet
/- Part: how it reads, and what the laws' own helpers do with it. Written by gen/deep.py. -/
namespace Go.Proofs.Ytlkpinlkbikokae
set_option linter.unusedVariables false
set_option linter.unusedSimpArgs false
open Go.RowKit
structure PartD where
  fCore : CoreD
  fLayers : List LayerD
deriving DecidableEq
def okPart (x : PartD) : Prop := (okCore x.fCore) ∧ (∀ c ∈ x.fLayers, okLayer c)
def rPart : Nat → World → List Value → PartD → Prop := fun F w cs x => ∃ v3 v5, cs = [.string ⟨x.fCore.fKind.toArray⟩, .bool x.fCore.fOn, .bool x.fCore.fBroken, v3, .int .i64 x.fCore.fCount, v5] ∧ SliceAt (rFlat cCell) 2 F w v3 x.fCore.fCells ∧ SliceAt (rFlat cLayer) 2 F w v5 x.fLayers
theorem goodPart : Good rPart 6 := by
  refine ⟨?_, ?_, ?_⟩
  · rintro F w cs x ⟨v3, v5, rfl, h3, h5⟩; rfl
  · rintro F w w' cs x ⟨v3, v5, rfl, h3, h5⟩ hk; exact ⟨v3, v5, rfl, h3.keep (good_flat cCell_len) hk, h5.keep (good_flat cLayer_len) hk⟩
  · rintro F F' w cs x ⟨v3, v5, rfl, h3, h5⟩ hF; exact ⟨v3, v5, rfl, h3.mono (good_flat cCell_len) hF, h5.mono (good_flat cLayer_len) hF⟩
def zPart (x : PartD) : Nat := zCore x.fCore + (x.fLayers.length + sumF zLayer x.fLayers)
set_option maxRecDepth 100000 in
set_option maxHeartbeats 1600000 in
theorem toPart_d (v : Value) (x : PartD) (w : World) (hx : ValAt rPart 0 w v x) (hm : zPart x ≤ 2097152) : Calls Try.prog 27 #[v] w fun e w' => GivesV rPart x w e w' := by
  obtain ⟨_, rfl, hx⟩ := hx
  obtain ⟨⟨a0_0, a0_1, a0_2, a0_3, a0_4⟩, a1⟩ := x
  obtain ⟨v3, v5, rfl, h3, h5⟩ := hx
  simp only at h3 h5
  simp only [zPart, zCore] at hm
  have HM := Lib.hid hm
  obtain ⟨ra3, rc3, rfl, _⟩ := sliceAt_len h3
  obtain ⟨ra5, rc5, rfl, _⟩ := sliceAt_len h5
  have H3 := Lib.hid h3
  have H5 := Lib.hid h5
  clear hm h3 h5
  have HS := Lib.hid (bx_start3 w [.string ⟨a0_0.toArray⟩, .bool a0_1, .bool a0_2, .slice ra3 a0_3.length rc3, .int .i64 a0_4, .slice ra5 a1.length rc5] [.string ⟨#[]⟩, .bool false, .bool false, .slice none 0 0, .int .i64 0, .slice none 0 0] [.string ⟨#[]⟩, .bool false, .bool false, .slice none 0 0, .int .i64 0, .slice none 0 0] 36 44 44)
  have BA := Lib.hid HS.out.1
  have BB := Lib.hid HS.out.2.1
  have BC := Lib.hid HS.out.2.2.1
  have HB := Lib.hid HS.out.2.2.2
  clear HS
  go_enter Try.func27, Try.ntmps27
  go_wp2_with fail
  generalize ((w.alloc (.cells #[.string ⟨a0_0.toArray⟩, .bool a0_1, .bool a0_2, .slice ra3 a0_3.length rc3, .int .i64 a0_4, .slice ra5 a1.length rc5] 36)).alloc (.cells #[.string ⟨#[]⟩, .bool false, .bool false, .slice none 0 0, .int .i64 0, .slice none 0 0] 44)).alloc (.cells #[.string ⟨#[]⟩, .bool false, .bool false, .slice none 0 0, .int .i64 0, .slice none 0 0] 44) = X1 at *
  refine (toCore_d _ (⟨a0_0, a0_1, a0_2, a0_3, a0_4⟩ : CoreD) _ ⟨_, rfl, _, rfl, (H3.out.below (good_flat cCell_len) HB.out (Nat.le_refl _))⟩ (by simp only [zCore]; have := HM.out; omega)).mono ?_
  rintro e w1 ⟨_, rfl, ⟨u3, rfl, hr3⟩, hb⟩
  have hX : w.heap.size + 3 ≤ X1.heap.size := by have := BC.out.lt; omega
  simp only at hr3
  have R3 := Lib.hid (hr3.mono (good_flat cCell_len) hX)
  obtain ⟨p3, q3, rfl, _⟩ := sliceAt_len hr3
  clear hr3
  have BA := Lib.hid (BA.out.below hb)
  have BB := Lib.hid (BB.out.below hb)
  have BC := Lib.hid (BC.out.below hb)
  have HB := Lib.hid (belS (w := w) HB.out hb)
  clear hb hX
  have eA0 := BA.out.cell 0 (by simp)
  have eA1 := BA.out.cell 1 (by simp)
  have eA2 := BA.out.cell 2 (by simp)
  have eA3 := BA.out.cell 3 (by simp)
  have eA4 := BA.out.cell 4 (by simp)
  have eA5 := BA.out.cell 5 (by simp)
  simp only [List.getElem_cons_zero, List.getElem_cons_succ, List.set_cons_zero, List.set_cons_succ] at eA0 eA1 eA2 eA3 eA4 eA5
  have eC0 := BC.out.cell 0 (by simp)
  have fC0 := BC.out.froz 0 (by simp)
  have eC1 := BC.out.cell 1 (by simp)
  have fC1 := BC.out.froz 1 (by simp)
  have eC2 := BC.out.cell 2 (by simp)
  have fC2 := BC.out.froz 2 (by simp)
  have eC3 := BC.out.cell 3 (by simp)
  have fC3 := BC.out.froz 3 (by simp)
  have eC4 := BC.out.cell 4 (by simp)
  have fC4 := BC.out.froz 4 (by simp)
  have eC5 := BC.out.cell 5 (by simp)
  have fC5 := BC.out.froz 5 (by simp)
  simp only [List.getElem_cons_zero, List.getElem_cons_succ, List.set_cons_zero, List.set_cons_succ] at eC0 eC1 eC2 eC3 eC4 eC5
  go_wp2_with fail
  clear eA0 eA1 eA2 eA3 eA4 eA5
  clear eC0 fC0 eC1 fC1 eC2 fC2 eC3 fC3 eC4 fC4 eC5 fC5
  have BC := Lib.hid (BC.out.set 0 (by simp) (.string ⟨a0_0.toArray⟩))
  have BA := Lib.hid (BA.out.other (c := w.heap.size + 1 + 1) (by omega) 0 (.string ⟨a0_0.toArray⟩))
  have BB := Lib.hid (BB.out.other (c := w.heap.size + 1 + 1) (by omega) 0 (.string ⟨a0_0.toArray⟩))
  have HB := Lib.hid (HB.out.setCell (p := ⟨w.heap.size + 1 + 1, 0, none⟩) (by simp; try omega) (.string ⟨a0_0.toArray⟩))
  have BC := Lib.hid (BC.out.set 1 (by simp) (.bool a0_1))
  have BA := Lib.hid (BA.out.other (c := w.heap.size + 1 + 1) (by omega) 1 (.bool a0_1))
  have BB := Lib.hid (BB.out.other (c := w.heap.size + 1 + 1) (by omega) 1 (.bool a0_1))
  have HB := Lib.hid (HB.out.setCell (p := ⟨w.heap.size + 1 + 1, 1, none⟩) (by simp; try omega) (.bool a0_1))
  have BC := Lib.hid (BC.out.set 2 (by simp) (.bool a0_2))
  have BA := Lib.hid (BA.out.other (c := w.heap.size + 1 + 1) (by omega) 2 (.bool a0_2))
  have BB := Lib.hid (BB.out.other (c := w.heap.size + 1 + 1) (by omega) 2 (.bool a0_2))
  have HB := Lib.hid (HB.out.setCell (p := ⟨w.heap.size + 1 + 1, 2, none⟩) (by simp; try omega) (.bool a0_2))
  have BC := Lib.hid (BC.out.set 3 (by simp) (.slice p3 a0_3.length q3))
  have BA := Lib.hid (BA.out.other (c := w.heap.size + 1 + 1) (by omega) 3 (.slice p3 a0_3.length q3))
  have BB := Lib.hid (BB.out.other (c := w.heap.size + 1 + 1) (by omega) 3 (.slice p3 a0_3.length q3))
  have HB := Lib.hid (HB.out.setCell (p := ⟨w.heap.size + 1 + 1, 3, none⟩) (by simp; try omega) (.slice p3 a0_3.length q3))
  have BC := Lib.hid (BC.out.set 4 (by simp) (.int .i64 a0_4))
  have BA := Lib.hid (BA.out.other (c := w.heap.size + 1 + 1) (by omega) 4 (.int .i64 a0_4))
  have BB := Lib.hid (BB.out.other (c := w.heap.size + 1 + 1) (by omega) 4 (.int .i64 a0_4))
  have HB := Lib.hid (HB.out.setCell (p := ⟨w.heap.size + 1 + 1, 4, none⟩) (by simp; try omega) (.int .i64 a0_4))
  have R3 := Lib.hid (R3.out.keep (good_flat cCell_len) ((((((Kept.refl _ _).setCell (p := ⟨w.heap.size + 1 + 1, 0, none⟩) (by simp) (.string ⟨a0_0.toArray⟩)).setCell (p := ⟨w.heap.size + 1 + 1, 1, none⟩) (by simp) (.bool a0_1)).setCell (p := ⟨w.heap.size + 1 + 1, 2, none⟩) (by simp) (.bool a0_2)).setCell (p := ⟨w.heap.size + 1 + 1, 3, none⟩) (by simp) (.slice p3 a0_3.length q3)).setCell (p := ⟨w.heap.size + 1 + 1, 4, none⟩) (by simp) (.int .i64 a0_4)))
  simp only [List.set_cons_zero, List.set_cons_succ] at BC
  generalize (((((w1).setCell ⟨w.heap.size + 1 + 1, 0, none⟩ (.string ⟨a0_0.toArray⟩)).setCell ⟨w.heap.size + 1 + 1, 1, none⟩ (.bool a0_1)).setCell ⟨w.heap.size + 1 + 1, 2, none⟩ (.bool a0_2)).setCell ⟨w.heap.size + 1 + 1, 3, none⟩ (.slice p3 a0_3.length q3)).setCell ⟨w.heap.size + 1 + 1, 4, none⟩ (.int .i64 a0_4) = X2 at *
  refine (toLayerS_d _ a1 _ (H5.out.below (good_flat cLayer_len) HB.out (Nat.le_refl _)) (by have := HM.out; omega)).mono ?_
  rintro e w2 ⟨u5, rfl, hr5, hb⟩
  have hX : w.heap.size + 3 ≤ X2.heap.size := by have := BC.out.lt; omega
  have R3 := Lib.hid (R3.out.keep (good_flat cCell_len) (kept_below hb (Nat.le_refl _)))
  have R5 := Lib.hid (hr5.mono (good_flat cLayer_len) hX)
  obtain ⟨p5, q5, rfl, _⟩ := sliceAt_len hr5
  clear hr5
  have BA := Lib.hid (BA.out.below hb)
  have BB := Lib.hid (BB.out.below hb)
  have BC := Lib.hid (BC.out.below hb)
  have HB := Lib.hid (belS (w := w) HB.out hb)
  clear hb hX
  have eA0 := BA.out.cell 0 (by simp)
  have eA1 := BA.out.cell 1 (by simp)
  have eA2 := BA.out.cell 2 (by simp)
  have eA3 := BA.out.cell 3 (by simp)
  have eA4 := BA.out.cell 4 (by simp)
  have eA5 := BA.out.cell 5 (by simp)
  simp only [List.getElem_cons_zero, List.getElem_cons_succ, List.set_cons_zero, List.set_cons_succ] at eA0 eA1 eA2 eA3 eA4 eA5
  have eC0 := BC.out.cell 0 (by simp)
  have fC0 := BC.out.froz 0 (by simp)
  have eC1 := BC.out.cell 1 (by simp)
  have fC1 := BC.out.froz 1 (by simp)
  have eC2 := BC.out.cell 2 (by simp)
  have fC2 := BC.out.froz 2 (by simp)
  have eC3 := BC.out.cell 3 (by simp)
  have fC3 := BC.out.froz 3 (by simp)
  have eC4 := BC.out.cell 4 (by simp)
  have fC4 := BC.out.froz 4 (by simp)
  have eC5 := BC.out.cell 5 (by simp)
  have fC5 := BC.out.froz 5 (by simp)
  simp only [List.getElem_cons_zero, List.getElem_cons_succ, List.set_cons_zero, List.set_cons_succ] at eC0 eC1 eC2 eC3 eC4 eC5
  have eB0 := BB.out.cell 0 (by simp)
  have fB0 := BB.out.froz 0 (by simp)
  have eB1 := BB.out.cell 1 (by simp)
  have fB1 := BB.out.froz 1 (by simp)
  have eB2 := BB.out.cell 2 (by simp)
  have fB2 := BB.out.froz 2 (by simp)
  have eB3 := BB.out.cell 3 (by simp)
  have fB3 := BB.out.froz 3 (by simp)
  have eB4 := BB.out.cell 4 (by simp)
  have fB4 := BB.out.froz 4 (by simp)
  have eB5 := BB.out.cell 5 (by simp)
  have fB5 := BB.out.froz 5 (by simp)
  simp only [List.getElem_cons_zero, List.getElem_cons_succ, List.set_cons_zero, List.set_cons_succ] at eB0 eB1 eB2 eB3 eB4 eB5
  go_wp2_with fail
  clear eA0 eA1 eA2 eA3 eA4 eA5
  clear eC0 fC0 eC1 fC1 eC2 fC2 eC3 fC3 eC4 fC4 eC5 fC5
  clear eB0 fB0 eB1 fB1 eB2 fB2 eB3 fB3 eB4 fB4 eB5 fB5
  have BC := Lib.hid (BC.out.set 5 (by simp) (.slice p5 a1.length q5))
  have BA := Lib.hid (BA.out.other (c := w.heap.size + 1 + 1) (by omega) 5 (.slice p5 a1.length q5))
  have BB := Lib.hid (BB.out.other (c := w.heap.size + 1 + 1) (by omega) 5 (.slice p5 a1.length q5))
  have HB := Lib.hid (HB.out.setCell (p := ⟨w.heap.size + 1 + 1, 5, none⟩) (by simp; try omega) (.slice p5 a1.length q5))
  have R3 := Lib.hid (R3.out.keep (good_flat cCell_len) ((Kept.refl _ _).setCell (p := ⟨w.heap.size + 1 + 1, 5, none⟩) (by simp) (.slice p5 a1.length q5)))
  have R5 := Lib.hid (R5.out.keep (good_flat cLayer_len) ((Kept.refl _ _).setCell (p := ⟨w.heap.size + 1 + 1, 5, none⟩) (by simp) (.slice p5 a1.length q5)))
  simp only [List.set_cons_zero, List.set_cons_succ] at BC
  have BB := Lib.hid (BB.out.set 0 (by simp) (.string ⟨a0_0.toArray⟩))
  have HB := Lib.hid (HB.out.setCell (p := ⟨w.heap.size + 1, 0, none⟩) (by simp; try omega) (.string ⟨a0_0.toArray⟩))
  have BB := Lib.hid (BB.out.set 1 (by simp) (.bool a0_1))
  have HB := Lib.hid (HB.out.setCell (p := ⟨w.heap.size + 1, 1, none⟩) (by simp; try omega) (.bool a0_1))
  have BB := Lib.hid (BB.out.set 2 (by simp) (.bool a0_2))
  have HB := Lib.hid (HB.out.setCell (p := ⟨w.heap.size + 1, 2, none⟩) (by simp; try omega) (.bool a0_2))
  have BB := Lib.hid (BB.out.set 3 (by simp) (.slice p3 a0_3.length q3))
  have HB := Lib.hid (HB.out.setCell (p := ⟨w.heap.size + 1, 3, none⟩) (by simp; try omega) (.slice p3 a0_3.length q3))
  have BB := Lib.hid (BB.out.set 4 (by simp) (.int .i64 a0_4))
  have HB := Lib.hid (HB.out.setCell (p := ⟨w.heap.size + 1, 4, none⟩) (by simp; try omega) (.int .i64 a0_4))
  have BB := Lib.hid (BB.out.set 5 (by simp) (.slice p5 a1.length q5))
  have HB := Lib.hid (HB.out.setCell (p := ⟨w.heap.size + 1, 5, none⟩) (by simp; try omega) (.slice p5 a1.length q5))
  have R3 := Lib.hid ((R3.out.keep (good_flat cCell_len) (((((((Kept.refl _ _).setCell (p := ⟨w.heap.size + 1, 0, none⟩) (by simp) (.string ⟨a0_0.toArray⟩)).setCell (p := ⟨w.heap.size + 1, 1, none⟩) (by simp) (.bool a0_1)).setCell (p := ⟨w.heap.size + 1, 2, none⟩) (by simp) (.bool a0_2)).setCell (p := ⟨w.heap.size + 1, 3, none⟩) (by simp) (.slice p3 a0_3.length q3)).setCell (p := ⟨w.heap.size + 1, 4, none⟩) (by simp) (.int .i64 a0_4)).setCell (p := ⟨w.heap.size + 1, 5, none⟩) (by simp) (.slice p5 a1.length q5))).mono (good_flat cCell_len) (show w.heap.size ≤ w.heap.size + 3 by omega))
  have R5 := Lib.hid ((R5.out.keep (good_flat cLayer_len) (((((((Kept.refl _ _).setCell (p := ⟨w.heap.size + 1, 0, none⟩) (by simp) (.string ⟨a0_0.toArray⟩)).setCell (p := ⟨w.heap.size + 1, 1, none⟩) (by simp) (.bool a0_1)).setCell (p := ⟨w.heap.size + 1, 2, none⟩) (by simp) (.bool a0_2)).setCell (p := ⟨w.heap.size + 1, 3, none⟩) (by simp) (.slice p3 a0_3.length q3)).setCell (p := ⟨w.heap.size + 1, 4, none⟩) (by simp) (.int .i64 a0_4)).setCell (p := ⟨w.heap.size + 1, 5, none⟩) (by simp) (.slice p5 a1.length q5))).mono (good_flat cLayer_len) (show w.heap.size ≤ w.heap.size + 3 by omega))
  simp only [List.set_cons_zero, List.set_cons_succ] at BB
  generalize (((((((w2).setCell ⟨w.heap.size + 1 + 1, 5, none⟩ (.slice p5 a1.length q5)).setCell ⟨w.heap.size + 1, 0, none⟩ (.string ⟨a0_0.toArray⟩)).setCell ⟨w.heap.size + 1, 1, none⟩ (.bool a0_1)).setCell ⟨w.heap.size + 1, 2, none⟩ (.bool a0_2)).setCell ⟨w.heap.size + 1, 3, none⟩ (.slice p3 a0_3.length q3)).setCell ⟨w.heap.size + 1, 4, none⟩ (.int .i64 a0_4)).setCell ⟨w.heap.size + 1, 5, none⟩ (.slice p5 a1.length q5) = WE at *
  have eB0 := BB.out.cell 0 (by simp)
  have eB1 := BB.out.cell 1 (by simp)
  have eB2 := BB.out.cell 2 (by simp)
  have eB3 := BB.out.cell 3 (by simp)
  have eB4 := BB.out.cell 4 (by simp)
  have eB5 := BB.out.cell 5 (by simp)
  simp only [List.getElem_cons_zero, List.getElem_cons_succ, List.set_cons_zero, List.set_cons_succ] at eB0 eB1 eB2 eB3 eB4 eB5
  exact bodyPost_ret (v := .agg #[.string ⟨a0_0.toArray⟩, .bool a0_1, .bool a0_2, .slice p3 a0_3.length q3, .int .i64 a0_4, .slice p5 a1.length q5]) (by simp [results, Try.results27, go_sem, eB0, eB1, eB2, eB3, eB4, eB5]) rfl ⟨_, rfl, ⟨_, _, rfl, R3.out, R5.out⟩, HB.out⟩
set_option maxRecDepth 100000 in
set_option maxHeartbeats 1600000 in
theorem szPart_d (v : Value) (x : PartD) (left : Int) (w : World) (hx : ValAt rPart 0 w v x) (hk : okPart x) (h0 : 0 ≤ left) (h1 : left ≤ 1099511627776) : Calls Try.prog 21 #[v, .int .i64 left] w fun e w' => SzF (zPart x) left w e w' := by
  obtain ⟨_, rfl, hx⟩ := hx
  obtain ⟨⟨a0_0, a0_1, a0_2, a0_3, a0_4⟩, a1⟩ := x
  obtain ⟨v3, v5, rfl, hr3, hr5⟩ := hx
  simp only at hr3 hr5
  unfold okPart at hk
  simp only at hk
  simp only [zPart, zCore]
  have HK := Lib.hid hk
  obtain ⟨ra3, rc3, rfl, _⟩ := sliceAt_len hr3
  obtain ⟨ra5, rc5, rfl, _⟩ := sliceAt_len hr5
  have H3 := Lib.hid hr3
  have H5 := Lib.hid hr5
  clear hk hr3 hr5
  have HS := Lib.hid (bx_start1 w [.string ⟨a0_0.toArray⟩, .bool a0_1, .bool a0_2, .slice ra3 a0_3.length rc3, .int .i64 a0_4, .slice ra5 a1.length rc5] 36)
  have BA := Lib.hid HS.out.1
  have HB := Lib.hid HS.out.2
  clear HS
  go_enter Try.func21, Try.ntmps21
  go_wp2_with fail
  generalize w.alloc (.cells #[.string ⟨a0_0.toArray⟩, .bool a0_1, .bool a0_2, .slice ra3 a0_3.length rc3, .int .i64 a0_4, .slice ra5 a1.length rc5] 36) = X1 at *
  refine (szCore_d _ (⟨a0_0, a0_1, a0_2, a0_3, a0_4⟩ : CoreD) _ _ ⟨_, rfl, _, rfl, (H3.out.below (good_flat cCell_len) HB.out (Nat.le_refl _))⟩ HK.out.1 (by omega) (by omega)).mono ?_
  rintro e w1 ⟨r0, rfl, hra0, hrb0, hb⟩
  have HR0 := Lib.hid hrb0
  have HB := Lib.hid (belS (w := w) HB.out hb)
  have BA := Lib.hid (BA.out.below hb)
  clear hb hrb0
  have eA0 := BA.out.cell 0 (by simp)
  have eA1 := BA.out.cell 1 (by simp)
  have eA2 := BA.out.cell 2 (by simp)
  have eA3 := BA.out.cell 3 (by simp)
  have eA4 := BA.out.cell 4 (by simp)
  have eA5 := BA.out.cell 5 (by simp)
  simp only [List.getElem_cons_zero, List.getElem_cons_succ, List.set_cons_zero, List.set_cons_succ] at eA0 eA1 eA2 eA3 eA4 eA5
  by_cases hn0 : r0 < 0
  · go_wp2_with fail
    go_ret
    exact ⟨-1, rfl, by omega, by omega, HB.out⟩
  · have hs0 := HR0.out (by omega)
    simp only [zCore] at hs0
    go_wp2_with fail
    clear eA0 eA1 eA2 eA3 eA4 eA5
    refine (szLayerS_d _ a1 _ _ (H5.out.below (good_flat cLayer_len) HB.out (Nat.le_refl _)) HK.out.2 (by omega) (by omega)).mono ?_
    rintro e w2 ⟨r1, rfl, hra1, hrb1, hb⟩
    have HR1 := Lib.hid hrb1
    have HB := Lib.hid (belS (w := w) HB.out hb)
    have BA := Lib.hid (BA.out.below hb)
    clear hb hrb1
    have eA0 := BA.out.cell 0 (by simp)
    have eA1 := BA.out.cell 1 (by simp)
    have eA2 := BA.out.cell 2 (by simp)
    have eA3 := BA.out.cell 3 (by simp)
    have eA4 := BA.out.cell 4 (by simp)
    have eA5 := BA.out.cell 5 (by simp)
    simp only [List.getElem_cons_zero, List.getElem_cons_succ, List.set_cons_zero, List.set_cons_succ] at eA0 eA1 eA2 eA3 eA4 eA5
    by_cases hn1 : r1 < 0
    · go_wp2_with fail
      go_ret
      exact ⟨-1, rfl, by omega, by omega, HB.out⟩
    · have hs1 := HR1.out (by omega)
      go_wp2_with fail
      go_ret
      exact ⟨_, rfl, by omega, by intro _; push_cast; omega, HB.out⟩
set_option maxRecDepth 100000 in
set_option maxHeartbeats 1600000 in
theorem eqPart_d (v u : Value) (x y : PartD) (w : World) (hx : ValAt rPart 0 w v x) (hy : ValAt rPart 0 w u y) : Calls Try.prog 31 #[v, u] w fun e w' => e = .returned (.bool (decide (x = y))) ∧ Below w.heap.size w w' := by
  have HQ := Lib.hid (show decide (x = y) = (decide (x.fCore = y.fCore) && decide (x.fLayers = y.fLayers)) by rw [Bool.eq_iff_iff]; cases x; cases y; simp [and_assoc])
  obtain ⟨_, rfl, hx⟩ := hx
  obtain ⟨⟨a0_0, a0_1, a0_2, a0_3, a0_4⟩, a1⟩ := x
  obtain ⟨v3, v5, rfl, hv3, hv5⟩ := hx
  simp only at hv3 hv5
  obtain ⟨_, rfl, hy⟩ := hy
  obtain ⟨⟨b0_0, b0_1, b0_2, b0_3, b0_4⟩, b1⟩ := y
  obtain ⟨u3, u5, rfl, hu3, hu5⟩ := hy
  simp only at hu3 hu5
  simp only at HQ
  obtain ⟨ra3, rc3, rfl, _⟩ := sliceAt_len hv3
  obtain ⟨ra5, rc5, rfl, _⟩ := sliceAt_len hv5
  obtain ⟨sa3, sc3, rfl, _⟩ := sliceAt_len hu3
  obtain ⟨sa5, sc5, rfl, _⟩ := sliceAt_len hu5
  have HV3 := Lib.hid hv3
  have HU3 := Lib.hid hu3
  have HV5 := Lib.hid hv5
  have HU5 := Lib.hid hu5
  clear hv3 hu3 hv5 hu5
  have HC0 := Lib.hid (fun w0 (hw : Below w.heap.size w w0) => eqCore_d _ _ (⟨a0_0, a0_1, a0_2, a0_3, a0_4⟩ : CoreD) (⟨b0_0, b0_1, b0_2, b0_3, b0_4⟩ : CoreD) w0 ⟨_, rfl, _, rfl, HV3.out.below (good_flat cCell_len) hw (Nat.le_refl _)⟩ ⟨_, rfl, _, rfl, HU3.out.below (good_flat cCell_len) hw (Nat.le_refl _)⟩)
  generalize decide ((⟨a0_0, a0_1, a0_2, a0_3, a0_4⟩ : CoreD) = (⟨b0_0, b0_1, b0_2, b0_3, b0_4⟩ : CoreD)) = p0 at *
  have HC1 := Lib.hid (fun w0 (hw : Below w.heap.size w w0) => eqLayerS_d _ _ a1 b1 w0 (HV5.out.below (good_flat cLayer_len) hw (Nat.le_refl _)) (HU5.out.below (good_flat cLayer_len) hw (Nat.le_refl _)))
  generalize decide (a1 = b1) = p1 at *
  generalize hq : decide ((⟨⟨a0_0, a0_1, a0_2, a0_3, a0_4⟩, a1⟩ : PartD) = (⟨⟨b0_0, b0_1, b0_2, b0_3, b0_4⟩, b1⟩ : PartD)) = q at *
  clear hq
  have HS := Lib.hid (bx_start2 w [.string ⟨a0_0.toArray⟩, .bool a0_1, .bool a0_2, .slice ra3 a0_3.length rc3, .int .i64 a0_4, .slice ra5 a1.length rc5] [.string ⟨b0_0.toArray⟩, .bool b0_1, .bool b0_2, .slice sa3 b0_3.length sc3, .int .i64 b0_4, .slice sa5 b1.length sc5] 44 44)
  cases p0 with
  | true =>
    cases p1 with
    | true =>
      have HF := Lib.hid (show q = true from by rw [HQ.out]; simp)
      go_enter Try.func31, Try.ntmps31
      have BA := Lib.hid HS.out.1
      have BB := Lib.hid HS.out.2.1
      have HB := Lib.hid HS.out.2.2
      go_wp2_with fail
      refine (HC0.out _ HB.out).mono ?_
      rintro e w1 ⟨rfl, hb⟩
      have HB := Lib.hid (belS (w := w) HB.out hb)
      have BA := Lib.hid (BA.out.below hb)
      have BB := Lib.hid (BB.out.below hb)
      clear hb
      have eA0 := BA.out.cell 0 (by simp)
      have eB0 := BB.out.cell 0 (by simp)
      have eA1 := BA.out.cell 1 (by simp)
      have eB1 := BB.out.cell 1 (by simp)
      have eA2 := BA.out.cell 2 (by simp)
      have eB2 := BB.out.cell 2 (by simp)
      have eA3 := BA.out.cell 3 (by simp)
      have eB3 := BB.out.cell 3 (by simp)
      have eA4 := BA.out.cell 4 (by simp)
      have eB4 := BB.out.cell 4 (by simp)
      have eA5 := BA.out.cell 5 (by simp)
      have eB5 := BB.out.cell 5 (by simp)
      simp only [List.getElem_cons_zero, List.getElem_cons_succ, List.set_cons_zero, List.set_cons_succ] at eA0 eB0 eA1 eB1 eA2 eB2 eA3 eB3 eA4 eB4 eA5 eB5
      go_wp2_with fail
      clear eA0 eB0 eA1 eB1 eA2 eB2 eA3 eB3 eA4 eB4 eA5 eB5
      refine (HC1.out _ HB.out).mono ?_
      rintro e w2 ⟨rfl, hb⟩
      have HB := Lib.hid (belS (w := w) HB.out hb)
      have BA := Lib.hid (BA.out.below hb)
      have BB := Lib.hid (BB.out.below hb)
      clear hb
      have eA0 := BA.out.cell 0 (by simp)
      have eB0 := BB.out.cell 0 (by simp)
      have eA1 := BA.out.cell 1 (by simp)
      have eB1 := BB.out.cell 1 (by simp)
      have eA2 := BA.out.cell 2 (by simp)
      have eB2 := BB.out.cell 2 (by simp)
      have eA3 := BA.out.cell 3 (by simp)
      have eB3 := BB.out.cell 3 (by simp)
      have eA4 := BA.out.cell 4 (by simp)
      have eB4 := BB.out.cell 4 (by simp)
      have eA5 := BA.out.cell 5 (by simp)
      have eB5 := BB.out.cell 5 (by simp)
      simp only [List.getElem_cons_zero, List.getElem_cons_succ, List.set_cons_zero, List.set_cons_succ] at eA0 eB0 eA1 eB1 eA2 eB2 eA3 eB3 eA4 eB4 eA5 eB5
      go_wp2_with fail
      go_ret
      exact ⟨ret_bool HF.out.symm, HB.out⟩
    | false =>
      have HF := Lib.hid (show q = false from by rw [HQ.out]; simp)
      go_enter Try.func31, Try.ntmps31
      have BA := Lib.hid HS.out.1
      have BB := Lib.hid HS.out.2.1
      have HB := Lib.hid HS.out.2.2
      go_wp2_with fail
      refine (HC0.out _ HB.out).mono ?_
      rintro e w1 ⟨rfl, hb⟩
      have HB := Lib.hid (belS (w := w) HB.out hb)
      have BA := Lib.hid (BA.out.below hb)
      have BB := Lib.hid (BB.out.below hb)
      clear hb
      have eA0 := BA.out.cell 0 (by simp)
      have eB0 := BB.out.cell 0 (by simp)
      have eA1 := BA.out.cell 1 (by simp)
      have eB1 := BB.out.cell 1 (by simp)
      have eA2 := BA.out.cell 2 (by simp)
      have eB2 := BB.out.cell 2 (by simp)
      have eA3 := BA.out.cell 3 (by simp)
      have eB3 := BB.out.cell 3 (by simp)
      have eA4 := BA.out.cell 4 (by simp)
      have eB4 := BB.out.cell 4 (by simp)
      have eA5 := BA.out.cell 5 (by simp)
      have eB5 := BB.out.cell 5 (by simp)
      simp only [List.getElem_cons_zero, List.getElem_cons_succ, List.set_cons_zero, List.set_cons_succ] at eA0 eB0 eA1 eB1 eA2 eB2 eA3 eB3 eA4 eB4 eA5 eB5
      go_wp2_with fail
      clear eA0 eB0 eA1 eB1 eA2 eB2 eA3 eB3 eA4 eB4 eA5 eB5
      refine (HC1.out _ HB.out).mono ?_
      rintro e w2 ⟨rfl, hb⟩
      have HB := Lib.hid (belS (w := w) HB.out hb)
      have BA := Lib.hid (BA.out.below hb)
      have BB := Lib.hid (BB.out.below hb)
      clear hb
      have eA0 := BA.out.cell 0 (by simp)
      have eB0 := BB.out.cell 0 (by simp)
      have eA1 := BA.out.cell 1 (by simp)
      have eB1 := BB.out.cell 1 (by simp)
      have eA2 := BA.out.cell 2 (by simp)
      have eB2 := BB.out.cell 2 (by simp)
      have eA3 := BA.out.cell 3 (by simp)
      have eB3 := BB.out.cell 3 (by simp)
      have eA4 := BA.out.cell 4 (by simp)
      have eB4 := BB.out.cell 4 (by simp)
      have eA5 := BA.out.cell 5 (by simp)
      have eB5 := BB.out.cell 5 (by simp)
      simp only [List.getElem_cons_zero, List.getElem_cons_succ, List.set_cons_zero, List.set_cons_succ] at eA0 eB0 eA1 eB1 eA2 eB2 eA3 eB3 eA4 eB4 eA5 eB5
      go_wp2_with fail
      go_ret
      exact ⟨ret_bool HF.out.symm, HB.out⟩
  | false =>
    have HF := Lib.hid (show q = false from by rw [HQ.out]; simp)
    go_enter Try.func31, Try.ntmps31
    have BA := Lib.hid HS.out.1
    have BB := Lib.hid HS.out.2.1
    have HB := Lib.hid HS.out.2.2
    go_wp2_with fail
    refine (HC0.out _ HB.out).mono ?_
    rintro e w1 ⟨rfl, hb⟩
    have HB := Lib.hid (belS (w := w) HB.out hb)
    have BA := Lib.hid (BA.out.below hb)
    have BB := Lib.hid (BB.out.below hb)
    clear hb
    have eA0 := BA.out.cell 0 (by simp)
    have eB0 := BB.out.cell 0 (by simp)
    have eA1 := BA.out.cell 1 (by simp)
    have eB1 := BB.out.cell 1 (by simp)
    have eA2 := BA.out.cell 2 (by simp)
    have eB2 := BB.out.cell 2 (by simp)
    have eA3 := BA.out.cell 3 (by simp)
    have eB3 := BB.out.cell 3 (by simp)
    have eA4 := BA.out.cell 4 (by simp)
    have eB4 := BB.out.cell 4 (by simp)
    have eA5 := BA.out.cell 5 (by simp)
    have eB5 := BB.out.cell 5 (by simp)
    simp only [List.getElem_cons_zero, List.getElem_cons_succ, List.set_cons_zero, List.set_cons_succ] at eA0 eB0 eA1 eB1 eA2 eB2 eA3 eB3 eA4 eB4 eA5 eB5
    go_wp2_with fail
    go_ret
    exact ⟨ret_bool HF.out.symm, HB.out⟩
end Go.Proofs.Ytlkpinlkbikokae
/- Slot: how it reads, and what the laws' own helpers do with it. Written by gen/deep.py. -/
namespace Go.Proofs.Ytlkpinlkbikokae
set_option linter.unusedVariables false
set_option linter.unusedSimpArgs false
open Go.RowKit
structure SlotD where
  fFull : Bool
  fPart : PartD
deriving DecidableEq
def okSlot (x : SlotD) : Prop := (True) ∧ (okPart x.fPart)
def rSlot : Nat → World → List Value → SlotD → Prop := fun F w cs x => ∃ v4 v6, cs = [.bool x.fFull, .string ⟨x.fPart.fCore.fKind.toArray⟩, .bool x.fPart.fCore.fOn, .bool x.fPart.fCore.fBroken, v4, .int .i64 x.fPart.fCore.fCount, v6] ∧ SliceAt (rFlat cCell) 2 F w v4 x.fPart.fCore.fCells ∧ SliceAt (rFlat cLayer) 2 F w v6 x.fPart.fLayers
theorem goodSlot : Good rSlot 7 := by
  refine ⟨?_, ?_, ?_⟩
  · rintro F w cs x ⟨v4, v6, rfl, h4, h6⟩; rfl
  · rintro F w w' cs x ⟨v4, v6, rfl, h4, h6⟩ hk; exact ⟨v4, v6, rfl, h4.keep (good_flat cCell_len) hk, h6.keep (good_flat cLayer_len) hk⟩
  · rintro F F' w cs x ⟨v4, v6, rfl, h4, h6⟩ hF; exact ⟨v4, v6, rfl, h4.mono (good_flat cCell_len) hF, h6.mono (good_flat cLayer_len) hF⟩
def zSlot (x : SlotD) : Nat := zPart x.fPart
set_option maxRecDepth 100000 in
set_option maxHeartbeats 1600000 in
theorem toSlot_d (v : Value) (x : SlotD) (w : World) (hx : ValAt rSlot 0 w v x) (hm : zSlot x ≤ 2097152) : Calls Try.prog 15 #[v] w fun e w' => GivesV rSlot x w e w' := by
  obtain ⟨_, rfl, hx⟩ := hx
  obtain ⟨a0, ⟨⟨a1_0_0, a1_0_1, a1_0_2, a1_0_3, a1_0_4⟩, a1_1⟩⟩ := x
  obtain ⟨v4, v6, rfl, h4, h6⟩ := hx
  simp only at h4 h6
  simp only [zSlot, zPart, zCore] at hm
  have HM := Lib.hid hm
  obtain ⟨ra4, rc4, rfl, _⟩ := sliceAt_len h4
  obtain ⟨ra6, rc6, rfl, _⟩ := sliceAt_len h6
  have H4 := Lib.hid h4
  have H6 := Lib.hid h6
  clear hm h4 h6
  have HS := Lib.hid (bx_start3 w [.bool a0, .string ⟨a1_0_0.toArray⟩, .bool a1_0_1, .bool a1_0_2, .slice ra4 a1_0_3.length rc4, .int .i64 a1_0_4, .slice ra6 a1_1.length rc6] [.bool false, .string ⟨#[]⟩, .bool false, .bool false, .slice none 0 0, .int .i64 0, .slice none 0 0] [.bool a0, .string ⟨#[]⟩, .bool false, .bool false, .slice none 0 0, .int .i64 0, .slice none 0 0] 38 46 46)
  have BA := Lib.hid HS.out.1
  have BB := Lib.hid HS.out.2.1
  have BC := Lib.hid HS.out.2.2.1
  have HB := Lib.hid HS.out.2.2.2
  clear HS
  go_enter Try.func15, Try.ntmps15
  go_wp2_with fail
  generalize ((w.alloc (.cells #[.bool a0, .string ⟨a1_0_0.toArray⟩, .bool a1_0_1, .bool a1_0_2, .slice ra4 a1_0_3.length rc4, .int .i64 a1_0_4, .slice ra6 a1_1.length rc6] 38)).alloc (.cells #[.bool false, .string ⟨#[]⟩, .bool false, .bool false, .slice none 0 0, .int .i64 0, .slice none 0 0] 46)).alloc (.cells #[.bool a0, .string ⟨#[]⟩, .bool false, .bool false, .slice none 0 0, .int .i64 0, .slice none 0 0] 46) = X1 at *
  refine (toPart_d _ (⟨⟨a1_0_0, a1_0_1, a1_0_2, a1_0_3, a1_0_4⟩, a1_1⟩ : PartD) _ ⟨_, rfl, _, _, rfl, (H4.out.below (good_flat cCell_len) HB.out (Nat.le_refl _)), (H6.out.below (good_flat cLayer_len) HB.out (Nat.le_refl _))⟩ (by simp only [zPart, zCore]; have := HM.out; omega)).mono ?_
  rintro e w1 ⟨_, rfl, ⟨u4, u6, rfl, hr4, hr6⟩, hb⟩
  have hX : w.heap.size + 3 ≤ X1.heap.size := by have := BC.out.lt; omega
  simp only at hr4
  have R4 := Lib.hid (hr4.mono (good_flat cCell_len) hX)
  obtain ⟨p4, q4, rfl, _⟩ := sliceAt_len hr4
  clear hr4
  simp only at hr6
  have R6 := Lib.hid (hr6.mono (good_flat cLayer_len) hX)
  obtain ⟨p6, q6, rfl, _⟩ := sliceAt_len hr6
  clear hr6
  have BA := Lib.hid (BA.out.below hb)
  have BB := Lib.hid (BB.out.below hb)
  have BC := Lib.hid (BC.out.below hb)
  have HB := Lib.hid (belS (w := w) HB.out hb)
  clear hb hX
  have eA0 := BA.out.cell 0 (by simp)
  have eA1 := BA.out.cell 1 (by simp)
  have eA2 := BA.out.cell 2 (by simp)
  have eA3 := BA.out.cell 3 (by simp)
  have eA4 := BA.out.cell 4 (by simp)
  have eA5 := BA.out.cell 5 (by simp)
  have eA6 := BA.out.cell 6 (by simp)
  simp only [List.getElem_cons_zero, List.getElem_cons_succ, List.set_cons_zero, List.set_cons_succ] at eA0 eA1 eA2 eA3 eA4 eA5 eA6
  have eC0 := BC.out.cell 0 (by simp)
  have fC0 := BC.out.froz 0 (by simp)
  have eC1 := BC.out.cell 1 (by simp)
  have fC1 := BC.out.froz 1 (by simp)
  have eC2 := BC.out.cell 2 (by simp)
  have fC2 := BC.out.froz 2 (by simp)
  have eC3 := BC.out.cell 3 (by simp)
  have fC3 := BC.out.froz 3 (by simp)
  have eC4 := BC.out.cell 4 (by simp)
  have fC4 := BC.out.froz 4 (by simp)
  have eC5 := BC.out.cell 5 (by simp)
  have fC5 := BC.out.froz 5 (by simp)
  have eC6 := BC.out.cell 6 (by simp)
  have fC6 := BC.out.froz 6 (by simp)
  simp only [List.getElem_cons_zero, List.getElem_cons_succ, List.set_cons_zero, List.set_cons_succ] at eC0 eC1 eC2 eC3 eC4 eC5 eC6
  have eB0 := BB.out.cell 0 (by simp)
  have fB0 := BB.out.froz 0 (by simp)
  have eB1 := BB.out.cell 1 (by simp)
  have fB1 := BB.out.froz 1 (by simp)
  have eB2 := BB.out.cell 2 (by simp)
  have fB2 := BB.out.froz 2 (by simp)
  have eB3 := BB.out.cell 3 (by simp)
  have fB3 := BB.out.froz 3 (by simp)
  have eB4 := BB.out.cell 4 (by simp)
  have fB4 := BB.out.froz 4 (by simp)
  have eB5 := BB.out.cell 5 (by simp)
  have fB5 := BB.out.froz 5 (by simp)
  have eB6 := BB.out.cell 6 (by simp)
  have fB6 := BB.out.froz 6 (by simp)
  simp only [List.getElem_cons_zero, List.getElem_cons_succ, List.set_cons_zero, List.set_cons_succ] at eB0 eB1 eB2 eB3 eB4 eB5 eB6
  go_wp2_with fail
  clear eA0 eA1 eA2 eA3 eA4 eA5 eA6
  clear eC0 fC0 eC1 fC1 eC2 fC2 eC3 fC3 eC4 fC4 eC5 fC5 eC6 fC6
  clear eB0 fB0 eB1 fB1 eB2 fB2 eB3 fB3 eB4 fB4 eB5 fB5 eB6 fB6
  have BC := Lib.hid (BC.out.set 1 (by simp) (.string ⟨a1_0_0.toArray⟩))
  have BA := Lib.hid (BA.out.other (c := w.heap.size + 1 + 1) (by omega) 1 (.string ⟨a1_0_0.toArray⟩))
  have BB := Lib.hid (BB.out.other (c := w.heap.size + 1 + 1) (by omega) 1 (.string ⟨a1_0_0.toArray⟩))
  have HB := Lib.hid (HB.out.setCell (p := ⟨w.heap.size + 1 + 1, 1, none⟩) (by simp; try omega) (.string ⟨a1_0_0.toArray⟩))
  have BC := Lib.hid (BC.out.set 2 (by simp) (.bool a1_0_1))
  have BA := Lib.hid (BA.out.other (c := w.heap.size + 1 + 1) (by omega) 2 (.bool a1_0_1))
  have BB := Lib.hid (BB.out.other (c := w.heap.size + 1 + 1) (by omega) 2 (.bool a1_0_1))
  have HB := Lib.hid (HB.out.setCell (p := ⟨w.heap.size + 1 + 1, 2, none⟩) (by simp; try omega) (.bool a1_0_1))
  have BC := Lib.hid (BC.out.set 3 (by simp) (.bool a1_0_2))
  have BA := Lib.hid (BA.out.other (c := w.heap.size + 1 + 1) (by omega) 3 (.bool a1_0_2))
  have BB := Lib.hid (BB.out.other (c := w.heap.size + 1 + 1) (by omega) 3 (.bool a1_0_2))
  have HB := Lib.hid (HB.out.setCell (p := ⟨w.heap.size + 1 + 1, 3, none⟩) (by simp; try omega) (.bool a1_0_2))
  have BC := Lib.hid (BC.out.set 4 (by simp) (.slice p4 a1_0_3.length q4))
  have BA := Lib.hid (BA.out.other (c := w.heap.size + 1 + 1) (by omega) 4 (.slice p4 a1_0_3.length q4))
  have BB := Lib.hid (BB.out.other (c := w.heap.size + 1 + 1) (by omega) 4 (.slice p4 a1_0_3.length q4))
  have HB := Lib.hid (HB.out.setCell (p := ⟨w.heap.size + 1 + 1, 4, none⟩) (by simp; try omega) (.slice p4 a1_0_3.length q4))
  have BC := Lib.hid (BC.out.set 5 (by simp) (.int .i64 a1_0_4))
  have BA := Lib.hid (BA.out.other (c := w.heap.size + 1 + 1) (by omega) 5 (.int .i64 a1_0_4))
  have BB := Lib.hid (BB.out.other (c := w.heap.size + 1 + 1) (by omega) 5 (.int .i64 a1_0_4))
  have HB := Lib.hid (HB.out.setCell (p := ⟨w.heap.size + 1 + 1, 5, none⟩) (by simp; try omega) (.int .i64 a1_0_4))
  have BC := Lib.hid (BC.out.set 6 (by simp) (.slice p6 a1_1.length q6))
  have BA := Lib.hid (BA.out.other (c := w.heap.size + 1 + 1) (by omega) 6 (.slice p6 a1_1.length q6))
  have BB := Lib.hid (BB.out.other (c := w.heap.size + 1 + 1) (by omega) 6 (.slice p6 a1_1.length q6))
  have HB := Lib.hid (HB.out.setCell (p := ⟨w.heap.size + 1 + 1, 6, none⟩) (by simp; try omega) (.slice p6 a1_1.length q6))
  have R4 := Lib.hid (R4.out.keep (good_flat cCell_len) (((((((Kept.refl _ _).setCell (p := ⟨w.heap.size + 1 + 1, 1, none⟩) (by simp) (.string ⟨a1_0_0.toArray⟩)).setCell (p := ⟨w.heap.size + 1 + 1, 2, none⟩) (by simp) (.bool a1_0_1)).setCell (p := ⟨w.heap.size + 1 + 1, 3, none⟩) (by simp) (.bool a1_0_2)).setCell (p := ⟨w.heap.size + 1 + 1, 4, none⟩) (by simp) (.slice p4 a1_0_3.length q4)).setCell (p := ⟨w.heap.size + 1 + 1, 5, none⟩) (by simp) (.int .i64 a1_0_4)).setCell (p := ⟨w.heap.size + 1 + 1, 6, none⟩) (by simp) (.slice p6 a1_1.length q6)))
  have R6 := Lib.hid (R6.out.keep (good_flat cLayer_len) (((((((Kept.refl _ _).setCell (p := ⟨w.heap.size + 1 + 1, 1, none⟩) (by simp) (.string ⟨a1_0_0.toArray⟩)).setCell (p := ⟨w.heap.size + 1 + 1, 2, none⟩) (by simp) (.bool a1_0_1)).setCell (p := ⟨w.heap.size + 1 + 1, 3, none⟩) (by simp) (.bool a1_0_2)).setCell (p := ⟨w.heap.size + 1 + 1, 4, none⟩) (by simp) (.slice p4 a1_0_3.length q4)).setCell (p := ⟨w.heap.size + 1 + 1, 5, none⟩) (by simp) (.int .i64 a1_0_4)).setCell (p := ⟨w.heap.size + 1 + 1, 6, none⟩) (by simp) (.slice p6 a1_1.length q6)))
  simp only [List.set_cons_zero, List.set_cons_succ] at BC
  have BB := Lib.hid (BB.out.set 0 (by simp) (.bool a0))
  have HB := Lib.hid (HB.out.setCell (p := ⟨w.heap.size + 1, 0, none⟩) (by simp; try omega) (.bool a0))
  have BB := Lib.hid (BB.out.set 1 (by simp) (.string ⟨a1_0_0.toArray⟩))
  have HB := Lib.hid (HB.out.setCell (p := ⟨w.heap.size + 1, 1, none⟩) (by simp; try omega) (.string ⟨a1_0_0.toArray⟩))
  have BB := Lib.hid (BB.out.set 2 (by simp) (.bool a1_0_1))
  have HB := Lib.hid (HB.out.setCell (p := ⟨w.heap.size + 1, 2, none⟩) (by simp; try omega) (.bool a1_0_1))
  have BB := Lib.hid (BB.out.set 3 (by simp) (.bool a1_0_2))
  have HB := Lib.hid (HB.out.setCell (p := ⟨w.heap.size + 1, 3, none⟩) (by simp; try omega) (.bool a1_0_2))
  have BB := Lib.hid (BB.out.set 4 (by simp) (.slice p4 a1_0_3.length q4))
  have HB := Lib.hid (HB.out.setCell (p := ⟨w.heap.size + 1, 4, none⟩) (by simp; try omega) (.slice p4 a1_0_3.length q4))
  have BB := Lib.hid (BB.out.set 5 (by simp) (.int .i64 a1_0_4))
  have HB := Lib.hid (HB.out.setCell (p := ⟨w.heap.size + 1, 5, none⟩) (by simp; try omega) (.int .i64 a1_0_4))
  have BB := Lib.hid (BB.out.set 6 (by simp) (.slice p6 a1_1.length q6))
  have HB := Lib.hid (HB.out.setCell (p := ⟨w.heap.size + 1, 6, none⟩) (by simp; try omega) (.slice p6 a1_1.length q6))
  have R4 := Lib.hid ((R4.out.keep (good_flat cCell_len) ((((((((Kept.refl _ _).setCell (p := ⟨w.heap.size + 1, 0, none⟩) (by simp) (.bool a0)).setCell (p := ⟨w.heap.size + 1, 1, none⟩) (by simp) (.string ⟨a1_0_0.toArray⟩)).setCell (p := ⟨w.heap.size + 1, 2, none⟩) (by simp) (.bool a1_0_1)).setCell (p := ⟨w.heap.size + 1, 3, none⟩) (by simp) (.bool a1_0_2)).setCell (p := ⟨w.heap.size + 1, 4, none⟩) (by simp) (.slice p4 a1_0_3.length q4)).setCell (p := ⟨w.heap.size + 1, 5, none⟩) (by simp) (.int .i64 a1_0_4)).setCell (p := ⟨w.heap.size + 1, 6, none⟩) (by simp) (.slice p6 a1_1.length q6))).mono (good_flat cCell_len) (show w.heap.size ≤ w.heap.size + 3 by omega))
  have R6 := Lib.hid ((R6.out.keep (good_flat cLayer_len) ((((((((Kept.refl _ _).setCell (p := ⟨w.heap.size + 1, 0, none⟩) (by simp) (.bool a0)).setCell (p := ⟨w.heap.size + 1, 1, none⟩) (by simp) (.string ⟨a1_0_0.toArray⟩)).setCell (p := ⟨w.heap.size + 1, 2, none⟩) (by simp) (.bool a1_0_1)).setCell (p := ⟨w.heap.size + 1, 3, none⟩) (by simp) (.bool a1_0_2)).setCell (p := ⟨w.heap.size + 1, 4, none⟩) (by simp) (.slice p4 a1_0_3.length q4)).setCell (p := ⟨w.heap.size + 1, 5, none⟩) (by simp) (.int .i64 a1_0_4)).setCell (p := ⟨w.heap.size + 1, 6, none⟩) (by simp) (.slice p6 a1_1.length q6))).mono (good_flat cLayer_len) (show w.heap.size ≤ w.heap.size + 3 by omega))
  simp only [List.set_cons_zero, List.set_cons_succ] at BB
  generalize (((((((((((((w1).setCell ⟨w.heap.size + 1 + 1, 1, none⟩ (.string ⟨a1_0_0.toArray⟩)).setCell ⟨w.heap.size + 1 + 1, 2, none⟩ (.bool a1_0_1)).setCell ⟨w.heap.size + 1 + 1, 3, none⟩ (.bool a1_0_2)).setCell ⟨w.heap.size + 1 + 1, 4, none⟩ (.slice p4 a1_0_3.length q4)).setCell ⟨w.heap.size + 1 + 1, 5, none⟩ (.int .i64 a1_0_4)).setCell ⟨w.heap.size + 1 + 1, 6, none⟩ (.slice p6 a1_1.length q6)).setCell ⟨w.heap.size + 1, 0, none⟩ (.bool a0)).setCell ⟨w.heap.size + 1, 1, none⟩ (.string ⟨a1_0_0.toArray⟩)).setCell ⟨w.heap.size + 1, 2, none⟩ (.bool a1_0_1)).setCell ⟨w.heap.size + 1, 3, none⟩ (.bool a1_0_2)).setCell ⟨w.heap.size + 1, 4, none⟩ (.slice p4 a1_0_3.length q4)).setCell ⟨w.heap.size + 1, 5, none⟩ (.int .i64 a1_0_4)).setCell ⟨w.heap.size + 1, 6, none⟩ (.slice p6 a1_1.length q6) = WE at *
  have eB0 := BB.out.cell 0 (by simp)
  have eB1 := BB.out.cell 1 (by simp)
  have eB2 := BB.out.cell 2 (by simp)
  have eB3 := BB.out.cell 3 (by simp)
  have eB4 := BB.out.cell 4 (by simp)
  have eB5 := BB.out.cell 5 (by simp)
  have eB6 := BB.out.cell 6 (by simp)
  simp only [List.getElem_cons_zero, List.getElem_cons_succ, List.set_cons_zero, List.set_cons_succ] at eB0 eB1 eB2 eB3 eB4 eB5 eB6
  exact bodyPost_ret (v := .agg #[.bool a0, .string ⟨a1_0_0.toArray⟩, .bool a1_0_1, .bool a1_0_2, .slice p4 a1_0_3.length q4, .int .i64 a1_0_4, .slice p6 a1_1.length q6]) (by simp [results, Try.results15, go_sem, eB0, eB1, eB2, eB3, eB4, eB5, eB6]) rfl ⟨_, rfl, ⟨_, _, rfl, R4.out, R6.out⟩, HB.out⟩
set_option maxRecDepth 100000 in
set_option maxHeartbeats 1600000 in
theorem szSlot_d (v : Value) (x : SlotD) (left : Int) (w : World) (hx : ValAt rSlot 0 w v x) (hk : okSlot x) (h0 : 0 ≤ left) (h1 : left ≤ 1099511627776) : Calls Try.prog 12 #[v, .int .i64 left] w fun e w' => SzF (zSlot x) left w e w' := by
  obtain ⟨_, rfl, hx⟩ := hx
  obtain ⟨a0, ⟨⟨a1_0_0, a1_0_1, a1_0_2, a1_0_3, a1_0_4⟩, a1_1⟩⟩ := x
  obtain ⟨v4, v6, rfl, hr4, hr6⟩ := hx
  simp only at hr4 hr6
  unfold okSlot at hk
  simp only at hk
  simp only [zSlot, zPart, zCore]
  have HK := Lib.hid hk
  obtain ⟨ra4, rc4, rfl, _⟩ := sliceAt_len hr4
  obtain ⟨ra6, rc6, rfl, _⟩ := sliceAt_len hr6
  have H4 := Lib.hid hr4
  have H6 := Lib.hid hr6
  clear hk hr4 hr6
  have HS := Lib.hid (bx_start1 w [.bool a0, .string ⟨a1_0_0.toArray⟩, .bool a1_0_1, .bool a1_0_2, .slice ra4 a1_0_3.length rc4, .int .i64 a1_0_4, .slice ra6 a1_1.length rc6] 38)
  have BA := Lib.hid HS.out.1
  have HB := Lib.hid HS.out.2
  clear HS
  go_enter Try.func12, Try.ntmps12
  go_wp2_with fail
  generalize w.alloc (.cells #[.bool a0, .string ⟨a1_0_0.toArray⟩, .bool a1_0_1, .bool a1_0_2, .slice ra4 a1_0_3.length rc4, .int .i64 a1_0_4, .slice ra6 a1_1.length rc6] 38) = X1 at *
  refine (szPart_d _ (⟨⟨a1_0_0, a1_0_1, a1_0_2, a1_0_3, a1_0_4⟩, a1_1⟩ : PartD) _ _ ⟨_, rfl, _, _, rfl, (H4.out.below (good_flat cCell_len) HB.out (Nat.le_refl _)), (H6.out.below (good_flat cLayer_len) HB.out (Nat.le_refl _))⟩ HK.out.2 (by omega) (by omega)).mono ?_
  rintro e w1 ⟨r1, rfl, hra1, hrb1, hb⟩
  have HR1 := Lib.hid hrb1
  have HB := Lib.hid (belS (w := w) HB.out hb)
  have BA := Lib.hid (BA.out.below hb)
  clear hb hrb1
  have eA0 := BA.out.cell 0 (by simp)
  have eA1 := BA.out.cell 1 (by simp)
  have eA2 := BA.out.cell 2 (by simp)
  have eA3 := BA.out.cell 3 (by simp)
  have eA4 := BA.out.cell 4 (by simp)
  have eA5 := BA.out.cell 5 (by simp)
  have eA6 := BA.out.cell 6 (by simp)
  simp only [List.getElem_cons_zero, List.getElem_cons_succ, List.set_cons_zero, List.set_cons_succ] at eA0 eA1 eA2 eA3 eA4 eA5 eA6
  by_cases hn1 : r1 < 0
  · go_wp2_with fail
    go_ret
    exact ⟨-1, rfl, by omega, by omega, HB.out⟩
  · have hs1 := HR1.out (by omega)
    simp only [zPart, zCore] at hs1
    go_wp2_with fail
    go_ret
    exact ⟨_, rfl, by omega, by intro _; push_cast; omega, HB.out⟩
set_option maxRecDepth 100000 in
set_option maxHeartbeats 1600000 in
theorem eqSlot_d (v u : Value) (x y : SlotD) (w : World) (hx : ValAt rSlot 0 w v x) (hy : ValAt rSlot 0 w u y) : Calls Try.prog 18 #[v, u] w fun e w' => e = .returned (.bool (decide (x = y))) ∧ Below w.heap.size w w' := by
  have HQ := Lib.hid (show decide (x = y) = (decide (x.fFull = y.fFull) && decide (x.fPart = y.fPart)) by rw [Bool.eq_iff_iff]; cases x; cases y; simp [and_assoc])
  obtain ⟨_, rfl, hx⟩ := hx
  obtain ⟨a0, ⟨⟨a1_0_0, a1_0_1, a1_0_2, a1_0_3, a1_0_4⟩, a1_1⟩⟩ := x
  obtain ⟨v4, v6, rfl, hv4, hv6⟩ := hx
  simp only at hv4 hv6
  obtain ⟨_, rfl, hy⟩ := hy
  obtain ⟨b0, ⟨⟨b1_0_0, b1_0_1, b1_0_2, b1_0_3, b1_0_4⟩, b1_1⟩⟩ := y
  obtain ⟨u4, u6, rfl, hu4, hu6⟩ := hy
  simp only at hu4 hu6
  simp only at HQ
  obtain ⟨ra4, rc4, rfl, _⟩ := sliceAt_len hv4
  obtain ⟨ra6, rc6, rfl, _⟩ := sliceAt_len hv6
  obtain ⟨sa4, sc4, rfl, _⟩ := sliceAt_len hu4
  obtain ⟨sa6, sc6, rfl, _⟩ := sliceAt_len hu6
  have HV4 := Lib.hid hv4
  have HU4 := Lib.hid hu4
  have HV6 := Lib.hid hv6
  have HU6 := Lib.hid hu6
  clear hv4 hu4 hv6 hu6
  have HC1 := Lib.hid (fun w0 (hw : Below w.heap.size w w0) => eqPart_d _ _ (⟨⟨a1_0_0, a1_0_1, a1_0_2, a1_0_3, a1_0_4⟩, a1_1⟩ : PartD) (⟨⟨b1_0_0, b1_0_1, b1_0_2, b1_0_3, b1_0_4⟩, b1_1⟩ : PartD) w0 ⟨_, rfl, _, _, rfl, HV4.out.below (good_flat cCell_len) hw (Nat.le_refl _), HV6.out.below (good_flat cLayer_len) hw (Nat.le_refl _)⟩ ⟨_, rfl, _, _, rfl, HU4.out.below (good_flat cCell_len) hw (Nat.le_refl _), HU6.out.below (good_flat cLayer_len) hw (Nat.le_refl _)⟩)
  generalize decide ((⟨⟨a1_0_0, a1_0_1, a1_0_2, a1_0_3, a1_0_4⟩, a1_1⟩ : PartD) = (⟨⟨b1_0_0, b1_0_1, b1_0_2, b1_0_3, b1_0_4⟩, b1_1⟩ : PartD)) = p1 at *
  generalize hq : decide ((⟨a0, ⟨⟨a1_0_0, a1_0_1, a1_0_2, a1_0_3, a1_0_4⟩, a1_1⟩⟩ : SlotD) = (⟨b0, ⟨⟨b1_0_0, b1_0_1, b1_0_2, b1_0_3, b1_0_4⟩, b1_1⟩⟩ : SlotD)) = q at *
  clear hq
  have HS := Lib.hid (bx_start2 w [.bool a0, .string ⟨a1_0_0.toArray⟩, .bool a1_0_1, .bool a1_0_2, .slice ra4 a1_0_3.length rc4, .int .i64 a1_0_4, .slice ra6 a1_1.length rc6] [.bool b0, .string ⟨b1_0_0.toArray⟩, .bool b1_0_1, .bool b1_0_2, .slice sa4 b1_0_3.length sc4, .int .i64 b1_0_4, .slice sa6 b1_1.length sc6] 46 46)
  by_cases h0 : a0 = b0
  · subst h0
    cases p1 with
    | true =>
      have HF := Lib.hid (show q = true from by rw [HQ.out]; simp)
      go_enter Try.func18, Try.ntmps18
      have BA := Lib.hid HS.out.1
      have BB := Lib.hid HS.out.2.1
      have HB := Lib.hid HS.out.2.2
      go_wp2_with fail
      refine (HC1.out _ HB.out).mono ?_
      rintro e w1 ⟨rfl, hb⟩
      have HB := Lib.hid (belS (w := w) HB.out hb)
      have BA := Lib.hid (BA.out.below hb)
      have BB := Lib.hid (BB.out.below hb)
      clear hb
      have eA0 := BA.out.cell 0 (by simp)
      have eB0 := BB.out.cell 0 (by simp)
      have eA1 := BA.out.cell 1 (by simp)
      have eB1 := BB.out.cell 1 (by simp)
      have eA2 := BA.out.cell 2 (by simp)
      have eB2 := BB.out.cell 2 (by simp)
      have eA3 := BA.out.cell 3 (by simp)
      have eB3 := BB.out.cell 3 (by simp)
      have eA4 := BA.out.cell 4 (by simp)
      have eB4 := BB.out.cell 4 (by simp)
      have eA5 := BA.out.cell 5 (by simp)
      have eB5 := BB.out.cell 5 (by simp)
      have eA6 := BA.out.cell 6 (by simp)
      have eB6 := BB.out.cell 6 (by simp)
      simp only [List.getElem_cons_zero, List.getElem_cons_succ, List.set_cons_zero, List.set_cons_succ] at eA0 eB0 eA1 eB1 eA2 eB2 eA3 eB3 eA4 eB4 eA5 eB5 eA6 eB6
      go_wp2_with fail
      go_ret
      exact ⟨ret_bool HF.out.symm, HB.out⟩
    | false =>
      have HF := Lib.hid (show q = false from by rw [HQ.out]; simp)
      go_enter Try.func18, Try.ntmps18
      have BA := Lib.hid HS.out.1
      have BB := Lib.hid HS.out.2.1
      have HB := Lib.hid HS.out.2.2
      go_wp2_with fail
      refine (HC1.out _ HB.out).mono ?_
      rintro e w1 ⟨rfl, hb⟩
      have HB := Lib.hid (belS (w := w) HB.out hb)
      have BA := Lib.hid (BA.out.below hb)
      have BB := Lib.hid (BB.out.below hb)
      clear hb
      have eA0 := BA.out.cell 0 (by simp)
      have eB0 := BB.out.cell 0 (by simp)
      have eA1 := BA.out.cell 1 (by simp)
      have eB1 := BB.out.cell 1 (by simp)
      have eA2 := BA.out.cell 2 (by simp)
      have eB2 := BB.out.cell 2 (by simp)
      have eA3 := BA.out.cell 3 (by simp)
      have eB3 := BB.out.cell 3 (by simp)
      have eA4 := BA.out.cell 4 (by simp)
      have eB4 := BB.out.cell 4 (by simp)
      have eA5 := BA.out.cell 5 (by simp)
      have eB5 := BB.out.cell 5 (by simp)
      have eA6 := BA.out.cell 6 (by simp)
      have eB6 := BB.out.cell 6 (by simp)
      simp only [List.getElem_cons_zero, List.getElem_cons_succ, List.set_cons_zero, List.set_cons_succ] at eA0 eB0 eA1 eB1 eA2 eB2 eA3 eB3 eA4 eB4 eA5 eB5 eA6 eB6
      go_wp2_with fail
      go_ret
      exact ⟨ret_bool HF.out.symm, HB.out⟩
  · rcases (show (a0 = true ∧ b0 = false) ∨ (a0 = false ∧ b0 = true) by cases a0 <;> cases b0 <;> simp_all) with ⟨rfl, rfl⟩ | ⟨rfl, rfl⟩
    · have HF := Lib.hid (show q = false from by rw [HQ.out]; simp)
      clear h0
      go_enter Try.func18, Try.ntmps18
      have BA := Lib.hid HS.out.1
      have BB := Lib.hid HS.out.2.1
      have HB := Lib.hid HS.out.2.2
      go_wp2_with fail
      go_ret
      exact ⟨ret_bool HF.out.symm, HB.out⟩
    · have HF := Lib.hid (show q = false from by rw [HQ.out]; simp)
      clear h0
      go_enter Try.func18, Try.ntmps18
      have BA := Lib.hid HS.out.1
      have BB := Lib.hid HS.out.2.1
      have HB := Lib.hid HS.out.2.2
      go_wp2_with fail
      go_ret
      exact ⟨ret_bool HF.out.symm, HB.out⟩
theorem infoDSlot : (Try.prog.info? 46).map (fun i => (i.zero, i.size, i.bytes)) = some (some (.agg #[.bool false, .string ⟨#[]⟩, .bool false, .bool false, .slice none 0 0, .int .i64 0, .slice none 0 0]), 7, 88) := by kernel_rfl
set_option maxRecDepth 100000 in
set_option maxHeartbeats 3200000 in
theorem toSlotS_d (v : Value) (x : List SlotD) (w : World) (hx : SliceAt (rSlot) 7 0 w v x) (hm : x.length + sumF zSlot x ≤ 2097152) :
    Calls Try.prog 7 #[v] w fun e w' => GivesS (rSlot) 7 x w e w' := by
  obtain ⟨a, c, rfl, hl⟩ := sliceAt_len hx
  obtain ⟨i0, hi, hz0, hz1, hz2⟩ := info_parts infoDSlot
  have HX := Lib.hid hx
  have HZ := Lib.hid hm
  have hm2 : x.length ≤ 2097152 := by omega
  clear hx hm
  unfold maxLen at hl
  go_enter Try.func7, Try.ntmps7
  have hb2 : i0.bytes * x.length ≤ 281474976710656 := by rw [hz2]; omega
  have HB2 := Lib.hid hb2
  have HM := Lib.hid (show x.length ≤ maxLen from by unfold maxLen; omega)
  clear hb2
  go_wp2_with (refine wpList_make_full _ rfl (.tmp 6) (.tmp 6) 25 rfl w.heap.size 46 i0 _ 7 Try.underlying25 hi hz0 hz1 .i64 .i64 _ _ x.length rfl rfl rfl rfl HB2.out HM.out (Nat.le_refl _) ?_; intro w1 hown1 hgrow1)
  have HO := Lib.hid (show ∃ xs, w1.ownsRow w.heap.size 46 7 (.slice (some ⟨w.heap.size, 0, none⟩) x.length x.length) x.length xs ∧ Cells (rSlot) 7 (w.heap.size + 1) w1 xs (x.take 0) from ⟨_, hown1, Cells.nil _ _ _⟩)
  have HB := Lib.hid (show Below w.heap.size w w1 from ⟨hgrow1.os, hgrow1.tape, hgrow1.output, hgrow1.size, fun i hi => hgrow1.block i hi (by simp)⟩)
  have hsz : w.heap.size < w1.heap.size := by
    rcases hown1.2 with ⟨h, _⟩ | ⟨g, cap, cur, h, _, hg, _⟩
    · simp at h
    · injection h with h _ _; injection h with h; injection h with h _; subst h; exact (Array.getElem?_eq_some_iff.1 hg).1
  clear hown1 hgrow1 hz0 hz1 hz2 HB2 hi
  go_loopw [4] (fun i wr => ∃ k : Nat, k ≤ x.length ∧ i = .int .i64 k ∧ (∃ xs, wr.ownsRow w.heap.size 46 7 (.slice (some ⟨w.heap.size, 0, none⟩) x.length x.length) x.length xs ∧ Cells (rSlot) 7 (w.heap.size + 1) wr xs (x.take k)) ∧ Below w.heap.size w wr ∧ w.heap.size < wr.heap.size) (fun i _ => x.length - (intOf i).toNat)
  case atStart => exact ⟨0, Nat.zero_le _, rfl, HO.out, HB.out, hsz⟩
  case round =>
    obtain ⟨k, hk, rfl, ⟨xs, hown, htake⟩, hb, hszr⟩ := hrel
    have HR := Lib.hid (SliceAt.below HX.out goodSlot hb (Nat.le_refl _))
    have HBr := Lib.hid hb
    have HOw := Lib.hid hown
    have HT := Lib.hid htake
    have HXL := Lib.hid (show xs.length = x.length * 7 from hown.1)
    clear hb hown htake
    by_cases hlt : k < x.length
    · obtain ⟨b, o, cs, rfl, hbw, hat, hd⟩ := sliceAt_cell HR.out k hlt
      have HSN := Lib.hid (show x.take (k + 1) = x.take k ++ [x[k]] from List.take_succ_eq_append_getElem hlt)
      have HLT := Lib.hid (show (x.take k).length = k by rw [List.length_take]; omega)
      have HC := Lib.hid (toSlot_d (.agg cs.toArray) x[k] wr ⟨cs, rfl, hat⟩ (by have h1 := sumF_mem zSlot x x[k] (List.getElem_mem hlt); have h2 := HZ.out; omega))
      generalize x[k] = p at *
      obtain ⟨a0, ⟨⟨a1_0_0, a1_0_1, a1_0_2, a1_0_3, a1_0_4⟩, a1_1⟩⟩ := p
      obtain ⟨x4, x6, rfl, hr4, hr6⟩ := hat
      have d0 := hd 0 (by decide)
      have d1 := hd 1 (by decide)
      have d2 := hd 2 (by decide)
      have d3 := hd 3 (by decide)
      have d4 := hd 4 (by decide)
      have d5 := hd 5 (by decide)
      have d6 := hd 6 (by decide)
      simp only [List.getElem?_cons_zero, List.getElem?_cons_succ, Nat.add_zero] at d0 d1 d2 d3 d4 d5 d6 HC
      clear hd
      go_wp2_with fail
      refine HC.out.mono ?_
      rintro e w2 ⟨cs, rfl, hat2, hb0⟩
      have HA := Lib.hid hat2
      have HB3 := Lib.hid (HBr.out.trans (hb0.mono HBr.out.size))
      have HO3 := Lib.hid (ownsRow_below HOw.out hb0 (Nat.le_refl _))
      have HK := Lib.hid (Cells.keep HT.out goodSlot (kept_below hb0 (Nat.le_refl _)))
      have hsz2 : w.heap.size < w2.heap.size := by have := hb0.size; omega
      obtain ⟨y4, y6, rfl, hq4, hq6⟩ := hat2
      skip
      obtain ⟨yp4, yq4, rfl, _⟩ := sliceAt_len hq4
      clear hq4
      obtain ⟨yp6, yq6, rfl, _⟩ := sliceAt_len hq6
      clear hq6
      clear hb0
      obtain ⟨u0, c0⟩ : ∃ u, w2.cell? ⟨w.heap.size, k * 7, none⟩ = some u := by
        rw [World.ownsRow.cellAt HO3.out (k * 7) (by omega), List.getElem?_eq_getElem (by have := HXL.out; omega)]
        exact ⟨_, rfl⟩
      have f0 := World.ownsRow.frozenAt HO3.out (k * 7)
      obtain ⟨u1, c1⟩ : ∃ u, w2.cell? ⟨w.heap.size, k * 7 + 1, none⟩ = some u := by
        rw [World.ownsRow.cellAt HO3.out (k * 7 + 1) (by omega), List.getElem?_eq_getElem (by have := HXL.out; omega)]
        exact ⟨_, rfl⟩
      have f1 := World.ownsRow.frozenAt HO3.out (k * 7 + 1)
      obtain ⟨u2, c2⟩ : ∃ u, w2.cell? ⟨w.heap.size, k * 7 + 2, none⟩ = some u := by
        rw [World.ownsRow.cellAt HO3.out (k * 7 + 2) (by omega), List.getElem?_eq_getElem (by have := HXL.out; omega)]
        exact ⟨_, rfl⟩
      have f2 := World.ownsRow.frozenAt HO3.out (k * 7 + 2)
      obtain ⟨u3, c3⟩ : ∃ u, w2.cell? ⟨w.heap.size, k * 7 + 3, none⟩ = some u := by
        rw [World.ownsRow.cellAt HO3.out (k * 7 + 3) (by omega), List.getElem?_eq_getElem (by have := HXL.out; omega)]
        exact ⟨_, rfl⟩
      have f3 := World.ownsRow.frozenAt HO3.out (k * 7 + 3)
      obtain ⟨u4, c4⟩ : ∃ u, w2.cell? ⟨w.heap.size, k * 7 + 4, none⟩ = some u := by
        rw [World.ownsRow.cellAt HO3.out (k * 7 + 4) (by omega), List.getElem?_eq_getElem (by have := HXL.out; omega)]
        exact ⟨_, rfl⟩
      have f4 := World.ownsRow.frozenAt HO3.out (k * 7 + 4)
      obtain ⟨u5, c5⟩ : ∃ u, w2.cell? ⟨w.heap.size, k * 7 + 5, none⟩ = some u := by
        rw [World.ownsRow.cellAt HO3.out (k * 7 + 5) (by omega), List.getElem?_eq_getElem (by have := HXL.out; omega)]
        exact ⟨_, rfl⟩
      have f5 := World.ownsRow.frozenAt HO3.out (k * 7 + 5)
      obtain ⟨u6, c6⟩ : ∃ u, w2.cell? ⟨w.heap.size, k * 7 + 6, none⟩ = some u := by
        rw [World.ownsRow.cellAt HO3.out (k * 7 + 6) (by omega), List.getElem?_eq_getElem (by have := HXL.out; omega)]
        exact ⟨_, rfl⟩
      have f6 := World.ownsRow.frozenAt HO3.out (k * 7 + 6)
      have HS0 := Lib.hid (World.ownsRow.stored HO3.out (k * 7) (.bool a0))
      have HS1 := Lib.hid (World.ownsRow.stored HS0.out.1 (k * 7 + 1) (.string ⟨a1_0_0.toArray⟩))
      have HS2 := Lib.hid (World.ownsRow.stored HS1.out.1 (k * 7 + 2) (.bool a1_0_1))
      have HS3 := Lib.hid (World.ownsRow.stored HS2.out.1 (k * 7 + 3) (.bool a1_0_2))
      have HS4 := Lib.hid (World.ownsRow.stored HS3.out.1 (k * 7 + 4) (.slice yp4 a1_0_3.length yq4))
      have HS5 := Lib.hid (World.ownsRow.stored HS4.out.1 (k * 7 + 5) (.int .i64 a1_0_4))
      have HS6 := Lib.hid (World.ownsRow.stored HS5.out.1 (k * 7 + 6) (.slice yp6 a1_1.length yq6))
      have HN := Lib.hid (show Cells (rSlot) 7 (w.heap.size + 1) ((((((((w2).setCell ⟨w.heap.size, k * 7, none⟩ (.bool a0)).setCell ⟨w.heap.size, k * 7 + 1, none⟩ (.string ⟨a1_0_0.toArray⟩)).setCell ⟨w.heap.size, k * 7 + 2, none⟩ (.bool a1_0_1)).setCell ⟨w.heap.size, k * 7 + 3, none⟩ (.bool a1_0_2)).setCell ⟨w.heap.size, k * 7 + 4, none⟩ (.slice yp4 a1_0_3.length yq4)).setCell ⟨w.heap.size, k * 7 + 5, none⟩ (.int .i64 a1_0_4)).setCell ⟨w.heap.size, k * 7 + 6, none⟩ (.slice yp6 a1_1.length yq6)) ((((((((xs).set (k * 7) (.bool a0)).set (k * 7 + 1) (.string ⟨a1_0_0.toArray⟩)).set (k * 7 + 2) (.bool a1_0_1)).set (k * 7 + 3) (.bool a1_0_2)).set (k * 7 + 4) (.slice yp4 a1_0_3.length yq4)).set (k * 7 + 5) (.int .i64 a1_0_4)).set (k * 7 + 6) (.slice yp6 a1_1.length yq6)) (x.take (k + 1)) by
        rw [HSN.out]
        have hkk : Kept (w.heap.size + 1) w2 ((((((((w2).setCell ⟨w.heap.size, k * 7, none⟩ (.bool a0)).setCell ⟨w.heap.size, k * 7 + 1, none⟩ (.string ⟨a1_0_0.toArray⟩)).setCell ⟨w.heap.size, k * 7 + 2, none⟩ (.bool a1_0_1)).setCell ⟨w.heap.size, k * 7 + 3, none⟩ (.bool a1_0_2)).setCell ⟨w.heap.size, k * 7 + 4, none⟩ (.slice yp4 a1_0_3.length yq4)).setCell ⟨w.heap.size, k * 7 + 5, none⟩ (.int .i64 a1_0_4)).setCell ⟨w.heap.size, k * 7 + 6, none⟩ (.slice yp6 a1_1.length yq6)) := (((((((Kept.refl _ _).setCell (by simp) _).setCell (by simp) _).setCell (by simp) _).setCell (by simp) _).setCell (by simp) _).setCell (by simp) _).setCell (by simp) _
        refine Cells.snoc (Cells.keep HK.out goodSlot hkk) ((goodSlot).keep ((goodSlot).mono HA.out (by omega)) hkk) ?_ ?_
        · intro i hi
          rw [HLT.out] at hi
          repeat rw [List.getElem?_set_ne (by omega)]
        · intro j hj
          rw [HLT.out]
          have hxl := HXL.out
          rcases (show j = 0 ∨ j = 1 ∨ j = 2 ∨ j = 3 ∨ j = 4 ∨ j = 5 ∨ j = 6 by omega) with rfl | rfl | rfl | rfl | rfl | rfl | rfl
          all_goals (simp [List.getElem?_set]; try omega))
      go_wp2_with fail
      refine ⟨⟨k + 1, by omega, by go_num, ⟨_, HS6.out.1, HN.out⟩, ?_, by simp; omega⟩, by simp [intOf]; omega⟩
      exact (((((((HB3.out.setCell (by simp) _).setCell (by simp) _).setCell (by simp) _).setCell (by simp) _).setCell (by simp) _).setCell (by simp) _).setCell (by simp) _)
    · have HN := Lib.hid (show x.take k = x from List.take_of_length_le (by omega))
      have HF := Lib.hid (show SliceAt (rSlot) 7 w.heap.size wr (.slice (some ⟨w.heap.size, 0, none⟩) x.length x.length) x from by
        have h := HT.out
        rw [HN.out] at h
        exact sliceAt_of_row HOw.out (fun i hi => by obtain ⟨cs, h1, h2⟩ := h i hi; exact ⟨cs, (goodSlot).mono h1 (by omega), h2⟩) (Nat.le_refl _) (by omega))
      go_wp2_with fail
      go_ret
      exact ⟨_, rfl, HF.out, HBr.out⟩
set_option maxRecDepth 100000 in
set_option maxHeartbeats 1600000 in
theorem szSlotS_d (v : Value) (x : List SlotD) (left : Int) (w : World) (hx : SliceAt (rSlot) 7 0 w v x) (hs : ∀ d ∈ x, okSlot d) (h0 : 0 ≤ left) (h1 : left ≤ 1099511627776) :
    Calls Try.prog 5 #[v, .int .i64 left] w fun e w' => SzF (x.length + sumF zSlot x) left w e w' := by
  obtain ⟨a, c, rfl, hl⟩ := sliceAt_len hx
  have HX := Lib.hid hx
  have HS := Lib.hid hs
  clear hx hs
  unfold maxLen at hl
  by_cases hneg : left - (x.length : Int) < 0
  · go_enter Try.func5, Try.ntmps5
    go_wp2
    go_ret
    exact ⟨-1, rfl, by omega, by omega, Below.refl _ _⟩
  · go_enter Try.func5, Try.ntmps5
    go_wp2
    go_loopw [1, 5] (fun r i wr => ∃ k : Nat, ∃ z : Int, k ≤ x.length ∧ i = .int .i64 k ∧ r = .int .i64 z ∧ 0 ≤ z ∧ z ≤ left ∧ (x.length : Int) + sumF zSlot (x.take k) + z = left ∧ Below w.heap.size w wr) (fun _ i _ => x.length - (intOf i).toNat)
    case atStart => exact ⟨0, _, Nat.zero_le _, rfl, rfl, by omega, by omega, by simp [sumF]; omega, Below.refl _ _⟩
    case round =>
      obtain ⟨k, z, hk, rfl, rfl, hz0, hz1, ht, hbr⟩ := hrel
      have HT := Lib.hid ht
      have HB := Lib.hid hbr
      have HXr := Lib.hid (SliceAt.below HX.out goodSlot hbr (Nat.le_refl _))
      clear ht hbr
      by_cases hlt : k < x.length
      · obtain ⟨b, o, cs, rfl, hbw, hat, hd⟩ := sliceAt_cell HXr.out k hlt
        have HC := Lib.hid (szSlot_d (.agg cs.toArray) x[k] z wr ⟨cs, rfl, hat⟩ (HS.out _ (List.getElem_mem hlt)) hz0 (by omega))
        have HK := Lib.hid (sumF_take_succ zSlot x k hlt)
        generalize x[k] = p at *
        generalize hzp : zSlot p = zp at *
        clear hzp
        obtain ⟨a0, ⟨⟨a1_0_0, a1_0_1, a1_0_2, a1_0_3, a1_0_4⟩, a1_1⟩⟩ := p
        obtain ⟨x4, x6, rfl, hr4, hr6⟩ := hat
        have d0 := hd 0 (by decide)
        have d1 := hd 1 (by decide)
        have d2 := hd 2 (by decide)
        have d3 := hd 3 (by decide)
        have d4 := hd 4 (by decide)
        have d5 := hd 5 (by decide)
        have d6 := hd 6 (by decide)
        simp only [List.getElem?_cons_zero, List.getElem?_cons_succ, Nat.add_zero] at d0 d1 d2 d3 d4 d5 d6 HC
        clear hd
        go_wp2_with fail
        refine HC.out.mono ?_
        rintro e w2 ⟨r, rfl, hr0, hr1, hb0⟩
        have HB2 := Lib.hid (HB.out.trans (hb0.mono HB.out.size))
        have HR := Lib.hid hr1
        clear hb0 hr1
        by_cases hn2 : r < 0
        · go_wp2_with fail
          go_ret
          exact ⟨-1, rfl, by omega, by omega, HB2.out⟩
        · have hr := HR.out (by omega)
          go_wp2_with fail
          exact ⟨⟨k + 1, _, by omega, by go_num, rfl, by omega, by omega, by rw [HK.out]; have := HT.out; push_cast; omega, HB2.out⟩, by simp [intOf]; omega⟩
      · have HN := Lib.hid (show x.take k = x from List.take_of_length_le (by omega))
        go_wp2
        go_ret
        exact ⟨z, rfl, by omega, fun _ => by have := HT.out; rw [HN.out] at this; omega, HB.out⟩
set_option maxRecDepth 100000 in
set_option maxHeartbeats 1600000 in
theorem eqSlotS_d (v u : Value) (x y : List SlotD) (w : World) (hx : SliceAt (rSlot) 7 0 w v x) (hy : SliceAt (rSlot) 7 0 w u y) :
    Calls Try.prog 9 #[v, u] w fun e w' => e = .returned (.bool (decide (x = y))) ∧ Below w.heap.size w w' := by
  obtain ⟨a, c, rfl, hl⟩ := sliceAt_len hx
  obtain ⟨a2, c2, rfl, hl2⟩ := sliceAt_len hy
  have HX := Lib.hid hx
  have HY := Lib.hid hy
  clear hx hy
  unfold maxLen at hl hl2
  by_cases he : x.length = y.length
  · have hb : ((x.length : Int) == y.length) = true := beq_iff_eq.2 (by omega)
    have hbn : ((x.length : Int) != y.length) = false := by rw [bne_eq_false_iff_eq]; omega
    have HE := Lib.hid he
    clear he
    go_enter Try.func9, Try.ntmps9
    go_wp2
    go_loopw [5] (fun i wr => ∃ k : Nat, k ≤ x.length ∧ i = .int .i64 k ∧ x.take k = y.take k ∧ Below w.heap.size w wr) (fun i _ => x.length - (intOf i).toNat)
    case atStart => exact ⟨0, Nat.zero_le _, rfl, rfl, Below.refl _ _⟩
    case round =>
      obtain ⟨k, hk, rfl, ht, hbr⟩ := hrel
      have HT := Lib.hid ht
      have HB := Lib.hid hbr
      have HXr := Lib.hid (SliceAt.below HX.out goodSlot hbr (Nat.le_refl _))
      have HYr := Lib.hid (SliceAt.below HY.out goodSlot hbr (Nat.le_refl _))
      clear ht hbr
      by_cases hlt : k < x.length
      · have hky : k < y.length := by have := HE.out; omega
        obtain ⟨b, o, cs, rfl, _, hat, hd⟩ := sliceAt_cell HXr.out k hlt
        obtain ⟨b2, o2, cs2, rfl, _, hat2, hd2⟩ := sliceAt_cell HYr.out k hky
        have HS := Lib.hid (take_eq_step x y HE.out k hlt HT.out)
        have HD := Lib.hid (show x[k] ≠ y[k] → ¬ x = y from fun h e => h (by subst e; rfl))
        have HC := Lib.hid (fun w1 hw => eqSlot_d (.agg cs.toArray) (.agg cs2.toArray) x[k] y[k] w1 ⟨cs, rfl, (goodSlot).keep hat (kept_below (B := wr.heap.size) (w' := w1) hw (Nat.le_refl _))⟩ ⟨cs2, rfl, (goodSlot).keep hat2 (kept_below hw (Nat.le_refl _))⟩)
        generalize x[k] = p at *
        generalize y[k] = q at *
        generalize hqq : decide (p = q) = qq at *
        have HQ := Lib.hid (show qq = true → p = q from fun h => by rw [h] at hqq; exact of_decide_eq_true hqq)
        have HQ2 := Lib.hid (show qq = false → p ≠ q from fun h => by rw [h] at hqq; exact of_decide_eq_false hqq)
        clear hqq
        obtain ⟨a0, ⟨⟨a1_0_0, a1_0_1, a1_0_2, a1_0_3, a1_0_4⟩, a1_1⟩⟩ := p
        obtain ⟨b0, ⟨⟨b1_0_0, b1_0_1, b1_0_2, b1_0_3, b1_0_4⟩, b1_1⟩⟩ := q
        obtain ⟨x4, x6, rfl, hr4, hr6⟩ := hat
        obtain ⟨z4, z6, rfl, hs4, hs6⟩ := hat2
        have d0 := hd 0 (by decide)
        have d1 := hd 1 (by decide)
        have d2 := hd 2 (by decide)
        have d3 := hd 3 (by decide)
        have d4 := hd 4 (by decide)
        have d5 := hd 5 (by decide)
        have d6 := hd 6 (by decide)
        have q0 := hd2 0 (by decide)
        have q1 := hd2 1 (by decide)
        have q2 := hd2 2 (by decide)
        have q3 := hd2 3 (by decide)
        have q4 := hd2 4 (by decide)
        have q5 := hd2 5 (by decide)
        have q6 := hd2 6 (by decide)
        simp only [List.getElem?_cons_zero, List.getElem?_cons_succ, Nat.add_zero] at d0 d1 d2 d3 d4 d5 d6 q0 q1 q2 q3 q4 q5 q6 HC
        clear hd hd2
        go_wp2
        go_still_tail 8, (by kernel_rfl)
        have HB0 := Lib.hid (show Below wr.heap.size wr wr.drew from ⟨rfl, rfl, rfl, Nat.le_refl _, fun _ _ => rfl⟩)
        have HB1 := Lib.hid (show Below w.heap.size w wr.drew from ⟨HB.out.os, HB.out.tape, HB.out.output, HB.out.size, HB.out.block⟩)
        change wpList _ _ _ _ _ wr.drew
        generalize wr.drew = w1 at *
        go_wp2_with fail
        refine (HC.out _ HB0.out).mono ?_
        rintro e w2 ⟨rfl, hb0⟩
        have HB2 := Lib.hid (HB1.out.trans (hb0.mono HB1.out.size))
        clear hb0
        cases qq with
        | true =>
          have HN := Lib.hid (HS.out (HQ.out rfl))
          go_wp2_with fail
          exact ⟨⟨k + 1, by omega, by go_num, HN.out, HB2.out⟩, by simp [intOf]; omega⟩
        | false =>
          have HN := Lib.hid (HD.out (HQ2.out rfl))
          go_wp2_with fail
          go_ret
          exact ⟨ret_bool (by simp [HN.out]), HB2.out⟩
      · have HN := Lib.hid (show x = y from by
          have h := HT.out
          rw [List.take_of_length_le (by omega), List.take_of_length_le (by have := HE.out; omega)] at h
          exact h)
        go_wp2
        go_ret
        exact ⟨ret_bool (by simp [HN.out]), HB.out⟩
  · have hb : ((x.length : Int) == y.length) = false := beq_eq_false_iff_ne.2 (by omega)
    have hbn : ((x.length : Int) != y.length) = true := by rw [bne_iff_ne]; omega
    have HN := Lib.hid (show ¬ x = y from fun e => he (by rw [e]))
    clear he
    go_enter Try.func9, Try.ntmps9
    go_wp2
    go_ret
    exact ⟨ret_bool (by simp [HN.out]), Below.refl _ _⟩
end Go.Proofs.Ytlkpinlkbikokae
/- Faces as numbers: the plain side. -/
namespace Go.Proofs.Ytlkpinlkbikokae
set_option linter.unusedVariables false
open Go.RowKit

def isF (f : Int) : Bool := decide (0 ≤ f ∧ f ≤ 63)
/-- ability k is in f -/
def hasI (f : Int) (k : Nat) : Bool := decide (f / 2 ^ k % 2 = 1)
/-- the face of the abilities below k for which p holds -/
def madeK (p : Nat → Bool) : Nat → Int
  | 0 => 0
  | k + 1 => madeK p k + if p k then 2 ^ k else 0
def bothP (a b : Int) (k : Nat) : Bool := hasI a k && hasI b k
def eitherP (a b : Int) (k : Nat) : Bool := hasI a k || hasI b k
def lackP (want f : Int) (k : Nat) : Bool := hasI want k && !hasI f k
def bothF (a b : Int) : Int := if isF a = true ∧ isF b = true then madeK (bothP a b) 6 else 0
def eitherF (a b : Int) : Int := if isF a = true ∧ isF b = true then madeK (eitherP a b) 6 else 0
def lackF (f want : Int) : Int := if isF f = true ∧ isF want = true then madeK (lackP want f) 6 else 0
def offersF (f want : Int) : Bool := isF f && isF want && (lackF f want == 0)
/-- the first k from k0 on, among n, for which p holds; -1 -/
def findK (p : Nat → Bool) : Nat → Nat → Int
  | _, 0 => -1
  | k, n + 1 => if p k then k else findK p (k + 1) n
theorem findK_yes {p : Nat → Bool} {k n : Nat} (hk : k < n) (h : p k = true) : findK p k (n - k) = k := by
  obtain ⟨m, rfl⟩ : ∃ m, n = k + (m + 1) := ⟨n - k - 1, by omega⟩
  rw [show k + (m + 1) - k = m + 1 by omega, findK, if_pos h]
theorem findK_no {p : Nat → Bool} {k n : Nat} (hk : k < n) (h : p k = false) : findK p k (n - k) = findK p (k + 1) (n - (k + 1)) := by
  obtain ⟨m, rfl⟩ : ∃ m, n = k + (m + 1) := ⟨n - k - 1, by omega⟩
  rw [show k + (m + 1) - k = m + 1 by omega, findK, if_neg (by simp [h]), show k + (m + 1) - (k + 1) = m by omega]
theorem findK_end {p : Nat → Bool} {n : Nat} : findK p n (n - n) = -1 := by rw [Nat.sub_self]; rfl
theorem isF_yes {f : Int} (h : isF f = true) : 0 ≤ f ∧ f ≤ 63 := of_decide_eq_true h
theorem isF_no {f : Int} (h : isF f = false) : f < 0 ∨ 63 < f := by have := of_decide_eq_false h; omega
theorem isF_fin {f : Int} (h : isF f = true) : ∃ F : Fin 64, f = ((F : Nat) : Int) := by
  have := isF_yes h
  exact ⟨⟨f.toNat, by omega⟩, by simp; omega⟩
theorem and_fin : ∀ a b : Fin 64, bits .and .i64 ((a : Nat) : Int) ((b : Nat) : Int) = madeK (bothP (a : Nat) (b : Nat)) 6 := by decide +kernel
theorem or_fin : ∀ a b : Fin 64, bits .or .i64 ((a : Nat) : Int) ((b : Nat) : Int) = madeK (eitherP (a : Nat) (b : Nat)) 6 := by decide +kernel
theorem andNot_fin : ∀ a b : Fin 64, bits .andNot .i64 ((a : Nat) : Int) ((b : Nat) : Int) = madeK (lackP (a : Nat) (b : Nat)) 6 := by decide +kernel
theorem and_eq {a b : Int} (ha : isF a = true) (hb : isF b = true) : bits .and .i64 a b = madeK (bothP a b) 6 := by
  obtain ⟨A, rfl⟩ := isF_fin ha; obtain ⟨B, rfl⟩ := isF_fin hb; exact and_fin A B
theorem or_eq {a b : Int} (ha : isF a = true) (hb : isF b = true) : bits .or .i64 a b = madeK (eitherP a b) 6 := by
  obtain ⟨A, rfl⟩ := isF_fin ha; obtain ⟨B, rfl⟩ := isF_fin hb; exact or_fin A B
theorem andNot_eq {a b : Int} (ha : isF a = true) (hb : isF b = true) : bits .andNot .i64 a b = madeK (lackP a b) 6 := by
  obtain ⟨A, rfl⟩ := isF_fin ha; obtain ⟨B, rfl⟩ := isF_fin hb; exact andNot_fin A B
theorem bit_fin : ∀ a : Fin 64, ∀ k : Fin 6, (bits .and .i64 ((a : Nat) : Int) (2 ^ (k : Nat)) != 0) = hasI (a : Nat) k := by decide +kernel
theorem bit_eq {a : Int} (ha : isF a = true) (k : Nat) (hk : k < 6) : (bits .and .i64 a (2 ^ k) != 0) = hasI a k := by
  obtain ⟨A, rfl⟩ := isF_fin ha; exact bit_fin A ⟨k, hk⟩
theorem madeK_bd (p : Nat → Bool) : ∀ k, 0 ≤ madeK p k ∧ madeK p k < 2 ^ k := by
  intro k
  induction k with
  | zero => simp [madeK]
  | succ k ih =>
    have h : (2 : Int) ^ (k + 1) = 2 ^ k + 2 ^ k := by rw [Int.pow_succ]; omega
    have h0 : (0 : Int) < 2 ^ k := Int.pow_pos (by decide)
    simp only [madeK]; rw [h]
    generalize (2 : Int) ^ k = q at *
    split <;> omega
theorem madeK_6 (p : Nat → Bool) : 0 ≤ madeK p 6 ∧ madeK p 6 ≤ 63 := by have := madeK_bd p 6; omega
theorem madeK_step (p : Nat → Bool) (k : Nat) (h : k < 6) : 0 ≤ madeK p k ∧ madeK p k ≤ 63 := by
  have h1 := madeK_bd p k
  have h2 : (2 : Int) ^ k ≤ 2 ^ 6 := by
    rcases (show k = 0 ∨ k = 1 ∨ k = 2 ∨ k = 3 ∨ k = 4 ∨ k = 5 by omega) with rfl | rfl | rfl | rfl | rfl | rfl <;> decide
  omega
theorem madeK_zero (p : Nat → Bool) : ∀ k, madeK p k = 0 ↔ ∀ j, j < k → p j = false := by
  intro k
  induction k with
  | zero => simp [madeK]
  | succ k ih =>
    have h0 : (0 : Int) < 2 ^ k := Int.pow_pos (by decide)
    have hb := madeK_bd p k
    simp only [madeK]
    constructor
    · intro h j hj
      have hk : p k = false := by cases hp : p k with
        | false => rfl
        | true => rw [hp, if_pos rfl] at h; omega
      rcases Nat.lt_or_ge j k with hjk | hjk
      · refine ih.1 ?_ j hjk; rw [hk] at h; simpa using h
      · have : j = k := by omega
        subst this; exact hk
    · intro h
      rw [h k (by omega), ih.2 fun j hj => h j (by omega)]; simp
/-- the abilities of a face -/
def abilK (f : Int) (k : Nat) : List Nat := (List.range k).filter (hasI f)
def abilL (f : Int) : List Nat := if isF f = true then abilK f 6 else []
theorem abilK_succ (f : Int) (k : Nat) : abilK f (k + 1) = abilK f k ++ if hasI f k = true then [k] else [] := by
  unfold abilK; rw [List.range_succ, List.filter_append]; simp [List.filter_cons]
theorem abilK_len (f : Int) (k : Nat) : (abilK f k).length ≤ k := by
  have := List.length_filter_le (hasI f) (List.range k); simpa [abilK] using this
theorem abilL_len (f : Int) : (abilL f).length ≤ 6 := by
  unfold abilL
  split
  · exact abilK_len f 6
  · simp
theorem abilL_lt (f : Int) (k : Nat) (h : k ∈ abilL f) : k < 6 := by
  unfold abilL at h; split at h
  · have := List.mem_filter.1 h; simpa using this.1
  · simp at h
/-- the name of an ability -/
def abN : Nat → List UInt8
  | 0 => [114, 117, 110]
  | 1 => [107, 101, 101, 112]
  | 2 => [116, 101, 108, 108]
  | 3 => [104, 101, 97, 114]
  | 4 => [115, 97, 118, 101]
  | 5 => [104, 101, 97, 108]
  | _ => []
def abNI (k : Int) : List UInt8 := if k < 0 then [] else abN k.toNat
theorem abNI_out {k : Int} (h : k < 0 ∨ 6 ≤ k) : abNI k = [] := by
  unfold abNI
  split
  · rfl
  · obtain ⟨m, hm⟩ : ∃ m, k.toNat = m + 6 := ⟨k.toNat - 6, by omega⟩
    rw [hm]; rfl
theorem abN_len (k : Nat) : (abN k).length ≤ 4 := by unfold abN; split <;> simp
/-- the methods of an ability -/
def mthN : Nat → List (List UInt8)
  | 0 => [[83, 116, 97, 114, 116], [83, 116, 111, 112]]
  | 1 => [[71, 101, 116], [80, 117, 116]]
  | 2 => [[84, 101, 108, 108]]
  | 3 => [[72, 101, 97, 114]]
  | 4 => [[76, 111, 97, 100], [83, 97, 118, 101]]
  | 5 => [[72, 101, 97, 108]]
  | _ => []
theorem mthN_len (k : Nat) : (mthN k).length ≤ 2 := by unfold mthN; split <;> simp
theorem mthN_short (k : Nat) : ∀ s ∈ mthN k, s.length ≤ 5 := by unfold mthN; split <;> simp
def abOf (s : List UInt8) : Int := findK (fun k => abN k == s) 0 6
def abOfM (s : List UInt8) : Int := findK (fun k => decide (s ∈ mthN k)) 0 6
/-- the names of a face's abilities; its methods -/
def namesF (f : Int) : List (List UInt8) := (abilL f).map abN
def methsF (f : Int) : List (List UInt8) := (abilL f).flatMap mthN
/-- the face of all abilities whose methods are in l -/
def faceM (l : List (List UInt8)) (k : Nat) : Bool := (mthN k).all fun s => decide (s ∈ l)
def faceOfM (l : List (List UInt8)) : Int := madeK (faceM l) 6
/-- the faces that f offers -/
def underK (f : Int) (k : Nat) : List Int := ((List.range k).filter fun g => offersF f (g : Nat)).map fun g => ((g : Nat) : Int)
def underL (f : Int) : List Int := underK f 64
theorem underK_succ (f : Int) (k : Nat) : underK f (k + 1) = underK f k ++ if offersF f (k : Nat) = true then [(k : Int)] else [] := by
  unfold underK; rw [List.range_succ, List.filter_append, List.map_append]; by_cases h : offersF f (k : Nat) = true <;> simp [h]
theorem underK_len (f : Int) (k : Nat) : (underK f k).length ≤ k := by
  have := List.length_filter_le (fun g => offersF f (g : Nat)) (List.range k); simpa [underK] using this
end Go.Proofs.Ytlkpinlkbikokae
/- Contracts of chapter 2, the functions that only reckon. -/
namespace Go.Proofs.Ytlkpinlkbikokae
set_option linter.unusedVariables false
open Go.RowKit
theorem ret_strL {a b : List UInt8} (h : a = b) : Ending.returned (.string ⟨a.toArray⟩) = .returned (.string ⟨b.toArray⟩) := by rw [h]
set_option maxHeartbeats 400000 in
theorem specIsFace_any (f : Int) (w : World) :
    Calls Try.prog 38 #[.int .i64 f] w fun e w' => e = .returned (.bool (isF f)) ∧ w = w' := by
  by_cases h0 : f < 0
  · go_enter Try.func38, Try.ntmps38
    go_wp2
    go_ret
    exact ⟨ret_bool (by simp [isF]; omega), rfl⟩
  · go_enter Try.func38, Try.ntmps38
    go_wp2
    go_ret
    exact ⟨ret_bool (by simp [isF]; omega), rfl⟩
theorem specIsFace_b (f : Int) (x : Bool) (h : isF f = x) (w : World) :
    Calls Try.prog 38 #[.int .i64 f] w fun e w' => e = .returned (.bool x) ∧ w = w' := by
  subst h; exact specIsFace_any f w
set_option maxHeartbeats 400000 in
theorem implIsFace_any (f : Int) (w : World) :
    Calls Try.prog 70 #[.int .i64 f] w fun e w' => e = .returned (.bool (isF f)) ∧ w = w' := by
  by_cases h0 : f < 0
  · go_enter Try.func70, Try.ntmps70
    go_wp2
    go_ret
    exact ⟨ret_bool (by simp [isF]; omega), rfl⟩
  · go_enter Try.func70, Try.ntmps70
    go_wp2
    go_ret
    exact ⟨ret_bool (by simp [isF]; omega), rfl⟩
theorem implIsFace_b (f : Int) (x : Bool) (h : isF f = x) (w : World) :
    Calls Try.prog 70 #[.int .i64 f] w fun e w' => e = .returned (.bool x) ∧ w = w' := by
  subst h; exact implIsFace_any f w
set_option maxHeartbeats 400000 in
theorem areFaces_b (a b : Int) (x y : Bool) (hx : isF a = x) (hy : isF b = y) (w : World) :
    Calls Try.prog 60 #[.int .i64 a, .int .i64 b] w fun e w' => e = .returned (.bool (x && y)) ∧ w = w' := by
  have HA := Lib.hid (implIsFace_b a x hx)
  have HB := Lib.hid (implIsFace_b b y hy)
  clear hx hy
  cases x <;> cases y
  all_goals
    go_enter Try.func60, Try.ntmps60
    go_wp2_with (first | (go_at_call 70; (with_reducible refine (HA.out _).mono ?_); rintro e w' ⟨rfl, rfl⟩) | (go_at_call 70; (with_reducible refine (HB.out _).mono ?_); rintro e w' ⟨rfl, rfl⟩))
    go_ret
    exact ⟨rfl, rfl⟩
set_option maxHeartbeats 400000 in
theorem l2Has_any (f : Int) (k : Nat) (w : World) (hf : isF f = true) (hk : k < 6) :
    Calls Try.prog 35 #[.int .i64 f, .int .i64 k] w fun e w' => e = .returned (.bool (hasI f k)) ∧ w = w' := by
  obtain ⟨h0, h1⟩ := isF_yes hf
  clear hf
  rcases (show k = 0 ∨ k = 1 ∨ k = 2 ∨ k = 3 ∨ k = 4 ∨ k = 5 by omega) with rfl | rfl | rfl | rfl | rfl | rfl
  all_goals
    clear hk
    go_enter Try.func35, Try.ntmps35
    go_wp2
    go_ret
    exact ⟨ret_bool (by rw [Bool.eq_iff_iff]; simp [hasI]), rfl⟩
theorem l2Has_b (f : Int) (k : Nat) (x : Bool) (h : hasI f k = x) (hf : isF f = true) (hk : k < 6) (w : World) :
    Calls Try.prog 35 #[.int .i64 f, .int .i64 k] w fun e w' => e = .returned (.bool x) ∧ w = w' := by
  subst h; exact l2Has_any f k w hf hk
def selB (how : Int) (x y : Bool) : Bool := (decide (how = 0) && x && y) || (decide (how = 1) && (x || y)) || (decide (how = 2) && x && !y)
def madeF (how a b : Int) : Int := if isF a = true ∧ isF b = true then madeK (fun k => selB how (hasI a k) (hasI b k)) 6 else 0
theorem madeF_no (how a b : Int) (h : isF a = false ∨ isF b = false) : madeF how a b = 0 := by
  unfold madeF; rw [if_neg]; rintro ⟨h1, h2⟩; rcases h with h | h <;> simp_all
theorem w64 {x : Int} (h0 : -9223372036854775808 ≤ x) (h1 : x ≤ 9223372036854775807) : wrap64 x = x := by unfold wrap64; omega
theorem pow_bd (k : Nat) (hk : k < 6) : (0 : Int) < 2 ^ k ∧ (2 : Int) ^ k ≤ 32 := by
  rcases (show k = 0 ∨ k = 1 ∨ k = 2 ∨ k = 3 ∨ k = 4 ∨ k = 5 by omega) with rfl | rfl | rfl | rfl | rfl | rfl <;> decide
theorem pow_of (k : Nat) (hk : k < 6) : wrap64 (2 ^ k) = 2 ^ k := by have := pow_bd k hk; exact w64 (by omega) (by omega)
theorem sum_pow (z : Int) (k : Nat) (hk : k < 6) (h0 : 0 ≤ z) (h1 : z ≤ 63) : wrap64 (z + wrap64 (2 ^ k)) = z + 2 ^ k := by
  have := pow_bd k hk; rw [pow_of k hk]; exact w64 (by omega) (by omega)
end Go.Proofs.Ytlkpinlkbikokae
/- Contracts of chapter 2: names of abilities, methods of abilities. -/
namespace Go.Proofs.Ytlkpinlkbikokae
set_option linter.unusedVariables false
open Go.RowKit
theorem abNI_nat (k : Nat) : abNI (k : Int) = abN k := by unfold abNI; rw [if_neg (by omega)]; simp
/-- the model's list of names -/
def namesV : List Value := [strV (abN 0), strV (abN 1), strV (abN 2), strV (abN 3), strV (abN 4), strV (abN 5)]
def GivesNames (w : World) (e : Ending) (w' : World) : Prop := e = .returned (.slice (some ⟨w.heap.size, 0, none⟩) 6 6) ∧ w' = w.alloc (.cells namesV.toArray 9)
theorem names_cell (w : World) (k : Nat) (hk : k < 6) : (w.alloc (.cells namesV.toArray 9)).cell? ⟨w.heap.size, k, none⟩ = some (strV (abN k)) := by
  rw [cell_of_row _ _ k _ 9 (0, 0) (heap_alloc_new w _)]
  rcases (show k = 0 ∨ k = 1 ∨ k = 2 ∨ k = 3 ∨ k = 4 ∨ k = 5 by omega) with rfl | rfl | rfl | rfl | rfl | rfl <;> rfl
end Go.Proofs.Ytlkpinlkbikokae
/- Contracts of chapter 2: the abilities of a face, their number; methods of abilities; what is in a list. -/
namespace Go.Proofs.Ytlkpinlkbikokae
set_option linter.unusedVariables false
open Go.RowKit
def intsN (l : List Nat) : List Int := l.map fun k => ((k : Nat) : Int)
theorem intsN_len (l : List Nat) : (intsN l).length = l.length := by simp [intsN]
theorem intsN_snoc (l : List Nat) (k : Nat) : intsN (l ++ [k]) = intsN l ++ [(k : Int)] := by simp [intsN]
/-- rows of integers and rows of texts are not the same -/
theorem owns_apart {w : World} {B B' : Nat} {v u : Value} {xs : List Int} {ys : List (List UInt8)} (h : OwnsI w B v xs) (k : Owns w B' u ys) : v.ownBlock = none ∨ v.ownBlock ≠ u.ownBlock := by
  rcases h.2 with ⟨rfl, _⟩ | ⟨g, cap, cur, rfl, _, hg, _⟩
  · exact Or.inl rfl
  · right
    rcases k.2 with ⟨rfl, _⟩ | ⟨g2, cap2, cur2, rfl, _, hg2, _⟩
    · simp [Value.ownBlock]
    · intro e
      simp [Value.ownBlock] at e
      subst e
      rw [hg] at hg2
      injection hg2 with hg2
      injection hg2 with _ h2 _
      exact absurd h2 (by decide)
theorem ownsI_kept {w w' : World} {B B' : Nat} {v u : Value} {xs : List Int} {ys : List (List UInt8)} (h : OwnsI w B v xs) (k : Owns w B' u ys) (hg : w.grownBy w' u.ownBlock) : OwnsI w' B v xs :=
  World.ownsRow.kept h hg (owns_apart h k)
theorem bit_walk {f : Int} (hf : isF f = true) (k : Nat) (hk : k < 6) (b : Bool) (h : hasI f k = b) : (bits .and .i64 f (wrap64 (2 ^ k)) != 0) = b := by
  rw [pow_of k hk, bit_eq hf k hk]; exact h
theorem abilK_yes {f : Int} {k : Nat} (h : hasI f k = true) : intsN (abilK f (k + 1)) = intsN (abilK f k) ++ [(k : Int)] := by rw [abilK_succ, if_pos h, intsN_snoc]
theorem abilK_no {f : Int} {k : Nat} (h : hasI f k = false) : abilK f (k + 1) = abilK f k := by rw [abilK_succ, if_neg (by simp [h]), List.append_nil]
theorem abilL_yes {f : Int} (h : isF f = true) : abilL f = abilK f 6 := if_pos h
theorem abilL_no {f : Int} (h : isF f = false) : abilL f = [] := if_neg (by simp [h])
/-- the methods of an ability, in memory that was just made -/
def GivesMth (k : Nat) (w : World) (e : Ending) (w' : World) : Prop := e = .returned (.slice (some ⟨w.heap.size, 0, none⟩) (mthN k).length (mthN k).length) ∧ w' = w.alloc (.cells ((mthN k).map strV).toArray 9)
theorem mth_row (w : World) (k : Nat) (c : Nat) (hc : (mthN k).length ≤ c := by exact Nat.le_refl _) : RowAt (w.alloc (.cells ((mthN k).map strV).toArray 9)) (.slice (some ⟨w.heap.size, 0, none⟩) (mthN k).length c) ((mthN k).map strV) := by
  refine ⟨_, c - (mthN k).length, by rw [List.length_map, Nat.add_sub_of_le hc], by rw [List.length_map]; have := mthN_len k; unfold maxLen; omega, Or.inr ⟨w.heap.size, 0, rfl, by simp, fun i _ => ?_⟩⟩
  rw [cell_of_row _ _ _ _ 9 (0, 0) (heap_alloc_new w _)]
  simp
def IdxOf (x : List (List UInt8)) (t : List UInt8) (w : World) (e : Ending) (w' : World) : Prop := ∃ i : Int, e = .returned (.int .i64 i) ∧ -1 ≤ i ∧ i ≤ 9223372036854775807 ∧ decide (0 ≤ i) = decide (t ∈ x) ∧ w = w'
end Go.Proofs.Ytlkpinlkbikokae
/- Contracts of chapter 2: both, either, lacking, offers. -/
namespace Go.Proofs.Ytlkpinlkbikokae
set_option linter.unusedVariables false
open Go.RowKit
theorem selB_0 : ∀ x y : Bool, selB 0 x y = (x && y) := by decide
theorem selB_1 : ∀ x y : Bool, selB 1 x y = (x || y) := by decide
theorem selB_2 : ∀ x y : Bool, selB 2 x y = (x && !y) := by decide
theorem madeF_0 (a b : Int) : madeF 0 a b = bothF a b := by
  unfold madeF bothF; rw [show (fun k => selB 0 (hasI a k) (hasI b k)) = bothP a b from funext fun k => selB_0 _ _]
theorem madeF_1 (a b : Int) : madeF 1 a b = eitherF a b := by
  unfold madeF eitherF; rw [show (fun k => selB 1 (hasI a k) (hasI b k)) = eitherP a b from funext fun k => selB_1 _ _]
theorem madeF_2 (f want : Int) : madeF 2 want f = lackF f want := by
  unfold madeF lackF
  rw [show (fun k => selB 2 (hasI want k) (hasI f k)) = lackP want f from funext fun k => selB_2 _ _]
  by_cases h : isF f = true ∧ isF want = true
  · rw [if_pos h, if_pos ⟨h.2, h.1⟩]
  · rw [if_neg h, if_neg (fun h2 => h ⟨h2.2, h2.1⟩)]
theorem bothF_bd (a b : Int) : 0 ≤ bothF a b ∧ bothF a b ≤ 63 := by unfold bothF; split; exact madeK_6 _; omega
theorem eitherF_bd (a b : Int) : 0 ≤ eitherF a b ∧ eitherF a b ≤ 63 := by unfold eitherF; split; exact madeK_6 _; omega
theorem lackF_bd (a b : Int) : 0 ≤ lackF a b ∧ lackF a b ≤ 63 := by unfold lackF; split; exact madeK_6 _; omega
theorem offersF_no {f want : Int} {k : Nat} (hk : k < 6) (hf : isF f = true) (hw : isF want = true) (h : lackP want f k = true) : offersF f want = false := by
  unfold offersF lackF
  rw [if_pos ⟨hf, hw⟩, hf, hw]
  have : madeK (lackP want f) 6 ≠ 0 := fun e => by have := (madeK_zero _ 6).1 e k hk; rw [h] at this; cases this
  simp [this]
theorem offersF_yes {f want : Int} (hf : isF f = true) (hw : isF want = true) (h : ∀ j, j < 6 → lackP want f j = false) : offersF f want = true := by
  unfold offersF lackF
  rw [if_pos ⟨hf, hw⟩, hf, hw, (madeK_zero _ 6).2 h]; rfl
theorem offersF_not {f want : Int} (h : isF f = false ∨ isF want = false) : offersF f want = false := by
  unfold offersF; rcases h with h | h <;> rw [h] <;> simp
theorem bothF_eq {a b : Int} (h : (isF a && isF b) = true) : bits .and .i64 a b = bothF a b := by
  rw [Bool.and_eq_true] at h; unfold bothF; rw [if_pos h, and_eq h.1 h.2]
theorem eitherF_eq {a b : Int} (h : (isF a && isF b) = true) : bits .or .i64 a b = eitherF a b := by
  rw [Bool.and_eq_true] at h; unfold eitherF; rw [if_pos h, or_eq h.1 h.2]
theorem lackF_eq {a b : Int} (h : (isF a && isF b) = true) : bits .andNot .i64 b a = lackF a b := by
  rw [Bool.and_eq_true] at h; unfold lackF; rw [if_pos h, andNot_eq h.2 h.1]
theorem bothF_non {a b : Int} (h : (isF a && isF b) = false) : bothF a b = 0 := by
  unfold bothF; rw [if_neg]; rintro ⟨h1, h2⟩; rw [h1, h2] at h; cases h
theorem eitherF_non {a b : Int} (h : (isF a && isF b) = false) : eitherF a b = 0 := by
  unfold eitherF; rw [if_neg]; rintro ⟨h1, h2⟩; rw [h1, h2] at h; cases h
theorem lackF_non {a b : Int} (h : (isF a && isF b) = false) : lackF a b = 0 := by
  unfold lackF; rw [if_neg]; rintro ⟨h1, h2⟩; rw [h1, h2] at h; cases h
theorem areFaces_x (a b : Int) (x : Bool) (h : (isF a && isF b) = x) (w : World) :
    Calls Try.prog 60 #[.int .i64 a, .int .i64 b] w fun e w' => e = .returned (.bool x) ∧ w = w' := by
  subst h; exact areFaces_b a b _ _ rfl rfl w
set_option maxHeartbeats 400000 in
theorem implLacking_any (a b : Int) (w : World) :
    Calls Try.prog 61 #[.int .i64 a, .int .i64 b] w fun e w' => e = .returned (.int .i64 (lackF a b)) ∧ w = w' := by
  cases h : (isF a && isF b) with
  | false =>
    have HF := Lib.hid (lackF_non h)
    have HA := Lib.hid (areFaces_x a b _ h)
    clear h
    go_enter Try.func61, Try.ntmps61
    go_wp2_with (go_at_call 60; (with_reducible refine (HA.out _).mono ?_); rintro e w' ⟨rfl, rfl⟩)
    go_ret
    exact ⟨ret_int HF.out.symm, rfl⟩
  | true =>
    have HF := Lib.hid (lackF_eq h)
    have HA := Lib.hid (areFaces_x a b _ h)
    clear h
    go_enter Try.func61, Try.ntmps61
    go_wp2_with (go_at_call 60; (with_reducible refine (HA.out _).mono ?_); rintro e w' ⟨rfl, rfl⟩)
    go_ret
    exact ⟨ret_int HF.out, rfl⟩
set_option maxHeartbeats 400000 in
theorem implOffers_any (f want : Int) (w : World) :
    Calls Try.prog 43 #[.int .i64 f, .int .i64 want] w fun e w' => e = .returned (.bool (offersF f want)) ∧ w = w' := by
  cases h : (isF f && isF want) with
  | false =>
    have HF := Lib.hid (show offersF f want = false by unfold offersF; rw [h]; rfl)
    have HA := Lib.hid (areFaces_x f want _ h)
    clear h
    go_enter Try.func43, Try.ntmps43
    go_wp2_with (go_at_call 60; (with_reducible refine (HA.out _).mono ?_); rintro e w' ⟨rfl, rfl⟩)
    go_ret
    exact ⟨ret_bool HF.out.symm, rfl⟩
  | true =>
    have HF := Lib.hid (show offersF f want = (lackF f want == 0) by unfold offersF; rw [h]; rfl)
    have HA := Lib.hid (areFaces_x f want _ h)
    have HL := Lib.hid (implLacking_any f want)
    clear h
    generalize lackF f want = z at *
    go_enter Try.func43, Try.ntmps43
    go_wp2_with (first | (go_at_call 60; (with_reducible refine (HA.out _).mono ?_); rintro e w' ⟨rfl, rfl⟩) | (go_at_call 61; (with_reducible refine (HL.out _).mono ?_); rintro e w' ⟨rfl, rfl⟩))
    go_ret
    exact ⟨ret_bool HF.out.symm, rfl⟩
set_option maxHeartbeats 800000 in
theorem specOffers_any (f want : Int) (w : World) :
    Calls Try.prog 24 #[.int .i64 f, .int .i64 want] w fun e w' => e = .returned (.bool (offersF f want)) ∧ w = w' := by
  cases ha : isF f with
  | false =>
    have HF := Lib.hid (offersF_not (f := f) (want := want) (Or.inl ha))
    have HA := Lib.hid (specIsFace_b f false ha)
    clear ha
    go_enter Try.func24, Try.ntmps24
    go_wp2_with (go_at_call 38; (with_reducible refine (HA.out _).mono ?_); rintro e w' ⟨rfl, rfl⟩)
    go_ret
    exact ⟨ret_bool HF.out.symm, rfl⟩
  | true =>
    cases hb : isF want with
    | false =>
      have HF := Lib.hid (offersF_not (f := f) (want := want) (Or.inr hb))
      have HA := Lib.hid (specIsFace_b f true ha)
      have HB := Lib.hid (specIsFace_b want false hb)
      clear ha hb
      go_enter Try.func24, Try.ntmps24
      go_wp2_with (first | (go_at_call 38; (with_reducible refine (HA.out _).mono ?_); rintro e w' ⟨rfl, rfl⟩) | (go_at_call 38; (with_reducible refine (HB.out _).mono ?_); rintro e w' ⟨rfl, rfl⟩))
      go_ret
      exact ⟨ret_bool HF.out.symm, rfl⟩
    | true =>
      have HA := Lib.hid (specIsFace_b f true ha)
      have HB := Lib.hid (specIsFace_b want true hb)
      have HA1 := Lib.hid ha
      have HB1 := Lib.hid hb
      clear ha hb
      go_enter Try.func24, Try.ntmps24
      go_wp2_with (first | (go_at_call 38; (with_reducible refine (HA.out _).mono ?_); rintro e w' ⟨rfl, rfl⟩) | (go_at_call 38; (with_reducible refine (HB.out _).mono ?_); rintro e w' ⟨rfl, rfl⟩))
      go_loop [5] (fun i => ∃ k : Nat, k ≤ 6 ∧ i = .int .i64 k ∧ ∀ j, j < k → lackP want f j = false) (fun i => 6 - (intOf i).toNat)
      case atStart => exact ⟨0, Nat.zero_le _, rfl, fun j hj => by omega⟩
      case round =>
        obtain ⟨k, hk, rfl, hall⟩ := hrel
        have HALL := Lib.hid hall
        clear hall
        by_cases hlt : k < 6
        · cases hx : hasI want k <;> cases hy : hasI f k
          all_goals
            have HX := Lib.hid (l2Has_b want k _ hx HB1.out hlt)
            have HY := Lib.hid (l2Has_b f k _ hy HA1.out hlt)
            have HP := Lib.hid (show lackP want f k = _ by unfold lackP; rw [hx, hy])
            clear hx hy
            go_wp2_with (first | (go_at_call 35; (with_reducible refine (HX.out _).mono ?_); rintro e w' ⟨rfl, rfl⟩) | (go_at_call 35; (with_reducible refine (HY.out _).mono ?_); rintro e w' ⟨rfl, rfl⟩))
            first
              | (go_ret
                 exact ⟨ret_bool (offersF_no hlt HA1.out HB1.out HP.out).symm, rfl⟩)
              | (go_round
                 case rel =>
                   refine ⟨k + 1, by omega, by go_num, fun j hj => ?_⟩
                   rcases Nat.lt_or_ge j k with h | h
                   · exact HALL.out j h
                   · have : j = k := by omega
                     subst this; exact HP.out
                 case measure => simp [intOf]; omega)
        · have : k = 6 := by omega
          subst this
          have HF := Lib.hid (offersF_yes HA1.out HB1.out HALL.out)
          go_wp2
          go_ret
          exact ⟨ret_bool HF.out.symm, rfl⟩
end Go.Proofs.Ytlkpinlkbikokae
/- Contracts of chapter 2: AbilityOfMethod, FaceOfMethods, FacesUnder. -/
namespace Go.Proofs.Ytlkpinlkbikokae
set_option linter.unusedVariables false
open Go.RowKit
theorem rowAt_alloc {w : World} {v : Value} {xs : List Value} (h : RowAt w v xs) (o : Obj) : RowAt (w.alloc o) v xs := h.below ((Below.refl w.heap.size w).alloc (Nat.le_refl _) o) (Nat.le_refl _)
theorem sum_pow' (z : Int) (k : Nat) (hk : k < 6) (h0 : 0 ≤ z) (h1 : z ≤ 63) : Value.int .i64 (wrap64 (z + wrap64 (2 ^ k))) = .int .i64 (z + 2 ^ k) := congrArg _ (sum_pow z k hk h0 h1)
end Go.Proofs.Ytlkpinlkbikokae
/- Contracts of chapter 3, the model's: KindFace, WantOf. -/
namespace Go.Proofs.Ytlkpinlkbikokae
set_option linter.unusedVariables false
open Go.RowKit
def kindN : Nat → List UInt8
  | 0 => [115, 116, 111, 110, 101]
  | 1 => [108, 97, 109, 112]
  | 2 => [115, 104, 101, 108, 102]
  | 3 => [109, 101, 116, 101, 114]
  | 4 => [100, 114, 97, 119, 101, 114]
  | 5 => [104, 111, 114, 110]
  | 6 => [118, 97, 117, 108, 116]
  | 7 => [114, 111, 98, 111, 116]
  | _ => []
def kfN : Nat → Int
  | 0 => 0
  | 1 => 1
  | 2 => 2
  | 3 => 5
  | 4 => 3
  | 5 => 9
  | 6 => 19
  | 7 => 63
  | _ => 0
/-- the number of a kind; -1 -/
def kindI (s : List UInt8) : Int := findK (fun k => kindN k == s) 0 8
def kfI (i : Int) : Int := if i < 0 then 0 else kfN i.toNat
def kfV (i : Int) : Value := .tuple #[.int .i64 (kfI i), .bool (decide (0 ≤ i))]
theorem kfV_yes {i : Int} {k : Nat} (h : (k : Int) = i) : Value.tuple #[.int .i64 (kfN k), .bool true] = kfV i := by
  subst h; unfold kfV kfI; rw [if_neg (by omega)]; simp
theorem kfV_no {i : Int} (h : (-1 : Int) = i) : Value.tuple #[.int .i64 0, .bool false] = kfV i := by subst h; rfl
theorem kinds_cell (w : World) (k : Nat) (hk : k < 8) : (w.alloc (.cells #[.string ⟨#[115, 116, 111, 110, 101]⟩, .string ⟨#[108, 97, 109, 112]⟩, .string ⟨#[115, 104, 101, 108, 102]⟩, .string ⟨#[109, 101, 116, 101, 114]⟩, .string ⟨#[100, 114, 97, 119, 101, 114]⟩, .string ⟨#[104, 111, 114, 110]⟩, .string ⟨#[118, 97, 117, 108, 116]⟩, .string ⟨#[114, 111, 98, 111, 116]⟩] 9)).cell? ⟨w.heap.size, k, none⟩ = some (.string ⟨(kindN k).toArray⟩) := by
  rw [cell_of_row _ _ k _ 9 (0, 0) (heap_alloc_new w _)]
  rcases (show k = 0 ∨ k = 1 ∨ k = 2 ∨ k = 3 ∨ k = 4 ∨ k = 5 ∨ k = 6 ∨ k = 7 by omega) with rfl | rfl | rfl | rfl | rfl | rfl | rfl | rfl <;> rfl
set_option maxHeartbeats 800000 in
theorem specKind_any (s : ByteArray) (w : World) :
    Calls Try.prog 34 #[.string s] w fun e w' => e = .returned (kfV (kindI s.data.toList)) ∧ Below w.heap.size w w' := by
  have HD := Lib.hid (kinds_cell w)
  go_enter Try.func34, Try.ntmps34
  go_wp2_with fail
  go_loop [4, 5, 8] (fun _ _ i => ∃ k : Nat, k ≤ 8 ∧ i = .int .i64 k ∧ findK (fun k => kindN k == s.data.toList) k (8 - k) = kindI s.data.toList) (fun _ _ i => 8 - (intOf i).toNat)
  case atStart => exact ⟨0, Nat.zero_le _, rfl, rfl⟩
  case round =>
    obtain ⟨k, hk, rfl, hf⟩ := hrel
    have HF := Lib.hid hf
    clear hf
    by_cases hlt : k < 8
    · have d1 := HD.out k hlt
      cases heq : (kindN k == s.data.toList) with
      | true =>
        have HR := Lib.hid (show (k : Int) = kindI s.data.toList from by rw [← HF.out]; exact (findK_yes hlt heq).symm)
        have hbeq : (kindN k == s.toList) = true := by rw [Lib.toList_data]; exact heq
        clear heq
        go_wp2_with fail
        go_ret2
        rcases (show k = 0 ∨ k = 1 ∨ k = 2 ∨ k = 3 ∨ k = 4 ∨ k = 5 ∨ k = 6 ∨ k = 7 by omega) with rfl | rfl | rfl | rfl | rfl | rfl | rfl | rfl <;> exact ⟨congrArg Ending.returned (kfV_yes HR.out), ((Below.refl _ _).alloc (Nat.le_refl _) _).alloc (by simp) _⟩
      | false =>
        have HR := Lib.hid (show findK (fun k => kindN k == s.data.toList) (k + 1) (8 - (k + 1)) = kindI s.data.toList from by rw [← HF.out]; exact (findK_no hlt heq).symm)
        have hbeq : (kindN k == s.toList) = false := by rw [Lib.toList_data]; exact heq
        clear heq
        go_wp2_with fail
        exact ⟨⟨k + 1, by omega, by go_num, HR.out⟩, by simp [intOf]; omega⟩
    · have HR := Lib.hid (show (-1 : Int) = kindI s.data.toList from by rw [← HF.out, show k = 8 by omega]; exact findK_end.symm)
      go_wp2_with fail
      go_ret2
      exact ⟨congrArg Ending.returned (kfV_no HR.out), (Below.refl _ _).alloc (Nat.le_refl _) _⟩
/-- what a call with that method wants -/
def wantI (k : Int) : Int := if k < 0 then 0 else 2 ^ k.toNat
def wantF (m : List UInt8) : Int := wantI (abOfM m)
theorem findK_bd (p : Nat → Bool) : ∀ n k : Nat, findK p k n = -1 ∨ ∃ j : Nat, findK p k n = j ∧ j < k + n ∧ p j = true := by
  intro n
  induction n with
  | zero => intro k; exact Or.inl rfl
  | succ n ih =>
    intro k
    unfold findK
    split
    · rename_i h; exact Or.inr ⟨k, rfl, by omega, h⟩
    · rcases ih (k + 1) with h | ⟨j, h1, h2, h3⟩
      · exact Or.inl h
      · exact Or.inr ⟨j, h1, by omega, h3⟩
theorem abOfM_bd (m : List UInt8) : abOfM m = -1 ∨ ∃ j : Nat, abOfM m = j ∧ j < 6 := by
  rcases findK_bd (fun k => decide (m ∈ mthN k)) 6 0 with h | ⟨j, h1, h2, _⟩
  · exact Or.inl h
  · exact Or.inr ⟨j, h1, by omega⟩
end Go.Proofs.Ytlkpinlkbikokae
/- Contracts of chapter 3: the program's KindFace, kindOffers. -/
namespace Go.Proofs.Ytlkpinlkbikokae
set_option linter.unusedVariables false
open Go.RowKit
theorem bytes_eq (s : ByteArray) (l : List UInt8) : s.toList = l ↔ s = ⟨l.toArray⟩ := by
  rw [Lib.toList_data]
  constructor
  · intro h; subst h; simp
  · intro h; subst h; simp
theorem kindI_none (l : List UInt8) (h : ∀ k, k < 8 → kindN k ≠ l) : kindI l = -1 := by
  have : ∀ n k, k + n ≤ 8 → findK (fun k => kindN k == l) k n = -1 := by
    intro n
    induction n with
    | zero => intro k _; rfl
    | succ n ih =>
      intro k hk
      unfold findK
      rw [if_neg (by simpa using h k (by omega)), ih (k + 1) (by omega)]
  exact this 8 0 (by omega)
set_option maxHeartbeats 800000 in
theorem implKind_any (s : ByteArray) (w : World) :
    Calls Try.prog 56 #[.string s] w fun e w' => e = .returned (kfV (kindI s.data.toList)) ∧ w = w' := by
  by_cases h0 : s.toList = [115, 116, 111, 110, 101]
  · rw [bytes_eq] at h0
    subst h0
    go_enter Try.func56, Try.ntmps56
    go_wp2
    go_ret2
    exact ⟨rfl, rfl⟩
  by_cases h1 : s.toList = [108, 97, 109, 112]
  · rw [bytes_eq] at h1
    subst h1
    clear h0
    go_enter Try.func56, Try.ntmps56
    go_wp2
    go_ret2
    exact ⟨rfl, rfl⟩
  by_cases h2 : s.toList = [115, 104, 101, 108, 102]
  · rw [bytes_eq] at h2
    subst h2
    clear h0 h1
    go_enter Try.func56, Try.ntmps56
    go_wp2
    go_ret2
    exact ⟨rfl, rfl⟩
  by_cases h3 : s.toList = [109, 101, 116, 101, 114]
  · rw [bytes_eq] at h3
    subst h3
    clear h0 h1 h2
    go_enter Try.func56, Try.ntmps56
    go_wp2
    go_ret2
    exact ⟨rfl, rfl⟩
  by_cases h4 : s.toList = [100, 114, 97, 119, 101, 114]
  · rw [bytes_eq] at h4
    subst h4
    clear h0 h1 h2 h3
    go_enter Try.func56, Try.ntmps56
    go_wp2
    go_ret2
    exact ⟨rfl, rfl⟩
  by_cases h5 : s.toList = [104, 111, 114, 110]
  · rw [bytes_eq] at h5
    subst h5
    clear h0 h1 h2 h3 h4
    go_enter Try.func56, Try.ntmps56
    go_wp2
    go_ret2
    exact ⟨rfl, rfl⟩
  by_cases h6 : s.toList = [118, 97, 117, 108, 116]
  · rw [bytes_eq] at h6
    subst h6
    clear h0 h1 h2 h3 h4 h5
    go_enter Try.func56, Try.ntmps56
    go_wp2
    go_ret2
    exact ⟨rfl, rfl⟩
  by_cases h7 : s.toList = [114, 111, 98, 111, 116]
  · rw [bytes_eq] at h7
    subst h7
    clear h0 h1 h2 h3 h4 h5 h6
    go_enter Try.func56, Try.ntmps56
    go_wp2
    go_ret2
    exact ⟨rfl, rfl⟩
  have b0 : (s.toList == [115, 116, 111, 110, 101]) = false := by simpa using h0
  have b1 : (s.toList == [108, 97, 109, 112]) = false := by simpa using h1
  have b2 : (s.toList == [115, 104, 101, 108, 102]) = false := by simpa using h2
  have b3 : (s.toList == [109, 101, 116, 101, 114]) = false := by simpa using h3
  have b4 : (s.toList == [100, 114, 97, 119, 101, 114]) = false := by simpa using h4
  have b5 : (s.toList == [104, 111, 114, 110]) = false := by simpa using h5
  have b6 : (s.toList == [118, 97, 117, 108, 116]) = false := by simpa using h6
  have b7 : (s.toList == [114, 111, 98, 111, 116]) = false := by simpa using h7
  have HK := Lib.hid (show kindI s.data.toList = -1 from kindI_none _ (by
    rw [Lib.toList_data] at h0 h1 h2 h3 h4 h5 h6 h7
    intro k hk e
    rcases (show k = 0 ∨ k = 1 ∨ k = 2 ∨ k = 3 ∨ k = 4 ∨ k = 5 ∨ k = 6 ∨ k = 7 by omega) with rfl | rfl | rfl | rfl | rfl | rfl | rfl | rfl
    · exact h0 e.symm
    · exact h1 e.symm
    · exact h2 e.symm
    · exact h3 e.symm
    · exact h4 e.symm
    · exact h5 e.symm
    · exact h6 e.symm
    · exact h7 e.symm))
  clear h0 h1 h2 h3 h4 h5 h6 h7
  go_enter Try.func56, Try.ntmps56
  go_wp2
  go_ret2
  exact ⟨congrArg Ending.returned (kfV_no HK.out.symm), rfl⟩
theorem kindI_bd (l : List UInt8) : kindI l = -1 ∨ ∃ j : Nat, kindI l = j ∧ j < 8 ∧ kindN j = l := by
  rcases findK_bd (fun k => kindN k == l) 8 0 with h | ⟨j, h1, h2, h3⟩
  · exact Or.inl h
  · exact Or.inr ⟨j, h1, by omega, by simpa using h3⟩
theorem kfN_face (j : Nat) : isF (kfN j) = true := by unfold kfN; split <;> rfl
theorem kfI_face (i : Int) : isF (kfI i) = true := by unfold kfI; split; rfl; exact kfN_face _
/-- the kind's face offers what is wanted -/
def kindOff (l : List UInt8) (want : Int) : Bool := decide (0 ≤ kindI l) && offersF (kfI (kindI l)) want
set_option maxHeartbeats 800000 in
theorem kindOffers_any (s : ByteArray) (want : Int) (w : World) :
    Calls Try.prog 58 #[.string s, .int .i64 want] w fun e w' => e = .returned (.bool (kindOff s.data.toList want)) ∧ w = w' := by
  have HK := Lib.hid (implKind_any s)
  have HO := Lib.hid (implOffers_any (kfI (kindI s.data.toList)) want)
  unfold kindOff
  unfold kfV at HK
  generalize kfI (kindI s.data.toList) = f at *
  generalize decide (0 ≤ kindI s.data.toList) = b at *
  cases b
  · go_enter Try.func58, Try.ntmps58
    go_wp2_with fail
    refine (HK.out _).mono ?_
    rintro e w1 ⟨rfl, rfl⟩
    go_wp2_with fail
    go_ret
    exact ⟨rfl, rfl⟩
  · go_enter Try.func58, Try.ntmps58
    go_wp2_with fail
    refine (HK.out _).mono ?_
    rintro e w1 ⟨rfl, rfl⟩
    go_wp2_with fail
    refine (HO.out _).mono ?_
    rintro e w1 ⟨rfl, rfl⟩
    go_wp2_with fail
    go_ret
    exact ⟨rfl, rfl⟩
theorem kindOffers_b (l : List UInt8) (want : Int) (x : Bool) (h : kindOff l want = x) (w : World) :
    Calls Try.prog 58 #[.string ⟨l.toArray⟩, .int .i64 want] w fun e w' => e = .returned (.bool x) ∧ w = w' := by
  subst h; exact kindOffers_any ⟨l.toArray⟩ want w
end Go.Proofs.Ytlkpinlkbikokae
/- Contracts of chapter 4: LayerNeeds, LayerGives, the program's and the model's. Written by gen/ch4lay.py. -/
namespace Go.Proofs.Ytlkpinlkbikokae
set_option linter.unusedVariables false
open Go.RowKit
def layN : Nat → List UInt8
  | 0 => [112, 108, 97, 105, 110]
  | 1 => [114, 117, 110, 115]
  | 2 => [107, 101, 101, 112, 115]
  | 3 => [99, 111, 117, 110, 116, 115]
  | 4 => [108, 97, 122, 121]
  | 5 => [114, 101, 97, 100, 115]
  | 6 => [104, 101, 97, 114, 115]
  | 7 => [104, 101, 97, 108, 115]
  | 8 => [116, 119, 105, 99, 101]
  | _ => []
def needN : Nat → Int
  | 0 => 0
  | 1 => 1
  | 2 => 2
  | 3 => 2
  | 4 => 3
  | 5 => 2
  | 6 => 1
  | 7 => 1
  | 8 => 4
  | _ => 0
def giveN : Nat → Int
  | 0 => 0
  | 1 => 1
  | 2 => 2
  | 3 => 6
  | 4 => 3
  | 5 => 2
  | 6 => 9
  | 7 => 33
  | 8 => 4
  | _ => 0
/-- the number of an adapter; -1 -/
def layI (s : List UInt8) : Int := findK (fun k => layN k == s) 0 9
def needI (i : Int) : Int := if i < 0 then 0 else needN i.toNat
def giveI (i : Int) : Int := if i < 0 then 0 else giveN i.toNat
def ndV (i : Int) : Value := .tuple #[.int .i64 (needI i), .bool (decide (0 ≤ i))]
def gvV (i : Int) : Value := .tuple #[.int .i64 (giveI i), .bool (decide (0 ≤ i))]
def l4V (i : Int) : Value := .tuple #[.int .i64 (needI i), .int .i64 (giveI i), .bool (decide (0 ≤ i))]
theorem l4V_yes {i : Int} {k : Nat} (h : (k : Int) = i) : Value.tuple #[.int .i64 (needN k), .int .i64 (giveN k), .bool true] = l4V i := by
  subst h; unfold l4V needI giveI; rw [if_neg (by omega), if_neg (by omega)]; simp
theorem l4V_no {i : Int} (h : (-1 : Int) = i) : Value.tuple #[.int .i64 0, .int .i64 0, .bool false] = l4V i := by subst h; rfl
theorem layI_none (l : List UInt8) (h : ∀ k, k < 9 → layN k ≠ l) : layI l = -1 := by
  have : ∀ n k, k + n ≤ 9 → findK (fun k => layN k == l) k n = -1 := by
    intro n
    induction n with
    | zero => intro k _; rfl
    | succ n ih =>
      intro k hk
      unfold findK
      rw [if_neg (by simpa using h k (by omega)), ih (k + 1) (by omega)]
  exact this 9 0 (by omega)
theorem layI_bd (l : List UInt8) : layI l = -1 ∨ ∃ j : Nat, layI l = j ∧ j < 9 ∧ layN j = l := by
  rcases findK_bd (fun k => layN k == l) 9 0 with h | ⟨j, h1, h2, h3⟩
  · exact Or.inl h
  · exact Or.inr ⟨j, h1, by omega, by simpa using h3⟩
theorem needN_face (j : Nat) : isF (needN j) = true := by unfold needN; split <;> rfl
theorem giveN_face (j : Nat) : isF (giveN j) = true := by unfold giveN; split <;> rfl
theorem needI_face (i : Int) : isF (needI i) = true := by unfold needI; split; rfl; exact needN_face _
theorem giveI_face (i : Int) : isF (giveI i) = true := by unfold giveI; split; rfl; exact giveN_face _
set_option maxHeartbeats 800000 in
theorem implLayerNeeds_any (s : ByteArray) (w : World) :
    Calls Try.prog 42 #[.string s] w fun e w' => e = .returned (ndV (layI s.data.toList)) ∧ w = w' := by
  by_cases h0 : s.toList = [112, 108, 97, 105, 110]
  · rw [bytes_eq] at h0
    subst h0
    go_enter Try.func42, Try.ntmps42
    go_wp2
    go_ret2
    exact ⟨rfl, rfl⟩
  by_cases h1 : s.toList = [114, 117, 110, 115]
  · rw [bytes_eq] at h1
    subst h1
    clear h0
    go_enter Try.func42, Try.ntmps42
    go_wp2
    go_ret2
    exact ⟨rfl, rfl⟩
  by_cases h2 : s.toList = [107, 101, 101, 112, 115]
  · rw [bytes_eq] at h2
    subst h2
    clear h0 h1
    go_enter Try.func42, Try.ntmps42
    go_wp2
    go_ret2
    exact ⟨rfl, rfl⟩
  by_cases h3 : s.toList = [99, 111, 117, 110, 116, 115]
  · rw [bytes_eq] at h3
    subst h3
    clear h0 h1 h2
    go_enter Try.func42, Try.ntmps42
    go_wp2
    go_ret2
    exact ⟨rfl, rfl⟩
  by_cases h4 : s.toList = [108, 97, 122, 121]
  · rw [bytes_eq] at h4
    subst h4
    clear h0 h1 h2 h3
    go_enter Try.func42, Try.ntmps42
    go_wp2
    go_ret2
    exact ⟨rfl, rfl⟩
  by_cases h5 : s.toList = [114, 101, 97, 100, 115]
  · rw [bytes_eq] at h5
    subst h5
    clear h0 h1 h2 h3 h4
    go_enter Try.func42, Try.ntmps42
    go_wp2
    go_ret2
    exact ⟨rfl, rfl⟩
  by_cases h6 : s.toList = [104, 101, 97, 114, 115]
  · rw [bytes_eq] at h6
    subst h6
    clear h0 h1 h2 h3 h4 h5
    go_enter Try.func42, Try.ntmps42
    go_wp2
    go_ret2
    exact ⟨rfl, rfl⟩
  by_cases h7 : s.toList = [104, 101, 97, 108, 115]
  · rw [bytes_eq] at h7
    subst h7
    clear h0 h1 h2 h3 h4 h5 h6
    go_enter Try.func42, Try.ntmps42
    go_wp2
    go_ret2
    exact ⟨rfl, rfl⟩
  by_cases h8 : s.toList = [116, 119, 105, 99, 101]
  · rw [bytes_eq] at h8
    subst h8
    clear h0 h1 h2 h3 h4 h5 h6 h7
    go_enter Try.func42, Try.ntmps42
    go_wp2
    go_ret2
    exact ⟨rfl, rfl⟩
  have b0 : (s.toList == [112, 108, 97, 105, 110]) = false := by simpa using h0
  have b1 : (s.toList == [114, 117, 110, 115]) = false := by simpa using h1
  have b2 : (s.toList == [107, 101, 101, 112, 115]) = false := by simpa using h2
  have b3 : (s.toList == [99, 111, 117, 110, 116, 115]) = false := by simpa using h3
  have b4 : (s.toList == [108, 97, 122, 121]) = false := by simpa using h4
  have b5 : (s.toList == [114, 101, 97, 100, 115]) = false := by simpa using h5
  have b6 : (s.toList == [104, 101, 97, 114, 115]) = false := by simpa using h6
  have b7 : (s.toList == [104, 101, 97, 108, 115]) = false := by simpa using h7
  have b8 : (s.toList == [116, 119, 105, 99, 101]) = false := by simpa using h8
  have HN : layI s.data.toList = -1 := by
    rw [Lib.toList_data] at h0 h1 h2 h3 h4 h5 h6 h7 h8
    refine layI_none _ ?_
    intro k hk e
    rcases (show k = 0 ∨ k = 1 ∨ k = 2 ∨ k = 3 ∨ k = 4 ∨ k = 5 ∨ k = 6 ∨ k = 7 ∨ k = 8 by omega) with rfl | rfl | rfl | rfl | rfl | rfl | rfl | rfl | rfl
    · exact h0 e.symm
    · exact h1 e.symm
    · exact h2 e.symm
    · exact h3 e.symm
    · exact h4 e.symm
    · exact h5 e.symm
    · exact h6 e.symm
    · exact h7 e.symm
    · exact h8 e.symm
  have HK := Lib.hid (show ndV (layI s.data.toList) = .tuple #[.int .i64 0, .bool false] by rw [HN]; rfl)
  clear h0 h1 h2 h3 h4 h5 h6 h7 h8 HN
  go_enter Try.func42, Try.ntmps42
  go_wp2
  go_ret2
  exact ⟨congrArg Ending.returned HK.out.symm, rfl⟩
set_option maxHeartbeats 800000 in
theorem implLayerGives_any (s : ByteArray) (w : World) :
    Calls Try.prog 62 #[.string s] w fun e w' => e = .returned (gvV (layI s.data.toList)) ∧ w = w' := by
  by_cases h0 : s.toList = [112, 108, 97, 105, 110]
  · rw [bytes_eq] at h0
    subst h0
    go_enter Try.func62, Try.ntmps62
    go_wp2
    go_ret2
    exact ⟨rfl, rfl⟩
  by_cases h1 : s.toList = [114, 117, 110, 115]
  · rw [bytes_eq] at h1
    subst h1
    clear h0
    go_enter Try.func62, Try.ntmps62
    go_wp2
    go_ret2
    exact ⟨rfl, rfl⟩
  by_cases h2 : s.toList = [107, 101, 101, 112, 115]
  · rw [bytes_eq] at h2
    subst h2
    clear h0 h1
    go_enter Try.func62, Try.ntmps62
    go_wp2
    go_ret2
    exact ⟨rfl, rfl⟩
  by_cases h3 : s.toList = [99, 111, 117, 110, 116, 115]
  · rw [bytes_eq] at h3
    subst h3
    clear h0 h1 h2
    go_enter Try.func62, Try.ntmps62
    go_wp2
    go_ret2
    exact ⟨rfl, rfl⟩
  by_cases h4 : s.toList = [108, 97, 122, 121]
  · rw [bytes_eq] at h4
    subst h4
    clear h0 h1 h2 h3
    go_enter Try.func62, Try.ntmps62
    go_wp2
    go_ret2
    exact ⟨rfl, rfl⟩
  by_cases h5 : s.toList = [114, 101, 97, 100, 115]
  · rw [bytes_eq] at h5
    subst h5
    clear h0 h1 h2 h3 h4
    go_enter Try.func62, Try.ntmps62
    go_wp2
    go_ret2
    exact ⟨rfl, rfl⟩
  by_cases h6 : s.toList = [104, 101, 97, 114, 115]
  · rw [bytes_eq] at h6
    subst h6
    clear h0 h1 h2 h3 h4 h5
    go_enter Try.func62, Try.ntmps62
    go_wp2
    go_ret2
    exact ⟨rfl, rfl⟩
  by_cases h7 : s.toList = [104, 101, 97, 108, 115]
  · rw [bytes_eq] at h7
    subst h7
    clear h0 h1 h2 h3 h4 h5 h6
    go_enter Try.func62, Try.ntmps62
    go_wp2
    go_ret2
    exact ⟨rfl, rfl⟩
  by_cases h8 : s.toList = [116, 119, 105, 99, 101]
  · rw [bytes_eq] at h8
    subst h8
    clear h0 h1 h2 h3 h4 h5 h6 h7
    go_enter Try.func62, Try.ntmps62
    go_wp2
    go_ret2
    exact ⟨rfl, rfl⟩
  have b0 : (s.toList == [112, 108, 97, 105, 110]) = false := by simpa using h0
  have b1 : (s.toList == [114, 117, 110, 115]) = false := by simpa using h1
  have b2 : (s.toList == [107, 101, 101, 112, 115]) = false := by simpa using h2
  have b3 : (s.toList == [99, 111, 117, 110, 116, 115]) = false := by simpa using h3
  have b4 : (s.toList == [108, 97, 122, 121]) = false := by simpa using h4
  have b5 : (s.toList == [114, 101, 97, 100, 115]) = false := by simpa using h5
  have b6 : (s.toList == [104, 101, 97, 114, 115]) = false := by simpa using h6
  have b7 : (s.toList == [104, 101, 97, 108, 115]) = false := by simpa using h7
  have b8 : (s.toList == [116, 119, 105, 99, 101]) = false := by simpa using h8
  have HN : layI s.data.toList = -1 := by
    rw [Lib.toList_data] at h0 h1 h2 h3 h4 h5 h6 h7 h8
    refine layI_none _ ?_
    intro k hk e
    rcases (show k = 0 ∨ k = 1 ∨ k = 2 ∨ k = 3 ∨ k = 4 ∨ k = 5 ∨ k = 6 ∨ k = 7 ∨ k = 8 by omega) with rfl | rfl | rfl | rfl | rfl | rfl | rfl | rfl | rfl
    · exact h0 e.symm
    · exact h1 e.symm
    · exact h2 e.symm
    · exact h3 e.symm
    · exact h4 e.symm
    · exact h5 e.symm
    · exact h6 e.symm
    · exact h7 e.symm
    · exact h8 e.symm
  have HK := Lib.hid (show gvV (layI s.data.toList) = .tuple #[.int .i64 0, .bool false] by rw [HN]; rfl)
  clear h0 h1 h2 h3 h4 h5 h6 h7 h8 HN
  go_enter Try.func62, Try.ntmps62
  go_wp2
  go_ret2
  exact ⟨congrArg Ending.returned HK.out.symm, rfl⟩
theorem lays_cell (w : World) (k : Nat) (hk : k < 9) : (w.alloc (.cells #[.string ⟨#[112, 108, 97, 105, 110]⟩, .string ⟨#[114, 117, 110, 115]⟩, .string ⟨#[107, 101, 101, 112, 115]⟩, .string ⟨#[99, 111, 117, 110, 116, 115]⟩, .string ⟨#[108, 97, 122, 121]⟩, .string ⟨#[114, 101, 97, 100, 115]⟩, .string ⟨#[104, 101, 97, 114, 115]⟩, .string ⟨#[104, 101, 97, 108, 115]⟩, .string ⟨#[116, 119, 105, 99, 101]⟩] 9)).cell? ⟨w.heap.size, k, none⟩ = some (.string ⟨(layN k).toArray⟩) := by
  rw [cell_of_row _ _ k _ 9 (0, 0) (heap_alloc_new w _)]
  rcases (show k = 0 ∨ k = 1 ∨ k = 2 ∨ k = 3 ∨ k = 4 ∨ k = 5 ∨ k = 6 ∨ k = 7 ∨ k = 8 by omega) with rfl | rfl | rfl | rfl | rfl | rfl | rfl | rfl | rfl <;> rfl
set_option maxHeartbeats 1600000 in
theorem l4Row_any (s : ByteArray) (w : World) :
    Calls Try.prog 37 #[.string s] w fun e w' => e = .returned (l4V (layI s.data.toList)) ∧ Below w.heap.size w w' := by
  have HD := Lib.hid (lays_cell w)
  go_enter Try.func37, Try.ntmps37
  go_wp2_with fail
  go_loop [6, 7, 11] (fun _ _ i => ∃ k : Nat, k ≤ 9 ∧ i = .int .i64 k ∧ findK (fun k => layN k == s.data.toList) k (9 - k) = layI s.data.toList) (fun _ _ i => 9 - (intOf i).toNat)
  case atStart => exact ⟨0, Nat.zero_le _, rfl, rfl⟩
  case round =>
    obtain ⟨k, hk, rfl, hf⟩ := hrel
    have HF := Lib.hid hf
    clear hf
    by_cases hlt : k < 9
    · have d1 := HD.out k hlt
      cases heq : (layN k == s.data.toList) with
      | true =>
        have HR := Lib.hid (show (k : Int) = layI s.data.toList from by rw [← HF.out]; exact (findK_yes hlt heq).symm)
        have hbeq : (layN k == s.toList) = true := by rw [Lib.toList_data]; exact heq
        clear heq
        go_wp2_with fail
        rcases (show k = 0 ∨ k = 1 ∨ k = 2 ∨ k = 3 ∨ k = 4 ∨ k = 5 ∨ k = 6 ∨ k = 7 ∨ k = 8 by omega) with rfl | rfl | rfl | rfl | rfl | rfl | rfl | rfl | rfl
        all_goals go_region
        all_goals (try go_wp2_with fail)
        all_goals
          go_ret3
          exact ⟨congrArg Ending.returned (l4V_yes HR.out), by repeat (first | exact Below.refl _ _ | refine Below.alloc ?_ (by simp; try omega) _ | refine Below.drew ?_)⟩
      | false =>
        have HR := Lib.hid (show findK (fun k => layN k == s.data.toList) (k + 1) (9 - (k + 1)) = layI s.data.toList from by rw [← HF.out]; exact (findK_no hlt heq).symm)
        have hbeq : (layN k == s.toList) = false := by rw [Lib.toList_data]; exact heq
        clear heq
        go_wp2_with fail
        exact ⟨⟨k + 1, by omega, by go_num, HR.out⟩, by simp [intOf]; omega⟩
    · have HR := Lib.hid (show (-1 : Int) = layI s.data.toList from by rw [← HF.out, show k = 9 by omega]; exact findK_end.symm)
      go_wp2_with fail
      go_ret3
      exact ⟨congrArg Ending.returned (l4V_no HR.out), by repeat (first | exact Below.refl _ _ | refine Below.alloc ?_ (by simp; try omega) _)⟩
set_option maxHeartbeats 800000 in
theorem specLayerNeeds_any (s : ByteArray) (w : World) :
    Calls Try.prog 23 #[.string s] w fun e w' => e = .returned (ndV (layI s.data.toList)) ∧ Below w.heap.size w w' := by
  have HR := Lib.hid (l4Row_any s)
  unfold l4V at HR
  unfold ndV
  generalize needI (layI s.data.toList) = n at *
  generalize giveI (layI s.data.toList) = g at *
  generalize decide (0 ≤ layI s.data.toList) = b at *
  go_enter Try.func23, Try.ntmps23
  go_wp2_with fail
  refine (HR.out w).mono ?_
  rintro e w1 ⟨rfl, hb⟩
  go_wp2_with fail
  go_ret2
  exact ⟨rfl, hb⟩
end Go.Proofs.Ytlkpinlkbikokae
/- Contracts of chapter 4: FaceOf, both sides. -/
namespace Go.Proofs.Ytlkpinlkbikokae
set_option linter.unusedVariables false
set_option linter.unusedSimpArgs false
open Go.RowKit
instance : Inhabited LayerD := ⟨⟨[], 0⟩⟩
/-- the face of a part with its first n layers alone -/
def faceN (x : PartD) : Nat → Int
  | 0 => kfI (kindI x.fCore.fKind)
  | n + 1 => giveI (layI (x.fLayers.getD n default).fName)
def faceP (x : PartD) : Int := faceN x x.fLayers.length
theorem kfV_is (i : Int) : kfV i = .tuple #[.int .i64 (kfI i), .bool (decide (0 ≤ i))] := rfl
theorem gvV_is (i : Int) : gvV i = .tuple #[.int .i64 (giveI i), .bool (decide (0 ≤ i))] := rfl
theorem l4V_is (i : Int) : l4V i = .tuple #[.int .i64 (needI i), .int .i64 (giveI i), .bool (decide (0 ≤ i))] := rfl
theorem part_box (w : World) (o : Obj) : Below w.heap.size w (w.alloc o) := (Below.refl _ _).alloc (Nat.le_refl _) o
set_option maxRecDepth 100000 in
set_option maxHeartbeats 1600000 in
theorem implFaceOf_any (v : Value) (x : PartD) (w : World) (hx : ValAt rPart 0 w v x) :
    Calls Try.prog 44 #[v] w fun e w' => e = .returned (.int .i64 (faceP x)) ∧ Below w.heap.size w w' := by
  obtain ⟨_, rfl, hx⟩ := hx
  obtain ⟨⟨a0, a1, a2, a3, a4⟩, ls⟩ := x
  obtain ⟨v3, v5, rfl, h3, h5⟩ := hx
  simp only at h3 h5
  obtain ⟨ra, rc, rfl, _⟩ := sliceAt_len h3
  obtain ⟨sa, sc, rfl, hl⟩ := sliceAt_len h5
  unfold maxLen at hl
  have HK := Lib.hid (implKind_any ⟨a0.toArray⟩)
  simp only [kfV_is, List.toList_toArray] at HK
  clear h3
  cases ls with
  | nil =>
    have HF := Lib.hid (show faceP ⟨⟨a0, a1, a2, a3, a4⟩, []⟩ = kfI (kindI a0) from rfl)
    rw [HF.out]
    generalize kfI (kindI a0) = f at *
    generalize decide (0 ≤ kindI a0) = b at *
    clear h5
    go_enter Try.func44, Try.ntmps44
    go_wp2_with (first | (go_at_call 56; (with_reducible refine (HK.out _).mono ?_); rintro e w' ⟨rfl, rfl⟩))
    go_ret
    exact ⟨rfl, part_box w _⟩
  | cons y r =>
    obtain ⟨b, o, cs, rfl, hbw, hat, hd⟩ := sliceAt_cell h5 r.length (by simp)
    have HY := Lib.hid (show faceP ⟨⟨a0, a1, a2, a3, a4⟩, y :: r⟩ = giveI (layI ((y :: r)[r.length]'(by simp)).fName) from by
      unfold faceP faceN
      rw [show (y :: r).length = r.length + 1 from rfl]
      simp only
      rw [List.getD_eq_getElem?_getD, List.getElem?_eq_getElem (by simp)]; rfl)
    rw [HY.out]
    have HG := Lib.hid (implLayerGives_any ⟨((y :: r)[r.length]'(by simp)).fName.toArray⟩)
    generalize (y :: r)[r.length]'(by simp) = z at *
    obtain ⟨z0, z1⟩ := z
    simp only [rFlat, cLayer] at hat
    subst hat
    simp only [gvV_is, List.toList_toArray] at HG
    have d0 := hd 0 (by decide)
    simp only [List.getElem?_cons_zero, Nat.add_zero] at d0
    have hn : (y :: r).length = r.length + 1 := rfl
    rw [hn] at *
    have hl2 : r.length + 1 ≤ 9223372036854775807 := hl
    generalize giveI (layI z0) = f at *
    generalize decide (0 ≤ layI z0) = g at *
    generalize r.length = n at *
    clear hd h5 hn HK
    go_enter Try.func44, Try.ntmps44
    go_wp2_with (first | (go_at_call 62; (with_reducible refine (HG.out _).mono ?_); rintro e w' ⟨rfl, rfl⟩))
    go_ret
    exact ⟨rfl, part_box w _⟩
set_option maxRecDepth 100000 in
set_option maxHeartbeats 1600000 in
theorem l4Face_any (v : Value) (x : PartD) (n : Nat) (w : World) (hx : ValAt rPart 0 w v x) (hn : n ≤ x.fLayers.length) :
    Calls Try.prog 25 #[v, .int .i64 n] w fun e w' => e = .returned (.int .i64 (faceN x n)) ∧ Below w.heap.size w w' := by
  obtain ⟨_, rfl, hx⟩ := hx
  obtain ⟨⟨a0, a1, a2, a3, a4⟩, ls⟩ := x
  obtain ⟨v3, v5, rfl, h3, h5⟩ := hx
  simp only at h3 h5 hn
  obtain ⟨ra, rc, rfl, _⟩ := sliceAt_len h3
  obtain ⟨sa, sc, rfl, hl⟩ := sliceAt_len h5
  unfold maxLen at hl
  have HK := Lib.hid (specKind_any ⟨a0.toArray⟩)
  simp only [kfV_is, List.toList_toArray] at HK
  clear h3
  cases n with
  | zero =>
    have HF := Lib.hid (show faceN ⟨⟨a0, a1, a2, a3, a4⟩, ls⟩ 0 = kfI (kindI a0) from rfl)
    rw [HF.out]
    generalize kfI (kindI a0) = f at *
    generalize decide (0 ≤ kindI a0) = b at *
    clear h5 hn
    go_enter Try.func25, Try.ntmps25
    go_wp2_with fail
    refine (HK.out _).mono ?_
    rintro e w1 ⟨rfl, hb⟩
    have HB := Lib.hid (belS (part_box w _) hb)
    clear hb
    go_wp2_with fail
    go_ret
    exact ⟨rfl, HB.out⟩
  | succ n =>
    have hn2 : n < ls.length := hn
    obtain ⟨b, o, cs, rfl, hbw, hat, hd⟩ := sliceAt_cell h5 n hn2
    have HY := Lib.hid (show faceN ⟨⟨a0, a1, a2, a3, a4⟩, ls⟩ (n + 1) = giveI (layI (ls[n]).fName) from by
      unfold faceN
      simp only
      rw [List.getD_eq_getElem?_getD, List.getElem?_eq_getElem hn2]; rfl)
    rw [HY.out]
    have HG := Lib.hid (l4Row_any ⟨(ls[n]).fName.toArray⟩)
    generalize ls[n] = z at *
    obtain ⟨z0, z1⟩ := z
    simp only [rFlat, cLayer] at hat
    subst hat
    simp only [l4V_is, List.toList_toArray] at HG
    have d0 := hd 0 (by decide)
    simp only [List.getElem?_cons_zero, Nat.add_zero] at d0
    have hl2 : ls.length ≤ 9223372036854775807 := hl
    have hn3 : (n : Int) < (ls.length : Int) := by omega
    generalize giveI (layI z0) = f at *
    generalize needI (layI z0) = f2 at *
    generalize decide (0 ≤ layI z0) = g at *
    clear hd h5 hn HK
    go_enter Try.func25, Try.ntmps25
    go_wp2_with fail
    refine (HG.out _).mono ?_
    rintro e w1 ⟨rfl, hb⟩
    have HB := Lib.hid (belS (part_box w _) hb)
    clear hb
    go_wp2_with fail
    go_ret
    exact ⟨rfl, HB.out⟩
end Go.Proofs.Ytlkpinlkbikokae
/- Cells, plain: which lists are cells. -/
namespace Go.Proofs.Ytlkpinlkbikokae
set_option linter.unusedVariables false
open Go.RowKit
instance : Inhabited CellD := ⟨⟨[], 0⟩⟩
def numB (n : Int) : Bool := decide (0 ≤ n) && decide (n ≤ 999)
def okAt (l : List CellD) (i : Nat) : Bool := nameB (l.getD i default).fKey && numB (l.getD i default).fValue && (decide (i = 0) || Op.bytesLess (l.getD (i - 1) default).fKey (l.getD i default).fKey)
def okTo (l : List CellD) (k : Nat) : Bool := (List.range k).all (okAt l)
def cellsB (l : List CellD) : Bool := decide (l.length ≤ 4) && okTo l l.length
theorem okTo_zero (l : List CellD) : okTo l 0 = true := rfl
theorem okTo_succ (l : List CellD) (k : Nat) : okTo l (k + 1) = (okTo l k && okAt l k) := by simp [okTo, List.range_succ]
theorem okTo_le (l : List CellD) (k m : Nat) (h : k ≤ m) (hm : okTo l m = true) : okTo l k = true := by
  unfold okTo at *
  rw [List.all_eq_true] at *
  intro i hi
  exact hm i (by rw [List.mem_range] at *; omega)
theorem okTo_at (l : List CellD) (k i : Nat) (h : okTo l k = true) (hi : i < k) : okAt l i = true := by
  unfold okTo at h; rw [List.all_eq_true] at h; exact h i (by rw [List.mem_range]; exact hi)
theorem cellsB_bad (l : List CellD) (k : Nat) (hk : k < l.length) (h : okAt l k = false) : cellsB l = false := by
  cases hc : cellsB l with
  | false => rfl
  | true =>
    simp only [cellsB, Bool.and_eq_true] at hc
    rw [okTo_at l _ k hc.2 hk] at h; exact absurd h (by simp)
theorem cellsB_long (l : List CellD) (h : 4 < l.length) : cellsB l = false := by unfold cellsB; rw [show decide (l.length ≤ 4) = false by simpa using h]; rfl
theorem cellsB_end (l : List CellD) (h : okTo l l.length = true) : cellsB l = decide (l.length ≤ 4) := by unfold cellsB; rw [h, Bool.and_true]
theorem cellsB_len {l : List CellD} (h : cellsB l = true) : l.length ≤ 4 := by simp only [cellsB, Bool.and_eq_true, decide_eq_true_iff] at h; exact h.1
theorem cellsB_mem {l : List CellD} (h : cellsB l = true) : ∀ d ∈ l, nameB d.fKey = true ∧ numB d.fValue = true := by
  intro d hd
  obtain ⟨i, hi, rfl⟩ := List.mem_iff_getElem.1 hd
  simp only [cellsB, Bool.and_eq_true] at h
  have := okTo_at l _ i h.2 hi
  simp only [okAt, Bool.and_eq_true] at this
  rw [List.getD_eq_getElem?_getD, List.getElem?_eq_getElem hi] at this
  exact this.1
theorem getD_at (l : List CellD) (i : Nat) (h : i < l.length) : l.getD i default = l[i] := by rw [List.getD_eq_getElem?_getD, List.getElem?_eq_getElem h]; rfl
theorem okAt_of (l : List CellD) (i : Nat) (h : i < l.length) (x y z : Bool) (hx : nameB (l[i]).fKey = x) (hy : numB (l[i]).fValue = y) (hz : (decide (i = 0) || Op.bytesLess (l.getD (i - 1) default).fKey (l[i]).fKey) = z) : okAt l i = (x && y && z) := by
  unfold okAt; rw [getD_at l i h, hx, hy, hz]
/-- a cell as a text -/
theorem cell_info : (Try.prog.info? 72).map (fun i => (i.zero, i.size, i.bytes)) = some (some (.agg #[.string ⟨#[]⟩, .int .i64 0]), 2, 24) := by kernel_rfl
theorem cell_newC (w : World) (y : CellD) (blk : Nat) (h : blk = w.heap.size) : ∀ j, j < 2 → (w.alloc (.cells #[.string ⟨y.fKey.toArray⟩, .int .i64 y.fValue] 72)).cell? ⟨blk, j, none⟩ = (cCell y)[j]? := by
  subst h
  intro j hj
  rw [cell_of_row _ _ _ _ 72 (0, 0) (heap_alloc_new w _)]
  simp [cCell]
end Go.Proofs.Ytlkpinlkbikokae
/- Contracts of chapter 3: isNumber, IsCells, the program's and the model's. -/
namespace Go.Proofs.Ytlkpinlkbikokae
set_option linter.unusedVariables false
open Go.RowKit
set_option maxHeartbeats 400000 in
theorem isNumber_any (n : Int) (w : World) :
    Calls Try.prog 59 #[.int .i64 n] w fun e w' => e = .returned (.bool (numB n)) ∧ w = w' := by
  by_cases h0 : n < 0
  · go_enter Try.func59, Try.ntmps59
    go_wp2
    go_ret
    exact ⟨ret_bool (by simp [numB]; omega), rfl⟩
  · go_enter Try.func59, Try.ntmps59
    go_wp2
    go_ret
    exact ⟨ret_bool (by simp [numB]; omega), rfl⟩
theorem isNumber_b (n : Int) (x : Bool) (h : numB n = x) (w : World) :
    Calls Try.prog 59 #[.int .i64 n] w fun e w' => e = .returned (.bool x) ∧ w = w' := by
  subst h; exact isNumber_any n w
theorem implIsName_b (l : List UInt8) (x : Bool) (h : nameB l = x) (hs : l.length ≤ maxLen) (w : World) :
    Calls Try.prog 69 #[.string ⟨l.toArray⟩] w fun e w' => e = .returned (.bool x) ∧ w = w' := by
  subst h; have := implIsName_any ⟨l.toArray⟩ w (by rw [← size_list]; simpa using hs); simpa using this
theorem specIsName_b (l : List UInt8) (x : Bool) (h : nameB l = x) (hs : l.length ≤ maxLen) (w : World) :
    Calls Try.prog 53 #[.string ⟨l.toArray⟩] w fun e w' => e = .returned (.bool x) ∧ w = w' := by
  subst h; have := specIsName_any ⟨l.toArray⟩ w (by rw [← size_list]; simpa using hs); simpa using this
set_option maxRecDepth 100000 in
set_option maxHeartbeats 1600000 in
theorem implIsCells_any (v : Value) (l : List CellD) (w : World) (hx : FlatAt cCell 2 w v l) (hs : ∀ d ∈ l, d.fKey.length ≤ maxLen) :
    Calls Try.prog 57 #[v] w fun e w' => e = .returned (.bool (cellsB l)) ∧ Below w.heap.size w w' := by
  obtain ⟨a, c, rfl, hl⟩ := flatAt_len hx
  have HX := Lib.hid hx
  have HS := Lib.hid hs
  clear hx hs
  unfold maxLen at hl
  by_cases h4 : 4 < l.length
  · have HN := Lib.hid (cellsB_long l h4)
    go_enter Try.func57, Try.ntmps57
    go_wp2_with fail
    go_ret
    exact ⟨ret_bool HN.out.symm, Below.refl _ _⟩
  · have HL := Lib.hid (show decide (l.length ≤ 4) = true by simp; omega)
    go_enter Try.func57, Try.ntmps57
    go_wp2_with fail
    go_loopw [3, 4, 10] (fun _ _ i wr => ∃ k : Nat, k ≤ l.length ∧ i = .int .i64 k ∧ okTo l k = true ∧ Below w.heap.size w wr) (fun _ _ i _ => l.length - (intOf i).toNat)
    case atStart => exact ⟨0, Nat.zero_le _, rfl, rfl, Below.refl _ _⟩
    case round =>
      obtain ⟨k, hk, rfl, hok, hb⟩ := hrel
      have HO := Lib.hid hok
      have HB := Lib.hid hb
      have HXr := Lib.hid (FlatAt.below HX.out hb (Nat.le_refl _))
      clear hok hb
      by_cases hlt : k < l.length
      · obtain ⟨b, o, rfl, hbl, hd⟩ := flatAt_cell cCell_len HXr.out k hlt (by decide)
        have d0 := hd 0 (by decide)
        have d1 := hd 1 (by decide)
        clear hd
        have HA := Lib.hid (okAt_of l k hlt)
        have HBAD := Lib.hid (fun h => cellsB_bad l k hlt h)
        have HNX := Lib.hid (show okAt l k = true → okTo l (k + 1) = true from fun h => by rw [okTo_succ, HO.out, h]; rfl)
        have HNM := Lib.hid (implIsName_b (l[k]).fKey)
        have hlen := HS.out (l[k]) (List.getElem_mem hlt)
        have HNU := Lib.hid (isNumber_b (l[k]).fValue)
        have HBB := Lib.hid (show ∀ o1, Below w.heap.size w (wr.alloc o1) from fun o1 => HB.out.alloc HB.out.size _)
        cases hx : nameB (l[k]).fKey with
        | false =>
          have HR := Lib.hid (HBAD.out (by rw [HA.out _ _ _ hx rfl rfl]; rfl))
          have HN := Lib.hid (HNM.out _ hx hlen)
          clear hx
          generalize l[k] = p at *
          obtain ⟨a0, a1⟩ := p
          simp only [cCell, List.getElem?_cons_zero, List.getElem?_cons_succ, Nat.add_zero] at d0 d1
          go_wp2_with fail
          refine (HN.out _).mono ?_
          rintro e w1 ⟨rfl, rfl⟩
          go_wp2_with fail
          go_ret
          exact ⟨ret_bool HR.out.symm, HBB.out _⟩
        | true => 
          cases hy : numB (l[k]).fValue with
          | false =>
            have HR := Lib.hid (HBAD.out (by rw [HA.out _ _ _ hx hy rfl]; rfl))
            have HN := Lib.hid (HNM.out _ hx hlen)
            have HN2 := Lib.hid (HNU.out _ hy)
            clear hx hy
            generalize l[k] = p at *
            obtain ⟨a0, a1⟩ := p
            simp only [cCell, List.getElem?_cons_zero, List.getElem?_cons_succ, Nat.add_zero] at d0 d1
            go_wp2_with fail
            refine (HN.out _).mono ?_
            rintro e w1 ⟨rfl, rfl⟩
            go_wp2_with fail
            refine (HN2.out _).mono ?_
            rintro e w1 ⟨rfl, rfl⟩
            go_wp2_with fail
            go_ret
            exact ⟨ret_bool HR.out.symm, HBB.out _⟩
          | true =>
            have HN := Lib.hid (HNM.out _ hx hlen)
            have HN2 := Lib.hid (HNU.out _ hy)
            by_cases h0 : 0 < k
            · have hk1 : k - 1 < l.length := by omega
              obtain ⟨b', o', e', _, hd'⟩ := flatAt_cell cCell_len HXr.out (k - 1) hk1 (by decide)
              injection e' with e'
              injection e' with e1 e2
              subst e1 e2
              have q0 := hd' 0 (by decide)
              clear hd'
              have hg0 : (0 : Int) < (k : Int) := by omega
              have hk2 : (0 : Int) ≤ (k : Int) - 1 := by omega
              have hk3 : (k : Int) - 1 < (l.length : Int) := by omega
              cases hz : Op.bytesLess (l.getD (k - 1) default).fKey (l[k]).fKey with
              | false =>
                have HR := Lib.hid (HBAD.out (by rw [HA.out _ _ _ hx hy rfl, hz]; simp; omega))
                rw [getD_at l (k - 1) hk1] at hz
                clear hx hy
                generalize l[k] = p at *
                generalize l[k - 1] = q at *
                obtain ⟨a0, a1⟩ := p
                obtain ⟨b0, b1⟩ := q
                simp only [cCell, List.getElem?_cons_zero, List.getElem?_cons_succ, Nat.add_zero] at d0 d1 q0 hz
                go_wp2_with fail
                refine (HN.out _).mono ?_
                rintro e w1 ⟨rfl, rfl⟩
                go_wp2_with fail
                refine (HN2.out _).mono ?_
                rintro e w1 ⟨rfl, rfl⟩
                go_wp2_with fail
                go_quiet (fail)
                go_wp2_with fail
                go_ret
                exact ⟨ret_bool HR.out.symm, below_drewN (HBB.out _) _⟩
              | true =>
                have HR := Lib.hid (HNX.out (by rw [HA.out _ _ _ hx hy rfl, hz]; simp))
                rw [getD_at l (k - 1) hk1] at hz
                clear hx hy
                generalize l[k] = p at *
                generalize l[k - 1] = q at *
                obtain ⟨a0, a1⟩ := p
                obtain ⟨b0, b1⟩ := q
                simp only [cCell, List.getElem?_cons_zero, List.getElem?_cons_succ, Nat.add_zero] at d0 d1 q0 hz
                go_wp2_with fail
                refine (HN.out _).mono ?_
                rintro e w1 ⟨rfl, rfl⟩
                go_wp2_with fail
                refine (HN2.out _).mono ?_
                rintro e w1 ⟨rfl, rfl⟩
                go_wp2_with fail
                go_quiet (fail)
                go_wp2_with fail
                exact ⟨⟨k + 1, by omega, by go_num, HR.out, below_drewN (HBB.out _) _⟩, by simp [intOf]; omega⟩
            · have HR := Lib.hid (HNX.out (by rw [HA.out _ _ _ hx hy rfl, show decide (k = 0) = true by simp; omega]; rfl))
              have hg0 : (k : Int) ≤ 0 := by omega
              clear hx hy
              generalize l[k] = p at *
              obtain ⟨a0, a1⟩ := p
              simp only [cCell, List.getElem?_cons_zero, List.getElem?_cons_succ, Nat.add_zero] at d0 d1
              go_wp2_with fail
              refine (HN.out _).mono ?_
              rintro e w1 ⟨rfl, rfl⟩
              go_wp2_with fail
              refine (HN2.out _).mono ?_
              rintro e w1 ⟨rfl, rfl⟩
              go_wp2_with fail
              go_quiet (fail)
              go_wp2_with fail
              exact ⟨⟨k + 1, by omega, by go_num, HR.out, below_drewN (HBB.out _) _⟩, by simp [intOf]; omega⟩
      · have HN := Lib.hid (show cellsB l = true from by
          have h := HO.out
          rw [show k = l.length by omega] at h
          rw [cellsB_end l h, HL.out])
        go_wp2_with fail
        go_ret
        exact ⟨ret_bool HN.out.symm, HB.out⟩
end Go.Proofs.Ytlkpinlkbikokae
/- Contracts of chapter 3: the model's IsCells. -/
namespace Go.Proofs.Ytlkpinlkbikokae
set_option linter.unusedVariables false
open Go.RowKit
theorem specIsName_q (l : List UInt8) (x : Bool) (h : nameB l = x) (hs : l.length ≤ maxLen) (w : World) :
    Calls Try.prog 53 #[.string ⟨l.toArray⟩] w fun e w' => e = .returned (.bool x) ∧ w' = w := (specIsName_b l x h hs w).mono fun _ _ ⟨h1, h2⟩ => ⟨h1, h2.symm⟩
set_option maxRecDepth 100000 in
set_option maxHeartbeats 1600000 in
theorem specIsCells_any (v : Value) (l : List CellD) (w : World) (hx : FlatAt cCell 2 w v l) (hs : ∀ d ∈ l, d.fKey.length ≤ maxLen) :
    Calls Try.prog 36 #[v] w fun e w' => e = .returned (.bool (cellsB l)) ∧ Below w.heap.size w w' := by
  obtain ⟨a, c, rfl, hl⟩ := flatAt_len hx
  have HX := Lib.hid hx
  have HS := Lib.hid hs
  clear hx hs
  unfold maxLen at hl
  go_enter Try.func36, Try.ntmps36
  go_wp2_with fail
  go_loopw [3, 4, 7] (fun _ _ i wr => ∃ k : Nat, k ≤ l.length ∧ i = .int .i64 k ∧ okTo l k = true ∧ Below w.heap.size w wr) (fun _ _ i _ => l.length - (intOf i).toNat)
  case atStart => exact ⟨0, Nat.zero_le _, rfl, rfl, Below.refl _ _⟩
  case round =>
    obtain ⟨k, hk, rfl, hok, hb⟩ := hrel
    have HO := Lib.hid hok
    have HB := Lib.hid hb
    have HXr := Lib.hid (FlatAt.below HX.out hb (Nat.le_refl _))
    clear hok hb
    by_cases hlt : k < l.length
    · obtain ⟨b, o, rfl, hbl, hd⟩ := flatAt_cell cCell_len HXr.out k hlt (by decide)
      have d0 := hd 0 (by decide)
      have d1 := hd 1 (by decide)
      clear hd
      have HA := Lib.hid (okAt_of l k hlt)
      have HBAD := Lib.hid (fun h => cellsB_bad l k hlt h)
      have HNX := Lib.hid (show okAt l k = true → okTo l (k + 1) = true from fun h => by rw [okTo_succ, HO.out, h]; rfl)
      have HNM := Lib.hid (specIsName_q (l[k]).fKey)
      have hlen := HS.out (l[k]) (List.getElem_mem hlt)
      have HBB := Lib.hid (show ∀ o1, Below w.heap.size w (wr.alloc o1) from fun o1 => HB.out.alloc HB.out.size _)
      cases hx : nameB (l[k]).fKey with
      | false =>
        have HR := Lib.hid (HBAD.out (by rw [HA.out _ _ _ hx rfl rfl]; rfl))
        have HN := Lib.hid (HNM.out _ hx hlen)
        clear hx
        generalize l[k] = p at *
        obtain ⟨a0, a1⟩ := p
        simp only [cCell, List.getElem?_cons_zero, List.getElem?_cons_succ, Nat.add_zero] at d0 d1
        go_wp2_with fail
        go_quiet ((go_at_call 53; exact Calls.quiet_of_same (HN.out _)))
        go_wp2_with fail
        go_ret
        exact ⟨ret_bool HR.out.symm, below_drewN (HBB.out _) _⟩
      | true =>
        have HN := Lib.hid (HNM.out _ hx hlen)
        by_cases hv : (l[k]).fValue < 0
        · have HR := Lib.hid (HBAD.out (by rw [HA.out _ _ _ hx (show numB _ = false by simp [numB]; omega) rfl]; rfl))
          clear hx
          generalize l[k] = p at *
          obtain ⟨a0, a1⟩ := p
          simp only [cCell, List.getElem?_cons_zero, List.getElem?_cons_succ, Nat.add_zero] at d0 d1 hv
          go_wp2_with fail
          go_quiet ((go_at_call 53; exact Calls.quiet_of_same (HN.out _)))
          go_wp2_with fail
          go_ret
          exact ⟨ret_bool HR.out.symm, below_drewN (HBB.out _) _⟩
        · by_cases hv2 : 999 < (l[k]).fValue
          · have HR := Lib.hid (HBAD.out (by rw [HA.out _ _ _ hx (show numB _ = false by simp [numB]; omega) rfl]; rfl))
            clear hx
            generalize l[k] = p at *
            obtain ⟨a0, a1⟩ := p
            simp only [cCell, List.getElem?_cons_zero, List.getElem?_cons_succ, Nat.add_zero] at d0 d1 hv hv2
            have hvd : decide (a1 < 0) = false := by simpa using hv
            go_wp2_with fail
            go_quiet ((go_at_call 53; exact Calls.quiet_of_same (HN.out _)))
            go_wp2_with fail
            go_ret
            exact ⟨ret_bool HR.out.symm, below_drewN (HBB.out _) _⟩
          · have hy : numB (l[k]).fValue = true := by simp [numB]; omega
            by_cases h0 : 0 < k
            · have hk1 : k - 1 < l.length := by omega
              obtain ⟨b', o', e', _, hd'⟩ := flatAt_cell cCell_len HXr.out (k - 1) hk1 (by decide)
              injection e' with e'
              injection e' with e1 e2
              subst e1 e2
              have q0 := hd' 0 (by decide)
              clear hd'
              have hg0 : (0 : Int) < (k : Int) := by omega
              have hk2 : (0 : Int) ≤ (k : Int) - 1 := by omega
              have hk3 : (k : Int) - 1 < (l.length : Int) := by omega
              cases hz : Op.bytesLess (l.getD (k - 1) default).fKey (l[k]).fKey with
              | false =>
                have HR := Lib.hid (HBAD.out (by rw [HA.out _ _ _ hx hy rfl, hz]; simp; omega))
                rw [getD_at l (k - 1) hk1] at hz
                clear hx hy
                generalize l[k] = p at *
                generalize l[k - 1] = q at *
                obtain ⟨a0, a1⟩ := p
                obtain ⟨b0, b1⟩ := q
                simp only [cCell, List.getElem?_cons_zero, List.getElem?_cons_succ, Nat.add_zero] at d0 d1 q0 hz hv hv2
                have hvd : decide (a1 < 0) = false := by simpa using hv
                have hvd2 : decide (999 < a1) = false := by simpa using hv2
                go_wp2_with fail
                go_quiet ((go_at_call 53; exact Calls.quiet_of_same (HN.out _)))
                go_wp2_with fail
                go_ret
                exact ⟨ret_bool HR.out.symm, below_drewN (HBB.out _) _⟩
              | true =>
                have HR := Lib.hid (HNX.out (by rw [HA.out _ _ _ hx hy rfl, hz]; simp))
                rw [getD_at l (k - 1) hk1] at hz
                clear hx hy
                generalize l[k] = p at *
                generalize l[k - 1] = q at *
                obtain ⟨a0, a1⟩ := p
                obtain ⟨b0, b1⟩ := q
                simp only [cCell, List.getElem?_cons_zero, List.getElem?_cons_succ, Nat.add_zero] at d0 d1 q0 hz hv hv2
                have hvd : decide (a1 < 0) = false := by simpa using hv
                have hvd2 : decide (999 < a1) = false := by simpa using hv2
                go_wp2_with fail
                go_quiet ((go_at_call 53; exact Calls.quiet_of_same (HN.out _)))
                go_wp2_with fail
                exact ⟨⟨k + 1, by omega, by go_num, HR.out, below_drewN (HBB.out _) _⟩, by simp [intOf]; omega⟩
            · have HR := Lib.hid (HNX.out (by rw [HA.out _ _ _ hx hy rfl, show decide (k = 0) = true by simp; omega]; rfl))
              have hg0 : decide ((0 : Int) < (k : Int)) = false := by simp; omega
              clear hx hy
              generalize l[k] = p at *
              obtain ⟨a0, a1⟩ := p
              simp only [cCell, List.getElem?_cons_zero, List.getElem?_cons_succ, Nat.add_zero] at d0 d1 hv hv2
              have hvd : decide (a1 < 0) = false := by simpa using hv
              have hvd2 : decide (999 < a1) = false := by simpa using hv2
              go_wp2_with fail
              go_quiet ((go_at_call 53; exact Calls.quiet_of_same (HN.out _)))
              go_wp2_with fail
              exact ⟨⟨k + 1, by omega, by go_num, HR.out, below_drewN (HBB.out _) _⟩, by simp [intOf]; omega⟩
    · have HN := Lib.hid (show cellsB l = decide (l.length ≤ 4) from by
        have h := HO.out
        rw [show k = l.length by omega] at h
        exact cellsB_end l h)
      by_cases h4 : l.length ≤ 4
      · rw [show decide (l.length ≤ 4) = true by simpa using h4] at HN
        go_wp2_with fail
        go_ret
        exact ⟨ret_bool (by rw [HN.out]; simp; omega), HB.out⟩
      · rw [show decide (l.length ≤ 4) = false by simpa using h4] at HN
        go_wp2_with fail
        go_ret
        exact ⟨ret_bool (by rw [HN.out]; simp; omega), HB.out⟩
end Go.Proofs.Ytlkpinlkbikokae
namespace Go.Proofs.Ytlkpinlkbikokae
set_option linter.unusedVariables false
open Go.RowKit
theorem off_fin : ∀ a : Fin 64, ∀ k : Fin 6, offersF ((a : Nat) : Int) (2 ^ (k : Nat)) = hasI ((a : Nat) : Int) (k : Nat) := by decide +kernel
theorem off_has {f : Int} (hf : isF f = true) (k : Nat) (hk : k < 6) : offersF f (2 ^ k) = hasI f k := by
  obtain ⟨a, rfl⟩ := isF_fin hf
  exact off_fin a ⟨k, hk⟩
/-- the kind, or -1, of a core; its face -/
def coreF (d : CoreD) : Int := kfI (kindI d.fKind)
def coreB (d : CoreD) : Bool := decide (0 ≤ kindI d.fKind) && cellsB d.fCells && (decide (d.fCells.length = 0) || hasI (coreF d) 1) && (!(d.fOn || d.fBroken) || hasI (coreF d) 0) && numB d.fCount && !(d.fOn && d.fBroken)
theorem kindOff_has (l : List UInt8) (h : decide (0 ≤ kindI l) = true) (k : Nat) (hk : k < 6) : kindOff l (2 ^ k) = hasI (kfI (kindI l)) k := by
  unfold kindOff; rw [h, Bool.true_and, off_has (kfI_face _) k hk]
theorem implKind_b (l : List UInt8) (x : Bool) (h : decide (0 ≤ kindI l) = x) (w : World) :
    Calls Try.prog 56 #[.string ⟨l.toArray⟩] w fun e w' => e = .returned (.tuple #[.int .i64 (kfI (kindI l)), .bool x]) ∧ w = w' := by
  subst h; exact implKind_any ⟨l.toArray⟩ w
theorem specKind_b (l : List UInt8) (x : Bool) (h : decide (0 ≤ kindI l) = x) (w : World) :
    Calls Try.prog 34 #[.string ⟨l.toArray⟩] w fun e w' => e = .returned (.tuple #[.int .i64 (kfI (kindI l)), .bool x]) ∧ Below w.heap.size w w' := by
  subst h; exact specKind_any ⟨l.toArray⟩ w
set_option maxRecDepth 100000 in
set_option maxHeartbeats 6400000 in
theorem implIsCore_any (v : Value) (d : CoreD) (w : World) (hx : CoreAt w v d) (hs : ∀ c ∈ d.fCells, c.fKey.length ≤ maxLen) :
    Calls Try.prog 41 #[v] w fun e w' => e = .returned (.bool (coreB d)) ∧ Below w.heap.size w w' := by
  obtain ⟨cv, rfl, hx⟩ := hx
  have HKD := Lib.hid (implKind_b d.fKind)
  have HOF := Lib.hid (kindOff_has d.fKind)
  have HKO := Lib.hid (kindOffers_b d.fKind)
  have HNU := Lib.hid (isNumber_b d.fCount)
  have HR := Lib.hid (show coreB d = (decide (0 ≤ kindI d.fKind) && cellsB d.fCells && (decide (d.fCells.length = 0) || hasI (kfI (kindI d.fKind)) 1) && (!(d.fOn || d.fBroken) || hasI (kfI (kindI d.fKind)) 0) && numB d.fCount && !(d.fOn && d.fBroken)) from rfl)
  generalize coreB d = res at *
  obtain ⟨kd, on, br, l, cnt⟩ := d
  unfold vCore
  simp only at *
  obtain ⟨a, c, rfl, hl⟩ := flatAt_len hx
  unfold maxLen at hl
  have HB0 := Lib.hid (show ∀ o, Below w.heap.size w (w.alloc o) from fun o => (Below.refl w.heap.size w).alloc (Nat.le_refl _) o)
  have HIC := Lib.hid (fun o => implIsCells_any _ l (w.alloc o) (hx.below (HB0.out o) (Nat.le_refl _)) hs)
  clear hx hs
  have HF := Lib.hid (show decide (0 ≤ kindI kd) = true → (∀ w, Calls Try.prog 58 #[.string ⟨kd.toArray⟩, .int .i64 2] w fun e w' => e = .returned (.bool (hasI (kfI (kindI kd)) 1)) ∧ w = w') ∧ ∀ w, Calls Try.prog 58 #[.string ⟨kd.toArray⟩, .int .i64 1] w fun e w' => e = .returned (.bool (hasI (kfI (kindI kd)) 0)) ∧ w = w' from fun h => ⟨HKO.out 2 _ (HOF.out h 1 (by decide)), HKO.out 1 _ (HOF.out h 0 (by decide))⟩)
  generalize hasI (kfI (kindI kd)) 1 = h1 at *
  generalize hasI (kfI (kindI kd)) 0 = h0 at *
  generalize numB cnt = nb at *
  have HNB := Lib.hid (HNU.out _ rfl)
  cases hk : decide (0 ≤ kindI kd) with
  | false =>
    have HK := Lib.hid (HKD.out _ hk)
    rw [hk] at HR
    clear hk HNU HKD HKO HOF HF
    go_enter Try.func41, Try.ntmps41
    go_wp2_with fail
    refine (HK.out _).mono ?_
    rintro e w1 ⟨rfl, rfl⟩
    go_wp2_with fail
    go_ret
    exact ⟨ret_bool HR.out.symm, HB0.out _⟩
  | true =>
    have HK := Lib.hid (HKD.out _ hk)
    have HK2 := Lib.hid (HF.out hk).1
    have HK1 := Lib.hid (HF.out hk).2
    rw [hk] at HR
    clear hk HNU HKD HKO HOF HF
    generalize cellsB l = cb at *
    go_enter Try.func41, Try.ntmps41
    go_wp2_with fail
    refine (HK.out _).mono ?_
    rintro e w1 ⟨rfl, rfl⟩
    go_wp2_with fail
    refine (HIC.out _).mono ?_
    rintro e w1 ⟨rfl, hb⟩
    have HB := Lib.hid ((HB0.out _).trans (hb.mono (HB0.out _).size))
    obtain ⟨hcc, _⟩ := bcell hb
    simp at hcc
    clear hb
    cases cb with
    | false =>
      go_wp2_with fail
      go_ret
      exact ⟨ret_bool (by rw [HR.out]; rfl), HB.out⟩
    | true =>
      by_cases hn : 0 < l.length
      · have hg : decide ((0 : Int) < (l.length : Int)) = true := decide_eq_true (by omega)
        rw [show decide (l.length = 0) = false from decide_eq_false (by omega)] at HR
        cases h1 with
        | false =>
          go_wp2_with (first | (go_at_call 58; (with_reducible refine (HK2.out _).mono ?_); rintro e w' ⟨rfl, rfl⟩))
          go_ret
          exact ⟨ret_bool (by rw [HR.out]; rfl), HB.out⟩
        | true =>
          cases on <;> cases br <;> cases h0 <;> cases nb
          all_goals
            go_wp2_with (first | (go_at_call 58; (with_reducible refine (HK2.out _).mono ?_); rintro e w' ⟨rfl, rfl⟩) | (go_at_call 58; (with_reducible refine (HK1.out _).mono ?_); rintro e w' ⟨rfl, rfl⟩) | (go_at_call 59; (with_reducible refine (HNB.out _).mono ?_); rintro e w' ⟨rfl, rfl⟩))
            go_ret
            exact ⟨ret_bool (by rw [HR.out]; rfl), HB.out⟩
      · have hg : decide ((0 : Int) < (l.length : Int)) = false := decide_eq_false (by omega)
        rw [show decide (l.length = 0) = true from decide_eq_true (by omega)] at HR
        have hg2 : (l.length : Int) ≤ 0 := by omega
        clear hn
        cases on <;> cases br <;> cases h0 <;> cases nb
        all_goals
          go_wp2_with (first | (go_at_call 58; (with_reducible refine (HK1.out _).mono ?_); rintro e w' ⟨rfl, rfl⟩) | (go_at_call 59; (with_reducible refine (HNB.out _).mono ?_); rintro e w' ⟨rfl, rfl⟩))
          go_ret
          exact ⟨ret_bool (by rw [HR.out]; rfl), HB.out⟩
end Go.Proofs.Ytlkpinlkbikokae
