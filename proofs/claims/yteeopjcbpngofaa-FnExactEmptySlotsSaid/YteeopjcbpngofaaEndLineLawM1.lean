/- EndLine, the program. Written by gen/ch8w.py. -/
import Derived.Test.YteeopjcbpngofaaEndLineLawM0
import Derived.Deep.AppendLies
import Derived.Shelf.Strings.BuilderK
import Derived.Test.YteeopjcbpngofaaRows
import Derived.WalkKit
import Derived.WalkSpells
import Derived.WalkLawsBesides
import Derived.Lib.Hide
import Derived.Lib.Bytes
import Derived.Deep.QuietTactic
import Derived.BigQuiet
import Derived.StillTailTactics
import Derived.Test.YteeopjcbpngofaaShelf
import Derived.Lib.IndexMore
import Derived.Lib.IndexLaws
import Derived.Maps.AppendAt
import Derived.Deep.RegionHeld3
/- Slot: how it reads, and what the laws' own helpers do with it. Written by gen/deep.py. -/
namespace Go.Proofs.Yteeopjcbpngofaa
set_option linter.unusedVariables false
set_option linter.unusedSimpArgs false
open Go.RowKit
structure SlotD where
  fFull : Bool
  fPart : PartD
deriving DecidableEq
def okSlot (x : SlotD) : Prop := (True) ∧ (okPart x.fPart)
def rSlot : Nat → World → List Value → SlotD → Prop := fun F w cs x => ∃ v4 v6, cs = [.bool x.fFull, .string ⟨x.fPart.fCore.fKind.toArray⟩, .bool x.fPart.fCore.fOn, .bool x.fPart.fCore.fBroken, v4, .int .i64 x.fPart.fCore.fCount, v6] ∧ SliceAt (rFlat cCell) 2 F w v4 x.fPart.fCore.fCells ∧ SliceAt (rFlat cLayer) 2 F w v6 x.fPart.fLayers
theorem goodSlot : Good rSlot 7 := by
  refine ⟨?_, ?_, ?_⟩
  · rintro F w cs x ⟨v4, v6, rfl, h4, h6⟩; rfl
  · rintro F w w' cs x ⟨v4, v6, rfl, h4, h6⟩ hk; exact ⟨v4, v6, rfl, h4.keep (good_flat cCell_len) hk, h6.keep (good_flat cLayer_len) hk⟩
  · rintro F F' w cs x ⟨v4, v6, rfl, h4, h6⟩ hF; exact ⟨v4, v6, rfl, h4.mono (good_flat cCell_len) hF, h6.mono (good_flat cLayer_len) hF⟩
def zSlot (x : SlotD) : Nat := zPart x.fPart
set_option maxRecDepth 100000 in
set_option maxHeartbeats 1600000 in
theorem toSlot_d (v : Value) (x : SlotD) (w : World) (hx : ValAt rSlot 0 w v x) (hm : zSlot x ≤ 2097152) : Calls Try.prog 36 #[v] w fun e w' => GivesV rSlot x w e w' := by
  obtain ⟨_, rfl, hx⟩ := hx
  obtain ⟨a0, ⟨⟨a1_0_0, a1_0_1, a1_0_2, a1_0_3, a1_0_4⟩, a1_1⟩⟩ := x
  obtain ⟨v4, v6, rfl, h4, h6⟩ := hx
  simp only at h4 h6
  simp only [zSlot, zPart, zCore] at hm
  have HM := Lib.hid hm
  obtain ⟨ra4, rc4, rfl, _⟩ := sliceAt_len h4
  obtain ⟨ra6, rc6, rfl, _⟩ := sliceAt_len h6
  have H4 := Lib.hid h4
  have H6 := Lib.hid h6
  clear hm h4 h6
  have HS := Lib.hid (bx_start3 w [.bool a0, .string ⟨a1_0_0.toArray⟩, .bool a1_0_1, .bool a1_0_2, .slice ra4 a1_0_3.length rc4, .int .i64 a1_0_4, .slice ra6 a1_1.length rc6] [.bool false, .string ⟨#[]⟩, .bool false, .bool false, .slice none 0 0, .int .i64 0, .slice none 0 0] [.bool a0, .string ⟨#[]⟩, .bool false, .bool false, .slice none 0 0, .int .i64 0, .slice none 0 0] 75 63 63)
  have BA := Lib.hid HS.out.1
  have BB := Lib.hid HS.out.2.1
  have BC := Lib.hid HS.out.2.2.1
  have HB := Lib.hid HS.out.2.2.2
  clear HS
  go_enter Try.func36, Try.ntmps36
  go_wp2_with fail
  generalize ((w.alloc (.cells #[.bool a0, .string ⟨a1_0_0.toArray⟩, .bool a1_0_1, .bool a1_0_2, .slice ra4 a1_0_3.length rc4, .int .i64 a1_0_4, .slice ra6 a1_1.length rc6] 75)).alloc (.cells #[.bool false, .string ⟨#[]⟩, .bool false, .bool false, .slice none 0 0, .int .i64 0, .slice none 0 0] 63)).alloc (.cells #[.bool a0, .string ⟨#[]⟩, .bool false, .bool false, .slice none 0 0, .int .i64 0, .slice none 0 0] 63) = X1 at *
  refine (toPart_d _ (⟨⟨a1_0_0, a1_0_1, a1_0_2, a1_0_3, a1_0_4⟩, a1_1⟩ : PartD) _ ⟨_, rfl, _, _, rfl, (H4.out.below (good_flat cCell_len) HB.out (Nat.le_refl _)), (H6.out.below (good_flat cLayer_len) HB.out (Nat.le_refl _))⟩ (by simp only [zPart, zCore]; have := HM.out; omega)).mono ?_
  rintro e w1 ⟨_, rfl, ⟨u4, u6, rfl, hr4, hr6⟩, hb⟩
  have hX : w.heap.size + 3 ≤ X1.heap.size := by have := BC.out.lt; omega
  simp only at hr4
  have R4 := Lib.hid (hr4.mono (good_flat cCell_len) hX)
  obtain ⟨p4, q4, rfl, _⟩ := sliceAt_len hr4
  clear hr4
  simp only at hr6
  have R6 := Lib.hid (hr6.mono (good_flat cLayer_len) hX)
  obtain ⟨p6, q6, rfl, _⟩ := sliceAt_len hr6
  clear hr6
  have BA := Lib.hid (BA.out.below hb)
  have BB := Lib.hid (BB.out.below hb)
  have BC := Lib.hid (BC.out.below hb)
  have HB := Lib.hid (belS (w := w) HB.out hb)
  clear hb hX
  have eA0 := BA.out.cell 0 (by simp)
  have eA1 := BA.out.cell 1 (by simp)
  have eA2 := BA.out.cell 2 (by simp)
  have eA3 := BA.out.cell 3 (by simp)
  have eA4 := BA.out.cell 4 (by simp)
  have eA5 := BA.out.cell 5 (by simp)
  have eA6 := BA.out.cell 6 (by simp)
  simp only [List.getElem_cons_zero, List.getElem_cons_succ, List.set_cons_zero, List.set_cons_succ] at eA0 eA1 eA2 eA3 eA4 eA5 eA6
  have eC0 := BC.out.cell 0 (by simp)
  have fC0 := BC.out.froz 0 (by simp)
  have eC1 := BC.out.cell 1 (by simp)
  have fC1 := BC.out.froz 1 (by simp)
  have eC2 := BC.out.cell 2 (by simp)
  have fC2 := BC.out.froz 2 (by simp)
  have eC3 := BC.out.cell 3 (by simp)
  have fC3 := BC.out.froz 3 (by simp)
  have eC4 := BC.out.cell 4 (by simp)
  have fC4 := BC.out.froz 4 (by simp)
  have eC5 := BC.out.cell 5 (by simp)
  have fC5 := BC.out.froz 5 (by simp)
  have eC6 := BC.out.cell 6 (by simp)
  have fC6 := BC.out.froz 6 (by simp)
  simp only [List.getElem_cons_zero, List.getElem_cons_succ, List.set_cons_zero, List.set_cons_succ] at eC0 eC1 eC2 eC3 eC4 eC5 eC6
  have eB0 := BB.out.cell 0 (by simp)
  have fB0 := BB.out.froz 0 (by simp)
  have eB1 := BB.out.cell 1 (by simp)
  have fB1 := BB.out.froz 1 (by simp)
  have eB2 := BB.out.cell 2 (by simp)
  have fB2 := BB.out.froz 2 (by simp)
  have eB3 := BB.out.cell 3 (by simp)
  have fB3 := BB.out.froz 3 (by simp)
  have eB4 := BB.out.cell 4 (by simp)
  have fB4 := BB.out.froz 4 (by simp)
  have eB5 := BB.out.cell 5 (by simp)
  have fB5 := BB.out.froz 5 (by simp)
  have eB6 := BB.out.cell 6 (by simp)
  have fB6 := BB.out.froz 6 (by simp)
  simp only [List.getElem_cons_zero, List.getElem_cons_succ, List.set_cons_zero, List.set_cons_succ] at eB0 eB1 eB2 eB3 eB4 eB5 eB6
  go_wp2_with fail
  clear eA0 eA1 eA2 eA3 eA4 eA5 eA6
  clear eC0 fC0 eC1 fC1 eC2 fC2 eC3 fC3 eC4 fC4 eC5 fC5 eC6 fC6
  clear eB0 fB0 eB1 fB1 eB2 fB2 eB3 fB3 eB4 fB4 eB5 fB5 eB6 fB6
  have BC := Lib.hid (BC.out.set 1 (by simp) (.string ⟨a1_0_0.toArray⟩))
  have BA := Lib.hid (BA.out.other (c := w.heap.size + 1 + 1) (by omega) 1 (.string ⟨a1_0_0.toArray⟩))
  have BB := Lib.hid (BB.out.other (c := w.heap.size + 1 + 1) (by omega) 1 (.string ⟨a1_0_0.toArray⟩))
  have HB := Lib.hid (HB.out.setCell (p := ⟨w.heap.size + 1 + 1, 1, none⟩) (by simp; try omega) (.string ⟨a1_0_0.toArray⟩))
  have BC := Lib.hid (BC.out.set 2 (by simp) (.bool a1_0_1))
  have BA := Lib.hid (BA.out.other (c := w.heap.size + 1 + 1) (by omega) 2 (.bool a1_0_1))
  have BB := Lib.hid (BB.out.other (c := w.heap.size + 1 + 1) (by omega) 2 (.bool a1_0_1))
  have HB := Lib.hid (HB.out.setCell (p := ⟨w.heap.size + 1 + 1, 2, none⟩) (by simp; try omega) (.bool a1_0_1))
  have BC := Lib.hid (BC.out.set 3 (by simp) (.bool a1_0_2))
  have BA := Lib.hid (BA.out.other (c := w.heap.size + 1 + 1) (by omega) 3 (.bool a1_0_2))
  have BB := Lib.hid (BB.out.other (c := w.heap.size + 1 + 1) (by omega) 3 (.bool a1_0_2))
  have HB := Lib.hid (HB.out.setCell (p := ⟨w.heap.size + 1 + 1, 3, none⟩) (by simp; try omega) (.bool a1_0_2))
  have BC := Lib.hid (BC.out.set 4 (by simp) (.slice p4 a1_0_3.length q4))
  have BA := Lib.hid (BA.out.other (c := w.heap.size + 1 + 1) (by omega) 4 (.slice p4 a1_0_3.length q4))
  have BB := Lib.hid (BB.out.other (c := w.heap.size + 1 + 1) (by omega) 4 (.slice p4 a1_0_3.length q4))
  have HB := Lib.hid (HB.out.setCell (p := ⟨w.heap.size + 1 + 1, 4, none⟩) (by simp; try omega) (.slice p4 a1_0_3.length q4))
  have BC := Lib.hid (BC.out.set 5 (by simp) (.int .i64 a1_0_4))
  have BA := Lib.hid (BA.out.other (c := w.heap.size + 1 + 1) (by omega) 5 (.int .i64 a1_0_4))
  have BB := Lib.hid (BB.out.other (c := w.heap.size + 1 + 1) (by omega) 5 (.int .i64 a1_0_4))
  have HB := Lib.hid (HB.out.setCell (p := ⟨w.heap.size + 1 + 1, 5, none⟩) (by simp; try omega) (.int .i64 a1_0_4))
  have BC := Lib.hid (BC.out.set 6 (by simp) (.slice p6 a1_1.length q6))
  have BA := Lib.hid (BA.out.other (c := w.heap.size + 1 + 1) (by omega) 6 (.slice p6 a1_1.length q6))
  have BB := Lib.hid (BB.out.other (c := w.heap.size + 1 + 1) (by omega) 6 (.slice p6 a1_1.length q6))
  have HB := Lib.hid (HB.out.setCell (p := ⟨w.heap.size + 1 + 1, 6, none⟩) (by simp; try omega) (.slice p6 a1_1.length q6))
  have R4 := Lib.hid (R4.out.keep (good_flat cCell_len) (((((((Kept.refl _ _).setCell (p := ⟨w.heap.size + 1 + 1, 1, none⟩) (by simp) (.string ⟨a1_0_0.toArray⟩)).setCell (p := ⟨w.heap.size + 1 + 1, 2, none⟩) (by simp) (.bool a1_0_1)).setCell (p := ⟨w.heap.size + 1 + 1, 3, none⟩) (by simp) (.bool a1_0_2)).setCell (p := ⟨w.heap.size + 1 + 1, 4, none⟩) (by simp) (.slice p4 a1_0_3.length q4)).setCell (p := ⟨w.heap.size + 1 + 1, 5, none⟩) (by simp) (.int .i64 a1_0_4)).setCell (p := ⟨w.heap.size + 1 + 1, 6, none⟩) (by simp) (.slice p6 a1_1.length q6)))
  have R6 := Lib.hid (R6.out.keep (good_flat cLayer_len) (((((((Kept.refl _ _).setCell (p := ⟨w.heap.size + 1 + 1, 1, none⟩) (by simp) (.string ⟨a1_0_0.toArray⟩)).setCell (p := ⟨w.heap.size + 1 + 1, 2, none⟩) (by simp) (.bool a1_0_1)).setCell (p := ⟨w.heap.size + 1 + 1, 3, none⟩) (by simp) (.bool a1_0_2)).setCell (p := ⟨w.heap.size + 1 + 1, 4, none⟩) (by simp) (.slice p4 a1_0_3.length q4)).setCell (p := ⟨w.heap.size + 1 + 1, 5, none⟩) (by simp) (.int .i64 a1_0_4)).setCell (p := ⟨w.heap.size + 1 + 1, 6, none⟩) (by simp) (.slice p6 a1_1.length q6)))
  simp only [List.set_cons_zero, List.set_cons_succ] at BC
  have BB := Lib.hid (BB.out.set 0 (by simp) (.bool a0))
  have HB := Lib.hid (HB.out.setCell (p := ⟨w.heap.size + 1, 0, none⟩) (by simp; try omega) (.bool a0))
  have BB := Lib.hid (BB.out.set 1 (by simp) (.string ⟨a1_0_0.toArray⟩))
  have HB := Lib.hid (HB.out.setCell (p := ⟨w.heap.size + 1, 1, none⟩) (by simp; try omega) (.string ⟨a1_0_0.toArray⟩))
  have BB := Lib.hid (BB.out.set 2 (by simp) (.bool a1_0_1))
  have HB := Lib.hid (HB.out.setCell (p := ⟨w.heap.size + 1, 2, none⟩) (by simp; try omega) (.bool a1_0_1))
  have BB := Lib.hid (BB.out.set 3 (by simp) (.bool a1_0_2))
  have HB := Lib.hid (HB.out.setCell (p := ⟨w.heap.size + 1, 3, none⟩) (by simp; try omega) (.bool a1_0_2))
  have BB := Lib.hid (BB.out.set 4 (by simp) (.slice p4 a1_0_3.length q4))
  have HB := Lib.hid (HB.out.setCell (p := ⟨w.heap.size + 1, 4, none⟩) (by simp; try omega) (.slice p4 a1_0_3.length q4))
  have BB := Lib.hid (BB.out.set 5 (by simp) (.int .i64 a1_0_4))
  have HB := Lib.hid (HB.out.setCell (p := ⟨w.heap.size + 1, 5, none⟩) (by simp; try omega) (.int .i64 a1_0_4))
  have BB := Lib.hid (BB.out.set 6 (by simp) (.slice p6 a1_1.length q6))
  have HB := Lib.hid (HB.out.setCell (p := ⟨w.heap.size + 1, 6, none⟩) (by simp; try omega) (.slice p6 a1_1.length q6))
  have R4 := Lib.hid ((R4.out.keep (good_flat cCell_len) ((((((((Kept.refl _ _).setCell (p := ⟨w.heap.size + 1, 0, none⟩) (by simp) (.bool a0)).setCell (p := ⟨w.heap.size + 1, 1, none⟩) (by simp) (.string ⟨a1_0_0.toArray⟩)).setCell (p := ⟨w.heap.size + 1, 2, none⟩) (by simp) (.bool a1_0_1)).setCell (p := ⟨w.heap.size + 1, 3, none⟩) (by simp) (.bool a1_0_2)).setCell (p := ⟨w.heap.size + 1, 4, none⟩) (by simp) (.slice p4 a1_0_3.length q4)).setCell (p := ⟨w.heap.size + 1, 5, none⟩) (by simp) (.int .i64 a1_0_4)).setCell (p := ⟨w.heap.size + 1, 6, none⟩) (by simp) (.slice p6 a1_1.length q6))).mono (good_flat cCell_len) (show w.heap.size ≤ w.heap.size + 3 by omega))
  have R6 := Lib.hid ((R6.out.keep (good_flat cLayer_len) ((((((((Kept.refl _ _).setCell (p := ⟨w.heap.size + 1, 0, none⟩) (by simp) (.bool a0)).setCell (p := ⟨w.heap.size + 1, 1, none⟩) (by simp) (.string ⟨a1_0_0.toArray⟩)).setCell (p := ⟨w.heap.size + 1, 2, none⟩) (by simp) (.bool a1_0_1)).setCell (p := ⟨w.heap.size + 1, 3, none⟩) (by simp) (.bool a1_0_2)).setCell (p := ⟨w.heap.size + 1, 4, none⟩) (by simp) (.slice p4 a1_0_3.length q4)).setCell (p := ⟨w.heap.size + 1, 5, none⟩) (by simp) (.int .i64 a1_0_4)).setCell (p := ⟨w.heap.size + 1, 6, none⟩) (by simp) (.slice p6 a1_1.length q6))).mono (good_flat cLayer_len) (show w.heap.size ≤ w.heap.size + 3 by omega))
  simp only [List.set_cons_zero, List.set_cons_succ] at BB
  generalize (((((((((((((w1).setCell ⟨w.heap.size + 1 + 1, 1, none⟩ (.string ⟨a1_0_0.toArray⟩)).setCell ⟨w.heap.size + 1 + 1, 2, none⟩ (.bool a1_0_1)).setCell ⟨w.heap.size + 1 + 1, 3, none⟩ (.bool a1_0_2)).setCell ⟨w.heap.size + 1 + 1, 4, none⟩ (.slice p4 a1_0_3.length q4)).setCell ⟨w.heap.size + 1 + 1, 5, none⟩ (.int .i64 a1_0_4)).setCell ⟨w.heap.size + 1 + 1, 6, none⟩ (.slice p6 a1_1.length q6)).setCell ⟨w.heap.size + 1, 0, none⟩ (.bool a0)).setCell ⟨w.heap.size + 1, 1, none⟩ (.string ⟨a1_0_0.toArray⟩)).setCell ⟨w.heap.size + 1, 2, none⟩ (.bool a1_0_1)).setCell ⟨w.heap.size + 1, 3, none⟩ (.bool a1_0_2)).setCell ⟨w.heap.size + 1, 4, none⟩ (.slice p4 a1_0_3.length q4)).setCell ⟨w.heap.size + 1, 5, none⟩ (.int .i64 a1_0_4)).setCell ⟨w.heap.size + 1, 6, none⟩ (.slice p6 a1_1.length q6) = WE at *
  have eB0 := BB.out.cell 0 (by simp)
  have eB1 := BB.out.cell 1 (by simp)
  have eB2 := BB.out.cell 2 (by simp)
  have eB3 := BB.out.cell 3 (by simp)
  have eB4 := BB.out.cell 4 (by simp)
  have eB5 := BB.out.cell 5 (by simp)
  have eB6 := BB.out.cell 6 (by simp)
  simp only [List.getElem_cons_zero, List.getElem_cons_succ, List.set_cons_zero, List.set_cons_succ] at eB0 eB1 eB2 eB3 eB4 eB5 eB6
  exact bodyPost_ret (v := .agg #[.bool a0, .string ⟨a1_0_0.toArray⟩, .bool a1_0_1, .bool a1_0_2, .slice p4 a1_0_3.length q4, .int .i64 a1_0_4, .slice p6 a1_1.length q6]) (by simp [results, Try.results36, go_sem, eB0, eB1, eB2, eB3, eB4, eB5, eB6]) rfl ⟨_, rfl, ⟨_, _, rfl, R4.out, R6.out⟩, HB.out⟩
set_option maxRecDepth 100000 in
set_option maxHeartbeats 1600000 in
theorem szSlot_d (v : Value) (x : SlotD) (left : Int) (w : World) (hx : ValAt rSlot 0 w v x) (hk : okSlot x) (h0 : 0 ≤ left) (h1 : left ≤ 1099511627776) : Calls Try.prog 33 #[v, .int .i64 left] w fun e w' => SzF (zSlot x) left w e w' := by
  obtain ⟨_, rfl, hx⟩ := hx
  obtain ⟨a0, ⟨⟨a1_0_0, a1_0_1, a1_0_2, a1_0_3, a1_0_4⟩, a1_1⟩⟩ := x
  obtain ⟨v4, v6, rfl, hr4, hr6⟩ := hx
  simp only at hr4 hr6
  unfold okSlot at hk
  simp only at hk
  simp only [zSlot, zPart, zCore]
  have HK := Lib.hid hk
  obtain ⟨ra4, rc4, rfl, _⟩ := sliceAt_len hr4
  obtain ⟨ra6, rc6, rfl, _⟩ := sliceAt_len hr6
  have H4 := Lib.hid hr4
  have H6 := Lib.hid hr6
  clear hk hr4 hr6
  have HS := Lib.hid (bx_start1 w [.bool a0, .string ⟨a1_0_0.toArray⟩, .bool a1_0_1, .bool a1_0_2, .slice ra4 a1_0_3.length rc4, .int .i64 a1_0_4, .slice ra6 a1_1.length rc6] 75)
  have BA := Lib.hid HS.out.1
  have HB := Lib.hid HS.out.2
  clear HS
  go_enter Try.func33, Try.ntmps33
  go_wp2_with fail
  generalize w.alloc (.cells #[.bool a0, .string ⟨a1_0_0.toArray⟩, .bool a1_0_1, .bool a1_0_2, .slice ra4 a1_0_3.length rc4, .int .i64 a1_0_4, .slice ra6 a1_1.length rc6] 75) = X1 at *
  refine (szPart_d _ (⟨⟨a1_0_0, a1_0_1, a1_0_2, a1_0_3, a1_0_4⟩, a1_1⟩ : PartD) _ _ ⟨_, rfl, _, _, rfl, (H4.out.below (good_flat cCell_len) HB.out (Nat.le_refl _)), (H6.out.below (good_flat cLayer_len) HB.out (Nat.le_refl _))⟩ HK.out.2 (by omega) (by omega)).mono ?_
  rintro e w1 ⟨r1, rfl, hra1, hrb1, hb⟩
  have HR1 := Lib.hid hrb1
  have HB := Lib.hid (belS (w := w) HB.out hb)
  have BA := Lib.hid (BA.out.below hb)
  clear hb hrb1
  have eA0 := BA.out.cell 0 (by simp)
  have eA1 := BA.out.cell 1 (by simp)
  have eA2 := BA.out.cell 2 (by simp)
  have eA3 := BA.out.cell 3 (by simp)
  have eA4 := BA.out.cell 4 (by simp)
  have eA5 := BA.out.cell 5 (by simp)
  have eA6 := BA.out.cell 6 (by simp)
  simp only [List.getElem_cons_zero, List.getElem_cons_succ, List.set_cons_zero, List.set_cons_succ] at eA0 eA1 eA2 eA3 eA4 eA5 eA6
  by_cases hn1 : r1 < 0
  · go_wp2_with fail
    go_ret
    exact ⟨-1, rfl, by omega, by omega, HB.out⟩
  · have hs1 := HR1.out (by omega)
    simp only [zPart, zCore] at hs1
    go_wp2_with fail
    go_ret
    exact ⟨_, rfl, by omega, by intro _; push_cast; omega, HB.out⟩
set_option maxRecDepth 100000 in
set_option maxHeartbeats 1600000 in
theorem eqSlot_d (v u : Value) (x y : SlotD) (w : World) (hx : ValAt rSlot 0 w v x) (hy : ValAt rSlot 0 w u y) : Calls Try.prog 27 #[v, u] w fun e w' => e = .returned (.bool (decide (x = y))) ∧ Below w.heap.size w w' := by
  have HQ := Lib.hid (show decide (x = y) = (decide (x.fFull = y.fFull) && decide (x.fPart = y.fPart)) by rw [Bool.eq_iff_iff]; cases x; cases y; simp [and_assoc])
  obtain ⟨_, rfl, hx⟩ := hx
  obtain ⟨a0, ⟨⟨a1_0_0, a1_0_1, a1_0_2, a1_0_3, a1_0_4⟩, a1_1⟩⟩ := x
  obtain ⟨v4, v6, rfl, hv4, hv6⟩ := hx
  simp only at hv4 hv6
  obtain ⟨_, rfl, hy⟩ := hy
  obtain ⟨b0, ⟨⟨b1_0_0, b1_0_1, b1_0_2, b1_0_3, b1_0_4⟩, b1_1⟩⟩ := y
  obtain ⟨u4, u6, rfl, hu4, hu6⟩ := hy
  simp only at hu4 hu6
  simp only at HQ
  obtain ⟨ra4, rc4, rfl, _⟩ := sliceAt_len hv4
  obtain ⟨ra6, rc6, rfl, _⟩ := sliceAt_len hv6
  obtain ⟨sa4, sc4, rfl, _⟩ := sliceAt_len hu4
  obtain ⟨sa6, sc6, rfl, _⟩ := sliceAt_len hu6
  have HV4 := Lib.hid hv4
  have HU4 := Lib.hid hu4
  have HV6 := Lib.hid hv6
  have HU6 := Lib.hid hu6
  clear hv4 hu4 hv6 hu6
  have HC1 := Lib.hid (fun w0 (hw : Below w.heap.size w w0) => eqPart_d _ _ (⟨⟨a1_0_0, a1_0_1, a1_0_2, a1_0_3, a1_0_4⟩, a1_1⟩ : PartD) (⟨⟨b1_0_0, b1_0_1, b1_0_2, b1_0_3, b1_0_4⟩, b1_1⟩ : PartD) w0 ⟨_, rfl, _, _, rfl, HV4.out.below (good_flat cCell_len) hw (Nat.le_refl _), HV6.out.below (good_flat cLayer_len) hw (Nat.le_refl _)⟩ ⟨_, rfl, _, _, rfl, HU4.out.below (good_flat cCell_len) hw (Nat.le_refl _), HU6.out.below (good_flat cLayer_len) hw (Nat.le_refl _)⟩)
  generalize decide ((⟨⟨a1_0_0, a1_0_1, a1_0_2, a1_0_3, a1_0_4⟩, a1_1⟩ : PartD) = (⟨⟨b1_0_0, b1_0_1, b1_0_2, b1_0_3, b1_0_4⟩, b1_1⟩ : PartD)) = p1 at *
  generalize hq : decide ((⟨a0, ⟨⟨a1_0_0, a1_0_1, a1_0_2, a1_0_3, a1_0_4⟩, a1_1⟩⟩ : SlotD) = (⟨b0, ⟨⟨b1_0_0, b1_0_1, b1_0_2, b1_0_3, b1_0_4⟩, b1_1⟩⟩ : SlotD)) = q at *
  clear hq
  have HS := Lib.hid (bx_start2 w [.bool a0, .string ⟨a1_0_0.toArray⟩, .bool a1_0_1, .bool a1_0_2, .slice ra4 a1_0_3.length rc4, .int .i64 a1_0_4, .slice ra6 a1_1.length rc6] [.bool b0, .string ⟨b1_0_0.toArray⟩, .bool b1_0_1, .bool b1_0_2, .slice sa4 b1_0_3.length sc4, .int .i64 b1_0_4, .slice sa6 b1_1.length sc6] 63 63)
  by_cases h0 : a0 = b0
  · subst h0
    cases p1 with
    | true =>
      have HF := Lib.hid (show q = true from by rw [HQ.out]; simp)
      go_enter Try.func27, Try.ntmps27
      have BA := Lib.hid HS.out.1
      have BB := Lib.hid HS.out.2.1
      have HB := Lib.hid HS.out.2.2
      go_wp2_with fail
      refine (HC1.out _ HB.out).mono ?_
      rintro e w1 ⟨rfl, hb⟩
      have HB := Lib.hid (belS (w := w) HB.out hb)
      have BA := Lib.hid (BA.out.below hb)
      have BB := Lib.hid (BB.out.below hb)
      clear hb
      have eA0 := BA.out.cell 0 (by simp)
      have eB0 := BB.out.cell 0 (by simp)
      have eA1 := BA.out.cell 1 (by simp)
      have eB1 := BB.out.cell 1 (by simp)
      have eA2 := BA.out.cell 2 (by simp)
      have eB2 := BB.out.cell 2 (by simp)
      have eA3 := BA.out.cell 3 (by simp)
      have eB3 := BB.out.cell 3 (by simp)
      have eA4 := BA.out.cell 4 (by simp)
      have eB4 := BB.out.cell 4 (by simp)
      have eA5 := BA.out.cell 5 (by simp)
      have eB5 := BB.out.cell 5 (by simp)
      have eA6 := BA.out.cell 6 (by simp)
      have eB6 := BB.out.cell 6 (by simp)
      simp only [List.getElem_cons_zero, List.getElem_cons_succ, List.set_cons_zero, List.set_cons_succ] at eA0 eB0 eA1 eB1 eA2 eB2 eA3 eB3 eA4 eB4 eA5 eB5 eA6 eB6
      go_wp2_with fail
      go_ret
      exact ⟨ret_bool HF.out.symm, HB.out⟩
    | false =>
      have HF := Lib.hid (show q = false from by rw [HQ.out]; simp)
      go_enter Try.func27, Try.ntmps27
      have BA := Lib.hid HS.out.1
      have BB := Lib.hid HS.out.2.1
      have HB := Lib.hid HS.out.2.2
      go_wp2_with fail
      refine (HC1.out _ HB.out).mono ?_
      rintro e w1 ⟨rfl, hb⟩
      have HB := Lib.hid (belS (w := w) HB.out hb)
      have BA := Lib.hid (BA.out.below hb)
      have BB := Lib.hid (BB.out.below hb)
      clear hb
      have eA0 := BA.out.cell 0 (by simp)
      have eB0 := BB.out.cell 0 (by simp)
      have eA1 := BA.out.cell 1 (by simp)
      have eB1 := BB.out.cell 1 (by simp)
      have eA2 := BA.out.cell 2 (by simp)
      have eB2 := BB.out.cell 2 (by simp)
      have eA3 := BA.out.cell 3 (by simp)
      have eB3 := BB.out.cell 3 (by simp)
      have eA4 := BA.out.cell 4 (by simp)
      have eB4 := BB.out.cell 4 (by simp)
      have eA5 := BA.out.cell 5 (by simp)
      have eB5 := BB.out.cell 5 (by simp)
      have eA6 := BA.out.cell 6 (by simp)
      have eB6 := BB.out.cell 6 (by simp)
      simp only [List.getElem_cons_zero, List.getElem_cons_succ, List.set_cons_zero, List.set_cons_succ] at eA0 eB0 eA1 eB1 eA2 eB2 eA3 eB3 eA4 eB4 eA5 eB5 eA6 eB6
      go_wp2_with fail
      go_ret
      exact ⟨ret_bool HF.out.symm, HB.out⟩
  · rcases (show (a0 = true ∧ b0 = false) ∨ (a0 = false ∧ b0 = true) by cases a0 <;> cases b0 <;> simp_all) with ⟨rfl, rfl⟩ | ⟨rfl, rfl⟩
    · have HF := Lib.hid (show q = false from by rw [HQ.out]; simp)
      clear h0
      go_enter Try.func27, Try.ntmps27
      have BA := Lib.hid HS.out.1
      have BB := Lib.hid HS.out.2.1
      have HB := Lib.hid HS.out.2.2
      go_wp2_with fail
      go_ret
      exact ⟨ret_bool HF.out.symm, HB.out⟩
    · have HF := Lib.hid (show q = false from by rw [HQ.out]; simp)
      clear h0
      go_enter Try.func27, Try.ntmps27
      have BA := Lib.hid HS.out.1
      have BB := Lib.hid HS.out.2.1
      have HB := Lib.hid HS.out.2.2
      go_wp2_with fail
      go_ret
      exact ⟨ret_bool HF.out.symm, HB.out⟩
theorem infoDSlot : (Try.prog.info? 63).map (fun i => (i.zero, i.size, i.bytes)) = some (some (.agg #[.bool false, .string ⟨#[]⟩, .bool false, .bool false, .slice none 0 0, .int .i64 0, .slice none 0 0]), 7, 88) := by kernel_rfl
set_option maxRecDepth 100000 in
set_option maxHeartbeats 3200000 in
theorem toSlotS_d (v : Value) (x : List SlotD) (w : World) (hx : SliceAt (rSlot) 7 0 w v x) (hm : x.length + sumF zSlot x ≤ 2097152) :
    Calls Try.prog 14 #[v] w fun e w' => GivesS (rSlot) 7 x w e w' := by
  obtain ⟨a, c, rfl, hl⟩ := sliceAt_len hx
  obtain ⟨i0, hi, hz0, hz1, hz2⟩ := info_parts infoDSlot
  have HX := Lib.hid hx
  have HZ := Lib.hid hm
  have hm2 : x.length ≤ 2097152 := by omega
  clear hx hm
  unfold maxLen at hl
  go_enter Try.func14, Try.ntmps14
  have hb2 : i0.bytes * x.length ≤ 281474976710656 := by rw [hz2]; omega
  have HB2 := Lib.hid hb2
  have HM := Lib.hid (show x.length ≤ maxLen from by unfold maxLen; omega)
  clear hb2
  go_wp2_with (refine wpList_make_full _ rfl (.tmp 6) (.tmp 6) 22 rfl w.heap.size 63 i0 _ 7 Try.underlying22 hi hz0 hz1 .i64 .i64 _ _ x.length rfl rfl rfl rfl HB2.out HM.out (Nat.le_refl _) ?_; intro w1 hown1 hgrow1)
  have HO := Lib.hid (show ∃ xs, w1.ownsRow w.heap.size 63 7 (.slice (some ⟨w.heap.size, 0, none⟩) x.length x.length) x.length xs ∧ Cells (rSlot) 7 (w.heap.size + 1) w1 xs (x.take 0) from ⟨_, hown1, Cells.nil _ _ _⟩)
  have HB := Lib.hid (show Below w.heap.size w w1 from ⟨hgrow1.os, hgrow1.tape, hgrow1.output, hgrow1.size, fun i hi => hgrow1.block i hi (by simp)⟩)
  have hsz : w.heap.size < w1.heap.size := by
    rcases hown1.2 with ⟨h, _⟩ | ⟨g, cap, cur, h, _, hg, _⟩
    · simp at h
    · injection h with h _ _; injection h with h; injection h with h _; subst h; exact (Array.getElem?_eq_some_iff.1 hg).1
  clear hown1 hgrow1 hz0 hz1 hz2 HB2 hi
  go_loopw [4] (fun i wr => ∃ k : Nat, k ≤ x.length ∧ i = .int .i64 k ∧ (∃ xs, wr.ownsRow w.heap.size 63 7 (.slice (some ⟨w.heap.size, 0, none⟩) x.length x.length) x.length xs ∧ Cells (rSlot) 7 (w.heap.size + 1) wr xs (x.take k)) ∧ Below w.heap.size w wr ∧ w.heap.size < wr.heap.size) (fun i _ => x.length - (intOf i).toNat)
  case atStart => exact ⟨0, Nat.zero_le _, rfl, HO.out, HB.out, hsz⟩
  case round =>
    obtain ⟨k, hk, rfl, ⟨xs, hown, htake⟩, hb, hszr⟩ := hrel
    have HR := Lib.hid (SliceAt.below HX.out goodSlot hb (Nat.le_refl _))
    have HBr := Lib.hid hb
    have HOw := Lib.hid hown
    have HT := Lib.hid htake
    have HXL := Lib.hid (show xs.length = x.length * 7 from hown.1)
    clear hb hown htake
    by_cases hlt : k < x.length
    · obtain ⟨b, o, cs, rfl, hbw, hat, hd⟩ := sliceAt_cell HR.out k hlt
      have HSN := Lib.hid (show x.take (k + 1) = x.take k ++ [x[k]] from List.take_succ_eq_append_getElem hlt)
      have HLT := Lib.hid (show (x.take k).length = k by rw [List.length_take]; omega)
      have HC := Lib.hid (toSlot_d (.agg cs.toArray) x[k] wr ⟨cs, rfl, hat⟩ (by have h1 := sumF_mem zSlot x x[k] (List.getElem_mem hlt); have h2 := HZ.out; omega))
      generalize x[k] = p at *
      obtain ⟨a0, ⟨⟨a1_0_0, a1_0_1, a1_0_2, a1_0_3, a1_0_4⟩, a1_1⟩⟩ := p
      obtain ⟨x4, x6, rfl, hr4, hr6⟩ := hat
      have d0 := hd 0 (by decide)
      have d1 := hd 1 (by decide)
      have d2 := hd 2 (by decide)
      have d3 := hd 3 (by decide)
      have d4 := hd 4 (by decide)
      have d5 := hd 5 (by decide)
      have d6 := hd 6 (by decide)
      simp only [List.getElem?_cons_zero, List.getElem?_cons_succ, Nat.add_zero] at d0 d1 d2 d3 d4 d5 d6 HC
      clear hd
      go_wp2_with fail
      refine HC.out.mono ?_
      rintro e w2 ⟨cs, rfl, hat2, hb0⟩
      have HA := Lib.hid hat2
      have HB3 := Lib.hid (HBr.out.trans (hb0.mono HBr.out.size))
      have HO3 := Lib.hid (ownsRow_below HOw.out hb0 (Nat.le_refl _))
      have HK := Lib.hid (Cells.keep HT.out goodSlot (kept_below hb0 (Nat.le_refl _)))
      have hsz2 : w.heap.size < w2.heap.size := by have := hb0.size; omega
      obtain ⟨y4, y6, rfl, hq4, hq6⟩ := hat2
      skip
      obtain ⟨yp4, yq4, rfl, _⟩ := sliceAt_len hq4
      clear hq4
      obtain ⟨yp6, yq6, rfl, _⟩ := sliceAt_len hq6
      clear hq6
      clear hb0
      obtain ⟨u0, c0⟩ : ∃ u, w2.cell? ⟨w.heap.size, k * 7, none⟩ = some u := by
        rw [World.ownsRow.cellAt HO3.out (k * 7) (by omega), List.getElem?_eq_getElem (by have := HXL.out; omega)]
        exact ⟨_, rfl⟩
      have f0 := World.ownsRow.frozenAt HO3.out (k * 7)
      obtain ⟨u1, c1⟩ : ∃ u, w2.cell? ⟨w.heap.size, k * 7 + 1, none⟩ = some u := by
        rw [World.ownsRow.cellAt HO3.out (k * 7 + 1) (by omega), List.getElem?_eq_getElem (by have := HXL.out; omega)]
        exact ⟨_, rfl⟩
      have f1 := World.ownsRow.frozenAt HO3.out (k * 7 + 1)
      obtain ⟨u2, c2⟩ : ∃ u, w2.cell? ⟨w.heap.size, k * 7 + 2, none⟩ = some u := by
        rw [World.ownsRow.cellAt HO3.out (k * 7 + 2) (by omega), List.getElem?_eq_getElem (by have := HXL.out; omega)]
        exact ⟨_, rfl⟩
      have f2 := World.ownsRow.frozenAt HO3.out (k * 7 + 2)
      obtain ⟨u3, c3⟩ : ∃ u, w2.cell? ⟨w.heap.size, k * 7 + 3, none⟩ = some u := by
        rw [World.ownsRow.cellAt HO3.out (k * 7 + 3) (by omega), List.getElem?_eq_getElem (by have := HXL.out; omega)]
        exact ⟨_, rfl⟩
      have f3 := World.ownsRow.frozenAt HO3.out (k * 7 + 3)
      obtain ⟨u4, c4⟩ : ∃ u, w2.cell? ⟨w.heap.size, k * 7 + 4, none⟩ = some u := by
        rw [World.ownsRow.cellAt HO3.out (k * 7 + 4) (by omega), List.getElem?_eq_getElem (by have := HXL.out; omega)]
        exact ⟨_, rfl⟩
      have f4 := World.ownsRow.frozenAt HO3.out (k * 7 + 4)
      obtain ⟨u5, c5⟩ : ∃ u, w2.cell? ⟨w.heap.size, k * 7 + 5, none⟩ = some u := by
        rw [World.ownsRow.cellAt HO3.out (k * 7 + 5) (by omega), List.getElem?_eq_getElem (by have := HXL.out; omega)]
        exact ⟨_, rfl⟩
      have f5 := World.ownsRow.frozenAt HO3.out (k * 7 + 5)
      obtain ⟨u6, c6⟩ : ∃ u, w2.cell? ⟨w.heap.size, k * 7 + 6, none⟩ = some u := by
        rw [World.ownsRow.cellAt HO3.out (k * 7 + 6) (by omega), List.getElem?_eq_getElem (by have := HXL.out; omega)]
        exact ⟨_, rfl⟩
      have f6 := World.ownsRow.frozenAt HO3.out (k * 7 + 6)
      have HS0 := Lib.hid (World.ownsRow.stored HO3.out (k * 7) (.bool a0))
      have HS1 := Lib.hid (World.ownsRow.stored HS0.out.1 (k * 7 + 1) (.string ⟨a1_0_0.toArray⟩))
      have HS2 := Lib.hid (World.ownsRow.stored HS1.out.1 (k * 7 + 2) (.bool a1_0_1))
      have HS3 := Lib.hid (World.ownsRow.stored HS2.out.1 (k * 7 + 3) (.bool a1_0_2))
      have HS4 := Lib.hid (World.ownsRow.stored HS3.out.1 (k * 7 + 4) (.slice yp4 a1_0_3.length yq4))
      have HS5 := Lib.hid (World.ownsRow.stored HS4.out.1 (k * 7 + 5) (.int .i64 a1_0_4))
      have HS6 := Lib.hid (World.ownsRow.stored HS5.out.1 (k * 7 + 6) (.slice yp6 a1_1.length yq6))
      have HN := Lib.hid (show Cells (rSlot) 7 (w.heap.size + 1) ((((((((w2).setCell ⟨w.heap.size, k * 7, none⟩ (.bool a0)).setCell ⟨w.heap.size, k * 7 + 1, none⟩ (.string ⟨a1_0_0.toArray⟩)).setCell ⟨w.heap.size, k * 7 + 2, none⟩ (.bool a1_0_1)).setCell ⟨w.heap.size, k * 7 + 3, none⟩ (.bool a1_0_2)).setCell ⟨w.heap.size, k * 7 + 4, none⟩ (.slice yp4 a1_0_3.length yq4)).setCell ⟨w.heap.size, k * 7 + 5, none⟩ (.int .i64 a1_0_4)).setCell ⟨w.heap.size, k * 7 + 6, none⟩ (.slice yp6 a1_1.length yq6)) ((((((((xs).set (k * 7) (.bool a0)).set (k * 7 + 1) (.string ⟨a1_0_0.toArray⟩)).set (k * 7 + 2) (.bool a1_0_1)).set (k * 7 + 3) (.bool a1_0_2)).set (k * 7 + 4) (.slice yp4 a1_0_3.length yq4)).set (k * 7 + 5) (.int .i64 a1_0_4)).set (k * 7 + 6) (.slice yp6 a1_1.length yq6)) (x.take (k + 1)) by
        rw [HSN.out]
        have hkk : Kept (w.heap.size + 1) w2 ((((((((w2).setCell ⟨w.heap.size, k * 7, none⟩ (.bool a0)).setCell ⟨w.heap.size, k * 7 + 1, none⟩ (.string ⟨a1_0_0.toArray⟩)).setCell ⟨w.heap.size, k * 7 + 2, none⟩ (.bool a1_0_1)).setCell ⟨w.heap.size, k * 7 + 3, none⟩ (.bool a1_0_2)).setCell ⟨w.heap.size, k * 7 + 4, none⟩ (.slice yp4 a1_0_3.length yq4)).setCell ⟨w.heap.size, k * 7 + 5, none⟩ (.int .i64 a1_0_4)).setCell ⟨w.heap.size, k * 7 + 6, none⟩ (.slice yp6 a1_1.length yq6)) := (((((((Kept.refl _ _).setCell (by simp) _).setCell (by simp) _).setCell (by simp) _).setCell (by simp) _).setCell (by simp) _).setCell (by simp) _).setCell (by simp) _
        refine Cells.snoc (Cells.keep HK.out goodSlot hkk) ((goodSlot).keep ((goodSlot).mono HA.out (by omega)) hkk) ?_ ?_
        · intro i hi
          rw [HLT.out] at hi
          repeat rw [List.getElem?_set_ne (by omega)]
        · intro j hj
          rw [HLT.out]
          have hxl := HXL.out
          rcases (show j = 0 ∨ j = 1 ∨ j = 2 ∨ j = 3 ∨ j = 4 ∨ j = 5 ∨ j = 6 by omega) with rfl | rfl | rfl | rfl | rfl | rfl | rfl
          all_goals (simp [List.getElem?_set]; try omega))
      go_wp2_with fail
      refine ⟨⟨k + 1, by omega, by go_num, ⟨_, HS6.out.1, HN.out⟩, ?_, by simp; omega⟩, by simp [intOf]; omega⟩
      exact (((((((HB3.out.setCell (by simp) _).setCell (by simp) _).setCell (by simp) _).setCell (by simp) _).setCell (by simp) _).setCell (by simp) _).setCell (by simp) _)
    · have HN := Lib.hid (show x.take k = x from List.take_of_length_le (by omega))
      have HF := Lib.hid (show SliceAt (rSlot) 7 w.heap.size wr (.slice (some ⟨w.heap.size, 0, none⟩) x.length x.length) x from by
        have h := HT.out
        rw [HN.out] at h
        exact sliceAt_of_row HOw.out (fun i hi => by obtain ⟨cs, h1, h2⟩ := h i hi; exact ⟨cs, (goodSlot).mono h1 (by omega), h2⟩) (Nat.le_refl _) (by omega))
      go_wp2_with fail
      go_ret
      exact ⟨_, rfl, HF.out, HBr.out⟩
set_option maxRecDepth 100000 in
set_option maxHeartbeats 1600000 in
theorem szSlotS_d (v : Value) (x : List SlotD) (left : Int) (w : World) (hx : SliceAt (rSlot) 7 0 w v x) (hs : ∀ d ∈ x, okSlot d) (h0 : 0 ≤ left) (h1 : left ≤ 1099511627776) :
    Calls Try.prog 12 #[v, .int .i64 left] w fun e w' => SzF (x.length + sumF zSlot x) left w e w' := by
  obtain ⟨a, c, rfl, hl⟩ := sliceAt_len hx
  have HX := Lib.hid hx
  have HS := Lib.hid hs
  clear hx hs
  unfold maxLen at hl
  by_cases hneg : left - (x.length : Int) < 0
  · go_enter Try.func12, Try.ntmps12
    go_wp2
    go_ret
    exact ⟨-1, rfl, by omega, by omega, Below.refl _ _⟩
  · go_enter Try.func12, Try.ntmps12
    go_wp2
    go_loopw [1, 5] (fun r i wr => ∃ k : Nat, ∃ z : Int, k ≤ x.length ∧ i = .int .i64 k ∧ r = .int .i64 z ∧ 0 ≤ z ∧ z ≤ left ∧ (x.length : Int) + sumF zSlot (x.take k) + z = left ∧ Below w.heap.size w wr) (fun _ i _ => x.length - (intOf i).toNat)
    case atStart => exact ⟨0, _, Nat.zero_le _, rfl, rfl, by omega, by omega, by simp [sumF]; omega, Below.refl _ _⟩
    case round =>
      obtain ⟨k, z, hk, rfl, rfl, hz0, hz1, ht, hbr⟩ := hrel
      have HT := Lib.hid ht
      have HB := Lib.hid hbr
      have HXr := Lib.hid (SliceAt.below HX.out goodSlot hbr (Nat.le_refl _))
      clear ht hbr
      by_cases hlt : k < x.length
      · obtain ⟨b, o, cs, rfl, hbw, hat, hd⟩ := sliceAt_cell HXr.out k hlt
        have HC := Lib.hid (szSlot_d (.agg cs.toArray) x[k] z wr ⟨cs, rfl, hat⟩ (HS.out _ (List.getElem_mem hlt)) hz0 (by omega))
        have HK := Lib.hid (sumF_take_succ zSlot x k hlt)
        generalize x[k] = p at *
        generalize hzp : zSlot p = zp at *
        clear hzp
        obtain ⟨a0, ⟨⟨a1_0_0, a1_0_1, a1_0_2, a1_0_3, a1_0_4⟩, a1_1⟩⟩ := p
        obtain ⟨x4, x6, rfl, hr4, hr6⟩ := hat
        have d0 := hd 0 (by decide)
        have d1 := hd 1 (by decide)
        have d2 := hd 2 (by decide)
        have d3 := hd 3 (by decide)
        have d4 := hd 4 (by decide)
        have d5 := hd 5 (by decide)
        have d6 := hd 6 (by decide)
        simp only [List.getElem?_cons_zero, List.getElem?_cons_succ, Nat.add_zero] at d0 d1 d2 d3 d4 d5 d6 HC
        clear hd
        go_wp2_with fail
        refine HC.out.mono ?_
        rintro e w2 ⟨r, rfl, hr0, hr1, hb0⟩
        have HB2 := Lib.hid (HB.out.trans (hb0.mono HB.out.size))
        have HR := Lib.hid hr1
        clear hb0 hr1
        by_cases hn2 : r < 0
        · go_wp2_with fail
          go_ret
          exact ⟨-1, rfl, by omega, by omega, HB2.out⟩
        · have hr := HR.out (by omega)
          go_wp2_with fail
          exact ⟨⟨k + 1, _, by omega, by go_num, rfl, by omega, by omega, by rw [HK.out]; have := HT.out; push_cast; omega, HB2.out⟩, by simp [intOf]; omega⟩
      · have HN := Lib.hid (show x.take k = x from List.take_of_length_le (by omega))
        go_wp2
        go_ret
        exact ⟨z, rfl, by omega, fun _ => by have := HT.out; rw [HN.out] at this; omega, HB.out⟩
set_option maxRecDepth 100000 in
set_option maxHeartbeats 1600000 in
theorem eqSlotS_d (v u : Value) (x y : List SlotD) (w : World) (hx : SliceAt (rSlot) 7 0 w v x) (hy : SliceAt (rSlot) 7 0 w u y) :
    Calls Try.prog 9 #[v, u] w fun e w' => e = .returned (.bool (decide (x = y))) ∧ Below w.heap.size w w' := by
  obtain ⟨a, c, rfl, hl⟩ := sliceAt_len hx
  obtain ⟨a2, c2, rfl, hl2⟩ := sliceAt_len hy
  have HX := Lib.hid hx
  have HY := Lib.hid hy
  clear hx hy
  unfold maxLen at hl hl2
  by_cases he : x.length = y.length
  · have hb : ((x.length : Int) == y.length) = true := beq_iff_eq.2 (by omega)
    have hbn : ((x.length : Int) != y.length) = false := by rw [bne_eq_false_iff_eq]; omega
    have HE := Lib.hid he
    clear he
    go_enter Try.func9, Try.ntmps9
    go_wp2
    go_loopw [5] (fun i wr => ∃ k : Nat, k ≤ x.length ∧ i = .int .i64 k ∧ x.take k = y.take k ∧ Below w.heap.size w wr) (fun i _ => x.length - (intOf i).toNat)
    case atStart => exact ⟨0, Nat.zero_le _, rfl, rfl, Below.refl _ _⟩
    case round =>
      obtain ⟨k, hk, rfl, ht, hbr⟩ := hrel
      have HT := Lib.hid ht
      have HB := Lib.hid hbr
      have HXr := Lib.hid (SliceAt.below HX.out goodSlot hbr (Nat.le_refl _))
      have HYr := Lib.hid (SliceAt.below HY.out goodSlot hbr (Nat.le_refl _))
      clear ht hbr
      by_cases hlt : k < x.length
      · have hky : k < y.length := by have := HE.out; omega
        obtain ⟨b, o, cs, rfl, _, hat, hd⟩ := sliceAt_cell HXr.out k hlt
        obtain ⟨b2, o2, cs2, rfl, _, hat2, hd2⟩ := sliceAt_cell HYr.out k hky
        have HS := Lib.hid (take_eq_step x y HE.out k hlt HT.out)
        have HD := Lib.hid (show x[k] ≠ y[k] → ¬ x = y from fun h e => h (by subst e; rfl))
        have HC := Lib.hid (fun w1 hw => eqSlot_d (.agg cs.toArray) (.agg cs2.toArray) x[k] y[k] w1 ⟨cs, rfl, (goodSlot).keep hat (kept_below (B := wr.heap.size) (w' := w1) hw (Nat.le_refl _))⟩ ⟨cs2, rfl, (goodSlot).keep hat2 (kept_below hw (Nat.le_refl _))⟩)
        generalize x[k] = p at *
        generalize y[k] = q at *
        generalize hqq : decide (p = q) = qq at *
        have HQ := Lib.hid (show qq = true → p = q from fun h => by rw [h] at hqq; exact of_decide_eq_true hqq)
        have HQ2 := Lib.hid (show qq = false → p ≠ q from fun h => by rw [h] at hqq; exact of_decide_eq_false hqq)
        clear hqq
        obtain ⟨a0, ⟨⟨a1_0_0, a1_0_1, a1_0_2, a1_0_3, a1_0_4⟩, a1_1⟩⟩ := p
        obtain ⟨b0, ⟨⟨b1_0_0, b1_0_1, b1_0_2, b1_0_3, b1_0_4⟩, b1_1⟩⟩ := q
        obtain ⟨x4, x6, rfl, hr4, hr6⟩ := hat
        obtain ⟨z4, z6, rfl, hs4, hs6⟩ := hat2
        have d0 := hd 0 (by decide)
        have d1 := hd 1 (by decide)
        have d2 := hd 2 (by decide)
        have d3 := hd 3 (by decide)
        have d4 := hd 4 (by decide)
        have d5 := hd 5 (by decide)
        have d6 := hd 6 (by decide)
        have q0 := hd2 0 (by decide)
        have q1 := hd2 1 (by decide)
        have q2 := hd2 2 (by decide)
        have q3 := hd2 3 (by decide)
        have q4 := hd2 4 (by decide)
        have q5 := hd2 5 (by decide)
        have q6 := hd2 6 (by decide)
        simp only [List.getElem?_cons_zero, List.getElem?_cons_succ, Nat.add_zero] at d0 d1 d2 d3 d4 d5 d6 q0 q1 q2 q3 q4 q5 q6 HC
        clear hd hd2
        go_wp2
        go_still_tail 8, (by kernel_rfl)
        have HB0 := Lib.hid (show Below wr.heap.size wr wr.drew from ⟨rfl, rfl, rfl, Nat.le_refl _, fun _ _ => rfl⟩)
        have HB1 := Lib.hid (show Below w.heap.size w wr.drew from ⟨HB.out.os, HB.out.tape, HB.out.output, HB.out.size, HB.out.block⟩)
        change wpList _ _ _ _ _ wr.drew
        generalize wr.drew = w1 at *
        go_wp2_with fail
        refine (HC.out _ HB0.out).mono ?_
        rintro e w2 ⟨rfl, hb0⟩
        have HB2 := Lib.hid (HB1.out.trans (hb0.mono HB1.out.size))
        clear hb0
        cases qq with
        | true =>
          have HN := Lib.hid (HS.out (HQ.out rfl))
          go_wp2_with fail
          exact ⟨⟨k + 1, by omega, by go_num, HN.out, HB2.out⟩, by simp [intOf]; omega⟩
        | false =>
          have HN := Lib.hid (HD.out (HQ2.out rfl))
          go_wp2_with fail
          go_ret
          exact ⟨ret_bool (by simp [HN.out]), HB2.out⟩
      · have HN := Lib.hid (show x = y from by
          have h := HT.out
          rw [List.take_of_length_le (by omega), List.take_of_length_le (by have := HE.out; omega)] at h
          exact h)
        go_wp2
        go_ret
        exact ⟨ret_bool (by simp [HN.out]), HB.out⟩
  · have hb : ((x.length : Int) == y.length) = false := beq_eq_false_iff_ne.2 (by omega)
    have hbn : ((x.length : Int) != y.length) = true := by rw [bne_iff_ne]; omega
    have HN := Lib.hid (show ¬ x = y from fun e => he (by rw [e]))
    clear he
    go_enter Try.func9, Try.ntmps9
    go_wp2
    go_ret
    exact ⟨ret_bool (by simp [HN.out]), Below.refl _ _⟩
end Go.Proofs.Yteeopjcbpngofaa
/- Parts whose rows are one's own. -/
namespace Go.Proofs.Yteeopjcbpngofaa
set_option linter.unusedVariables false
set_option linter.unusedSimpArgs false
open Go.RowKit
theorem Bx.grown {w w' : World} {b : Nat} {cs : List Value} {r : Option Nat} (h : Bx w b cs) (hg : w.grownBy w' r) (hr : r ≠ some b) : Bx w' b cs :=
  ⟨Nat.lt_of_lt_of_le h.lt hg.size, fun j hj => (World.cell?_of_block (hg.block b h.lt (fun e => hr e.symm))).trans (h.cell j hj), fun j hj => (World.frozen?_of_block (hg.block b h.lt (fun e => hr e.symm))).trans (h.froz j hj)⟩
theorem Bx.belowK {w w' : World} {b B : Nat} {cs : List Value} (h : Bx w b cs) (hb : Below B w w') (hB : b < B) : Bx w' b cs :=
  ⟨Nat.lt_of_lt_of_le h.lt hb.size, fun j hj => (World.cell?_of_block (hb.block b hB)).trans (h.cell j hj), fun j hj => (World.frozen?_of_block (hb.block b hB)).trans (h.froz j hj)⟩
/-- six cells stored, one behind the other -/
theorem Bx.put6 {w : World} {b : Nat} {c0 c1 c2 c3 c4 c5 : Value} (h : Bx w b [c0, c1, c2, c3, c4, c5]) (u0 u1 u2 u3 u4 u5 : Value) :
    Bx ((((((w.setCell ⟨b, 0, none⟩ u0).setCell ⟨b, 1, none⟩ u1).setCell ⟨b, 2, none⟩ u2).setCell ⟨b, 3, none⟩ u3).setCell ⟨b, 4, none⟩ u4).setCell ⟨b, 5, none⟩ u5) b [u0, u1, u2, u3, u4, u5] :=
  ((((((h.set 0 (by simp) u0).set 1 (by simp) u1).set 2 (by simp) u2).set 3 (by simp) u3).set 4 (by simp) u4).set 5 (by simp) u5)
theorem below_put6 {B : Nat} {a w : World} (h : Below B a w) (b : Nat) (hb : B ≤ b) (u0 u1 u2 u3 u4 u5 : Value) :
    Below B a ((((((w.setCell ⟨b, 0, none⟩ u0).setCell ⟨b, 1, none⟩ u1).setCell ⟨b, 2, none⟩ u2).setCell ⟨b, 3, none⟩ u3).setCell ⟨b, 4, none⟩ u4).setCell ⟨b, 5, none⟩ u5) :=
  ((((((h.setCell (p := ⟨b, 0, none⟩) hb u0).setCell (p := ⟨b, 1, none⟩) hb u1).setCell (p := ⟨b, 2, none⟩) hb u2).setCell (p := ⟨b, 3, none⟩) hb u3).setCell (p := ⟨b, 4, none⟩) hb u4).setCell (p := ⟨b, 5, none⟩) hb u5)
theorem ownsF_put6 {α : Type} {f : α → List Value} {E k : Nat} {w : World} {B : Nat} {v : Value} {l : List α} (h : OwnsF f E k w B v l) (b : Nat) (hb : b < B) (u0 u1 u2 u3 u4 u5 : Value) :
    OwnsF f E k ((((((w.setCell ⟨b, 0, none⟩ u0).setCell ⟨b, 1, none⟩ u1).setCell ⟨b, 2, none⟩ u2).setCell ⟨b, 3, none⟩ u3).setCell ⟨b, 4, none⟩ u4).setCell ⟨b, 5, none⟩ u5) B v l :=
  ownsF_set (ownsF_set (ownsF_set (ownsF_set (ownsF_set (ownsF_set h hb) hb) hb) hb) hb) hb
theorem Bx.dr {w : World} {b : Nat} {cs : List Value} (h : Bx w b cs) : Bx w.drew b cs := ⟨h.lt, h.cell, h.froz⟩
/-- a part in cells, whose rows are one's own and lie in blocks from B on -/
def oPart (w : World) (B : Nat) (cs : List Value) (x : PartD) : Prop := ∃ v3 v5, cs = [.string ⟨x.fCore.fKind.toArray⟩, .bool x.fCore.fOn, .bool x.fCore.fBroken, v3, .int .i64 x.fCore.fCount, v5] ∧ OwnsF cCell 107 2 w B v3 x.fCore.fCells ∧ OwnsF cLayer 109 2 w B v5 x.fLayers
/-- sizes that no copy outgrows -/
structure SmallP (x : PartD) : Prop where
  z : zPart x ≤ 1048576
  kind : x.fCore.fKind.length ≤ 1048576
  cells : x.fCore.fCells.length ≤ 2097152
  keys : ∀ c ∈ x.fCore.fCells, c.fKey.length ≤ 1048576
  lays : x.fLayers.length ≤ 2097152
  names : ∀ y ∈ x.fLayers, y.fName.length ≤ 1048576
theorem smallP_of {x : PartD} (h : zPart x ≤ 1048576) : SmallP x := by
  unfold zPart zCore at h
  refine ⟨by unfold zPart zCore; exact h, by omega, by omega, fun c hc => ?_, by omega, fun y hy => ?_⟩
  · have := sumF_mem zCell x.fCore.fCells c hc
    have h2 : c.fKey.length ≤ zCell c := by unfold zCell; omega
    omega
  · have := sumF_mem zLayer x.fLayers y hy
    have h2 : y.fName.length ≤ zLayer y := by unfold zLayer; omega
    omega
def GivesOP (x : PartD) (w : World) (e : Ending) (w' : World) : Prop := ∃ cs, e = .returned (.agg cs.toArray) ∧ oPart w' w.heap.size cs x ∧ Below w.heap.size w w'
theorem oPart_r {w : World} {B : Nat} {cs : List Value} {x : PartD} (h : oPart w B cs x) (hs : SmallP x) : rPart B w cs x := by
  obtain ⟨v3, v5, rfl, h3, h5⟩ := h
  exact ⟨v3, v5, rfl, sliceAt_of_owns cCell_len h3 (Nat.le_trans hs.cells (by decide)), sliceAt_of_owns cLayer_len h5 (Nat.le_trans hs.lays (by decide))⟩
theorem oPart_below {w w' : World} {B B' : Nat} {cs : List Value} {x : PartD} (h : oPart w B cs x) (hb : Below B' w w') (hB : w.heap.size ≤ B') : oPart w' B cs x := by
  obtain ⟨v3, v5, rfl, h3, h5⟩ := h
  exact ⟨v3, v5, rfl, ownsF_below h3 hb hB, ownsF_below h5 hb hB⟩
theorem oPart_base {w : World} {B B' : Nat} {cs : List Value} {x : PartD} (h : oPart w B cs x) (hB : B' ≤ B) : oPart w B' cs x := by
  obtain ⟨v3, v5, rfl, h3, h5⟩ := h
  exact ⟨v3, v5, rfl, ownsF_base h3 hB, ownsF_base h5 hB⟩
theorem oPart_set {w : World} {B : Nat} {cs : List Value} {x : PartD} {p : Addr} {u : Value} (h : oPart w B cs x) (hp : p.block < B) : oPart (w.setCell p u) B cs x := by
  obtain ⟨v3, v5, rfl, h3, h5⟩ := h
  exact ⟨v3, v5, rfl, ownsF_set h3 hp, ownsF_set h5 hp⟩
theorem oPart_drew {w : World} {B : Nat} {cs : List Value} {x : PartD} (h : oPart w B cs x) : oPart w.drew B cs x := h
theorem infoLay : (Try.prog.info? 109).map (fun i => (i.zero, i.size, i.bytes)) = some (some (.agg #[.string ⟨#[]⟩, .int .i64 0]), 2, 24) := by kernel_rfl
/-- append of one layer to a row of one's own, at a step of a region that draws -/
theorem step_lays {ops : Array Oper} {o : Oper} {a : Act} {K : Act → World → Prop} {Q : Exit → Act → World → Prop} {E : Prop} (hgd : o.guard = none) (s x : Operand)
    (ho : o.op = .call { callee := .builtin .append, args := #[s, x], argTypes := #[59, 59] }) (B : Nat) (v : Value) (l : List LayerD) (y : LayerD) (w : World) (blk : Nat)
    (hs : a.eval s = v) (hO : OwnsF cLayer 109 2 w B v l) (hx : a.eval x = .slice (some ⟨blk, 0, none⟩) 1 1) (hc : ∀ j, j < 2 → w.cell? ⟨blk, j, none⟩ = (cLayer y)[j]?) (hl : l.length ≤ 4194304) (hB : B ≤ w.heap.size)
    (h : ∀ v' w', OwnsF cLayer 109 2 w' B v' (l ++ [y]) → w.grownBy w' v.ownBlock → K (a.put o.dst v') w') : if Region.wanted o (yielded ops a.tmps) = true then Oper.wp Try.prog o a w K Q else E := by
  obtain ⟨i0, hi, hz0, hz1, hz2⟩ := info_parts infoLay
  refine step_append_lies w hgd s x 59 ho B 109 i0 _ 2 24 Try.underlying59 hi hz0 hz1 hz2 rfl (by decide) v l.length (l.flatMap cLayer) hs hO ⟨blk, 0, none⟩ 1 1 (cLayer y) hx rfl ?_ (cLayer_one y) (by decide) (by unfold maxLen; omega) (by omega) hB _ rfl ?_
  · intro j u hj
    have hj2 : j < 2 := (List.getElem?_eq_some_iff.1 hj).1
    rw [Addr.add_lit, Nat.zero_add, hc j hj2]; exact hj
  · intro g cap w' h1 h2 _ _
    refine h _ w' ?_ h2
    unfold OwnsF; rw [List.flatMap_append, List.length_append]; simpa using h1
theorem cell_newL (w : World) (y : LayerD) (blk : Nat) (h : blk = w.heap.size) : ∀ j, j < 2 → (w.alloc (.cells #[.string ⟨y.fName.toArray⟩, .int .i64 y.fCount] 109)).cell? ⟨blk, j, none⟩ = (cLayer y)[j]? := by
  intro j hj
  subst h
  rw [cell_of_row _ _ _ _ 109 (0, 0) (heap_alloc_new w _)]
  rcases (show j = 0 ∨ j = 1 by omega) with rfl | rfl <;> rfl
end Go.Proofs.Yteeopjcbpngofaa
/- The library's contracts of strings.Builder, laid at this program's numbers. -/
namespace Go.Proofs.Yteeopjcbpngofaa
set_option linter.unusedVariables false
open Go.Shelf Go.RowKit
def bRen : Go.Shelf.Ren := ⟨fun | 167 => 91 | 240 => 110 | 276 => 119 | 169 => 68 | n => n, fun | 9 => 9 | 0 => 0 | 72 => 114 | 70 => 112 | 37 => 105 | 127 => 143 | 3 => 3 | 4 => 4 | 5 => 5 | 20 => 20 | 75 => 141 | 80 => 116 | 164 => 172 | n => n, fun | n => n⟩
theorem bLays240 : Go.Proofs.Lays.n240 Try.prog bRen := {
  mixed := by kernel_rfl
  f240 := Try.func110.trans (congrArg some (by kernel_rfl))
  f276 := Try.func119.trans (congrArg some (by kernel_rfl))
  t0 := Try.underlying0
  a0 := Try.isAgg0
  z0 := Try.sizeOf0
  v0 := Try.zeroValue0
  t4 := Try.underlying4
  a4 := Try.isAgg4
  z4 := Try.sizeOf4
  v4 := Try.zeroValue4
  t9 := Try.underlying9
  a9 := Try.isAgg9
  z9 := Try.sizeOf9
  v9 := Try.zeroValue9
  t20 := Try.underlying20
  a20 := Try.isAgg20
  z20 := Try.sizeOf20
  v20 := Try.zeroValue20
  t70 := Try.underlying112
  a70 := Try.isAgg112
  z70 := Try.sizeOf112
  v70 := Try.zeroValue112
  t72 := Try.underlying114
  a72 := Try.isAgg114
  z72 := Try.sizeOf114
  v72 := Try.zeroValue114
  t164 := Try.underlying172
  a164 := Try.isAgg172
  z164 := Try.sizeOf172
  v164 := Try.zeroValue172 }
theorem bLays167 : Go.Proofs.Lays.n167 Try.prog bRen := {
  mixed := by kernel_rfl
  f167 := Try.func91.trans (congrArg some (by kernel_rfl))
  f240 := Try.func110.trans (congrArg some (by kernel_rfl))
  f276 := Try.func119.trans (congrArg some (by kernel_rfl))
  t0 := Try.underlying0
  a0 := Try.isAgg0
  z0 := Try.sizeOf0
  v0 := Try.zeroValue0
  t4 := Try.underlying4
  a4 := Try.isAgg4
  z4 := Try.sizeOf4
  v4 := Try.zeroValue4
  t5 := Try.underlying5
  a5 := Try.isAgg5
  z5 := Try.sizeOf5
  v5 := Try.zeroValue5
  t9 := Try.underlying9
  a9 := Try.isAgg9
  z9 := Try.sizeOf9
  v9 := Try.zeroValue9
  t20 := Try.underlying20
  a20 := Try.isAgg20
  z20 := Try.sizeOf20
  v20 := Try.zeroValue20
  t37 := Try.underlying105
  a37 := Try.isAgg105
  z37 := Try.sizeOf105
  v37 := Try.zeroValue105
  t70 := Try.underlying112
  a70 := Try.isAgg112
  z70 := Try.sizeOf112
  v70 := Try.zeroValue112
  t72 := Try.underlying114
  a72 := Try.isAgg114
  z72 := Try.sizeOf114
  v72 := Try.zeroValue114
  t75 := Try.underlying141
  a75 := Try.isAgg141
  z75 := Try.sizeOf141
  v75 := Try.zeroValue141
  t164 := Try.underlying172
  a164 := Try.isAgg172
  z164 := Try.sizeOf172
  v164 := Try.zeroValue172 }
theorem bLays169 : Go.Proofs.Lays.n169 Try.prog bRen := {
  mixed := by kernel_rfl
  f169 := Try.func68.trans (congrArg some (by kernel_rfl))
  t0 := Try.underlying0
  a0 := Try.isAgg0
  z0 := Try.sizeOf0
  v0 := Try.zeroValue0
  t3 := Try.underlying3
  a3 := Try.isAgg3
  z3 := Try.sizeOf3
  v3 := Try.zeroValue3
  t9 := Try.underlying9
  a9 := Try.isAgg9
  z9 := Try.sizeOf9
  v9 := Try.zeroValue9
  t37 := Try.underlying105
  a37 := Try.isAgg105
  z37 := Try.sizeOf105
  v37 := Try.zeroValue105
  t70 := Try.underlying112
  a70 := Try.isAgg112
  z70 := Try.sizeOf112
  v70 := Try.zeroValue112
  t72 := Try.underlying114
  a72 := Try.isAgg114
  z72 := Try.sizeOf114
  v72 := Try.zeroValue114
  t127 := Try.underlying143
  a127 := Try.isAgg143
  z127 := Try.sizeOf143
  v127 := Try.zeroValue143 }
theorem bExtra : Builder.Extra Try.prog bRen := {
  sizeBuilder := by kernel_rfl
  liesBuilder := by kernel_rfl
  t5 := Try.underlying5
  a5 := Try.isAgg5
  z5 := Try.sizeOf5
  v5 := Try.zeroValue5
  infoByte := by kernel_rfl
  cellsByte := by kernel_rfl
  sizeByte := by kernel_rfl
  neB5 := by decide }
theorem writeByte_k (B b : Nat) (bs : List Value) (c : Int) (w : World) (h : Lib.IsBuilderF 114 5 B b bs w) (hlen : bs.length + 1 ≤ 140737488355328) (hBw : B ≤ w.heap.size) :
    Calls Try.prog 91 #[.pointer (some ⟨b, 0, none⟩), .int .u8 c] w fun e w' => e = .returned .nilIface ∧ (Lib.BuilderAtF 114 5 B b (.pointer (some ⟨b, 0, none⟩)) (bs ++ [.int .u8 c]) w' ∧ Below B w w' ∧ Lib.OthersKept 5 (some b) w w') :=
  Any.Builder_WriteByte_k bLays167 bExtra B b bs c w h hlen hBw
theorem string_k (B b : Nat) (l : List UInt8) (w : World) (h : Lib.IsBuilderF 114 5 B b (Lib.byteCells l) w) (hBw : B ≤ w.heap.size) :
    Calls Try.prog 68 #[.pointer (some ⟨b, 0, none⟩)] w fun e w' => e = .returned (.string ⟨l.toArray⟩) ∧ (Lib.IsBuilderF 114 5 B b (Lib.byteCells l) w' ∧ Below B w w' ∧ Lib.OthersKept 5 (some b) w w') :=
  Any.Builder_String_any_k bLays169 bExtra B b l w h hBw
end Go.Proofs.Yteeopjcbpngofaa
/- Contracts of the program's FormatNumber. -/
namespace Go.Proofs.Yteeopjcbpngofaa
set_option linter.unusedVariables false
open Go.RowKit
theorem byteCells_one (x : UInt8) : Lib.byteCells [x] = [.int .u8 (x.toNat : Int)] := rfl
theorem bytes_more {T e : TypeId} {B b : Nat} {p : Value} {bs : List UInt8} {c : Int} {w : World} (h0 : 0 ≤ c) (h1 : c ≤ 255) (h : Lib.BuilderAtF T e B b p (Lib.byteCells bs ++ [.int .u8 c]) w) : Lib.BuilderAtF T e B b p (Lib.byteCells (bs ++ [UInt8.ofNat c.toNat])) w := by
  rw [Lib.byteCells_append, byteCells_one, show ((UInt8.ofNat c.toNat).toNat : Int) = c from by simp; omega]
  exact h
set_option maxHeartbeats 400000 in
theorem writeDigits_any (k : Nat) (hk50 : k ≤ 50) : ∀ (n : Int) (B b : Nat) (bs : List UInt8) (w : World), 0 ≤ n → n ≤ 18446744073709551615 → n.natAbs < 10 ^ (k + 1) →
    Lib.IsBuilderF 114 5 B b (Lib.byteCells bs) w → bs.length ≤ 1000 → B ≤ w.heap.size →
    Calls Try.prog 94 #[.pointer (some ⟨b, 0, none⟩), .int .u64 n] w fun e w' => e = .returned (.tuple #[]) ∧ Lib.IsBuilderF 114 5 B b (Lib.byteCells (bs ++ digs (k + 1) n.natAbs)) w' ∧ Below B w w' ∧ Lib.OthersKept 5 (some b) w w' := by
  induction k with
  | zero =>
    intro n B b bs w h0 h1 hn hI hl hB
    have HW := Lib.hid (writeByte_k B b (Lib.byteCells bs) (48 + n % 10) w hI (by rw [Lib.byteCells_length]; omega) hB)
    have h9 : n < 10 := by omega
    have HD := Lib.hid (digs_small 0 n.natAbs (by omega))
    clear hn hI hB
    go_enter Try.func94, Try.ntmps94
    go_wp2_with (go_at_call 91; refine (HW.out).mono ?_; rintro e w1 ⟨rfl, hb, hlo, hk⟩)
    go_end0
    refine ⟨rfl, Or.inr ?_, hlo, hk⟩
    rw [HD.out]
    have := bytes_more (by omega) (by omega) hb
    rwa [show (48 + n % 10).toNat = 48 + n.natAbs from by omega] at this
  | succ k ih =>
    intro n B b bs w h0 h1 hn hI hl hB
    by_cases h9 : n < 10
    · have HW := Lib.hid (writeByte_k B b (Lib.byteCells bs) (48 + n % 10) w hI (by rw [Lib.byteCells_length]; omega) hB)
      have HD := Lib.hid (digs_small (k + 1) n.natAbs (by omega))
      clear hn hI hB ih
      go_enter Try.func94, Try.ntmps94
      go_wp2_with (go_at_call 91; refine (HW.out).mono ?_; rintro e w1 ⟨rfl, hb, hlo, hk⟩)
      go_end0
      refine ⟨rfl, Or.inr ?_, hlo, hk⟩
      rw [HD.out]
      have := bytes_more (by omega) (by omega) hb
      rwa [show (48 + n % 10).toNat = 48 + n.natAbs from by omega] at this
    · have HD := Lib.hid (digs_big (k + 1) n.natAbs (by omega))
      have hdl := digs_len (k + 1) (n / 10).natAbs
      have IH := Lib.hid (ih (by omega) (n / 10) B b bs w (by omega) (by omega) (by rw [Nat.pow_succ] at hn; omega) hI hl hB)
      clear hn hI ih
      have hB' := Lib.hid hB
      clear hB
      go_enter Try.func94, Try.ntmps94
      go_wp2_with (go_at_call 94; refine (IH.out).mono ?_; rintro e w1 ⟨rfl, hb, hlo, hk⟩)
      have HW := Lib.hid (writeByte_k B b (Lib.byteCells (bs ++ digs (k + 1) (n / 10).natAbs)) (48 + n % 10) w1 hb (by rw [Lib.byteCells_length]; simp; omega) (Nat.le_trans hB'.out hlo.size))
      go_wp2_with (go_at_call 91; refine (HW.out).mono ?_; rintro e w2 ⟨rfl, hb2, hlo2, hk2⟩)
      go_end0
      refine ⟨rfl, Or.inr ?_, hlo.trans hlo2, hk.trans hk2⟩
      rw [HD.out, ← List.append_assoc]
      have := bytes_more (by omega) (by omega) hb2
      rwa [show (48 + n % 10).toNat = 48 + n.natAbs % 10 from by omega, show (n / 10).natAbs = n.natAbs / 10 from by omega] at this
theorem wrap_neg (n : Int) (h : -9223372036854775808 ≤ n) (h' : n < 0) : IntKind.u64.wrap (-IntKind.u64.wrap n) = -n := by
  simp only [IntKind.wrap, IntKind.bits, IntKind.signed]; simp; omega
set_option maxHeartbeats 400000 in
theorem implFormat_any (n : Int) (w : World) (h0 : -9223372036854775808 ≤ n) (h1 : n ≤ 9223372036854775807) :
    Calls Try.prog 74 #[.int .i64 n] w fun e w' => e = .returned (.string ⟨(numL n).toArray⟩) ∧ Below w.heap.size w w' := by
  by_cases hn : 0 ≤ n
  · have HE := Lib.hid (show numL n = digs (19 + 1) n.natAbs from by simp [numL, show ¬ n < 0 from by omega])
    have hl0 : numL n = numL n := rfl
    have hf := Lib.fresh_isBuilder 114 5 w
    have HW := Lib.hid (writeDigits_any 19 (by omega) n w.heap.size w.heap.size [] (w.alloc (.cells #[.pointer none, .slice none 0 0] 114)) hn (by omega) (by omega) (Lib.IsBuilderF.of hf) (by simp) (by simp))
    clear hl0 hf h0
    go_enter Try.func74, Try.ntmps74
    go_wp2_with (go_at_call 94; refine (HW.out).mono ?_; rintro e w1 ⟨rfl, hb, hlo, hk⟩)
    have HS := Lib.hid (string_k w.heap.size w.heap.size ([] ++ digs (19 + 1) n.natAbs) w1 hb (by have := hlo.size; simp at this; omega))
    go_wp2_with (go_at_call 68; refine (HS.out).mono ?_; rintro e w2 ⟨rfl, hb2, hlo2, hk2⟩)
    go_ret
    exact ⟨ret_str (by rw [HE.out]; try rfl), (((Below.refl _ _).alloc (Nat.le_refl _) _).trans hlo).trans hlo2⟩
  · have HE := Lib.hid (show numL n = 45 :: digs (19 + 1) n.natAbs from by simp [numL, show n < 0 from by omega])
    have h2 : n < 0 := by omega
    have hf := Lib.fresh_isBuilder 114 5 w
    have HW := Lib.hid (writeByte_k w.heap.size w.heap.size (Lib.byteCells []) 45 (w.alloc (.cells #[.pointer none, .slice none 0 0] 114)) (Lib.IsBuilderF.of hf) (by simp [Lib.byteCells]) (by simp))
    clear hf hn
    have WN := Lib.hid (wrap_neg n h0 h2)
    go_enter Try.func74, Try.ntmps74
    go_wp2_with (go_at_call 91; refine (HW.out).mono ?_; rintro e w1 ⟨rfl, hb, hlo, hk⟩)
    have hz : w.heap.size ≤ w1.heap.size := by have := hlo.size; simp at this; omega
    have HZ := Lib.hid hz
    have HV := Lib.hid (writeDigits_any 19 (by omega) (-n) w.heap.size w.heap.size [45] w1 (by omega) (by omega) (by omega) (Or.inr hb) (by simp) hz)
    clear hz hb
    rw [WN.out]
    refine (HV.out).mono ?_
    rintro e w2 ⟨rfl, hb2, hlo2, hk2⟩
    have HS := Lib.hid (string_k w.heap.size w.heap.size ([45] ++ digs (19 + 1) (-n).natAbs) w2 hb2 (by have := hlo2.size; have := HZ.out; omega))
    clear hb2
    go_wp2_with (go_at_call 68; refine (HS.out).mono ?_; rintro e w3 ⟨rfl, hb3, hlo3, hk3⟩)
    go_ret
    exact ⟨ret_str (by rw [HE.out]; try simp), ((((Below.refl _ _).alloc (Nat.le_refl _) _).trans hlo).trans hlo2).trans hlo3⟩
end Go.Proofs.Yteeopjcbpngofaa
/- JoinWith, the model's and the program's; the program's writeText and copyText. -/
namespace Go.Proofs.Yteeopjcbpngofaa
set_option linter.unusedVariables false
open Go.RowKit
/-- the first k texts with sep between them -/
def joinK (x : List (List UInt8)) (sep : List UInt8) : Nat → List UInt8
  | 0 => []
  | k + 1 => joinK x sep k ++ (if 0 < k then sep else []) ++ x.getD k []
def joinL (x : List (List UInt8)) (sep : List UInt8) : List UInt8 := joinK x sep x.length
theorem strEq {s : ByteArray} {l : List UInt8} (h : s.data.toList = l) : Value.string s = .string ⟨l.toArray⟩ := by subst h; simp
theorem joinK_mono (x : List (List UInt8)) (sep : List UInt8) (k m : Nat) (h : k ≤ m) : (joinK x sep k).length ≤ (joinK x sep m).length := by
  induction m with
  | zero => rw [show k = 0 from by omega]; exact Nat.le_refl _
  | succ m ih =>
    rcases Nat.lt_or_ge m k with h1 | h1
    · rw [show k = m + 1 from by omega]; exact Nat.le_refl _
    · have := ih h1; simp only [joinK, List.length_append]; omega
theorem joinK_len (x : List (List UInt8)) (sep : List UInt8) (k : Nat) (h : k ≤ x.length) : (joinK x sep k).length ≤ k * sep.length + total (x.take k) := by
  induction k with
  | zero => simp [joinK]
  | succ k ih =>
    have h1 := ih (by omega)
    have h2 := total_take_succ x k (by omega)
    have h3 : x.getD k [] = x[k] := by simp [List.getD, List.getElem?_eq_getElem (show k < x.length by omega)]
    simp only [joinK, List.length_append, h3, h2, Nat.succ_mul]
    split <;> simp <;> omega
set_option maxHeartbeats 400000 in
theorem writeText_any (B b : Nat) (bs : List UInt8) (s : ByteArray) (w : World) (hI : Lib.IsBuilderF 114 5 B b (Lib.byteCells bs) w) (hl : bs.length + s.size ≤ 140737488355328) (hB : B ≤ w.heap.size) :
    Calls Try.prog 67 #[.pointer (some ⟨b, 0, none⟩), .string s] w fun e w' => e = .returned (.tuple #[]) ∧ Lib.IsBuilderF 114 5 B b (Lib.byteCells (bs ++ s.data.toList)) w' ∧ Below B w w' ∧ Lib.OthersKept 5 (some b) w w' := by
  have HI := Lib.hid hI
  have HB := Lib.hid hB
  clear hI hB
  go_enter Try.func67, Try.ntmps67
  go_wp2_with fail
  go_loopw [4, 7] (fun _ i wr => ∃ k : Nat, k ≤ s.size ∧ i = .int .i64 k ∧ Lib.IsBuilderF 114 5 B b (Lib.byteCells (bs ++ s.data.toList.take k)) wr ∧ Below B w wr ∧ Lib.OthersKept 5 (some b) w wr) (fun _ i _ => s.size - (intOf i).toNat)
  case atStart => exact ⟨0, Nat.zero_le _, rfl, by simpa using HI.out, Below.refl _ _, Lib.OthersKept.refl _ _ _⟩
  case round =>
    obtain ⟨k, hk, rfl, hI, hb, ho⟩ := hrel
    have HI2 := Lib.hid hI
    have HB2 := Lib.hid hb
    have HO2 := Lib.hid ho
    clear hI hb ho
    by_cases hlt : k < s.size
    · have hu := (s[k]).toNat_lt
      have HN := Lib.hid (take_snoc s k hlt)
      go_wp2_with fail
      refine (writeByte_k B b (Lib.byteCells (bs ++ s.data.toList.take k)) _ wr HI2.out (by rw [Lib.byteCells_length]; simp; omega) (Nat.le_trans HB.out HB2.out.size)).mono ?_
      rintro e w1 ⟨rfl, h1, b1, o1⟩
      have H1 := Lib.hid (bytes_more (by omega) (by omega) h1)
      have B1 := Lib.hid (HB2.out.trans b1)
      have O1 := Lib.hid (HO2.out.trans o1)
      clear h1 b1 o1
      go_wp2_with fail
      refine ⟨⟨k + 1, by omega, by go_num, Or.inr ?_, B1.out, O1.out⟩, by simp [intOf]; omega⟩
      have h := H1.out
      rw [HN.out, ← List.append_assoc]
      simpa using h
    · have HN := Lib.hid (show s.data.toList.take k = s.data.toList from List.take_of_length_le (by rw [size_list]; omega))
      go_wp2_with fail
      go_end0
      exact ⟨rfl, by have h := HI2.out; rw [HN.out] at h; exact h, HB2.out, HO2.out⟩
set_option maxHeartbeats 400000 in
theorem copyText_any (s : ByteArray) (w : World) (hl : s.size ≤ 140737488355328) :
    Calls Try.prog 69 #[.string s] w fun e w' => e = .returned (.string s) ∧ Below w.heap.size w w' := by
  have hf := Lib.fresh_isBuilder 114 5 w
  have HW := Lib.hid (writeText_any w.heap.size w.heap.size [] s (w.alloc (.cells #[.pointer none, .slice none 0 0] 114)) (Lib.IsBuilderF.of hf) (by simpa using hl) (by simp))
  clear hf
  go_enter Try.func69, Try.ntmps69
  go_wp2_with fail
  refine HW.out.mono ?_
  rintro e w1 ⟨rfl, h1, b1, o1⟩
  have HS := Lib.hid (string_k w.heap.size w.heap.size ([] ++ s.data.toList) w1 h1 (by have := b1.size; simp at this; omega))
  have B1 := Lib.hid (((Below.refl w.heap.size w).alloc (Nat.le_refl _) _).trans b1)
  clear h1 b1 o1
  go_wp2_with fail
  refine HS.out.mono ?_
  rintro e w2 ⟨rfl, h2, b2, o2⟩
  go_wp2_with fail
  go_ret
  exact ⟨by simp, B1.out.trans b2⟩
set_option maxHeartbeats 400000 in
theorem specJoin_any (v : Value) (x : List (List UInt8)) (sep : ByteArray) (w : World) (hR : RowAt w v (x.map strV)) (hm : (joinL x sep.data.toList).length ≤ 70368744177664) (hsep : sep.size ≤ 70368744177664) :
    Calls Try.prog 34 #[v, .string sep] w fun e w' => e = .returned (.string ⟨(joinL x sep.data.toList).toArray⟩) ∧ Below w.heap.size w w' := by
  obtain ⟨a, c, rfl, hl⟩ := rowAt_len hR
  rw [List.length_map] at *
  have HR := Lib.hid hR
  have HM := Lib.hid (fun k hk => Nat.le_trans (joinK_mono x sep.data.toList k x.length hk) hm)
  clear hR hm
  unfold maxLen at hl
  go_enter Try.func34, Try.ntmps34
  go_wp2_with fail
  go_loopw [5, 6, 7, 10] (fun sv _ _ i wr => ∃ k : Nat, k ≤ x.length ∧ i = .int .i64 k ∧ sv = .string ⟨(joinK x sep.data.toList k).toArray⟩ ∧ ∃ nq, wr = w.drewN nq) (fun _ _ _ i _ => x.length - (intOf i).toNat)
  case atStart => exact ⟨0, Nat.zero_le _, rfl, rfl, 0, rfl⟩
  case round =>
    obtain ⟨k, hk, rfl, rfl, nq, rfl⟩ := hrel
    have hmk := HM.out k hk
    by_cases hlt : k < x.length
    · obtain ⟨b, o, rfl, hbw, d1⟩ := rowAt_cell HR.out k (by simpa using hlt)
      rw [getElem_map_strV] at d1
      unfold strV at d1
      have hmk1 := HM.out (k + 1) (by omega)
      have HX := Lib.hid (show x.getD k [] = x[k] by simp [List.getD, List.getElem?_eq_getElem hlt])
      have hxl : (joinK x sep.data.toList k).length + (x[k]).length ≤ 70368744177664 := by
        simp only [joinK, List.length_append, HX.out] at hmk1; omega
      clear hmk1
      by_cases h0 : 0 < k
      · go_wp2_with fail
        exact ⟨⟨k + 1, by omega, by go_num, strEq (by rw [data_app, data_app]; simp only [joinK, if_pos h0, HX.out]), _, rfl⟩, by simp [intOf]; omega⟩
      · go_wp2_with fail
        exact ⟨⟨k + 1, by omega, by go_num, strEq (by rw [data_app]; simp only [joinK, if_neg h0, HX.out, List.append_nil]), _, rfl⟩, by simp [intOf]; omega⟩
    · have HN := Lib.hid (show k = x.length by omega)
      go_wp2_with fail
      go_ret
      exact ⟨ret_str (by rw [HN.out]; rfl), below_drewN (Below.refl _ _) _⟩
set_option maxHeartbeats 800000 in
theorem implJoin_any (v : Value) (x : List (List UInt8)) (sep : ByteArray) (w : World) (hR : RowAt w v (x.map strV)) (hm : (joinL x sep.data.toList).length ≤ 70368744177664) (hsep : sep.size ≤ 70368744177664) :
    Calls Try.prog 37 #[v, .string sep] w fun e w' => e = .returned (.string ⟨(joinL x sep.data.toList).toArray⟩) ∧ Below w.heap.size w w' := by
  obtain ⟨a, c, rfl, hl⟩ := rowAt_len hR
  rw [List.length_map] at *
  have HR := Lib.hid hR
  have HM := Lib.hid (fun k hk => Nat.le_trans (joinK_mono x sep.data.toList k x.length hk) hm)
  have HF := Lib.hid (Lib.fresh_isBuilder 114 5 w)
  clear hR hm
  unfold maxLen at hl
  go_enter Try.func37, Try.ntmps37
  go_wp2_with fail
  go_loopw [6, 7, 10] (fun _ _ i wr => ∃ k : Nat, k ≤ x.length ∧ i = .int .i64 k ∧ Lib.IsBuilderF 114 5 w.heap.size w.heap.size (Lib.byteCells (joinK x sep.data.toList k)) wr ∧ Below w.heap.size w wr) (fun _ _ i _ => x.length - (intOf i).toNat)
  case atStart => exact ⟨0, Nat.zero_le _, rfl, Lib.IsBuilderF.of HF.out, (Below.refl _ _).alloc (Nat.le_refl _) _⟩
  case round =>
    obtain ⟨k, hk, rfl, hI, hb⟩ := hrel
    have HI := Lib.hid hI
    have HB := Lib.hid hb
    have HRr := Lib.hid (RowAt.below HR.out hb (Nat.le_refl _))
    clear hI hb
    have hmk := HM.out k hk
    by_cases hlt : k < x.length
    · obtain ⟨b, o, rfl, hbw, d1⟩ := rowAt_cell HRr.out k (by simpa using hlt)
      rw [getElem_map_strV] at d1
      unfold strV at d1
      have hmk1 := HM.out (k + 1) (by omega)
      have HX := Lib.hid (show x.getD k [] = x[k] by simp [List.getD, List.getElem?_eq_getElem hlt])
      have hss := size_list sep
      have hxl : (joinK x sep.data.toList k).length + (x[k]).length + (if 0 < k then sep.size else 0) ≤ 70368744177664 := by
        simp only [joinK, List.length_append, HX.out] at hmk1; split <;> rename_i h <;> simp [h] at hmk1 <;> omega
      have HSS := Lib.hid hss
      clear hmk1 hss
      by_cases h0 : 0 < k
      · simp only [if_pos h0] at hxl
        go_wp2_with fail
        refine (writeText_any w.heap.size w.heap.size _ sep wr HI.out (by omega) HB.out.size).mono ?_
        rintro e w1 ⟨rfl, hI1, hb1, ho1⟩
        have HI1 := Lib.hid hI1
        have HB1 := Lib.hid (HB.out.trans hb1)
        clear hI1 hb1 ho1
        go_wp2_with fail
        refine (writeText_any w.heap.size w.heap.size _ ⟨(x[k]).toArray⟩ w1 HI1.out (by have := HSS.out; simp [size_strB]; omega) HB1.out.size).mono ?_
        rintro e w2 ⟨rfl, hI2, hb2, ho2⟩
        have HI2 := Lib.hid hI2
        have HB2 := Lib.hid (HB1.out.trans hb2)
        clear hI2 hb2 ho2
        go_wp2_with fail
        refine ⟨⟨k + 1, by omega, by go_num, ?_, HB2.out⟩, by simp [intOf]; omega⟩
        have h := HI2.out
        simp only [joinK, if_pos h0, HX.out]
        exact h
      · simp only [if_neg h0] at hxl
        go_wp2_with fail
        refine (writeText_any w.heap.size w.heap.size _ ⟨(x[k]).toArray⟩ wr HI.out (by simp [size_strB]; omega) HB.out.size).mono ?_
        rintro e w2 ⟨rfl, hI2, hb2, ho2⟩
        have HI2 := Lib.hid hI2
        have HB2 := Lib.hid (HB.out.trans hb2)
        clear hI2 hb2 ho2
        go_wp2_with fail
        refine ⟨⟨k + 1, by omega, by go_num, ?_, HB2.out⟩, by simp [intOf]; omega⟩
        have h := HI2.out
        simp only [joinK, if_neg h0, HX.out, List.append_nil]
        exact h
    · have HN := Lib.hid (show k = x.length by omega)
      go_wp2_with fail
      refine (string_k w.heap.size w.heap.size _ wr HI.out HB.out.size).mono ?_
      rintro e w2 ⟨rfl, h2, b2, o2⟩
      have HB2 := Lib.hid (HB.out.trans b2)
      clear h2 b2 o2
      go_wp2_with fail
      go_ret
      exact ⟨ret_str (by rw [HN.out]; rfl), HB2.out⟩
end Go.Proofs.Yteeopjcbpngofaa
/- Contracts of chapter 4: RecipeOf, both sides. -/
namespace Go.Proofs.Yteeopjcbpngofaa
set_option linter.unusedVariables false
set_option linter.unusedSimpArgs false
open Go.RowKit
def recL (x : PartD) : List (List UInt8) := x.fCore.fKind :: x.fLayers.map (·.fName)
theorem owns_oneL (w : World) (B : Nat) (a : List UInt8) (h : B ≤ w.heap.size) : Owns (w.alloc (.cells #[.string ⟨a.toArray⟩] 9)) B (.slice (some ⟨w.heap.size, 0, none⟩) 1 1) [a] :=
  ⟨rfl, .inr ⟨w.heap.size, 1, #[.string ⟨a.toArray⟩], rfl, h, heap_alloc_new w _, Nat.le_refl _, by decide, rfl, by simp [strV]⟩⟩
theorem rec_len (k : List UInt8) (l : List LayerD) (n : Nat) : (k :: (l.take n).map (·.fName)).length ≤ l.length + 1 := by simp; omega
theorem rec_step (k : List UInt8) (l : List LayerD) (n : Nat) (h : n < l.length) : k :: (l.take (n + 1)).map (·.fName) = (k :: (l.take n).map (·.fName)) ++ [(l[n]).fName] := by
  rw [List.take_succ_eq_append_getElem h, List.map_append]; rfl
set_option maxRecDepth 100000 in
set_option maxHeartbeats 1600000 in
theorem implRecipe_any (v : Value) (x : PartD) (w : World) (hx : ValAt rPart 0 w v x) (hs : SmallP x) :
    Calls Try.prog 38 #[v] w fun e w' => GivesRow (recL x) w e w' := by
  obtain ⟨_, rfl, hx⟩ := hx
  have HR := Lib.hid (show recL x = x.fCore.fKind :: x.fLayers.map (·.fName) from rfl)
  obtain ⟨⟨a0, a1, a2, a3, a4⟩, l⟩ := x
  obtain ⟨v3, v5, rfl, h3, h5⟩ := hx
  have HN := Lib.hid hs.names
  have hm := hs.lays
  have HK := Lib.hid (fun W => copyText_any ⟨a0.toArray⟩ W (by have := hs.kind; rw [← size_list]; simp only at this; simp; omega))
  simp only [List.toList_toArray] at h3 h5 HN hm HR
  obtain ⟨ra, rc, rfl, _⟩ := sliceAt_len h3
  obtain ⟨sa, sc, rfl, hl⟩ := sliceAt_len h5
  have H5 := Lib.hid h5
  unfold maxLen at hl
  generalize recL ⟨⟨a0, a1, a2, a3, a4⟩, l⟩ = res at *
  have HS0 := Lib.hid (Bx.new w [.string ⟨a0.toArray⟩, .bool a1, .bool a2, .slice ra a3.length rc, .int .i64 a4, .slice sa l.length sc] 61)
  have HB0 := Lib.hid (bx_box w (.cells #[.string ⟨a0.toArray⟩, .bool a1, .bool a2, .slice ra a3.length rc, .int .i64 a4, .slice sa l.length sc] 61))
  clear h3 h5 hs
  go_enter Try.func38, Try.ntmps38
  go_wp2_with fail
  refine (HK.out _).mono ?_
  rintro e w1 ⟨rfl, hb⟩
  have HB1 := Lib.hid (belS HB0.out hb)
  have BX1 := Lib.hid (HS0.out.below hb)
  clear hb
  have BX2 := Lib.hid (BX1.out.alloc (.cells #[.string ⟨a0.toArray⟩] 9))
  have HB2 := Lib.hid (belS HB1.out (bx_box w1 (.cells #[.string ⟨a0.toArray⟩] 9)))
  have HO0 := Lib.hid (owns_oneL w1 w.heap.size a0 HB1.out.size)
  have e5 := BX1.out.cell 5 (by simp)
  simp only [List.getElem_cons_zero, List.getElem_cons_succ] at e5
  have hlt1 := BX1.out.lt
  have hne : ¬ w.heap.size = w1.heap.size := by omega
  go_wp2_with fail
  clear e5 hlt1 hne
  go_loopw [3, 14] (fun u i wr => ∃ k : Nat, k ≤ l.length ∧ i = .int .i64 k ∧ Owns wr w.heap.size u (a0 :: (l.take k).map (·.fName)) ∧ Below w.heap.size w wr) (fun _ i _ => l.length - (intOf i).toNat)
  case atStart => exact ⟨0, Nat.zero_le _, rfl, HO0.out, HB2.out⟩
  case round =>
    obtain ⟨k, hk2, rfl, hO, hb⟩ := hrel
    have HO := Lib.hid hO
    have HB := Lib.hid hb
    have HXr := Lib.hid (SliceAt.below H5.out (good_flat cLayer_len) hb (Nat.le_refl _))
    clear hO hb
    by_cases hlt : k < l.length
    · obtain ⟨b, o, cs, rfl, hbl, hat, hd⟩ := sliceAt_cell HXr.out k hlt
      have HSN := Lib.hid (rec_step a0 l k hlt)
      have HLN := Lib.hid (rec_len a0 l k)
      have hks := HN.out l[k] (List.getElem_mem hlt)
      generalize l[k] = p at *
      obtain ⟨b0, b1⟩ := p
      simp only [rFlat, cLayer] at hat
      subst hat
      have d0 := hd 0 (by decide)
      have d1 := hd 1 (by decide)
      simp only [List.getElem?_cons_zero, List.getElem?_cons_succ, Nat.add_zero] at d0 d1 hks
      have HCT := Lib.hid (fun W => copyText_any ⟨b0.toArray⟩ W (by rw [← size_list]; simp; omega))
      have HW := Lib.hid (belS HB.out (bx_box wr (.cells #[.string ⟨b0.toArray⟩, .int .i64 b1] 109)))
      generalize a0 :: (l.take k).map (·.fName) = ys at *
      clear hks hd
      go_wp2_with fail
      refine (HCT.out _).mono ?_
      rintro e w2 ⟨rfl, hb⟩
      have HB3 := Lib.hid (belS HW.out hb)
      have HO3 := Lib.hid (owns_below (owns_alloc HO.out _) hb (Nat.le_refl _))
      have hys := HLN.out
      clear hb
      go_wp2_with (at_builtin; (refine append_strs rfl _ _ rfl w.heap.size u3 ys b0 _ w2.heap.size (by rfl) (owns_alloc HO3.out _) rfl (cell_new _ _ _) (by omega) (by have := HB3.out.size; simp; omega) ?_; intro v' w3 hO1 hg1))
      have HB4 := Lib.hid (below_append (HB3.out.alloc HB3.out.size _) (owns_alloc HO3.out _) hg1 (by have := HB3.out.size; simp; omega))
      exact ⟨⟨k + 1, by omega, by go_num, by rw [HSN.out]; exact hO1, HB4.out⟩, by simp [intOf]; omega⟩
    · have HE := Lib.hid (show a0 :: (l.take k).map (·.fName) = res by rw [HR.out, List.take_of_length_le (by omega)])
      go_wp2
      go_ret
      exact ⟨u3, rfl, by rw [← HE.out]; exact HO.out, HB.out⟩
end Go.Proofs.Yteeopjcbpngofaa
/- Contracts of chapter 4: RecipeOf, the model's. -/
namespace Go.Proofs.Yteeopjcbpngofaa
set_option linter.unusedVariables false
set_option linter.unusedSimpArgs false
open Go.RowKit
set_option maxRecDepth 100000 in
set_option maxHeartbeats 1600000 in
theorem specRecipe_any (v : Value) (x : PartD) (w : World) (hx : ValAt rPart 0 w v x) (hs : SmallP x) :
    Calls Try.prog 35 #[v] w fun e w' => GivesRow (recL x) w e w' := by
  obtain ⟨_, rfl, hx⟩ := hx
  have HR := Lib.hid (show recL x = x.fCore.fKind :: x.fLayers.map (·.fName) from rfl)
  obtain ⟨⟨a0, a1, a2, a3, a4⟩, l⟩ := x
  obtain ⟨v3, v5, rfl, h3, h5⟩ := hx
  have HN := Lib.hid hs.names
  have hm := hs.lays
  simp only [List.toList_toArray] at h3 h5 HN hm HR
  obtain ⟨ra, rc, rfl, _⟩ := sliceAt_len h3
  obtain ⟨sa, sc, rfl, hl⟩ := sliceAt_len h5
  have H5 := Lib.hid h5
  unfold maxLen at hl
  generalize recL ⟨⟨a0, a1, a2, a3, a4⟩, l⟩ = res at *
  have HS0 := Lib.hid (Bx.new w [.string ⟨a0.toArray⟩, .bool a1, .bool a2, .slice ra a3.length rc, .int .i64 a4, .slice sa l.length sc] 61)
  have HB0 := Lib.hid (bx_box w (.cells #[.string ⟨a0.toArray⟩, .bool a1, .bool a2, .slice ra a3.length rc, .int .i64 a4, .slice sa l.length sc] 61))
  clear h3 h5 hs
  go_enter Try.func35, Try.ntmps35
  go_wp2_with fail
  have BX2 := Lib.hid (HS0.out.alloc (.cells #[.string ⟨a0.toArray⟩] 9))
  have HB2 := Lib.hid (belS HB0.out (bx_box _ (.cells #[.string ⟨a0.toArray⟩] 9)))
  have HO0 := Lib.hid (owns_oneL (w.alloc (.cells #[.string ⟨a0.toArray⟩, .bool a1, .bool a2, .slice ra a3.length rc, .int .i64 a4, .slice sa l.length sc] 61)) w.heap.size a0 HB0.out.size)
  rw [show (w.alloc (.cells #[.string ⟨a0.toArray⟩, .bool a1, .bool a2, .slice ra a3.length rc, .int .i64 a4, .slice sa l.length sc] 61)).heap.size = w.heap.size + 1 by simp] at HO0
  go_loopw [3, 13] (fun u i wr => ∃ k : Nat, k ≤ l.length ∧ i = .int .i64 k ∧ Owns wr w.heap.size u (a0 :: (l.take k).map (·.fName)) ∧ Below w.heap.size w wr) (fun _ i _ => l.length - (intOf i).toNat)
  case atStart => exact ⟨0, Nat.zero_le _, rfl, HO0.out, HB2.out⟩
  case round =>
    obtain ⟨k, hk2, rfl, hO, hb⟩ := hrel
    have HO := Lib.hid hO
    have HB := Lib.hid hb
    have HXr := Lib.hid (SliceAt.below H5.out (good_flat cLayer_len) hb (Nat.le_refl _))
    clear hO hb
    by_cases hlt : k < l.length
    · obtain ⟨b, o, cs, rfl, hbl, hat, hd⟩ := sliceAt_cell HXr.out k hlt
      have HSN := Lib.hid (rec_step a0 l k hlt)
      have HLN := Lib.hid (rec_len a0 l k)
      have hks := HN.out l[k] (List.getElem_mem hlt)
      generalize l[k] = p at *
      obtain ⟨b0, b1⟩ := p
      simp only [rFlat, cLayer] at hat
      subst hat
      have d0 := hd 0 (by decide)
      have d1 := hd 1 (by decide)
      simp only [List.getElem?_cons_zero, List.getElem?_cons_succ, Nat.add_zero] at d0 d1 hks
      have HW := Lib.hid (belS HB.out (bx_box wr (.cells #[.string ⟨b0.toArray⟩, .int .i64 b1] 109)))
      generalize a0 :: (l.take k).map (·.fName) = ys at *
      clear hks hd
      have hys := HLN.out
      have HO3 := Lib.hid (owns_alloc HO.out (.cells #[.string ⟨b0.toArray⟩, .int .i64 b1] 109))
      go_wp2_with (at_builtin; (refine append_strs rfl _ _ rfl w.heap.size u3 ys b0 _ (wr.heap.size + 1) (by rfl) (owns_alloc HO3.out _) (by simp [Act.eval]) (by simp [go_sem, strV]) (by omega) (by have := HW.out.size; simp at *; omega) ?_; intro v' w3 hO1 hg1))
      have HB4 := Lib.hid (below_append (HW.out.alloc HW.out.size _) (owns_alloc HO3.out _) hg1 (by have := HW.out.size; simp at *; omega))
      exact ⟨⟨k + 1, by omega, by go_num, by rw [HSN.out]; exact hO1, HB4.out⟩, by simp [intOf]; omega⟩
    · have HE := Lib.hid (show a0 :: (l.take k).map (·.fName) = res by rw [HR.out, List.take_of_length_le (by omega)])
      go_wp2
      go_ret
      exact ⟨u3, rfl, by rw [← HE.out]; exact HO.out, HB.out⟩
end Go.Proofs.Yteeopjcbpngofaa
/- Rows of texts as rows of flat elements: the laws' helpers in that form. -/
namespace Go.Proofs.Yteeopjcbpngofaa
set_option linter.unusedVariables false
open Go.RowKit
theorem ownsF_str {w : World} {B : Nat} {v : Value} {x : List (List UInt8)} (h : Owns w B v x) : OwnsF cStr 9 1 w B v x := by unfold OwnsF; rw [cStr_map]; exact h
theorem owns_strF {w : World} {B : Nat} {v : Value} {x : List (List UInt8)} (h : OwnsF cStr 9 1 w B v x) : Owns w B v x := by unfold OwnsF at h; rw [cStr_map] at h; exact h
theorem givesF_str {x : List (List UInt8)} {w : World} {e : Ending} {w' : World} (h : GivesRow x w e w') : GivesF cStr 9 1 x w e w' := by
  obtain ⟨v, h1, h2, h3⟩ := h; exact ⟨v, h1, ownsF_str h2, h3⟩
theorem eqStringS_f (v u : Value) (x y : List (List UInt8)) (w : World) (hx : FlatAt cStr 1 w v x) (hy : FlatAt cStr 1 w u y) : Calls Try.prog 16 #[v, u] w fun e w' => e = .returned (.bool (decide (x = y))) ∧ Below w.heap.size w w' :=
  eqStringS_any v u x y w (row_of_flat hx) (row_of_flat hy)
theorem marksString_len (k : Int) (n : Nat) : (marks k n).length = n := marks_len k n
theorem markStringS_f (B : Nat) (v : Value) (x : List (List UInt8)) (k : Int) (w : World) (hO : OwnsF cStr 9 1 w B v x) (hm : x.length ≤ 4194304) (h0 : 1 ≤ k) (h1 : k ≤ 4194304) :
    Calls Try.prog 17 #[v, .int .i64 k] w fun e w' => e = .returned (.int .i64 (k + x.length)) ∧ OwnsF cStr 9 1 w' B v (marks k x.length) ∧ w.grownBy w' v.ownBlock :=
  (markStringS_any B v x k w (owns_strF hO) hm h0 h1).mono fun e w' ⟨h1, h2, h3⟩ => ⟨h1, ownsF_str h2, h3⟩
theorem heldStringS_f (v : Value) (n : Nat) (k : Int) (w : World) (hR : FlatAt cStr 1 w v (marks k n)) (hm : n ≤ 4194304) (h0 : 1 ≤ k) (h1 : k ≤ 4194304) :
    Calls Try.prog 18 #[v, .int .i64 k] w fun e w' => e = .returned (.int .i64 (k + n)) ∧ Below w.heap.size w w' :=
  heldStringS_any v n k w (row_of_flat hR) hm h0 h1
theorem szStringS_f (v : Value) (x : List (List UInt8)) (left : Int) (w : World) (hx : FlatAt cStr 1 w v x) (hs : ∀ s ∈ x, s.length ≤ maxLen) (h0 : 0 ≤ left) (h1 : left ≤ 1099511627776) :
    Calls Try.prog 44 #[v, .int .i64 left] w fun e w' => SzF ((x.length + sumF List.length x : Nat) : Int) left w e w' :=
  (szStringS_any v x left w (row_of_flat hx) hs h0 h1).mono fun e w' ⟨r, h1, h2, h3, h4⟩ => ⟨r, h1, h2, fun h => by rw [← total_sum]; have := h3 h; push_cast; omega, by subst h4; exact Below.refl _ _⟩
theorem toStringS_f (v : Value) (x : List (List UInt8)) (w : World) (hx : FlatAt cStr 1 w v x) (hm : x.length ≤ 2097152) :
    Calls Try.prog 52 #[v] w fun e w' => e = .returned (.slice (some ⟨w.heap.size, 0, none⟩) x.length x.length) ∧ OwnsF cStr 9 1 w' w.heap.size (.slice (some ⟨w.heap.size, 0, none⟩) x.length x.length) x ∧ Below w.heap.size w w' :=
  (toStringS_any v x w (row_of_flat hx) hm).mono fun e w' ⟨h1, h2, h3⟩ => ⟨h1, ownsF_str h2, h3⟩
theorem toStringS_g (v : Value) (x : List (List UInt8)) (w : World) (hx : FlatAt cStr 1 w v x) (hm : x.length ≤ 2097152) :
    Calls Try.prog 52 #[v] w fun e w' => GivesF cStr 9 1 x w e w' :=
  (toStringS_f v x w hx hm).mono fun e w' ⟨h1, h2, h3⟩ => ⟨_, h1, h2, h3⟩
end Go.Proofs.Yteeopjcbpngofaa
/- Contracts of chapter 8: ShapesOf, both sides. Written by gen/ch8w.py. -/
namespace Go.Proofs.Yteeopjcbpngofaa
set_option linter.unusedVariables false
set_option linter.unusedSimpArgs false
open Go.RowKit
def shapeS (x : SlotD) : List UInt8 := if x.fFull = true then joinL (recL x.fPart) [32] else []
theorem recL_len {x : PartD} (h : zPart x ≤ 1048576) : (recL x).length ≤ 1048577 := by
  unfold recL
  rw [List.length_cons, List.length_map]
  unfold zPart at h; omega
theorem recL_tot {x : PartD} (h : zPart x ≤ 1048576) : total (recL x) ≤ 1048576 := by
  have h1 : ∀ l : List LayerD, total (l.map (·.fName)) ≤ sumF zLayer l := fun l => by
    induction l with
    | nil => exact Nat.le_refl _
    | cons a r ih =>
      have h2 : a.fName.length ≤ zLayer a := by unfold zLayer; omega
      simp only [List.map_cons, total, sumF]; omega
  have h2 := h1 x.fLayers
  unfold recL
  simp only [total]
  unfold zPart zCore at h; omega
theorem recL_join {x : PartD} (h : zPart x ≤ 1048576) : (joinL (recL x) [32]).length ≤ 2097153 := by
  have h1 := joinK_len (recL x) [32] (recL x).length (Nat.le_refl _)
  rw [List.take_length] at h1
  have h2 := recL_len h
  have h3 := recL_tot h
  unfold joinL
  simp only [List.length_cons, List.length_nil] at h1
  omega
set_option maxRecDepth 100000 in
set_option maxHeartbeats 3200000 in
theorem implShapes_any (v : Value) (l : List SlotD) (w : World) (hx : SliceAt rSlot 7 0 w v l) (hs : ∀ e ∈ l, zPart e.fPart ≤ 1048576) (hl6 : l.length ≤ 1048576) :
    Calls Try.prog 15 #[v] w fun e w' => GivesRow (l.map shapeS) w e w' := by
  obtain ⟨a, c, rfl, hl⟩ := sliceAt_len hx
  have HX := Lib.hid hx
  have HS := Lib.hid hs
  clear hx hs hl
  have HO0 := Lib.hid (owns_new w)
  have HB0 := Lib.hid (bx_box w (.cells #[] 9))
  go_enter Try.func15, Try.ntmps15
  go_wp2_with fail
  generalize w.alloc (.cells #[] 9) = wS at *
  go_loopw [3, 5, 6, 10] (fun ov _ _ i wr => ∃ k : Nat, k ≤ l.length ∧ i = .int .i64 k ∧ Owns wr w.heap.size ov ((l.take k).map shapeS) ∧ Below w.heap.size w wr) (fun _ _ _ i _ => l.length - (intOf i).toNat)
  case atStart => exact ⟨0, Nat.zero_le _, rfl, HO0.out, HB0.out⟩
  case round =>
    obtain ⟨k, hk, rfl, hO, hbr⟩ := hrel
    have HO := Lib.hid hO
    have HBr := Lib.hid hbr
    clear hO hbr
    by_cases hlt : k < l.length
    · obtain ⟨bb, o, cs, rfl, hbw, hat, hd⟩ := sliceAt_cell HX.out k hlt
      have HZ := Lib.hid (HS.out _ (List.getElem_mem hlt))
      have HTK := Lib.hid (show (l.take (k + 1)).map shapeS = (l.take k).map shapeS ++ [shapeS l[k]] by rw [List.take_succ_eq_append_getElem hlt, List.map_append]; rfl)
      generalize l[k] = z at *
      obtain ⟨b0, ⟨⟨a0, a1, a2, a3, a4⟩, l2⟩⟩ := z
      have HAT := Lib.hid (fun W (hb : Below w.heap.size w W) => goodSlot.keep hat (kept_below hb (Nat.le_refl _)))
      obtain ⟨v4, v6, rfl, h4, h6⟩ := hat
      simp only at h4 h6 HZ
      obtain ⟨ra, rc, rfl, _⟩ := sliceAt_len h4
      obtain ⟨sa, sc, rfl, _⟩ := sliceAt_len h6
      have d0 := (HBr.out.cell (p := ⟨bb, o + k * 7 + 0, none⟩) hbw).trans (hd 0 (by decide))
      have d1 := (HBr.out.cell (p := ⟨bb, o + k * 7 + 1, none⟩) hbw).trans (hd 1 (by decide))
      have d2 := (HBr.out.cell (p := ⟨bb, o + k * 7 + 2, none⟩) hbw).trans (hd 2 (by decide))
      have d3 := (HBr.out.cell (p := ⟨bb, o + k * 7 + 3, none⟩) hbw).trans (hd 3 (by decide))
      have d4 := (HBr.out.cell (p := ⟨bb, o + k * 7 + 4, none⟩) hbw).trans (hd 4 (by decide))
      have d5 := (HBr.out.cell (p := ⟨bb, o + k * 7 + 5, none⟩) hbw).trans (hd 5 (by decide))
      have d6 := (HBr.out.cell (p := ⟨bb, o + k * 7 + 6, none⟩) hbw).trans (hd 6 (by decide))
      simp only [List.getElem?_cons_zero, List.getElem?_cons_succ, Nat.add_zero] at d0 d1 d2 d3 d4 d5 d6
      have hkl : (k : Int) < (l.length : Int) := by omega
      have hb := bx_box wr (.cells #[.bool b0, .string ⟨a0.toArray⟩, .bool a1, .bool a2, .slice ra a3.length rc, .int .i64 a4, .slice sa l2.length sc] 63)
      have BX := Lib.hid (Bx.new wr [.bool b0, .string ⟨a0.toArray⟩, .bool a1, .bool a2, .slice ra a3.length rc, .int .i64 a4, .slice sa l2.length sc] 63)
      have HB3 := Lib.hid (belS HBr.out hb)
      have HO3 := Lib.hid (owns_below HO.out hb (Nat.le_refl _))
      have HRC := Lib.hid (fun v W (h : ValAt rPart 0 W v ⟨⟨a0, a1, a2, a3, a4⟩, l2⟩) => implRecipe_any v ⟨⟨a0, a1, a2, a3, a4⟩, l2⟩ W h (smallP_of HZ.out))
      have HRL := Lib.hid (recL_len HZ.out)
      have HJL := Lib.hid (recL_join HZ.out)
      have HSH := Lib.hid (show shapeS ⟨b0, ⟨⟨a0, a1, a2, a3, a4⟩, l2⟩⟩ = if b0 = true then joinL (recL ⟨⟨a0, a1, a2, a3, a4⟩, l2⟩) [32] else [] from rfl)
      have HVP := Lib.hid (show ValAt rPart 0 (wr.alloc (.cells #[.bool b0, .string ⟨a0.toArray⟩, .bool a1, .bool a2, .slice ra a3.length rc, .int .i64 a4, .slice sa l2.length sc] 63)) (.agg #[.string ⟨a0.toArray⟩, .bool a1, .bool a2, .slice ra a3.length rc, .int .i64 a4, .slice sa l2.length sc]) ⟨⟨a0, a1, a2, a3, a4⟩, l2⟩ from ⟨_, rfl, ⟨_, _, rfl, h4.below (good_flat cCell_len) HB3.out (Nat.le_refl _), h6.below (good_flat cLayer_len) HB3.out (Nat.le_refl _)⟩⟩)
      have HJ := Lib.hid (fun v W (h : RowAt W v ((recL ⟨⟨a0, a1, a2, a3, a4⟩, l2⟩).map strV)) => (show Calls Try.prog 37 #[v, .string ⟨#[32]⟩] W fun e w' => e = .returned (.string ⟨(joinL (recL ⟨⟨a0, a1, a2, a3, a4⟩, l2⟩) [32]).toArray⟩) ∧ Below W.heap.size W w' from implJoin_any v (recL ⟨⟨a0, a1, a2, a3, a4⟩, l2⟩) ⟨#[32]⟩ W h (Nat.le_trans HJL.out (by decide)) (by decide)))
      generalize shapeS ⟨b0, ⟨⟨a0, a1, a2, a3, a4⟩, l2⟩⟩ = sh at *
      generalize joinL (recL ⟨⟨a0, a1, a2, a3, a4⟩, l2⟩) [32] = jn at *
      generalize recL ⟨⟨a0, a1, a2, a3, a4⟩, l2⟩ = rl at *
      have hml : ((l.take k).map shapeS).length ≤ 1048576 := by rw [List.length_map, List.length_take]; omega
      clear hd hb h4 h6 HAT HZ
      have e0 := BX.out.cell 0 (by simp)
      have e1 := BX.out.cell 1 (by simp)
      have e2 := BX.out.cell 2 (by simp)
      have e3 := BX.out.cell 3 (by simp)
      have e4 := BX.out.cell 4 (by simp)
      have e5 := BX.out.cell 5 (by simp)
      have e6 := BX.out.cell 6 (by simp)
      simp only [List.getElem_cons_zero, List.getElem_cons_succ] at e0 e1 e2 e3 e4 e5 e6
      cases b0
      · obtain rfl : sh = [] := HSH.out
        go_wp2_with (at_builtin; (refine append_strs rfl _ _ rfl w.heap.size _ ((l.take k).map shapeS) [] _ (wr.heap.size + 1) (by rfl) (owns_alloc HO3.out _) rfl (by simp [strV]) (by omega) (by have := HB3.out.size; simp at this; simp; omega) ?_; intro v' w5 hO1 hg1; have HO5 := Lib.hid hO1; have HG5 := Lib.hid hg1; clear hO1 hg1))
        exact ⟨⟨k + 1, by omega, by go_num, by rw [HTK.out]; exact HO5.out, below_append (HB3.out.alloc HB3.out.size _) (owns_alloc HO3.out _) HG5.out (by have := HB3.out.size; simp at this; simp; omega)⟩, by simp [intOf]; omega⟩
      · obtain rfl : sh = jn := HSH.out
        go_wp2_with fail
        refine (HRC.out _ _ HVP.out).mono ?_
        rintro e w4 ⟨u, rfl, hu, hb⟩
        have HB4 := Lib.hid (belS HB3.out hb)
        have HO4 := Lib.hid (owns_below HO3.out hb (Nat.le_refl _))
        have HU := Lib.hid (owns_row hu (by have := HRL.out; omega))
        clear hb hu e0 e1 e2 e3 e4 e5 e6
        go_wp2_with fail
        refine (HJ.out _ _ HU.out).mono ?_
        rintro e w5 ⟨rfl, hb⟩
        have HB5 := Lib.hid (belS HB4.out hb)
        have HO5 := Lib.hid (owns_below HO4.out hb (Nat.le_refl _))
        clear hb
        go_wp2_with (at_builtin; (refine append_strs rfl _ _ rfl w.heap.size _ ((l.take k).map shapeS) sh _ w5.heap.size (by rfl) (owns_alloc HO5.out _) rfl (cell_new _ _ _) (by omega) (by have := HB5.out.size; simp; omega) ?_; intro v' w6 hO1 hg1; have HO6 := Lib.hid hO1; have HG6 := Lib.hid hg1; clear hO1 hg1))
        exact ⟨⟨k + 1, by omega, by go_num, by rw [HTK.out]; exact HO6.out, below_append (HB5.out.alloc HB5.out.size _) (owns_alloc HO5.out _) HG6.out (by have := HB5.out.size; simp; omega)⟩, by simp [intOf]; omega⟩
    · have HTL := Lib.hid (show l.take k = l from List.take_of_length_le (by omega))
      have hkl : ¬ (k : Int) < (l.length : Int) := by omega
      go_wp2_with fail
      go_ret
      exact ⟨_, rfl, by have h := HO.out; rwa [HTL.out] at h, HBr.out⟩
set_option maxRecDepth 100000 in
set_option maxHeartbeats 3200000 in
theorem specShapes_any (v : Value) (l : List SlotD) (w : World) (hx : SliceAt rSlot 7 0 w v l) (hs : ∀ e ∈ l, zPart e.fPart ≤ 1048576) (hl6 : l.length ≤ 1048576) :
    Calls Try.prog 13 #[v] w fun e w' => GivesRow (l.map shapeS) w e w' := by
  obtain ⟨a, c, rfl, hl⟩ := sliceAt_len hx
  have HX := Lib.hid hx
  have HS := Lib.hid hs
  clear hx hs hl
  have HO0 := Lib.hid (owns_new w)
  have HB0 := Lib.hid (bx_box w (.cells #[] 9))
  go_enter Try.func13, Try.ntmps13
  go_wp2_with fail
  generalize w.alloc (.cells #[] 9) = wS at *
  go_loopw [3, 5, 6, 10] (fun ov _ _ i wr => ∃ k : Nat, k ≤ l.length ∧ i = .int .i64 k ∧ Owns wr w.heap.size ov ((l.take k).map shapeS) ∧ Below w.heap.size w wr) (fun _ _ _ i _ => l.length - (intOf i).toNat)
  case atStart => exact ⟨0, Nat.zero_le _, rfl, HO0.out, HB0.out⟩
  case round =>
    obtain ⟨k, hk, rfl, hO, hbr⟩ := hrel
    have HO := Lib.hid hO
    have HBr := Lib.hid hbr
    clear hO hbr
    by_cases hlt : k < l.length
    · obtain ⟨bb, o, cs, rfl, hbw, hat, hd⟩ := sliceAt_cell HX.out k hlt
      have HZ := Lib.hid (HS.out _ (List.getElem_mem hlt))
      have HTK := Lib.hid (show (l.take (k + 1)).map shapeS = (l.take k).map shapeS ++ [shapeS l[k]] by rw [List.take_succ_eq_append_getElem hlt, List.map_append]; rfl)
      generalize l[k] = z at *
      obtain ⟨b0, ⟨⟨a0, a1, a2, a3, a4⟩, l2⟩⟩ := z
      have HAT := Lib.hid (fun W (hb : Below w.heap.size w W) => goodSlot.keep hat (kept_below hb (Nat.le_refl _)))
      obtain ⟨v4, v6, rfl, h4, h6⟩ := hat
      simp only at h4 h6 HZ
      obtain ⟨ra, rc, rfl, _⟩ := sliceAt_len h4
      obtain ⟨sa, sc, rfl, _⟩ := sliceAt_len h6
      have d0 := (HBr.out.cell (p := ⟨bb, o + k * 7 + 0, none⟩) hbw).trans (hd 0 (by decide))
      have d1 := (HBr.out.cell (p := ⟨bb, o + k * 7 + 1, none⟩) hbw).trans (hd 1 (by decide))
      have d2 := (HBr.out.cell (p := ⟨bb, o + k * 7 + 2, none⟩) hbw).trans (hd 2 (by decide))
      have d3 := (HBr.out.cell (p := ⟨bb, o + k * 7 + 3, none⟩) hbw).trans (hd 3 (by decide))
      have d4 := (HBr.out.cell (p := ⟨bb, o + k * 7 + 4, none⟩) hbw).trans (hd 4 (by decide))
      have d5 := (HBr.out.cell (p := ⟨bb, o + k * 7 + 5, none⟩) hbw).trans (hd 5 (by decide))
      have d6 := (HBr.out.cell (p := ⟨bb, o + k * 7 + 6, none⟩) hbw).trans (hd 6 (by decide))
      simp only [List.getElem?_cons_zero, List.getElem?_cons_succ, Nat.add_zero] at d0 d1 d2 d3 d4 d5 d6
      have hkl : (k : Int) < (l.length : Int) := by omega
      have hb := bx_box wr (.cells #[.bool b0, .string ⟨a0.toArray⟩, .bool a1, .bool a2, .slice ra a3.length rc, .int .i64 a4, .slice sa l2.length sc] 63)
      have BX := Lib.hid (Bx.new wr [.bool b0, .string ⟨a0.toArray⟩, .bool a1, .bool a2, .slice ra a3.length rc, .int .i64 a4, .slice sa l2.length sc] 63)
      have HB3 := Lib.hid (belS HBr.out hb)
      have HO3 := Lib.hid (owns_below HO.out hb (Nat.le_refl _))
      have HRC := Lib.hid (fun v W (h : ValAt rPart 0 W v ⟨⟨a0, a1, a2, a3, a4⟩, l2⟩) => specRecipe_any v ⟨⟨a0, a1, a2, a3, a4⟩, l2⟩ W h (smallP_of HZ.out))
      have HRL := Lib.hid (recL_len HZ.out)
      have HJL := Lib.hid (recL_join HZ.out)
      have HSH := Lib.hid (show shapeS ⟨b0, ⟨⟨a0, a1, a2, a3, a4⟩, l2⟩⟩ = if b0 = true then joinL (recL ⟨⟨a0, a1, a2, a3, a4⟩, l2⟩) [32] else [] from rfl)
      have HVP := Lib.hid (show ValAt rPart 0 (wr.alloc (.cells #[.bool b0, .string ⟨a0.toArray⟩, .bool a1, .bool a2, .slice ra a3.length rc, .int .i64 a4, .slice sa l2.length sc] 63)) (.agg #[.string ⟨a0.toArray⟩, .bool a1, .bool a2, .slice ra a3.length rc, .int .i64 a4, .slice sa l2.length sc]) ⟨⟨a0, a1, a2, a3, a4⟩, l2⟩ from ⟨_, rfl, ⟨_, _, rfl, h4.below (good_flat cCell_len) HB3.out (Nat.le_refl _), h6.below (good_flat cLayer_len) HB3.out (Nat.le_refl _)⟩⟩)
      have HJ := Lib.hid (fun v W (h : RowAt W v ((recL ⟨⟨a0, a1, a2, a3, a4⟩, l2⟩).map strV)) => (show Calls Try.prog 34 #[v, .string ⟨#[32]⟩] W fun e w' => e = .returned (.string ⟨(joinL (recL ⟨⟨a0, a1, a2, a3, a4⟩, l2⟩) [32]).toArray⟩) ∧ Below W.heap.size W w' from specJoin_any v (recL ⟨⟨a0, a1, a2, a3, a4⟩, l2⟩) ⟨#[32]⟩ W h (Nat.le_trans HJL.out (by decide)) (by decide)))
      generalize shapeS ⟨b0, ⟨⟨a0, a1, a2, a3, a4⟩, l2⟩⟩ = sh at *
      generalize joinL (recL ⟨⟨a0, a1, a2, a3, a4⟩, l2⟩) [32] = jn at *
      generalize recL ⟨⟨a0, a1, a2, a3, a4⟩, l2⟩ = rl at *
      have hml : ((l.take k).map shapeS).length ≤ 1048576 := by rw [List.length_map, List.length_take]; omega
      clear hd hb h4 h6 HAT HZ
      have e0 := BX.out.cell 0 (by simp)
      have e1 := BX.out.cell 1 (by simp)
      have e2 := BX.out.cell 2 (by simp)
      have e3 := BX.out.cell 3 (by simp)
      have e4 := BX.out.cell 4 (by simp)
      have e5 := BX.out.cell 5 (by simp)
      have e6 := BX.out.cell 6 (by simp)
      simp only [List.getElem_cons_zero, List.getElem_cons_succ] at e0 e1 e2 e3 e4 e5 e6
      cases b0
      · obtain rfl : sh = [] := HSH.out
        go_wp2_with (at_builtin; (refine append_strs rfl _ _ rfl w.heap.size _ ((l.take k).map shapeS) [] _ (wr.heap.size + 1) (by rfl) (owns_alloc HO3.out _) rfl (by simp [strV]) (by omega) (by have := HB3.out.size; simp at this; simp; omega) ?_; intro v' w5 hO1 hg1; have HO5 := Lib.hid hO1; have HG5 := Lib.hid hg1; clear hO1 hg1))
        exact ⟨⟨k + 1, by omega, by go_num, by rw [HTK.out]; exact HO5.out, below_append (HB3.out.alloc HB3.out.size _) (owns_alloc HO3.out _) HG5.out (by have := HB3.out.size; simp at this; simp; omega)⟩, by simp [intOf]; omega⟩
      · obtain rfl : sh = jn := HSH.out
        go_wp2_with fail
        refine (HRC.out _ _ HVP.out).mono ?_
        rintro e w4 ⟨u, rfl, hu, hb⟩
        have HB4 := Lib.hid (belS HB3.out hb)
        have HO4 := Lib.hid (owns_below HO3.out hb (Nat.le_refl _))
        have HU := Lib.hid (owns_row hu (by have := HRL.out; omega))
        clear hb hu e0 e1 e2 e3 e4 e5 e6
        go_wp2_with fail
        refine (HJ.out _ _ HU.out).mono ?_
        rintro e w5 ⟨rfl, hb⟩
        have HB5 := Lib.hid (belS HB4.out hb)
        have HO5 := Lib.hid (owns_below HO4.out hb (Nat.le_refl _))
        clear hb
        go_wp2_with (at_builtin; (refine append_strs rfl _ _ rfl w.heap.size _ ((l.take k).map shapeS) sh _ w5.heap.size (by rfl) (owns_alloc HO5.out _) rfl (cell_new _ _ _) (by omega) (by have := HB5.out.size; simp; omega) ?_; intro v' w6 hO1 hg1; have HO6 := Lib.hid hO1; have HG6 := Lib.hid hg1; clear hO1 hg1))
        exact ⟨⟨k + 1, by omega, by go_num, by rw [HTK.out]; exact HO6.out, below_append (HB5.out.alloc HB5.out.size _) (owns_alloc HO5.out _) HG6.out (by have := HB5.out.size; simp; omega)⟩, by simp [intOf]; omega⟩
    · have HTL := Lib.hid (show l.take k = l from List.take_of_length_le (by omega))
      have hkl : ¬ (k : Int) < (l.length : Int) := by omega
      go_wp2_with fail
      go_ret
      exact ⟨_, rfl, by have h := HO.out; rwa [HTL.out] at h, HBr.out⟩
end Go.Proofs.Yteeopjcbpngofaa
/- Faces as numbers: the plain side. -/
namespace Go.Proofs.Yteeopjcbpngofaa
set_option linter.unusedVariables false
open Go.RowKit

def isF (f : Int) : Bool := decide (0 ≤ f ∧ f ≤ 63)
/-- ability k is in f -/
def hasI (f : Int) (k : Nat) : Bool := decide (f / 2 ^ k % 2 = 1)
/-- the face of the abilities below k for which p holds -/
def madeK (p : Nat → Bool) : Nat → Int
  | 0 => 0
  | k + 1 => madeK p k + if p k then 2 ^ k else 0
def bothP (a b : Int) (k : Nat) : Bool := hasI a k && hasI b k
def eitherP (a b : Int) (k : Nat) : Bool := hasI a k || hasI b k
def lackP (want f : Int) (k : Nat) : Bool := hasI want k && !hasI f k
def bothF (a b : Int) : Int := if isF a = true ∧ isF b = true then madeK (bothP a b) 6 else 0
def eitherF (a b : Int) : Int := if isF a = true ∧ isF b = true then madeK (eitherP a b) 6 else 0
def lackF (f want : Int) : Int := if isF f = true ∧ isF want = true then madeK (lackP want f) 6 else 0
def offersF (f want : Int) : Bool := isF f && isF want && (lackF f want == 0)
/-- the first k from k0 on, among n, for which p holds; -1 -/
def findK (p : Nat → Bool) : Nat → Nat → Int
  | _, 0 => -1
  | k, n + 1 => if p k then k else findK p (k + 1) n
theorem findK_yes {p : Nat → Bool} {k n : Nat} (hk : k < n) (h : p k = true) : findK p k (n - k) = k := by
  obtain ⟨m, rfl⟩ : ∃ m, n = k + (m + 1) := ⟨n - k - 1, by omega⟩
  rw [show k + (m + 1) - k = m + 1 by omega, findK, if_pos h]
theorem findK_no {p : Nat → Bool} {k n : Nat} (hk : k < n) (h : p k = false) : findK p k (n - k) = findK p (k + 1) (n - (k + 1)) := by
  obtain ⟨m, rfl⟩ : ∃ m, n = k + (m + 1) := ⟨n - k - 1, by omega⟩
  rw [show k + (m + 1) - k = m + 1 by omega, findK, if_neg (by simp [h]), show k + (m + 1) - (k + 1) = m by omega]
theorem findK_end {p : Nat → Bool} {n : Nat} : findK p n (n - n) = -1 := by rw [Nat.sub_self]; rfl
theorem isF_yes {f : Int} (h : isF f = true) : 0 ≤ f ∧ f ≤ 63 := of_decide_eq_true h
theorem isF_no {f : Int} (h : isF f = false) : f < 0 ∨ 63 < f := by have := of_decide_eq_false h; omega
theorem isF_fin {f : Int} (h : isF f = true) : ∃ F : Fin 64, f = ((F : Nat) : Int) := by
  have := isF_yes h
  exact ⟨⟨f.toNat, by omega⟩, by simp; omega⟩
theorem and_fin : ∀ a b : Fin 64, bits .and .i64 ((a : Nat) : Int) ((b : Nat) : Int) = madeK (bothP (a : Nat) (b : Nat)) 6 := by decide +kernel
theorem or_fin : ∀ a b : Fin 64, bits .or .i64 ((a : Nat) : Int) ((b : Nat) : Int) = madeK (eitherP (a : Nat) (b : Nat)) 6 := by decide +kernel
theorem andNot_fin : ∀ a b : Fin 64, bits .andNot .i64 ((a : Nat) : Int) ((b : Nat) : Int) = madeK (lackP (a : Nat) (b : Nat)) 6 := by decide +kernel
theorem and_eq {a b : Int} (ha : isF a = true) (hb : isF b = true) : bits .and .i64 a b = madeK (bothP a b) 6 := by
  obtain ⟨A, rfl⟩ := isF_fin ha; obtain ⟨B, rfl⟩ := isF_fin hb; exact and_fin A B
theorem or_eq {a b : Int} (ha : isF a = true) (hb : isF b = true) : bits .or .i64 a b = madeK (eitherP a b) 6 := by
  obtain ⟨A, rfl⟩ := isF_fin ha; obtain ⟨B, rfl⟩ := isF_fin hb; exact or_fin A B
theorem andNot_eq {a b : Int} (ha : isF a = true) (hb : isF b = true) : bits .andNot .i64 a b = madeK (lackP a b) 6 := by
  obtain ⟨A, rfl⟩ := isF_fin ha; obtain ⟨B, rfl⟩ := isF_fin hb; exact andNot_fin A B
theorem bit_fin : ∀ a : Fin 64, ∀ k : Fin 6, (bits .and .i64 ((a : Nat) : Int) (2 ^ (k : Nat)) != 0) = hasI (a : Nat) k := by decide +kernel
theorem bit_eq {a : Int} (ha : isF a = true) (k : Nat) (hk : k < 6) : (bits .and .i64 a (2 ^ k) != 0) = hasI a k := by
  obtain ⟨A, rfl⟩ := isF_fin ha; exact bit_fin A ⟨k, hk⟩
theorem madeK_bd (p : Nat → Bool) : ∀ k, 0 ≤ madeK p k ∧ madeK p k < 2 ^ k := by
  intro k
  induction k with
  | zero => simp [madeK]
  | succ k ih =>
    have h : (2 : Int) ^ (k + 1) = 2 ^ k + 2 ^ k := by rw [Int.pow_succ]; omega
    have h0 : (0 : Int) < 2 ^ k := Int.pow_pos (by decide)
    simp only [madeK]; rw [h]
    generalize (2 : Int) ^ k = q at *
    split <;> omega
theorem madeK_6 (p : Nat → Bool) : 0 ≤ madeK p 6 ∧ madeK p 6 ≤ 63 := by have := madeK_bd p 6; omega
theorem madeK_step (p : Nat → Bool) (k : Nat) (h : k < 6) : 0 ≤ madeK p k ∧ madeK p k ≤ 63 := by
  have h1 := madeK_bd p k
  have h2 : (2 : Int) ^ k ≤ 2 ^ 6 := by
    rcases (show k = 0 ∨ k = 1 ∨ k = 2 ∨ k = 3 ∨ k = 4 ∨ k = 5 by omega) with rfl | rfl | rfl | rfl | rfl | rfl <;> decide
  omega
theorem madeK_zero (p : Nat → Bool) : ∀ k, madeK p k = 0 ↔ ∀ j, j < k → p j = false := by
  intro k
  induction k with
  | zero => simp [madeK]
  | succ k ih =>
    have h0 : (0 : Int) < 2 ^ k := Int.pow_pos (by decide)
    have hb := madeK_bd p k
    simp only [madeK]
    constructor
    · intro h j hj
      have hk : p k = false := by cases hp : p k with
        | false => rfl
        | true => rw [hp, if_pos rfl] at h; omega
      rcases Nat.lt_or_ge j k with hjk | hjk
      · refine ih.1 ?_ j hjk; rw [hk] at h; simpa using h
      · have : j = k := by omega
        subst this; exact hk
    · intro h
      rw [h k (by omega), ih.2 fun j hj => h j (by omega)]; simp
/-- the abilities of a face -/
def abilK (f : Int) (k : Nat) : List Nat := (List.range k).filter (hasI f)
def abilL (f : Int) : List Nat := if isF f = true then abilK f 6 else []
theorem abilK_succ (f : Int) (k : Nat) : abilK f (k + 1) = abilK f k ++ if hasI f k = true then [k] else [] := by
  unfold abilK; rw [List.range_succ, List.filter_append]; simp [List.filter_cons]
theorem abilK_len (f : Int) (k : Nat) : (abilK f k).length ≤ k := by
  have := List.length_filter_le (hasI f) (List.range k); simpa [abilK] using this
theorem abilL_len (f : Int) : (abilL f).length ≤ 6 := by
  unfold abilL
  split
  · exact abilK_len f 6
  · simp
theorem abilL_lt (f : Int) (k : Nat) (h : k ∈ abilL f) : k < 6 := by
  unfold abilL at h; split at h
  · have := List.mem_filter.1 h; simpa using this.1
  · simp at h
/-- the name of an ability -/
def abN : Nat → List UInt8
  | 0 => [114, 117, 110]
  | 1 => [107, 101, 101, 112]
  | 2 => [116, 101, 108, 108]
  | 3 => [104, 101, 97, 114]
  | 4 => [115, 97, 118, 101]
  | 5 => [104, 101, 97, 108]
  | _ => []
def abNI (k : Int) : List UInt8 := if k < 0 then [] else abN k.toNat
theorem abNI_out {k : Int} (h : k < 0 ∨ 6 ≤ k) : abNI k = [] := by
  unfold abNI
  split
  · rfl
  · obtain ⟨m, hm⟩ : ∃ m, k.toNat = m + 6 := ⟨k.toNat - 6, by omega⟩
    rw [hm]; rfl
theorem abN_len (k : Nat) : (abN k).length ≤ 4 := by unfold abN; split <;> simp
/-- the methods of an ability -/
def mthN : Nat → List (List UInt8)
  | 0 => [[83, 116, 97, 114, 116], [83, 116, 111, 112]]
  | 1 => [[71, 101, 116], [80, 117, 116]]
  | 2 => [[84, 101, 108, 108]]
  | 3 => [[72, 101, 97, 114]]
  | 4 => [[76, 111, 97, 100], [83, 97, 118, 101]]
  | 5 => [[72, 101, 97, 108]]
  | _ => []
theorem mthN_len (k : Nat) : (mthN k).length ≤ 2 := by unfold mthN; split <;> simp
theorem mthN_short (k : Nat) : ∀ s ∈ mthN k, s.length ≤ 5 := by unfold mthN; split <;> simp
def abOf (s : List UInt8) : Int := findK (fun k => abN k == s) 0 6
def abOfM (s : List UInt8) : Int := findK (fun k => decide (s ∈ mthN k)) 0 6
/-- the names of a face's abilities; its methods -/
def namesF (f : Int) : List (List UInt8) := (abilL f).map abN
def methsF (f : Int) : List (List UInt8) := (abilL f).flatMap mthN
/-- the face of all abilities whose methods are in l -/
def faceM (l : List (List UInt8)) (k : Nat) : Bool := (mthN k).all fun s => decide (s ∈ l)
def faceOfM (l : List (List UInt8)) : Int := madeK (faceM l) 6
/-- the faces that f offers -/
def underK (f : Int) (k : Nat) : List Int := ((List.range k).filter fun g => offersF f (g : Nat)).map fun g => ((g : Nat) : Int)
def underL (f : Int) : List Int := underK f 64
theorem underK_succ (f : Int) (k : Nat) : underK f (k + 1) = underK f k ++ if offersF f (k : Nat) = true then [(k : Int)] else [] := by
  unfold underK; rw [List.range_succ, List.filter_append, List.map_append]; by_cases h : offersF f (k : Nat) = true <;> simp [h]
theorem underK_len (f : Int) (k : Nat) : (underK f k).length ≤ k := by
  have := List.length_filter_le (fun g => offersF f (g : Nat)) (List.range k); simpa [underK] using this
end Go.Proofs.Yteeopjcbpngofaa
/- Contracts of chapter 2, the functions that only reckon. -/
namespace Go.Proofs.Yteeopjcbpngofaa
set_option linter.unusedVariables false
open Go.RowKit
theorem ret_strL {a b : List UInt8} (h : a = b) : Ending.returned (.string ⟨a.toArray⟩) = .returned (.string ⟨b.toArray⟩) := by rw [h]
set_option maxHeartbeats 400000 in
theorem specIsFace_any (f : Int) (w : World) :
    Calls Try.prog 70 #[.int .i64 f] w fun e w' => e = .returned (.bool (isF f)) ∧ w = w' := by
  by_cases h0 : f < 0
  · go_enter Try.func70, Try.ntmps70
    go_wp2
    go_ret
    exact ⟨ret_bool (by simp [isF]; omega), rfl⟩
  · go_enter Try.func70, Try.ntmps70
    go_wp2
    go_ret
    exact ⟨ret_bool (by simp [isF]; omega), rfl⟩
theorem specIsFace_b (f : Int) (x : Bool) (h : isF f = x) (w : World) :
    Calls Try.prog 70 #[.int .i64 f] w fun e w' => e = .returned (.bool x) ∧ w = w' := by
  subst h; exact specIsFace_any f w
set_option maxHeartbeats 400000 in
theorem implIsFace_any (f : Int) (w : World) :
    Calls Try.prog 120 #[.int .i64 f] w fun e w' => e = .returned (.bool (isF f)) ∧ w = w' := by
  by_cases h0 : f < 0
  · go_enter Try.func120, Try.ntmps120
    go_wp2
    go_ret
    exact ⟨ret_bool (by simp [isF]; omega), rfl⟩
  · go_enter Try.func120, Try.ntmps120
    go_wp2
    go_ret
    exact ⟨ret_bool (by simp [isF]; omega), rfl⟩
theorem implIsFace_b (f : Int) (x : Bool) (h : isF f = x) (w : World) :
    Calls Try.prog 120 #[.int .i64 f] w fun e w' => e = .returned (.bool x) ∧ w = w' := by
  subst h; exact implIsFace_any f w
set_option maxHeartbeats 400000 in
theorem l2Has_any (f : Int) (k : Nat) (w : World) (hf : isF f = true) (hk : k < 6) :
    Calls Try.prog 71 #[.int .i64 f, .int .i64 k] w fun e w' => e = .returned (.bool (hasI f k)) ∧ w = w' := by
  obtain ⟨h0, h1⟩ := isF_yes hf
  clear hf
  rcases (show k = 0 ∨ k = 1 ∨ k = 2 ∨ k = 3 ∨ k = 4 ∨ k = 5 by omega) with rfl | rfl | rfl | rfl | rfl | rfl
  all_goals
    clear hk
    go_enter Try.func71, Try.ntmps71
    go_wp2
    go_ret
    exact ⟨ret_bool (by rw [Bool.eq_iff_iff]; simp [hasI]), rfl⟩
theorem l2Has_b (f : Int) (k : Nat) (x : Bool) (h : hasI f k = x) (hf : isF f = true) (hk : k < 6) (w : World) :
    Calls Try.prog 71 #[.int .i64 f, .int .i64 k] w fun e w' => e = .returned (.bool x) ∧ w = w' := by
  subst h; exact l2Has_any f k w hf hk
def selB (how : Int) (x y : Bool) : Bool := (decide (how = 0) && x && y) || (decide (how = 1) && (x || y)) || (decide (how = 2) && x && !y)
def madeF (how a b : Int) : Int := if isF a = true ∧ isF b = true then madeK (fun k => selB how (hasI a k) (hasI b k)) 6 else 0
theorem madeF_no (how a b : Int) (h : isF a = false ∨ isF b = false) : madeF how a b = 0 := by
  unfold madeF; rw [if_neg]; rintro ⟨h1, h2⟩; rcases h with h | h <;> simp_all
theorem w64 {x : Int} (h0 : -9223372036854775808 ≤ x) (h1 : x ≤ 9223372036854775807) : wrap64 x = x := by unfold wrap64; omega
theorem pow_bd (k : Nat) (hk : k < 6) : (0 : Int) < 2 ^ k ∧ (2 : Int) ^ k ≤ 32 := by
  rcases (show k = 0 ∨ k = 1 ∨ k = 2 ∨ k = 3 ∨ k = 4 ∨ k = 5 by omega) with rfl | rfl | rfl | rfl | rfl | rfl <;> decide
theorem pow_of (k : Nat) (hk : k < 6) : wrap64 (2 ^ k) = 2 ^ k := by have := pow_bd k hk; exact w64 (by omega) (by omega)
theorem sum_pow (z : Int) (k : Nat) (hk : k < 6) (h0 : 0 ≤ z) (h1 : z ≤ 63) : wrap64 (z + wrap64 (2 ^ k)) = z + 2 ^ k := by
  have := pow_bd k hk; rw [pow_of k hk]; exact w64 (by omega) (by omega)
end Go.Proofs.Yteeopjcbpngofaa
/- Contracts of chapter 2: names of abilities, methods of abilities. -/
namespace Go.Proofs.Yteeopjcbpngofaa
set_option linter.unusedVariables false
open Go.RowKit
theorem abNI_nat (k : Nat) : abNI (k : Int) = abN k := by unfold abNI; rw [if_neg (by omega)]; simp
set_option maxHeartbeats 400000 in
theorem implAbilityName_any (k : Int) (w : World) :
    Calls Try.prog 112 #[.int .i64 k] w fun e w' => e = .returned (.string ⟨(abNI k).toArray⟩) ∧ w = w' := by
  by_cases hk : k < 0 ∨ 6 ≤ k
  · have HN := Lib.hid (abNI_out hk)
    rcases hk with hk | hk
    all_goals
      go_enter Try.func112, Try.ntmps112
      go_wp2
      go_ret
      exact ⟨ret_strL HN.out.symm, rfl⟩
  · rcases (show k = 0 ∨ k = 1 ∨ k = 2 ∨ k = 3 ∨ k = 4 ∨ k = 5 by omega) with rfl | rfl | rfl | rfl | rfl | rfl
    all_goals
      clear hk
      go_enter Try.func112, Try.ntmps112
      go_wp2
      go_ret
      exact ⟨rfl, rfl⟩
theorem implAbilityName_nat (k : Nat) (w : World) :
    Calls Try.prog 112 #[.int .i64 k] w fun e w' => e = .returned (.string ⟨(abN k).toArray⟩) ∧ w = w' := by
  have h := implAbilityName_any k w; rw [abNI_nat] at h; exact h
/-- the model's list of names -/
def namesV : List Value := [strV (abN 0), strV (abN 1), strV (abN 2), strV (abN 3), strV (abN 4), strV (abN 5)]
def GivesNames (w : World) (e : Ending) (w' : World) : Prop := e = .returned (.slice (some ⟨w.heap.size, 0, none⟩) 6 6) ∧ w' = w.alloc (.cells namesV.toArray 9)
set_option maxHeartbeats 400000 in
theorem l2Names_any (w : World) : Calls Try.prog 92 #[] w fun e w' => GivesNames w e w' := by
  go_enter Try.func92, Try.ntmps92
  go_wp2
  go_ret
  exact ⟨rfl, rfl⟩
theorem names_cell (w : World) (k : Nat) (hk : k < 6) : (w.alloc (.cells namesV.toArray 9)).cell? ⟨w.heap.size, k, none⟩ = some (strV (abN k)) := by
  rw [cell_of_row _ _ k _ 9 (0, 0) (heap_alloc_new w _)]
  rcases (show k = 0 ∨ k = 1 ∨ k = 2 ∨ k = 3 ∨ k = 4 ∨ k = 5 by omega) with rfl | rfl | rfl | rfl | rfl | rfl <;> rfl
set_option maxHeartbeats 400000 in
theorem specAbilityName_any (k : Int) (w : World) :
    Calls Try.prog 72 #[.int .i64 k] w fun e w' => e = .returned (.string ⟨(abNI k).toArray⟩) ∧ Below w.heap.size w w' := by
  by_cases hk : k < 0 ∨ 6 ≤ k
  · have HN := Lib.hid (abNI_out hk)
    by_cases h0 : k < 0
    · clear hk
      go_enter Try.func72, Try.ntmps72
      go_wp2
      go_ret
      exact ⟨ret_strL HN.out.symm, Below.refl _ _⟩
    · have h6 : 6 ≤ k := by omega
      clear hk
      go_enter Try.func72, Try.ntmps72
      go_wp2
      go_ret
      exact ⟨ret_strL HN.out.symm, Below.refl _ _⟩
  · obtain ⟨j, rfl⟩ := Int.eq_ofNat_of_zero_le (show 0 ≤ k by omega)
    have hj : j < 6 := by omega
    clear hk
    rw [abNI_nat]
    have d1 := names_cell w j hj
    unfold strV at d1
    have HD := Lib.hid d1
    clear d1
    go_enter Try.func72, Try.ntmps72
    go_wp2_with fail
    refine (l2Names_any w).mono ?_
    rintro e w1 ⟨rfl, rfl⟩
    have d1 := HD.out
    go_wp2_with fail
    go_ret
    exact ⟨rfl, (Below.refl _ _).alloc (Nat.le_refl _) _⟩
end Go.Proofs.Yteeopjcbpngofaa
/- Contracts of chapter 2: the abilities of a face, their number; methods of abilities; what is in a list. -/
namespace Go.Proofs.Yteeopjcbpngofaa
set_option linter.unusedVariables false
open Go.RowKit
def intsN (l : List Nat) : List Int := l.map fun k => ((k : Nat) : Int)
theorem intsN_len (l : List Nat) : (intsN l).length = l.length := by simp [intsN]
theorem intsN_snoc (l : List Nat) (k : Nat) : intsN (l ++ [k]) = intsN l ++ [(k : Int)] := by simp [intsN]
/-- rows of integers and rows of texts are not the same -/
theorem owns_apart {w : World} {B B' : Nat} {v u : Value} {xs : List Int} {ys : List (List UInt8)} (h : OwnsI w B v xs) (k : Owns w B' u ys) : v.ownBlock = none ∨ v.ownBlock ≠ u.ownBlock := by
  rcases h.2 with ⟨rfl, _⟩ | ⟨g, cap, cur, rfl, _, hg, _⟩
  · exact Or.inl rfl
  · right
    rcases k.2 with ⟨rfl, _⟩ | ⟨g2, cap2, cur2, rfl, _, hg2, _⟩
    · simp [Value.ownBlock]
    · intro e
      simp [Value.ownBlock] at e
      subst e
      rw [hg] at hg2
      injection hg2 with hg2
      injection hg2 with _ h2 _
      exact absurd h2 (by decide)
theorem ownsI_kept {w w' : World} {B B' : Nat} {v u : Value} {xs : List Int} {ys : List (List UInt8)} (h : OwnsI w B v xs) (k : Owns w B' u ys) (hg : w.grownBy w' u.ownBlock) : OwnsI w' B v xs :=
  World.ownsRow.kept h hg (owns_apart h k)
theorem bit_walk {f : Int} (hf : isF f = true) (k : Nat) (hk : k < 6) (b : Bool) (h : hasI f k = b) : (bits .and .i64 f (wrap64 (2 ^ k)) != 0) = b := by
  rw [pow_of k hk, bit_eq hf k hk]; exact h
theorem abilK_yes {f : Int} {k : Nat} (h : hasI f k = true) : intsN (abilK f (k + 1)) = intsN (abilK f k) ++ [(k : Int)] := by rw [abilK_succ, if_pos h, intsN_snoc]
theorem abilK_no {f : Int} {k : Nat} (h : hasI f k = false) : abilK f (k + 1) = abilK f k := by rw [abilK_succ, if_neg (by simp [h]), List.append_nil]
theorem abilL_yes {f : Int} (h : isF f = true) : abilL f = abilK f 6 := if_pos h
theorem abilL_no {f : Int} (h : isF f = false) : abilL f = [] := if_neg (by simp [h])
set_option maxHeartbeats 800000 in
theorem abilitiesOf_any (f : Int) (w : World) :
    Calls Try.prog 111 #[.int .i64 f] w fun e w' => GivesRowI (intsN (abilL f)) w e w' := by
  cases hf : isF f with
  | false =>
    have HN := Lib.hid (show intsN (abilL f) = [] by rw [abilL_no hf]; rfl)
    have HI := Lib.hid (implIsFace_b f false hf)
    have HO := Lib.hid (ownsI_new w)
    clear hf
    go_enter Try.func111, Try.ntmps111
    go_wp2_with (go_at_call 120; (with_reducible refine (HI.out _).mono ?_); rintro e w' ⟨rfl, rfl⟩)
    go_ret
    exact ⟨_, rfl, by rw [HN.out]; exact HO.out, (Below.refl _ _).alloc (Nat.le_refl _) _⟩
  | true =>
    have HN := Lib.hid (abilL_yes hf)
    have HI := Lib.hid (implIsFace_b f true hf)
    have HF := Lib.hid hf
    have HO := Lib.hid (ownsI_new w)
    clear hf
    go_enter Try.func111, Try.ntmps111
    go_wp2_with (go_at_call 120; (with_reducible refine (HI.out _).mono ?_); rintro e w' ⟨rfl, rfl⟩)
    go_loopw [3, 4, 10] (fun ov _ i wr => ∃ k : Nat, k ≤ 6 ∧ i = .int .i64 k ∧ OwnsI wr w.heap.size ov (intsN (abilK f k)) ∧ Below w.heap.size w wr) (fun _ _ i _ => 6 - (intOf i).toNat)
    case atStart => exact ⟨0, Nat.zero_le _, rfl, HO.out, (Below.refl _ _).alloc (Nat.le_refl _) _⟩
    case round =>
      obtain ⟨k, hk, rfl, hO, hb⟩ := hrel
      have HO2 := Lib.hid hO
      have HB := Lib.hid hb
      clear hO hb
      by_cases hlt : k < 6
      · have hlen : (intsN (abilK f k)).length ≤ 6 := by have := abilK_len f k; rw [intsN_len]; omega
        cases hx : hasI f k with
        | true =>
          have hbit := bit_walk HF.out k hlt true hx
          have HS := Lib.hid (abilK_yes hx)
          clear hx
          go_wp2_with (at_builtin; (refine append_ints rfl _ _ rfl w.heap.size _ (intsN (abilK f k)) (k : Int) _ wr.heap.size (by rfl) (ownsI_alloc HO2.out _) rfl (cell_new _ _ _) (by omega) (by have := HB.out.size; simp; omega) ?_; intro v' w3 hO1 hg1))
          exact ⟨⟨k + 1, by omega, by go_num, by rw [HS.out]; exact hO1, below_appendI (HB.out.alloc HB.out.size _) (ownsI_alloc HO2.out _) hg1 (by have := HB.out.size; simp; omega)⟩, by simp [intOf]; omega⟩
        | false =>
          have hbit := bit_walk HF.out k hlt false hx
          have HS := Lib.hid (abilK_no hx)
          clear hx
          go_wp2_with fail
          exact ⟨⟨k + 1, by omega, by go_num, by rw [HS.out]; exact HO2.out, HB.out⟩, by simp [intOf]; omega⟩
      · have HK := Lib.hid (show k = 6 by omega)
        go_wp2_with fail
        go_ret
        exact ⟨_, rfl, by rw [HN.out, ← HK.out]; exact HO2.out, HB.out⟩
/-- the methods of an ability, in memory that was just made -/
def GivesMth (k : Nat) (w : World) (e : Ending) (w' : World) : Prop := e = .returned (.slice (some ⟨w.heap.size, 0, none⟩) (mthN k).length (mthN k).length) ∧ w' = w.alloc (.cells ((mthN k).map strV).toArray 9)
theorem mth_row (w : World) (k : Nat) (c : Nat) (hc : (mthN k).length ≤ c := by exact Nat.le_refl _) : RowAt (w.alloc (.cells ((mthN k).map strV).toArray 9)) (.slice (some ⟨w.heap.size, 0, none⟩) (mthN k).length c) ((mthN k).map strV) := by
  refine ⟨_, c - (mthN k).length, by rw [List.length_map, Nat.add_sub_of_le hc], by rw [List.length_map]; have := mthN_len k; unfold maxLen; omega, Or.inr ⟨w.heap.size, 0, rfl, by simp, fun i _ => ?_⟩⟩
  rw [cell_of_row _ _ _ _ 9 (0, 0) (heap_alloc_new w _)]
  simp
def IdxOf (x : List (List UInt8)) (t : List UInt8) (w : World) (e : Ending) (w' : World) : Prop := ∃ i : Int, e = .returned (.int .i64 i) ∧ -1 ≤ i ∧ i ≤ 9223372036854775807 ∧ decide (0 ≤ i) = decide (t ∈ x) ∧ w = w'
end Go.Proofs.Yteeopjcbpngofaa
/- Contracts of chapter 2: FormatFace. -/
namespace Go.Proofs.Yteeopjcbpngofaa
set_option linter.unusedVariables false
open Go.RowKit
/-- what FormatFace writes -/
def fmtF (f : Int) : List UInt8 := if f = 0 then [110, 111, 110, 101] else joinL (namesF f) [43]
theorem total_abN (L : List Nat) : total (L.map abN) ≤ 4 * L.length := by
  induction L with
  | nil => simp [total]
  | cons a r ih => have := abN_len a; simp only [List.map_cons, total, List.length_cons]; omega
theorem names_small (L : List Nat) (h : L.length ≤ 6) : (joinL (L.map abN) [43]).length ≤ 100 := by
  have h1 := joinK_len (L.map abN) [43] (L.map abN).length (Nat.le_refl _)
  have h2 := total_abN L
  rw [List.take_length] at h1
  simp only [List.length_map, List.length_cons, List.length_nil] at h1
  unfold joinL
  rw [List.length_map]; omega
theorem fmtF_len (f : Int) : (fmtF f).length ≤ 100 := by
  unfold fmtF; split
  · simp
  · exact names_small _ (abilL_len f)
theorem getElem_intsN (L : List Nat) (j : Nat) (h : j < L.length) : (intsN L)[j]'(by rw [intsN_len]; exact h) = ((L[j] : Nat) : Int) := by simp [intsN]
theorem map_snoc (L : List Nat) (j : Nat) (h : j < L.length) : (L.take (j + 1)).map abN = (L.take j).map abN ++ [abN L[j]] := by
  rw [List.take_succ_eq_append_getElem h, List.map_append]; rfl
set_option maxRecDepth 100000 in
set_option maxHeartbeats 800000 in
theorem implFormatFace_any (f : Int) (w : World) :
    Calls Try.prog 93 #[.int .i64 f] w fun e w' => e = .returned (.string ⟨(fmtF f).toArray⟩) ∧ Below w.heap.size w w' := by
  by_cases h0 : f = 0
  · subst h0
    go_enter Try.func93, Try.ntmps93
    go_wp2_with fail
    go_ret
    exact ⟨rfl, Below.refl _ _⟩
  · have HN := Lib.hid (show fmtF f = joinL ((abilL f).map abN) [43] from if_neg h0)
    have hne : (f == 0) = false := by simpa using h0
    have HA := Lib.hid (abilitiesOf_any f)
    have hl := abilL_len f
    have HJ := Lib.hid (names_small _ hl)
    have HO := Lib.hid (owns_new w)
    clear h0
    generalize abilL f = L at *
    go_enter Try.func93, Try.ntmps93
    go_wp2_with fail
    refine (HA.out _).mono ?_
    rintro e w1 ⟨u, rfl, hI, hb⟩
    have HI := Lib.hid hI
    have HB := Lib.hid (((Below.refl w.heap.size w).alloc (Nat.le_refl _) (.cells #[] 9)).trans (hb.mono (by simp)))
    have HO1 := Lib.hid (owns_below HO.out hb (Nat.le_refl _))
    obtain ⟨a, c, rfl, _⟩ := rowAt_len (ownsI_row hI (by rw [intsN_len]; omega))
    rw [List.length_map, intsN_len] at *
    clear hI hb
    go_wp2_with fail
    go_loopw [3, 5, 12] (fun ov _ i wr => ∃ j : Nat, j ≤ L.length ∧ i = .int .i64 j ∧ Owns wr w.heap.size ov ((L.take j).map abN) ∧ OwnsI wr (w.alloc (.cells #[] 9)).heap.size (.slice a L.length c) (intsN L) ∧ Below w.heap.size w wr) (fun _ _ i _ => L.length - (intOf i).toNat)
    case atStart => exact ⟨0, Nat.zero_le _, rfl, HO1.out, HI.out, HB.out⟩
    case round =>
      obtain ⟨j, hj, rfl, hO, hI, hb⟩ := hrel
      have HO2 := Lib.hid hO
      have HI2 := Lib.hid hI
      have HB2 := Lib.hid hb
      clear hO hI hb
      by_cases hlt : j < L.length
      · obtain ⟨b, o, rfl, hbw, d1⟩ := rowAt_cell (ownsI_row HI2.out (by rw [intsN_len]; omega)) j (by simpa [intsN_len] using hlt)
        rw [getElem_map_intV, getElem_intsN L j hlt] at d1
        unfold intV at d1
        have HS := Lib.hid (map_snoc L j hlt)
        have hlen : ((L.take j).map abN).length ≤ 6 := by simp; omega
        go_wp2_with fail
        refine (implAbilityName_nat L[j] _).mono ?_
        rintro e w2 ⟨rfl, rfl⟩
        go_wp2_with (at_builtin; (refine append_strs rfl _ _ rfl w.heap.size _ ((L.take j).map abN) (abN L[j]) _ wr.heap.size (by rfl) (owns_alloc HO2.out _) rfl (cell_new _ _ _) (by omega) (by have := HB2.out.size; simp; omega) ?_; intro v' w3 hO1 hg1))
        exact ⟨⟨j + 1, by omega, by go_num, by rw [HS.out]; exact hO1, ownsI_kept (ownsI_alloc HI2.out _) (owns_alloc HO2.out _) hg1, below_append (HB2.out.alloc HB2.out.size _) (owns_alloc HO2.out _) hg1 (by have := HB2.out.size; simp; omega)⟩, by simp [intOf]; omega⟩
      · have HT := Lib.hid (show L.take j = L from List.take_of_length_le (by omega))
        rw [HT.out] at HO2
        go_wp2_with fail
        refine (implJoin_any _ (L.map abN) ⟨#[43]⟩ _ (owns_row HO2.out (by simp; omega)) (Nat.le_trans HJ.out (by decide)) (by simp [ByteArray.size])).mono ?_
        rintro e w2 ⟨rfl, hb2⟩
        have HB3 := Lib.hid (HB2.out.trans (hb2.mono HB2.out.size))
        clear hb2
        go_wp2_with fail
        go_ret
        exact ⟨ret_strL HN.out.symm, HB3.out⟩
theorem joinL_nil (sep : List UInt8) : joinL [] sep = [] := rfl
theorem isF_zero : isF 0 = true := rfl
theorem fmtF_non {f : Int} (h : isF f = false) : fmtF f = [] := by
  unfold fmtF
  rw [if_neg (by rintro rfl; rw [isF_zero] at h; cases h)]
  unfold namesF
  rw [abilL_no h]; rfl
theorem abN_snoc {f : Int} {k : Nat} (h : hasI f k = true) : (abilK f (k + 1)).map abN = (abilK f k).map abN ++ [abN k] := by rw [abilK_succ, if_pos h, List.map_append]; rfl
theorem specAbilityName_nat (k : Nat) (w : World) :
    Calls Try.prog 72 #[.int .i64 k] w fun e w' => e = .returned (.string ⟨(abN k).toArray⟩) ∧ Below w.heap.size w w' := by
  have h := specAbilityName_any k w; rw [abNI_nat] at h; exact h
set_option maxRecDepth 100000 in
set_option maxHeartbeats 800000 in
theorem specFormatFace_any (f : Int) (w : World) :
    Calls Try.prog 40 #[.int .i64 f] w fun e w' => e = .returned (.string ⟨(fmtF f).toArray⟩) ∧ Below w.heap.size w w' := by
  have HO := Lib.hid (owns_new w)
  cases hf : isF f with
  | false =>
    have HN := Lib.hid (fmtF_non hf)
    have hne : (f == 0) = false := by cases he : f == 0 with
      | false => rfl
      | true => have e := eq_of_beq he; subst e; rw [isF_zero] at hf; cases hf
    have HI := Lib.hid (specIsFace_b f false hf)
    clear hf
    go_enter Try.func40, Try.ntmps40
    go_wp2_with fail
    refine wp_loop_rounds 1 ?_
    rw [rounds_succ]
    go_wp2_with (go_at_call 70; (with_reducible refine (HI.out _).mono ?_); rintro e w' ⟨rfl, rfl⟩)
    refine (specJoin_any _ [] ⟨#[43]⟩ _ (owns_row HO.out (by simp)) (by simp [joinL_nil]) (by simp [ByteArray.size])).mono ?_
    rintro e w2 ⟨rfl, hb2⟩
    have HB3 := Lib.hid (((Below.refl w.heap.size w).alloc (Nat.le_refl _) (.cells #[] 9)).trans (hb2.mono (by simp)))
    clear hb2
    go_wp2_with fail
    go_ret
    exact ⟨ret_strL (by rw [HN.out, joinL_nil]), HB3.out⟩
  | true =>
    have HL := Lib.hid (abilL_yes hf)
    have HI := Lib.hid (specIsFace_b f true hf)
    have HF := Lib.hid hf
    clear hf
    go_enter Try.func40, Try.ntmps40
    go_wp2_with fail
    go_loopw [3, 4] (fun ov i wr => ∃ k : Nat, k ≤ 6 ∧ i = .int .i64 k ∧ Owns wr w.heap.size ov ((abilK f k).map abN) ∧ Below w.heap.size w wr) (fun _ i _ => 6 - (intOf i).toNat)
    case atStart => exact ⟨0, Nat.zero_le _, rfl, HO.out, (Below.refl _ _).alloc (Nat.le_refl _) _⟩
    case round =>
      obtain ⟨k, hk, rfl, hO, hb⟩ := hrel
      have HO2 := Lib.hid hO
      have HB2 := Lib.hid hb
      clear hO hb
      by_cases hlt : k < 6
      · have hlen : ((abilK f k).map abN).length ≤ 6 := by have := abilK_len f k; simp; omega
        cases hx : hasI f k with
        | true =>
          have HX := Lib.hid (l2Has_b f k _ hx HF.out hlt)
          have HS := Lib.hid (abN_snoc hx)
          clear hx
          go_wp2_with (first | (go_at_call 70; (with_reducible refine (HI.out _).mono ?_); rintro e w' ⟨rfl, rfl⟩) | (go_at_call 71; (with_reducible refine (HX.out _).mono ?_); rintro e w' ⟨rfl, rfl⟩))
          refine (specAbilityName_nat k _).mono ?_
          rintro e w2 ⟨rfl, hb2⟩
          have HB3 := Lib.hid (HB2.out.trans (hb2.mono HB2.out.size))
          have HO3 := Lib.hid (owns_below HO2.out hb2 (Nat.le_refl _))
          clear hb2
          go_wp2_with (at_builtin; (refine append_strs rfl _ _ rfl w.heap.size _ ((abilK f k).map abN) (abN k) _ w2.heap.size (by rfl) (owns_alloc HO3.out _) rfl (cell_new _ _ _) (by omega) (by have := HB3.out.size; simp; omega) ?_; intro v' w3 hO1 hg1))
          exact ⟨⟨k + 1, by omega, by go_num, by rw [HS.out]; exact hO1, below_append (HB3.out.alloc HB3.out.size _) (owns_alloc HO3.out _) hg1 (by have := HB3.out.size; simp; omega)⟩, by simp [intOf]; omega⟩
        | false =>
          have HX := Lib.hid (l2Has_b f k _ hx HF.out hlt)
          have HS := Lib.hid (abilK_no hx)
          clear hx
          go_wp2_with (first | (go_at_call 70; (with_reducible refine (HI.out _).mono ?_); rintro e w' ⟨rfl, rfl⟩) | (go_at_call 71; (with_reducible refine (HX.out _).mono ?_); rintro e w' ⟨rfl, rfl⟩))
          exact ⟨⟨k + 1, by omega, by go_num, by rw [HS.out]; exact HO2.out, HB2.out⟩, by simp [intOf]; omega⟩
      · have HK := Lib.hid (show k = 6 by omega)
        have HO4 := Lib.hid (show Owns wr w.heap.size _ ((abilL f).map abN) from by rw [HL.out, ← HK.out]; exact HO2.out)
        have hl := abilL_len f
        by_cases h0 : f = 0
        · have hne : (f == 0) = true := by simpa using h0
          have HN := Lib.hid (show fmtF f = [110, 111, 110, 101] from if_pos h0)
          clear h0
          go_wp2_with (go_at_call 70; (with_reducible refine (HI.out _).mono ?_); rintro e w' ⟨rfl, rfl⟩)
          go_ret
          exact ⟨ret_strL HN.out.symm, HB2.out⟩
        · have hne : (f == 0) = false := by simpa using h0
          have HN := Lib.hid (show fmtF f = joinL ((abilL f).map abN) [43] from if_neg h0)
          have HJ := Lib.hid (names_small _ hl)
          clear h0
          generalize abilL f = L at *
          go_wp2_with (go_at_call 70; (with_reducible refine (HI.out _).mono ?_); rintro e w' ⟨rfl, rfl⟩)
          refine (specJoin_any _ (L.map abN) ⟨#[43]⟩ _ (owns_row HO4.out (by simp; omega)) (Nat.le_trans HJ.out (by decide)) (by simp [ByteArray.size])).mono ?_
          rintro e w2 ⟨rfl, hb2⟩
          have HB3 := Lib.hid (HB2.out.trans (hb2.mono HB2.out.size))
          clear hb2
          go_wp2_with fail
          go_ret
          exact ⟨ret_strL HN.out.symm, HB3.out⟩
end Go.Proofs.Yteeopjcbpngofaa
/- End: what the laws' own helpers do with it. Written by gen/flat.py. -/
namespace Go.Proofs.Yteeopjcbpngofaa
set_option linter.unusedVariables false
open Go.RowKit
structure EndD where
  fCode : Int
  fPlace : Int
  fWant : Int
  fHad : Int
deriving DecidableEq
def okEnd (d : EndD) : Prop := (-9223372036854775808 ≤ d.fCode ∧ d.fCode ≤ 9223372036854775807) ∧ (-9223372036854775808 ≤ d.fPlace ∧ d.fPlace ≤ 9223372036854775807) ∧ (-9223372036854775808 ≤ d.fWant ∧ d.fWant ≤ 9223372036854775807) ∧ (-9223372036854775808 ≤ d.fHad ∧ d.fHad ≤ 9223372036854775807)
def vEnd (d : EndD) : Value := .agg #[.int .i64 d.fCode, .int .i64 d.fPlace, .int .i64 d.fWant, .int .i64 d.fHad]
def cEnd (d : EndD) : List Value := [.int .i64 d.fCode, .int .i64 d.fPlace, .int .i64 d.fWant, .int .i64 d.fHad]
theorem cEnd_len (d : EndD) : (cEnd d).length = 4 := rfl
theorem cEnd_one (d : EndD) : ∀ u ∈ cEnd d, u.oneCell' = true := by intro u hu; simp only [cEnd, List.mem_cons, List.not_mem_nil, or_false] at hu; rcases hu with rfl | rfl | rfl | rfl <;> rfl
set_option maxHeartbeats 800000 in
theorem toEnd_any (x : EndD) (w : World) :
    Calls Try.prog 20 #[vEnd x] w fun e w' => e = .returned (vEnd x) ∧ Below w.heap.size w w' := by
  obtain ⟨a0, a1, a2, a3⟩ := x
  unfold vEnd
  go_enter Try.func20, Try.ntmps20
  go_wp2
  exact bodyPost_ret (v := .agg #[.int .i64 a0, .int .i64 a1, .int .i64 a2, .int .i64 a3]) (by simp [results, Try.results20, go_sem]) rfl ⟨rfl, ((((Below.refl _ _).alloc (Nat.le_refl _) _).alloc (by simp) _).alloc (by simp; try omega) _)⟩
def zEnd (d : EndD) : Nat := 0
theorem infoEnd : (Try.prog.info? 38).map (fun i => (i.zero, i.size, i.bytes)) = some (some (.agg #[.int .i64 0, .int .i64 0, .int .i64 0, .int .i64 0]), 4, 32) := by kernel_rfl
def marksEnd (k : Int) (n : Nat) : List EndD := (List.range n).map fun i : Nat => ⟨k + i * 4, k + i * 4 + 1, k + i * 4 + 1 + 1, k + i * 4 + 1 + 1 + 1⟩
theorem marksEnd_len (k : Int) (n : Nat) : (marksEnd k n).length = n := by simp [marksEnd]
theorem marksEnd_get (k : Int) (n i : Nat) (h : i < n) : (marksEnd k n)[i]'(by rw [marksEnd_len]; exact h) = ⟨k + i * 4, k + i * 4 + 1, k + i * 4 + 1 + 1, k + i * 4 + 1 + 1 + 1⟩ := by simp [marksEnd]
end Go.Proofs.Yteeopjcbpngofaa
/- SplitAt, the model's and the program's. -/
namespace Go.Proofs.Yteeopjcbpngofaa
set_option linter.unusedVariables false
open Go.RowKit
/-- the parts of l between the occurrences of sep (sep is not empty), by at most so many cuts -/
def splitF (sep : List UInt8) : Nat → List UInt8 → List (List UInt8)
  | 0, l => [l]
  | f + 1, l => if Lib.index l sep < 0 then [l] else l.take (Lib.index l sep).toNat :: splitF sep f (l.drop ((Lib.index l sep).toNat + sep.length))
def splitL (l sep : List UInt8) : List (List UInt8) := if sep = [] then [l] else splitF sep (l.length + 1) l
theorem splitF_none {sep l : List UInt8} (f : Nat) (h : Lib.index l sep < 0) : splitF sep f l = [l] := by
  cases f with
  | zero => rfl
  | succ f => simp [splitF, h]
theorem splitF_some {sep l : List UInt8} (f i : Nat) (h : Lib.index l sep = i) : splitF sep (f + 1) l = l.take i :: splitF sep f (l.drop (i + sep.length)) := by
  have : ¬ (i : Int) < 0 := by omega
  simp [splitF, h, this]
/-- a cut at place i of the text, the first one from place a on -/
theorem index_at {l sep : List UInt8} {a i : Nat} (hai : a ≤ i) (hi : i ≤ l.length) (hno : ∀ j, a ≤ j → j < i → Lib.occAt l sep j = false) (ho : Lib.occAt l sep i = true) : Lib.index (l.drop a) sep = ((i - a : Nat) : Int) := by
  refine Lib.index_first (by simp; omega) ?_ ?_
  · unfold Lib.occAt at *; rw [List.drop_drop, show a + (i - a) = i from by omega]; exact ho
  · intro j hj
    have := hno (a + j) (by omega) (by omega)
    unfold Lib.occAt at *; rw [List.drop_drop]; exact this
theorem index_end {l sep : List UInt8} {a i : Nat} (hs0 : 0 < sep.length) (hai : a ≤ i) (hil : l.length < i + sep.length) (hno : ∀ j, a ≤ j → j < i → Lib.occAt l sep j = false) : Lib.index (l.drop a) sep < 0 := by
  have : Lib.index (l.drop a) sep = -1 := by
    refine Lib.index_none fun j hj => ?_
    unfold Lib.occAt; rw [List.drop_drop]
    rcases Nat.lt_or_ge (a + j) i with h | h
    · exact hno (a + j) (by omega) h
    · cases hp : sep.isPrefixOf (l.drop (a + j)) with
      | false => rfl
      | true =>
        have := (List.isPrefixOf_iff_prefix.1 hp).length_le
        rw [List.length_drop] at this; omega
  omega
theorem extract_eq (s : ByteArray) (a b : Nat) : (s.extract a b).data.toList = (s.data.toList.drop a).take (b - a) := by
  rw [Lib.extract_data]
theorem occAt_iff (l sep : List UInt8) (i : Nat) (h : i + sep.length ≤ l.length) : Lib.occAt l sep i = decide ((l.drop i).take sep.length = sep) := by
  unfold Lib.occAt
  rw [Bool.eq_iff_iff, List.isPrefixOf_iff_prefix, decide_eq_true_iff, List.prefix_iff_eq_take]
  exact ⟨fun h => h.symm, fun h => h.symm⟩
/-- the invariant of the model's scan -/
def ScanInv (l sep : List UInt8) (acc : List (List UInt8)) (a i : Nat) : Prop :=
  a ≤ i ∧ i ≤ l.length ∧ (∀ j, a ≤ j → j < i → Lib.occAt l sep j = false) ∧ acc.length ≤ a ∧ ∃ f, acc ++ splitF sep f (l.drop a) = splitL l sep ∧ l.length - a < f
theorem scan_start (l sep : List UInt8) (h : sep ≠ []) : ScanInv l sep [] 0 0 :=
  ⟨Nat.le_refl _, Nat.zero_le _, fun j _ h => absurd h (by omega), Nat.zero_le _, l.length + 1, by simp [splitL, h], by omega⟩
theorem scan_skip {l sep : List UInt8} {acc : List (List UInt8)} {a i : Nat} (h : ScanInv l sep acc a i) (hi : i + sep.length ≤ l.length) (h0 : 0 < sep.length) (hno : Lib.occAt l sep i = false) : ScanInv l sep acc a (i + 1) := by
  obtain ⟨h1, h2, h3, h4, h5⟩ := h
  refine ⟨by omega, by omega, fun j hj hj2 => ?_, h4, h5⟩
  rcases Nat.lt_or_ge j i with h | h
  · exact h3 j hj h
  · rw [show j = i by omega]; exact hno
theorem scan_cut {l sep : List UInt8} {acc : List (List UInt8)} {a i : Nat} (h : ScanInv l sep acc a i) (hi : i + sep.length ≤ l.length) (h0 : 0 < sep.length) (ho : Lib.occAt l sep i = true) : ScanInv l sep (acc ++ [(l.drop a).take (i - a)]) (i + sep.length) (i + sep.length) := by
  obtain ⟨h1, h2, h3, h4, f, h5, h6⟩ := h
  refine ⟨Nat.le_refl _, hi, fun j hj hj2 => absurd hj2 (by omega), by simp; omega, ?_⟩
  cases f with
  | zero => omega
  | succ f =>
    rw [splitF_some f (i - a) (index_at h1 h2 h3 ho), List.drop_drop, show a + (i - a + sep.length) = i + sep.length by omega] at h5
    exact ⟨f, by rw [← h5]; simp, by omega⟩
theorem scan_end {l sep : List UInt8} {acc : List (List UInt8)} {a i : Nat} (h : ScanInv l sep acc a i) (hi : l.length < i + sep.length) (h0 : 0 < sep.length) : acc ++ [l.drop a] = splitL l sep := by
  obtain ⟨h1, h2, h3, h4, f, h5, h6⟩ := h
  rw [← h5, splitF_none f (index_end h0 h1 hi h3)]
theorem owns_one (w : World) (B : Nat) (s : ByteArray) (h : B ≤ w.heap.size) : Owns (w.alloc (.cells #[.string s] 9)) B (.slice (some ⟨w.heap.size, 0, none⟩) 1 1) [s.data.toList] :=
  ⟨rfl, .inr ⟨w.heap.size, 1, #[.string s], rfl, h, heap_alloc_new w _, Nat.le_refl _, by decide, rfl, by simp [strV]⟩⟩
def strLen : Value → Nat
  | .string t => t.size
  | _ => 0
def CutInv (l sep t : List UInt8) (acc : List (List UInt8)) : Prop := ∃ f, acc ++ splitF sep f t = splitL l sep ∧ t.length < f
theorem cut_start (l sep : List UInt8) (h : sep ≠ []) : CutInv l sep l [] := ⟨l.length + 1, by simp [splitL, h], by omega⟩
theorem cut_next {l sep t : List UInt8} {acc : List (List UInt8)} (h : CutInv l sep t acc) (i : Nat) (hi : Lib.index t sep = i) (h0 : 0 < sep.length) (hr : i + sep.length ≤ t.length) : CutInv l sep (t.drop (i + sep.length)) (acc ++ [t.take i]) := by
  obtain ⟨f, h1, h2⟩ := h
  cases f with
  | zero => omega
  | succ f =>
    rw [splitF_some f i hi] at h1
    exact ⟨f, by rw [← h1]; simp, by simp; omega⟩
theorem cut_end {l sep t : List UInt8} {acc : List (List UInt8)} (h : CutInv l sep t acc) (hi : Lib.index t sep < 0) : acc ++ [t] = splitL l sep := by
  obtain ⟨f, h1, h2⟩ := h
  rw [← h1, splitF_none f hi]
theorem splitF_len (sep : List UInt8) (h0 : 0 < sep.length) : ∀ (f : Nat) (l : List UInt8), (splitF sep f l).length ≤ l.length + 1 := by
  intro f
  induction f with
  | zero => intro l; simp [splitF]
  | succ f ih =>
    intro l
    by_cases h : Lib.index l sep < 0
    · rw [splitF_none _ h]; simp
    · obtain ⟨i, hi⟩ := Int.eq_ofNat_of_zero_le (show 0 ≤ Lib.index l sep by omega)
      have hr := Lib.index_room l sep (by omega)
      rw [splitF_some f i hi]
      have := ih (l.drop (i + sep.length))
      rw [List.length_drop] at this
      simp only [List.length_cons]; omega
theorem splitL_len (l sep : List UInt8) : (splitL l sep).length ≤ l.length + 1 := by
  unfold splitL
  split
  · simp
  · rename_i h
    exact splitF_len sep (by cases sep with | nil => exact absurd rfl h | cons a b => simp) _ _
end Go.Proofs.Yteeopjcbpngofaa
/- Dividing and joining, plain: what is divided is joined again, and what is joined by a byte that no text has is divided again. -/
namespace Go.Proofs.Yteeopjcbpngofaa
set_option linter.unusedVariables false
open Go.RowKit
theorem joinK_take (x : List (List UInt8)) (y : List (List UInt8)) (sep : List UInt8) : ∀ k, k ≤ x.length → joinK (x ++ y) sep k = joinK x sep k := by
  intro k
  induction k with
  | zero => intro _; rfl
  | succ k ih =>
    intro hk
    have e : (x ++ y).getD k [] = x.getD k [] := by simp [List.getD, List.getElem?_append_left (show k < x.length by omega)]
    simp only [joinK, ih (by omega), e]
theorem joinL_cons (a : List UInt8) (x : List (List UInt8)) (sep : List UInt8) (hx : x ≠ []) : joinL (a :: x) sep = a ++ sep ++ joinL x sep := by
  have key : ∀ k, k < x.length → joinK (a :: x) sep (k + 2) = a ++ sep ++ joinK x sep (k + 1) := by
    intro k
    induction k with
    | zero => intro _; simp [joinK]
    | succ k ih =>
      intro hk
      have h := ih (by omega)
      have e1 : joinK (a :: x) sep (k + 1 + 2) = joinK (a :: x) sep (k + 2) ++ sep ++ x.getD (k + 1) [] := by simp [joinK]
      have e2 : joinK x sep (k + 1 + 1) = joinK x sep (k + 1) ++ sep ++ x.getD (k + 1) [] := by simp [joinK]
      rw [e1, h, e2]; simp
  cases x with
  | nil => exact absurd rfl hx
  | cons b r =>
    have := key r.length (by simp)
    unfold joinL
    simpa using this
theorem joinL_one (a sep : List UInt8) : joinL [a] sep = a := by simp [joinL, joinK]
theorem splitF_ne (sep : List UInt8) (f : Nat) (l : List UInt8) : splitF sep f l ≠ [] := by
  cases f with
  | zero => simp [splitF]
  | succ f => unfold splitF; split <;> simp
theorem index_take (l sep : List UInt8) (i : Nat) (h : Lib.index l sep = i) : l.take i ++ sep ++ l.drop (i + sep.length) = l := by
  rcases Lib.index_spec l sep with ⟨h1, _⟩ | ⟨j, h1, h2, h3, _⟩
  · omega
  · have : j = i := by omega
    subst this
    unfold Lib.occAt at h3
    obtain ⟨t, ht⟩ := List.isPrefixOf_iff_prefix.1 h3
    have e : l.drop (j + sep.length) = t := by rw [← List.drop_drop, ← ht]; simp
    rw [e, List.append_assoc, ht, List.take_append_drop]
theorem join_split (sep : List UInt8) : ∀ (f : Nat) (l : List UInt8), joinL (splitF sep f l) sep = l := by
  intro f
  induction f with
  | zero => intro l; simp [splitF, joinL_one]
  | succ f ih =>
    intro l
    by_cases h : Lib.index l sep < 0
    · rw [splitF_none _ h, joinL_one]
    · obtain ⟨i, hi⟩ := Int.eq_ofNat_of_zero_le (show 0 ≤ Lib.index l sep by omega)
      rw [splitF_some f i hi, joinL_cons _ _ _ (splitF_ne sep f _), ih, index_take l sep i hi]
theorem join_splitL (l sep : List UInt8) : joinL (splitL l sep) sep = l := by
  unfold splitL
  split
  · rw [joinL_one]
  · exact join_split sep _ l
theorem occ_one (l : List UInt8) (c : UInt8) (j : Nat) : Lib.occAt l [c] j = true ↔ l[j]? = some c := by
  unfold Lib.occAt
  rw [List.isPrefixOf_iff_prefix]
  constructor
  · rintro ⟨t, ht⟩
    have : (l.drop j)[0]? = some c := by rw [← ht]; rfl
    simpa using this
  · intro h
    have hj := (List.getElem?_eq_some_iff.1 h)
    obtain ⟨hj, rfl⟩ := hj
    exact ⟨l.drop (j + 1), by rw [List.drop_eq_getElem_cons hj]; rfl⟩
theorem index_none1 {l : List UInt8} {c : UInt8} (h : c ∉ l) : Lib.index l [c] < 0 := by
  have : Lib.index l [c] = -1 := Lib.index_none fun j hj => by
    cases ho : Lib.occAt l [c] j with
    | false => rfl
    | true => exact absurd (List.mem_of_getElem? ((occ_one l c j).1 ho)) h
  omega
theorem index_some1 {a r : List UInt8} {c : UInt8} (h : c ∉ a) : Lib.index (a ++ c :: r) [c] = (a.length : Int) := by
  refine Lib.index_first (by simp) ?_ ?_
  · rw [occ_one]; simp
  · intro j hj
    cases ho : Lib.occAt (a ++ c :: r) [c] j with
    | false => rfl
    | true =>
      have := (occ_one _ c j).1 ho
      rw [List.getElem?_append_left hj] at this
      exact absurd (List.mem_of_getElem? this) h
theorem split_join (c : UInt8) : ∀ (ps : List (List UInt8)) (f : Nat), ps ≠ [] → (∀ p ∈ ps, c ∉ p) → ps.length ≤ f + 1 → splitF [c] f (joinL ps [c]) = ps := by
  intro ps
  induction ps with
  | nil => intro f h; exact absurd rfl h
  | cons a r ih =>
    intro f _ hp hf
    have ha := hp a List.mem_cons_self
    by_cases hr : r = []
    · subst hr
      rw [joinL_one]
      exact splitF_none f (index_none1 ha)
    · have hl : 0 < r.length := List.length_pos_iff.2 hr
      obtain ⟨g, rfl⟩ : ∃ g, f = g + 1 := ⟨f - 1, by simp at hf; omega⟩
      rw [joinL_cons a r [c] hr, List.append_assoc, List.singleton_append, splitF_some g a.length (index_some1 ha)]
      have e1 : (a ++ c :: joinL r [c]).take a.length = a := by simp
      have e2 : (a ++ c :: joinL r [c]).drop (a.length + [c].length) = joinL r [c] := by simp [List.drop_append]
      rw [e1, e2, ih g hr (fun p h => hp p (List.mem_cons_of_mem _ h)) (by simp at hf; omega)]
theorem joinL_ge (ps : List (List UInt8)) (c : UInt8) : ps.length ≤ (joinL ps [c]).length + 1 := by
  induction ps with
  | nil => simp
  | cons a r ih =>
    by_cases hr : r = []
    · subst hr; simp
    · rw [joinL_cons a r [c] hr]; simp; omega
theorem splitL_joinL (c : UInt8) (ps : List (List UInt8)) (h : ps ≠ []) (hp : ∀ p ∈ ps, c ∉ p) : splitL (joinL ps [c]) [c] = ps := by
  unfold splitL
  rw [if_neg (by simp)]
  exact split_join c ps _ h hp (by have := joinL_ge ps c; omega)
theorem splitL_none1 {l : List UInt8} {c : UInt8} (h : c ∉ l) : splitL l [c] = [l] := by
  unfold splitL; rw [if_neg (by simp)]; exact splitF_none _ (index_none1 h)
theorem splitL_ne (l : List UInt8) (c : UInt8) : splitL l [c] ≠ [] := by
  unfold splitL; rw [if_neg (by simp)]; exact splitF_ne _ _ _
theorem joinL_two (a b : List UInt8) (c : UInt8) : joinL [a, b] [c] = a ++ c :: b := by rw [joinL_cons a [b] [c] (by simp), joinL_one]; simp
/-- the text in front of the first c and the text behind it -/
theorem cut_some {a r : List UInt8} {c : UInt8} (h : c ∉ a) : Lib.cut (a ++ c :: r) [c] = (a, r, true) := by
  unfold Lib.cut
  rw [index_some1 h, if_pos (by omega)]
  simp [List.drop_append]
theorem cut_none {a : List UInt8} {c : UInt8} (h : c ∉ a) : Lib.cut a [c] = (a, [], false) := by
  unfold Lib.cut
  rw [if_neg (by have := index_none1 h; omega)]
/-- a text either has no c, or is what stands in front of the first one, and behind it -/
theorem cut_cases (l : List UInt8) (c : UInt8) : c ∉ l ∨ ∃ a r, l = a ++ c :: r ∧ c ∉ a := by
  by_cases h : c ∈ l
  · right
    induction l with
    | nil => simp at h
    | cons x t ih =>
      by_cases hx : x = c
      · subst hx; exact ⟨[], t, rfl, by simp⟩
      · obtain ⟨a, r, e, ha⟩ := ih (by rcases List.mem_cons.1 h with h | h; exact absurd h.symm hx; exact h)
        exact ⟨x :: a, r, by rw [e]; rfl, by simp; exact ⟨fun e => hx e.symm, ha⟩⟩
  · exact Or.inl h
/-- divided into two: there is just one c -/
theorem split_two {l a b : List UInt8} {c : UInt8} (h : splitL l [c] = [a, b]) : l = a ++ c :: b ∧ c ∉ a := by
  have e : l = a ++ c :: b := by rw [← joinL_two, ← h, join_splitL]
  refine ⟨e, ?_⟩
  rcases cut_cases l c with hn | ⟨a', r, e2, ha'⟩
  · rw [splitL_none1 hn] at h; simp at h
  · have : splitL l [c] = a' :: splitF [c] l.length r := by
      have e3 : (a' ++ c :: r).drop (a'.length + [c].length) = r := by simp [List.drop_append]
      have e4 : (a' ++ c :: r).take a'.length = a' := by simp
      unfold splitL; rw [if_neg (by simp), e2, splitF_some _ a'.length (index_some1 ha'), e3, e4]
    rw [this] at h
    injection h with h1 _
    rw [← h1]; exact ha'
theorem cut_len (l sep : List UInt8) : (Lib.cut l sep).1.length ≤ l.length ∧ (Lib.cut l sep).2.1.length ≤ l.length := by
  unfold Lib.cut
  split
  · exact ⟨by simp; omega, by simp⟩
  · exact ⟨Nat.le_refl _, by simp⟩
theorem joinK_part (x : List (List UInt8)) (sep : List UInt8) : ∀ (m k : Nat), k < m → m ≤ x.length → (x.getD k []).length ≤ (joinK x sep m).length := by
  intro m
  induction m with
  | zero => intro k h; omega
  | succ m ih =>
    intro k hk hm
    simp only [joinK, List.length_append]
    rcases Nat.lt_or_ge k m with h | h
    · have := ih k h (by omega); omega
    · rw [show k = m by omega]; omega
theorem split_part (l : List UInt8) (c : UInt8) (p : List UInt8) (h : p ∈ splitL l [c]) : p.length ≤ l.length := by
  obtain ⟨k, hk, rfl⟩ := List.mem_iff_getElem.1 h
  have := joinK_part (splitL l [c]) [c] (splitL l [c]).length k hk (Nat.le_refl _)
  rw [show joinK (splitL l [c]) [c] (splitL l [c]).length = l from join_splitL l [c]] at this
  rw [List.getD_eq_getElem?_getD, List.getElem?_eq_getElem hk] at this
  exact this
theorem dataL (l : List UInt8) : (⟨l.toArray⟩ : ByteArray).data.toList = l := by simp
end Go.Proofs.Yteeopjcbpngofaa
/- Plain facts of EndLine. Written by gen/ch8w.py. -/
namespace Go.Proofs.Yteeopjcbpngofaa
set_option linter.unusedVariables false
set_option linter.unusedSimpArgs false
open Go.RowKit
def dashS (s : List UInt8) : List UInt8 := if s = [] then [45] else s
theorem dashS_nil : dashS [] = [45] := rfl
theorem dashS_cons (c : UInt8) (r : List UInt8) : dashS (c :: r) = c :: r := rfl
theorem dashS_len (s : List UInt8) : (dashS s).length ≤ s.length + 1 := by unfold dashS; split <;> simp
def curS (xs : List (List UInt8)) (k : Nat) : List (List UInt8) := (xs.take k).map dashS ++ xs.drop k
theorem curS_split (xs : List (List UInt8)) (k : Nat) (h : k < xs.length) : curS xs k = (xs.take k).map dashS ++ xs[k] :: xs.drop (k + 1) := by unfold curS; rw [List.drop_eq_getElem_cons h]
theorem curS_next (xs : List (List UInt8)) (k : Nat) (h : k < xs.length) : curS xs (k + 1) = (xs.take k).map dashS ++ dashS xs[k] :: xs.drop (k + 1) := by
  unfold curS
  rw [List.take_succ_eq_append_getElem h, List.map_append, List.append_assoc]
  rfl
theorem curS_len (xs : List (List UInt8)) (k : Nat) : (curS xs k).length = xs.length := by
  unfold curS
  simp only [List.length_append, List.length_map, List.length_take, List.length_drop]; omega
theorem curS_set (xs : List (List UInt8)) (k : Nat) (h : k < xs.length) : curS xs (k + 1) = (curS xs k).set k (dashS xs[k]) := by
  have hl : ((xs.take k).map dashS).length = k := by rw [List.length_map, List.length_take]; omega
  rw [curS_next xs k h, curS_split xs k h, List.set_append, if_neg (by omega), hl, Nat.sub_self]
  rfl
theorem curS_get (xs : List (List UInt8)) (k : Nat) (h : k < xs.length) (h2 : k < (curS xs k).length) : (curS xs k)[k] = xs[k] := by
  have hl : ((xs.take k).map dashS).length = k := by rw [List.length_map, List.length_take]; omega
  have e := curS_split xs k h
  have g : (curS xs k)[k]? = some xs[k] := by rw [e, List.getElem?_append_right (by omega), hl, Nat.sub_self]; rfl
  rw [List.getElem?_eq_getElem h2] at g
  exact Option.some.inj g
theorem curS_zero (xs : List (List UInt8)) : curS xs 0 = xs := rfl
theorem curS_end (xs : List (List UInt8)) (k : Nat) (h : xs.length ≤ k) : curS xs k = xs.map dashS := by
  unfold curS
  rw [List.take_of_length_le h, List.drop_of_length_le h, List.append_nil]
theorem numL_shortE (n : Int) : (numL n).length ≤ 21 := by
  unfold numL
  split
  · have := digs_len 20 n.natAbs; simp; omega
  · have := digs_len 20 n.natAbs; omega
def failT (x : EndD) : List UInt8 := joinL [[112, 108, 97, 99, 101], numL x.fPlace, [119, 97, 110, 116, 115], fmtF x.fWant, [111, 102], fmtF x.fHad] [32]
def endT (x : EndD) : List UInt8 := if x.fCode = 1 then failT x else if x.fCode = 2 then joinL [[112, 108, 97, 99, 101], numL x.fPlace, [101, 109, 112, 116, 121]] [32] else if x.fCode = 3 then [98, 97, 100] else [111, 107]
def lineT (x : EndD) (l : List SlotD) : List UInt8 := joinL [endT x, joinL ((l.map shapeS).map dashS) [44, 32]] [58, 32]
theorem lineT_eq (x : EndD) (l : List SlotD) : lineT x l = endT x ++ [58, 32] ++ joinL ((l.map shapeS).map dashS) [44, 32] := by
  unfold lineT
  rw [joinL_cons _ _ _ (by simp), joinL_one]
theorem failT_eq (x : EndD) : failT x = [112, 108, 97, 99, 101] ++ [32] ++ (numL x.fPlace ++ [32] ++ ([119, 97, 110, 116, 115] ++ [32] ++ (fmtF x.fWant ++ [32] ++ ([111, 102] ++ [32] ++ fmtF x.fHad)))) := by
  unfold failT
  rw [joinL_cons _ _ _ (by simp), joinL_cons _ _ _ (by simp), joinL_cons _ _ _ (by simp), joinL_cons _ _ _ (by simp), joinL_cons _ _ _ (by simp), joinL_one]
theorem emptyT_eq (n : List UInt8) : joinL [[112, 108, 97, 99, 101], n, [101, 109, 112, 116, 121]] [32] = [112, 108, 97, 99, 101] ++ [32] ++ (n ++ [32] ++ [101, 109, 112, 116, 121]) := by
  rw [joinL_cons _ _ _ (by simp), joinL_cons _ _ _ (by simp), joinL_one]
theorem failT_len (x : EndD) : (failT x).length ≤ 300 := by
  have h1 := numL_shortE x.fPlace
  have h2 := fmtF_len x.fWant
  have h3 := fmtF_len x.fHad
  rw [failT_eq]
  simp only [List.length_append, List.length_cons, List.length_nil]; omega
theorem emptyT_len (n : Int) : (joinL [[112, 108, 97, 99, 101], numL n, [101, 109, 112, 116, 121]] [32]).length ≤ 300 := by
  have h1 := numL_shortE n
  rw [emptyT_eq]
  simp only [List.length_append, List.length_cons, List.length_nil]; omega
theorem endT_len (x : EndD) : (endT x).length ≤ 300 := by
  unfold endT
  split
  · exact failT_len x
  · split
    · exact emptyT_len _
    · split <;> simp
theorem totalE (l : List (List UInt8)) (M : Nat) (h : ∀ t ∈ l, t.length ≤ M) : total l ≤ l.length * M := by
  induction l with
  | nil => simp [total]
  | cons a r ih =>
    have h1 := h a List.mem_cons_self
    have h2 := ih (fun t ht => h t (List.mem_cons_of_mem _ ht))
    simp only [total, List.length_cons, Nat.add_mul]; omega
theorem shapeS_len {x : SlotD} (h : zPart x.fPart ≤ 1048576) : (shapeS x).length ≤ 2097153 := by
  unfold shapeS
  split
  · exact recL_join h
  · simp
theorem dashes_len {l : List SlotD} (hs : ∀ e ∈ l, zPart e.fPart ≤ 1048576) (hl : l.length ≤ 1048576) : (joinL ((l.map shapeS).map dashS) [44, 32]).length ≤ 35184372088832 := by
  have h1 := joinK_len ((l.map shapeS).map dashS) [44, 32] _ (Nat.le_refl _)
  rw [List.take_length] at h1
  have h2 := totalE ((l.map shapeS).map dashS) 2097154 (fun t ht => by
    obtain ⟨s, hs1, rfl⟩ := List.mem_map.1 ht
    obtain ⟨e, he, rfl⟩ := List.mem_map.1 hs1
    have := dashS_len (shapeS e)
    have := shapeS_len (hs e he); omega)
  unfold joinL
  simp only [List.length_map, List.length_cons, List.length_nil] at h1 h2 ⊢
  omega
theorem sizeE (l : List UInt8) : (⟨l.toArray⟩ : ByteArray).size = l.length := by simp [ByteArray.size]
theorem addE {P : Program} (a b l : List UInt8) (s t : ByteArray) (hl : l = a ++ b) (hs : s = ⟨a.toArray⟩) (ht : t = ⟨b.toArray⟩) (h : a.length + b.length ≤ 9223372036854775807) (w0 : World) : (Op.stringOp .add s t).run P w0 = .ok (.string ⟨l.toArray⟩) w0 := by
  subst hl hs ht
  rw [run_string_add_sum w0 _ _ (by rw [sizeE, sizeE]; exact h)]
  congr 2
theorem litE (w : World) (l : List (List UInt8)) (c : Nat) (hc : l.length ≤ c) (hm : l.length ≤ 100) : RowAt (w.alloc (.cells (l.map strV).toArray 9)) (.slice (some ⟨w.heap.size, 0, none⟩) l.length c) (l.map strV) := by
  refine ⟨_, _, by rw [List.length_map]; exact cap_eq _ hc, by unfold maxLen; simp; omega, Or.inr ⟨w.heap.size, 0, rfl, by simp, fun i hi => ?_⟩⟩
  rw [cell_of_row _ _ _ _ 9 (0, 0) (heap_alloc_new w _)]
  simp
theorem append_strsA {ops : Array Oper} {rest : List Oper} {o : Oper} {a : Act} {Q : Exit → Act → World → Prop} (hgd : o.guard = none) (s x : Operand)
    (ho : o.op = .call { callee := .builtin .append, args := #[s, x], argTypes := #[29, 29] }) (B : Nat) (v : Value) (xs : List (List UInt8)) (y : List UInt8) (w : World) (blk : Nat)
    (hs : a.eval s = v) (hO : Owns w B v xs) (hx : a.eval x = .slice (some ⟨blk, 0, none⟩) 1 1) (hc : w.cell? ⟨blk, 0, none⟩ = some (strV y)) (hl : xs.length ≤ 4194304) (hB : B ≤ w.heap.size)
    (h : ∀ v' w', Owns w' B v' (xs ++ [y]) → w.grownBy w' v.ownBlock → (v'.ownBlock = v.ownBlock ∨ v'.ownBlock = some w.heap.size) → wpList Try.prog ops Q rest (a.put o.dst v') w') : wpList Try.prog ops Q (o :: rest) a w := by
  obtain ⟨i0, hi, hz0, hz1, hz2⟩ := info_parts string_info
  refine wpList_append_own_at _ hgd s x 29 ho B 9 i0 (.string ⟨#[]⟩) 1 16 Try.underlying29 hi hz0 hz1 hz2 rfl (by decide) v xs.length (xs.map strV) hs hO ⟨blk, 0, none⟩ 1 1 [strV y] hx rfl ?_ ?_ (by unfold maxLen; omega) (by omega) hB ?_
  · intro j u hj
    cases j with
    | zero => simp at hj; subst hj; rw [Addr.add_lit]; exact hc
    | succ j => simp at hj
  · intro u hu; simp at hu; subst hu; rfl
  · intro v' w' h1 h2 _ h9
    refine h v' w' ?_ h2 h9
    unfold Owns; rw [List.map_append, List.length_append]; exact h1
end Go.Proofs.Yteeopjcbpngofaa
namespace Go.Proofs.Yteeopjcbpngofaa
set_option linter.unusedVariables false
set_option linter.unusedSimpArgs false
open Go.RowKit
theorem bel_drE {B : Nat} {a w : World} (h : Below B a w) : Below B a w.drew := ⟨h.os, h.tape, h.output, h.size, h.block⟩
theorem curS_same (xs : List (List UInt8)) (k : Nat) (h : k < xs.length) (e : dashS xs[k] = xs[k]) : curS xs (k + 1) = curS xs k := by
  rw [curS_next xs k h, curS_split xs k h, e]
set_option maxRecDepth 100000 in
set_option maxHeartbeats 3200000 in
theorem formatFailure_any (x : EndD) (w : World) (h0 : -9223372036854775808 ≤ x.fPlace) (h1 : x.fPlace ≤ 9223372036854775807) :
    Calls Try.prog 73 #[vEnd x] w fun e w' => e = .returned (.string ⟨(failT x).toArray⟩) ∧ Below w.heap.size w w' := by
  have HL := Lib.hid (failT_len x)
  obtain ⟨a0, a1, a2, a3⟩ := x
  simp only at h0 h1
  have HA := Lib.hid (fun W => implFormat_any a1 W h0 h1)
  have HC := Lib.hid (fun W => implFormatFace_any a2 W)
  have HD := Lib.hid (fun W => implFormatFace_any a3 W)
  have HF := Lib.hid (show failT ⟨a0, a1, a2, a3⟩ = joinL [[112, 108, 97, 99, 101], numL a1, [119, 97, 110, 116, 115], fmtF a2, [111, 102], fmtF a3] [32] from rfl)
  unfold vEnd
  simp only
  generalize failT ⟨a0, a1, a2, a3⟩ = tx at *
  generalize numL a1 = np at *
  generalize fmtF a2 = f2 at *
  generalize fmtF a3 = f3 at *
  have HJ := Lib.hid (fun (w0 : World) (n0 : Nat) (h : n0 = w0.heap.size) => (show Calls Try.prog 37 #[.slice (some ⟨n0, 0, none⟩) 6 6, .string ⟨#[32]⟩] (w0.alloc (.cells #[.string ⟨#[112, 108, 97, 99, 101]⟩, .string ⟨np.toArray⟩, .string ⟨#[119, 97, 110, 116, 115]⟩, .string ⟨f2.toArray⟩, .string ⟨#[111, 102]⟩, .string ⟨f3.toArray⟩] 9)) fun e w' => e = .returned (.string ⟨tx.toArray⟩) ∧ Below (w0.heap.size + 1) (w0.alloc (.cells #[.string ⟨#[112, 108, 97, 99, 101]⟩, .string ⟨np.toArray⟩, .string ⟨#[119, 97, 110, 116, 115]⟩, .string ⟨f2.toArray⟩, .string ⟨#[111, 102]⟩, .string ⟨f3.toArray⟩] 9)) w' from by
    have g := implJoin_any (.slice (some ⟨w0.heap.size, 0, none⟩) 6 6) [[112, 108, 97, 99, 101], np, [119, 97, 110, 116, 115], f2, [111, 102], f3] ⟨#[32]⟩ _ (litE w0 [[112, 108, 97, 99, 101], np, [119, 97, 110, 116, 115], f2, [111, 102], f3] 6 (by simp) (by simp)) (Nat.le_trans (by rw [← HF.out]; exact HL.out) (by decide)) (by decide)
    rw [← HF.out] at g
    subst h
    simpa [strV] using g))
  clear h0 h1 HF HL
  have BX := Lib.hid (Bx.new w [.int .i64 a0, .int .i64 a1, .int .i64 a2, .int .i64 a3] 38)
  have HB := Lib.hid (bx_box w (.cells #[.int .i64 a0, .int .i64 a1, .int .i64 a2, .int .i64 a3] 38))
  go_enter Try.func73, Try.ntmps73
  go_wp2_with fail
  have HS := Lib.hid (show w.heap.size < (w.alloc (.cells #[.int .i64 a0, .int .i64 a1, .int .i64 a2, .int .i64 a3] 38)).heap.size by simp)
  have e0 := BX.out.cell 0 (by simp)
  have e1 := BX.out.cell 1 (by simp)
  have e2 := BX.out.cell 2 (by simp)
  have e3 := BX.out.cell 3 (by simp)
  simp only [List.getElem_cons_zero, List.getElem_cons_succ] at e0 e1 e2 e3
  generalize w.alloc (.cells #[.int .i64 a0, .int .i64 a1, .int .i64 a2, .int .i64 a3] 38) = w1 at *
  clear e0
  go_region_held3 (fun w' => w'.cell? ⟨w.heap.size, 1, none⟩ = some (.int .i64 a1) ∧ w'.cell? ⟨w.heap.size, 2, none⟩ = some (.int .i64 a2) ∧ w'.cell? ⟨w.heap.size, 3, none⟩ = some (.int .i64 a3))
    (first
      | go_keep
      | (exact ⟨e1, e2, e3⟩)
      | (refine ⟨(hb1.cell (p := ⟨w.heap.size, 1, none⟩) (by have := HS.out; simp; omega)).trans e1, (hb1.cell (p := ⟨w.heap.size, 2, none⟩) (by have := HS.out; simp; omega)).trans e2, (hb1.cell (p := ⟨w.heap.size, 3, none⟩) (by have := HS.out; simp; omega)).trans e3⟩)
      | (refine ⟨(hb2.cell (p := ⟨w.heap.size, 1, none⟩) (by have := HS.out; have := hb1.size; simp at *; omega)).trans ?_, (hb2.cell (p := ⟨w.heap.size, 2, none⟩) (by have := HS.out; have := hb1.size; simp at *; omega)).trans ?_, (hb2.cell (p := ⟨w.heap.size, 3, none⟩) (by have := HS.out; have := hb1.size; simp at *; omega)).trans ?_⟩ <;> simp_all)
      | (refine ⟨(hb3.cell (p := ⟨w.heap.size, 1, none⟩) (by have := HS.out; have := hb1.size; have := hb2.size; simp at *; omega)).trans ?_, (hb3.cell (p := ⟨w.heap.size, 2, none⟩) (by have := HS.out; have := hb1.size; have := hb2.size; simp at *; omega)).trans ?_, (hb3.cell (p := ⟨w.heap.size, 3, none⟩) (by have := HS.out; have := hb1.size; have := hb2.size; simp at *; omega)).trans ?_⟩ <;> simp_all)
      | (refine ⟨(hb4.cell (p := ⟨w.heap.size, 1, none⟩) (by have := HS.out; have := hb1.size; have := hb2.size; have := hb3.size; simp at *; omega)).trans ?_, (hb4.cell (p := ⟨w.heap.size, 2, none⟩) (by have := HS.out; have := hb1.size; have := hb2.size; have := hb3.size; simp at *; omega)).trans ?_, (hb4.cell (p := ⟨w.heap.size, 3, none⟩) (by have := HS.out; have := hb1.size; have := hb2.size; have := hb3.size; simp at *; omega)).trans ?_⟩ <;> simp_all))
    (first
      | (go_at_call 74; (with_reducible refine (HA.out _).mono ?_); rintro e w2 ⟨rfl, hb1⟩)
      | (go_at_call 93; (with_reducible refine (HC.out _).mono ?_); rintro e w3 ⟨rfl, hb2⟩)
      | (go_at_call 93; (with_reducible refine (HD.out _).mono ?_); rintro e w4 ⟨rfl, hb3⟩)
      | (go_at_call 37; refine (HJ.out _ _ rfl).mono ?_; rintro e w5 ⟨rfl, hb4⟩))
  have HB1 := Lib.hid (bel_drE HB.out)
  have HB2 := Lib.hid (HB1.out.trans (hb1.mono HB1.out.size))
  have HB3 := Lib.hid (HB2.out.trans (hb2.mono HB2.out.size))
  have HB4 := Lib.hid (HB3.out.trans (hb3.mono HB3.out.size))
  have HB5 := Lib.hid (HB4.out.alloc HB4.out.size (.cells #[.string ⟨#[112, 108, 97, 99, 101]⟩, .string ⟨np.toArray⟩, .string ⟨#[119, 97, 110, 116, 115]⟩, .string ⟨f2.toArray⟩, .string ⟨#[111, 102]⟩, .string ⟨f3.toArray⟩] 9))
  have HB6 := Lib.hid (HB5.out.trans (hb4.mono (by have := HB4.out.size; omega)))
  rename_i hheld
  clear hb1 hb2 hb3 hb4 hheld
  go_wp2_with fail
  go_ret
  exact ⟨rfl, HB6.out⟩
set_option maxRecDepth 100000 in
set_option maxHeartbeats 3200000 in
theorem formatEnd_any (x : EndD) (w : World) (h0 : -9223372036854775808 ≤ x.fPlace) (h1 : x.fPlace ≤ 9223372036854775807) :
    Calls Try.prog 41 #[vEnd x] w fun e w' => e = .returned (.string ⟨(endT x).toArray⟩) ∧ Below w.heap.size w w' := by
  have HFL := Lib.hid (fun W => formatFailure_any x W h0 h1)
  have HEL := Lib.hid (emptyT_len x.fPlace)
  obtain ⟨a0, a1, a2, a3⟩ := x
  simp only at h0 h1 HEL
  have HA := Lib.hid (fun W => implFormat_any a1 W h0 h1)
  unfold endT vEnd at *
  simp only at *
  clear h0 h1
  have HB := Lib.hid (bx_box w (.cells #[.int .i64 a0, .int .i64 a1, .int .i64 a2, .int .i64 a3] 38))
  generalize failT ⟨a0, a1, a2, a3⟩ = ft at *
  rcases (show a0 = 1 ∨ a0 = 2 ∨ a0 = 3 ∨ (¬ a0 = 1 ∧ ¬ a0 = 2 ∧ ¬ a0 = 3) by omega) with rfl | rfl | rfl | ⟨n1, n2, n3⟩
  · simp only [if_true]
    go_enter Try.func41, Try.ntmps41
    go_wp2_with fail
    refine (HFL.out _).mono ?_
    rintro e w1 ⟨rfl, hb⟩
    have HB1 := Lib.hid (belS HB.out hb)
    clear hb
    go_wp2_with fail
    go_ret
    exact ⟨rfl, HB1.out⟩
  · rw [if_neg (by decide), if_pos rfl]
    have HJ := Lib.hid (fun (w0 : World) (n0 : Nat) (h : n0 = w0.heap.size) => (show Calls Try.prog 37 #[.slice (some ⟨n0, 0, none⟩) 3 3, .string ⟨#[32]⟩] (w0.alloc (.cells #[.string ⟨#[112, 108, 97, 99, 101]⟩, .string ⟨(numL a1).toArray⟩, .string ⟨#[101, 109, 112, 116, 121]⟩] 9)) fun e w' => e = .returned (.string ⟨(joinL [[112, 108, 97, 99, 101], numL a1, [101, 109, 112, 116, 121]] [32]).toArray⟩) ∧ Below (w0.heap.size + 1) (w0.alloc (.cells #[.string ⟨#[112, 108, 97, 99, 101]⟩, .string ⟨(numL a1).toArray⟩, .string ⟨#[101, 109, 112, 116, 121]⟩] 9)) w' from by
      have g := implJoin_any (.slice (some ⟨w0.heap.size, 0, none⟩) 3 3) [[112, 108, 97, 99, 101], numL a1, [101, 109, 112, 116, 121]] ⟨#[32]⟩ _ (litE w0 [[112, 108, 97, 99, 101], numL a1, [101, 109, 112, 116, 121]] 3 (by simp) (by simp)) (Nat.le_trans HEL.out (by decide)) (by decide)
      subst h
      simpa [strV] using g))
    generalize joinL [[112, 108, 97, 99, 101], numL a1, [101, 109, 112, 116, 121]] [32] = et at *
    go_enter Try.func41, Try.ntmps41
    go_wp2_with fail
    refine (HA.out _).mono ?_
    rintro e w1 ⟨rfl, hb⟩
    have HB1 := Lib.hid (belS HB.out hb)
    clear hb
    go_wp2_with fail
    refine (HJ.out _ _ rfl).mono ?_
    rintro e w2 ⟨rfl, hb⟩
    have HB2 := Lib.hid ((HB1.out.alloc HB1.out.size _).trans (hb.mono (by have := HB1.out.size; omega)))
    clear hb
    go_wp2_with fail
    go_ret
    exact ⟨rfl, HB2.out⟩
  · rw [if_neg (by decide), if_neg (by decide), if_pos rfl]
    go_enter Try.func41, Try.ntmps41
    go_wp2_with fail
    go_ret
    exact ⟨rfl, HB.out⟩
  · rw [if_neg n1, if_neg n2, if_neg n3]
    have k1 : (a0 == 1) = false := by simpa using n1
    have k2 : (a0 == 2) = false := by simpa using n2
    have k3 : (a0 == 3) = false := by simpa using n3
    clear n1 n2 n3
    go_enter Try.func41, Try.ntmps41
    go_wp2_with fail
    go_ret
    exact ⟨rfl, HB.out⟩
set_option maxRecDepth 100000 in
set_option maxHeartbeats 3200000 in
theorem implEndLine_any (x : EndD) (v : Value) (l : List SlotD) (w : World) (h0 : -9223372036854775808 ≤ x.fPlace) (h1 : x.fPlace ≤ 9223372036854775807) (hx : SliceAt rSlot 7 0 w v l) (hs : ∀ e ∈ l, zPart e.fPart ≤ 1048576) (hl6 : l.length ≤ 1048576) :
    Calls Try.prog 21 #[vEnd x, v] w fun e w' => e = .returned (.string ⟨(lineT x l).toArray⟩) ∧ Below w.heap.size w w' := by
  have HB0 := Lib.hid (bx_box w (.cells #[.int .i64 x.fCode, .int .i64 x.fPlace, .int .i64 x.fWant, .int .i64 x.fHad] 38))
  have HSP := Lib.hid (implShapes_any v l _ (hx.below goodSlot HB0.out (Nat.le_refl _)) hs hl6)
  have HFE := Lib.hid (fun W => formatEnd_any x W h0 h1)
  have HDL := Lib.hid (dashes_len hs hl6)
  have HTL := Lib.hid (endT_len x)
  have HLT := Lib.hid (show lineT x l = joinL [endT x, joinL ((l.map shapeS).map dashS) [44, 32]] [58, 32] from rfl)
  have HLQ := Lib.hid (lineT_eq x l)
  have HXL := Lib.hid (show (l.map shapeS).length ≤ 1048576 by rw [List.length_map]; exact hl6)
  obtain ⟨a0, a1, a2, a3⟩ := x
  simp only [vEnd] at *
  have BX := Lib.hid (Bx.new w [.int .i64 a0, .int .i64 a1, .int .i64 a2, .int .i64 a3] 38)
  clear h0 h1 hx hs hl6
  generalize endT ⟨a0, a1, a2, a3⟩ = et at *
  generalize lineT ⟨a0, a1, a2, a3⟩ l = lt at *
  generalize l.map shapeS = xs at *
  go_enter Try.func21, Try.ntmps21
  go_wp2_with fail
  refine HSP.out.mono ?_
  rintro e w1 ⟨u, rfl, hu, hb⟩
  have HB1 := Lib.hid (belS HB0.out hb)
  have BX1 := Lib.hid (BX.out.below hb)
  have HU := Lib.hid hu
  obtain ⟨au, cu, rfl, _⟩ := rowAt_len (owns_row hu (by have := HXL.out; omega))
  rw [List.length_map] at *
  have HBS := Lib.hid (show w.heap.size < w1.heap.size by have := hb.size; simp at this; omega)
  clear hu hb BX HB0
  go_wp2_with fail
  go_loopw [6, 7, 12] (fun _ _ i wr => ∃ k : Nat, k ≤ xs.length ∧ i = .int .i64 k ∧ Owns wr (w.heap.size + 1) (.slice au xs.length cu) (curS xs k) ∧ Below w.heap.size w wr ∧ Bx wr w.heap.size [.int .i64 a0, .int .i64 a1, .int .i64 a2, .int .i64 a3]) (fun _ _ i _ => xs.length - (intOf i).toNat)
  case atStart => exact ⟨0, Nat.zero_le _, rfl, by have h := HU.out; simp at h; exact h, HB1.out, BX1.out⟩
  case round =>
    obtain ⟨k, hk, rfl, hO, hbr, hbx⟩ := hrel
    have HO := Lib.hid hO
    have HBr := Lib.hid hbr
    have BXr := Lib.hid hbx
    have HXX := HXL.out
    clear hO hbr hbx
    by_cases hlt : k < xs.length
    · have hcl := curS_len xs k
      obtain ⟨b, o, rfl, hbw, d1⟩ := rowAt_cell (owns_row HO.out (by omega)) k (by rw [List.length_map]; omega)
      rw [getElem_map_strV, curS_get xs k hlt] at d1
      unfold strV at d1
      have HST := Lib.hid (curS_set xs k hlt)
      have HSM0 := Lib.hid (curS_same xs k hlt)
      obtain ⟨g, cap, hv, hg1, hg2⟩ := World.ownsRow.form HO.out (by omega)
      obtain ⟨rfl, rfl⟩ : b = g ∧ o = 0 := by simp only [Value.slice.injEq, Option.some.injEq, Addr.mk.injEq, and_true] at hv; exact hv.1
      clear hv
      have HOW : World.ownsRow wr (w.heap.size + 1) 9 1 (.slice (some ⟨b, 0, none⟩) xs.length cu) xs.length ((curS xs k).map strV) := by have h := HO.out; unfold Owns at h; rwa [hcl] at h
      have f1 := World.ownsRow.frozenAt HOW k
      have HSE := Lib.hid (World.ownsRow.stored HOW k (.string ⟨#[45]⟩))
      have hbb : w.heap.size + 1 ≤ b := (World.ownsRow.lt HOW b rfl).1
      clear HOW hcl
      have hkl : (k : Int) < (xs.length : Int) := by omega
      rw [Nat.zero_add] at d1
      generalize xs[k] = s at *
      cases s with
      | nil =>
        rw [dashS_nil] at HST
        go_wp2_with fail
        refine ⟨⟨k + 1, by omega, by go_num, ?_, ?_, ?_⟩, by simp [intOf]; omega⟩
        · rw [HST.out]
          have h := HSE.out.1
          unfold Owns
          rw [List.map_set, List.length_set, curS_len]
          exact h
        · exact HBr.out.setCell (by show w.heap.size ≤ b; omega) _
        · exact BXr.out.other (by omega) _ _
      | cons c r =>
        have HSM := Lib.hid (HSM0.out (dashS_cons c r))
        go_wp2_with fail
        exact ⟨⟨k + 1, by omega, by go_num, by rw [HSM.out]; exact HO.out, HBr.out, BXr.out⟩, by simp [intOf]; omega⟩
    · have HOl := Lib.hid (show Owns wr (w.heap.size + 1) (.slice au xs.length cu) (xs.map dashS) by have h := HO.out; rwa [curS_end xs k (by omega)] at h)
      have hkl : ¬ (k : Int) < (xs.length : Int) := by omega
      have HJ1 := Lib.hid (fun v W (h : RowAt W v ((xs.map dashS).map strV)) => (show Calls Try.prog 37 #[v, .string ⟨#[44, 32]⟩] W fun e w' => e = .returned (.string ⟨(joinL (xs.map dashS) [44, 32]).toArray⟩) ∧ Below W.heap.size W w' from implJoin_any v (xs.map dashS) ⟨#[44, 32]⟩ W h (Nat.le_trans HDL.out (by decide)) (by decide)))
      have HJ2 := Lib.hid (fun (w0 : World) (n0 : Nat) (h : n0 = w0.heap.size) => (show Calls Try.prog 37 #[.slice (some ⟨n0, 0, none⟩) 2 2, .string ⟨#[58, 32]⟩] (w0.alloc (.cells #[.string ⟨et.toArray⟩, .string ⟨(joinL (xs.map dashS) [44, 32]).toArray⟩] 9)) fun e w' => e = .returned (.string ⟨lt.toArray⟩) ∧ Below (w0.heap.size + 1) (w0.alloc (.cells #[.string ⟨et.toArray⟩, .string ⟨(joinL (xs.map dashS) [44, 32]).toArray⟩] 9)) w' from by
        have g := implJoin_any (.slice (some ⟨w0.heap.size, 0, none⟩) 2 2) [et, joinL (xs.map dashS) [44, 32]] ⟨#[58, 32]⟩ _ (litE w0 [et, joinL (xs.map dashS) [44, 32]] 2 (by simp) (by simp)) (by
          have h1 := HDL.out
          have h2 := HTL.out
          rw [show (⟨#[58, 32]⟩ : ByteArray).data.toList = [58, 32] from rfl, ← HLT.out, HLQ.out]
          simp only [List.length_append, List.length_cons, List.length_nil]; omega) (by decide)
        rw [show (⟨#[58, 32]⟩ : ByteArray).data.toList = [58, 32] from rfl, ← HLT.out] at g
        subst h
        simpa [strV] using g))
      generalize joinL (xs.map dashS) [44, 32] = jn at *
      have e0 := BXr.out.cell 0 (by simp)
      have e1 := BXr.out.cell 1 (by simp)
      have e2 := BXr.out.cell 2 (by simp)
      have e3 := BXr.out.cell 3 (by simp)
      simp only [List.getElem_cons_zero, List.getElem_cons_succ] at e0 e1 e2 e3
      have HOR := Lib.hid (owns_row HOl.out (by rw [List.length_map]; omega))
      go_wp2_with fail
      refine (HFE.out _).mono ?_
      rintro e w3 ⟨rfl, hb⟩
      have HB3 := Lib.hid (belS HBr.out hb)
      have HO3 := Lib.hid (RowAt.below HOR.out hb (Nat.le_refl _))
      clear hb e0 e1 e2 e3
      go_wp2_with fail
      refine (HJ1.out _ _ HO3.out).mono ?_
      rintro e w4 ⟨rfl, hb⟩
      have HB4 := Lib.hid (belS HB3.out hb)
      clear hb
      go_wp2_with fail
      refine (HJ2.out _ _ rfl).mono ?_
      rintro e w5 ⟨rfl, hb⟩
      have HB5 := Lib.hid ((HB4.out.alloc HB4.out.size _).trans (hb.mono (by have := HB4.out.size; omega)))
      clear hb
      go_wp2_with fail
      go_ret
      exact ⟨rfl, HB5.out⟩
end Go.Proofs.Yteeopjcbpngofaa
