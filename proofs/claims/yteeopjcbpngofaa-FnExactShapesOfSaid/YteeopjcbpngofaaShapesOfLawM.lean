/- FnExactShapesOf: at every list of slots the program's ShapesOf answers as the model's, writes into nothing that came in, and its answer owns its memory (lists of more than 2^20 slots, cells, layers and signs together are not asked). No condition. -/
import Derived.Test.YteeopjcbpngofaaEndLineLawM1
import Derived.Test.YteeopjcbpngofaaEndLineLawM0
import Derived.Deep.Slices
/- Parts of one's own: how a law makes them, keeps them beside marks, marks them. Written by gen/ch4om.py. -/
namespace Go.Proofs.Yteeopjcbpngofaa
set_option linter.unusedVariables false
set_option linter.unusedSimpArgs false
open Go.RowKit
/-- a row of one's own in blocks from F on, said as a reading is -/
structure OSl {α : Type} (f : α → List Value) (E k F : Nat) (w : World) (v : Value) (l : List α) : Prop where
  own : OwnsF f E k w F v l
theorem ownsF_kept {α : Type} {f : α → List Value} {E k : Nat} {w w' : World} {F : Nat} {v : Value} {l : List α} (h : OwnsF f E k w F v l) (hk : Kept F w w') : OwnsF f E k w' F v l := by
  refine ⟨h.1, ?_⟩
  rcases h.2 with h1 | ⟨g, cap, cur, rfl, h2, h3, h4⟩
  · exact Or.inl h1
  · exact Or.inr ⟨g, cap, cur, rfl, h2, (hk.block g h2 (Array.getElem?_eq_some_iff.1 h3).1).trans h3, h4⟩
theorem OSl.keep {α : Type} {f : α → List Value} {E k F m : Nat} {w w' : World} {v : Value} {l : List α} {R : Nat → World → List Value → α → Prop} (h : OSl f E k F w v l) (g : Good R m) (hk : Kept F w w') : OSl f E k F w' v l := ⟨ownsF_kept h.own hk⟩
theorem OSl.below {α : Type} {f : α → List Value} {E k F B m : Nat} {w w' : World} {v : Value} {l : List α} {R : Nat → World → List Value → α → Prop} (h : OSl f E k F w v l) (g : Good R m) (hb : Below B w w') (hB : w.heap.size ≤ B) : OSl f E k F w' v l := ⟨ownsF_below h.own hb hB⟩
theorem OSl.mono {α : Type} {f : α → List Value} {E k F F' m : Nat} {w : World} {v : Value} {l : List α} {R : Nat → World → List Value → α → Prop} (h : OSl f E k F w v l) (g : Good R m) (hF : F' ≤ F) : OSl f E k F' w v l := ⟨ownsF_base h.own hF⟩
theorem toCore_o (v : Value) (x : CoreD) (w : World) (hx : ValAt rCore 0 w v x) (hm : zCore x ≤ 2097152) : Calls Try.prog 89 #[v] w fun e w' => ∃ cs : List Value, e = .returned (.agg cs.toArray) ∧ (∃ v3, cs = [.string ⟨x.fKind.toArray⟩, .bool x.fOn, .bool x.fBroken, v3, .int .i64 x.fCount] ∧ OSl cCell 107 2 w.heap.size w' v3 x.fCells) ∧ Below w.heap.size w w' := by
  obtain ⟨cs, rfl, v3, rfl, h3⟩ := hx
  refine (toCore_any _ x w ⟨v3, rfl, flatAt_of_slice cCell_len (by decide) h3⟩ (by unfold zCore at hm; omega)).mono ?_
  rintro e w' ⟨v, rfl, ⟨cv, rfl, ho⟩, hb⟩
  exact ⟨_, rfl, ⟨cv, rfl, ⟨ho⟩⟩, hb⟩
theorem toLayerS_o (v : Value) (x : List LayerD) (w : World) (hx : SliceAt (rFlat cLayer) 2 0 w v x) (hm : x.length + sumF zLayer x ≤ 2097152) : Calls Try.prog 90 #[v] w fun e w' => ∃ u, e = .returned u ∧ OSl cLayer 109 2 w.heap.size w' u x ∧ Below w.heap.size w w' :=
  (toLayerS_any v x w (flatAt_of_slice cLayer_len (by decide) hx) (by omega)).mono fun e w' h => by
    obtain ⟨h1, h2, h3⟩ := h; exact ⟨_, h1, ⟨h2⟩, h3⟩
set_option maxRecDepth 100000 in
set_option maxHeartbeats 1600000 in
theorem toPart_o (v : Value) (x : PartD) (w : World) (hx : ValAt rPart 0 w v x) (hm : zPart x ≤ 2097152) : Calls Try.prog 66 #[v] w fun e w' => GivesOP x w e w' := by
  obtain ⟨_, rfl, hx⟩ := hx
  obtain ⟨⟨a0_0, a0_1, a0_2, a0_3, a0_4⟩, a1⟩ := x
  obtain ⟨v3, v5, rfl, h3, h5⟩ := hx
  simp only at h3 h5
  simp only [zPart, zCore] at hm
  have HM := Lib.hid hm
  obtain ⟨ra3, rc3, rfl, _⟩ := sliceAt_len h3
  obtain ⟨ra5, rc5, rfl, _⟩ := sliceAt_len h5
  have H3 := Lib.hid h3
  have H5 := Lib.hid h5
  clear hm h3 h5
  have HS := Lib.hid (bx_start3 w [.string ⟨a0_0.toArray⟩, .bool a0_1, .bool a0_2, .slice ra3 a0_3.length rc3, .int .i64 a0_4, .slice ra5 a1.length rc5] [.string ⟨#[]⟩, .bool false, .bool false, .slice none 0 0, .int .i64 0, .slice none 0 0] [.string ⟨#[]⟩, .bool false, .bool false, .slice none 0 0, .int .i64 0, .slice none 0 0] 73 61 61)
  have BA := Lib.hid HS.out.1
  have BB := Lib.hid HS.out.2.1
  have BC := Lib.hid HS.out.2.2.1
  have HB := Lib.hid HS.out.2.2.2
  clear HS
  go_enter Try.func66, Try.ntmps66
  go_wp2_with fail
  generalize ((w.alloc (.cells #[.string ⟨a0_0.toArray⟩, .bool a0_1, .bool a0_2, .slice ra3 a0_3.length rc3, .int .i64 a0_4, .slice ra5 a1.length rc5] 73)).alloc (.cells #[.string ⟨#[]⟩, .bool false, .bool false, .slice none 0 0, .int .i64 0, .slice none 0 0] 61)).alloc (.cells #[.string ⟨#[]⟩, .bool false, .bool false, .slice none 0 0, .int .i64 0, .slice none 0 0] 61) = X1 at *
  refine (toCore_o _ (⟨a0_0, a0_1, a0_2, a0_3, a0_4⟩ : CoreD) _ ⟨_, rfl, _, rfl, (H3.out.below (good_flat cCell_len) HB.out (Nat.le_refl _))⟩ (by simp only [zCore]; have := HM.out; omega)).mono ?_
  rintro e w1 ⟨_, rfl, ⟨u3, rfl, hr3⟩, hb⟩
  have hX : w.heap.size + 3 ≤ X1.heap.size := by have := BC.out.lt; omega
  simp only at hr3
  have R3 := Lib.hid (hr3.mono (good_flat cCell_len) hX)
  obtain ⟨p3, q3, rfl⟩ := slice_of (OSl.own hr3)
  clear hr3
  have BA := Lib.hid (BA.out.below hb)
  have BB := Lib.hid (BB.out.below hb)
  have BC := Lib.hid (BC.out.below hb)
  have HB := Lib.hid (belS (w := w) HB.out hb)
  clear hb hX
  have eA0 := BA.out.cell 0 (by simp)
  have eA1 := BA.out.cell 1 (by simp)
  have eA2 := BA.out.cell 2 (by simp)
  have eA3 := BA.out.cell 3 (by simp)
  have eA4 := BA.out.cell 4 (by simp)
  have eA5 := BA.out.cell 5 (by simp)
  simp only [List.getElem_cons_zero, List.getElem_cons_succ, List.set_cons_zero, List.set_cons_succ] at eA0 eA1 eA2 eA3 eA4 eA5
  have eC0 := BC.out.cell 0 (by simp)
  have fC0 := BC.out.froz 0 (by simp)
  have eC1 := BC.out.cell 1 (by simp)
  have fC1 := BC.out.froz 1 (by simp)
  have eC2 := BC.out.cell 2 (by simp)
  have fC2 := BC.out.froz 2 (by simp)
  have eC3 := BC.out.cell 3 (by simp)
  have fC3 := BC.out.froz 3 (by simp)
  have eC4 := BC.out.cell 4 (by simp)
  have fC4 := BC.out.froz 4 (by simp)
  have eC5 := BC.out.cell 5 (by simp)
  have fC5 := BC.out.froz 5 (by simp)
  simp only [List.getElem_cons_zero, List.getElem_cons_succ, List.set_cons_zero, List.set_cons_succ] at eC0 eC1 eC2 eC3 eC4 eC5
  go_wp2_with fail
  clear eA0 eA1 eA2 eA3 eA4 eA5
  clear eC0 fC0 eC1 fC1 eC2 fC2 eC3 fC3 eC4 fC4 eC5 fC5
  have BC := Lib.hid (BC.out.set 0 (by simp) (.string ⟨a0_0.toArray⟩))
  have BA := Lib.hid (BA.out.other (c := w.heap.size + 1 + 1) (by omega) 0 (.string ⟨a0_0.toArray⟩))
  have BB := Lib.hid (BB.out.other (c := w.heap.size + 1 + 1) (by omega) 0 (.string ⟨a0_0.toArray⟩))
  have HB := Lib.hid (HB.out.setCell (p := ⟨w.heap.size + 1 + 1, 0, none⟩) (by simp; try omega) (.string ⟨a0_0.toArray⟩))
  have BC := Lib.hid (BC.out.set 1 (by simp) (.bool a0_1))
  have BA := Lib.hid (BA.out.other (c := w.heap.size + 1 + 1) (by omega) 1 (.bool a0_1))
  have BB := Lib.hid (BB.out.other (c := w.heap.size + 1 + 1) (by omega) 1 (.bool a0_1))
  have HB := Lib.hid (HB.out.setCell (p := ⟨w.heap.size + 1 + 1, 1, none⟩) (by simp; try omega) (.bool a0_1))
  have BC := Lib.hid (BC.out.set 2 (by simp) (.bool a0_2))
  have BA := Lib.hid (BA.out.other (c := w.heap.size + 1 + 1) (by omega) 2 (.bool a0_2))
  have BB := Lib.hid (BB.out.other (c := w.heap.size + 1 + 1) (by omega) 2 (.bool a0_2))
  have HB := Lib.hid (HB.out.setCell (p := ⟨w.heap.size + 1 + 1, 2, none⟩) (by simp; try omega) (.bool a0_2))
  have BC := Lib.hid (BC.out.set 3 (by simp) (.slice p3 a0_3.length q3))
  have BA := Lib.hid (BA.out.other (c := w.heap.size + 1 + 1) (by omega) 3 (.slice p3 a0_3.length q3))
  have BB := Lib.hid (BB.out.other (c := w.heap.size + 1 + 1) (by omega) 3 (.slice p3 a0_3.length q3))
  have HB := Lib.hid (HB.out.setCell (p := ⟨w.heap.size + 1 + 1, 3, none⟩) (by simp; try omega) (.slice p3 a0_3.length q3))
  have BC := Lib.hid (BC.out.set 4 (by simp) (.int .i64 a0_4))
  have BA := Lib.hid (BA.out.other (c := w.heap.size + 1 + 1) (by omega) 4 (.int .i64 a0_4))
  have BB := Lib.hid (BB.out.other (c := w.heap.size + 1 + 1) (by omega) 4 (.int .i64 a0_4))
  have HB := Lib.hid (HB.out.setCell (p := ⟨w.heap.size + 1 + 1, 4, none⟩) (by simp; try omega) (.int .i64 a0_4))
  have R3 := Lib.hid (R3.out.keep (good_flat cCell_len) ((((((Kept.refl _ _).setCell (p := ⟨w.heap.size + 1 + 1, 0, none⟩) (by simp) (.string ⟨a0_0.toArray⟩)).setCell (p := ⟨w.heap.size + 1 + 1, 1, none⟩) (by simp) (.bool a0_1)).setCell (p := ⟨w.heap.size + 1 + 1, 2, none⟩) (by simp) (.bool a0_2)).setCell (p := ⟨w.heap.size + 1 + 1, 3, none⟩) (by simp) (.slice p3 a0_3.length q3)).setCell (p := ⟨w.heap.size + 1 + 1, 4, none⟩) (by simp) (.int .i64 a0_4)))
  simp only [List.set_cons_zero, List.set_cons_succ] at BC
  generalize (((((w1).setCell ⟨w.heap.size + 1 + 1, 0, none⟩ (.string ⟨a0_0.toArray⟩)).setCell ⟨w.heap.size + 1 + 1, 1, none⟩ (.bool a0_1)).setCell ⟨w.heap.size + 1 + 1, 2, none⟩ (.bool a0_2)).setCell ⟨w.heap.size + 1 + 1, 3, none⟩ (.slice p3 a0_3.length q3)).setCell ⟨w.heap.size + 1 + 1, 4, none⟩ (.int .i64 a0_4) = X2 at *
  refine (toLayerS_o _ a1 _ (H5.out.below (good_flat cLayer_len) HB.out (Nat.le_refl _)) (by have := HM.out; omega)).mono ?_
  rintro e w2 ⟨u5, rfl, hr5, hb⟩
  have hX : w.heap.size + 3 ≤ X2.heap.size := by have := BC.out.lt; omega
  have R3 := Lib.hid (R3.out.keep (good_flat cCell_len) (kept_below hb (Nat.le_refl _)))
  have R5 := Lib.hid (hr5.mono (good_flat cLayer_len) hX)
  obtain ⟨p5, q5, rfl⟩ := slice_of (OSl.own hr5)
  clear hr5
  have BA := Lib.hid (BA.out.below hb)
  have BB := Lib.hid (BB.out.below hb)
  have BC := Lib.hid (BC.out.below hb)
  have HB := Lib.hid (belS (w := w) HB.out hb)
  clear hb hX
  have eA0 := BA.out.cell 0 (by simp)
  have eA1 := BA.out.cell 1 (by simp)
  have eA2 := BA.out.cell 2 (by simp)
  have eA3 := BA.out.cell 3 (by simp)
  have eA4 := BA.out.cell 4 (by simp)
  have eA5 := BA.out.cell 5 (by simp)
  simp only [List.getElem_cons_zero, List.getElem_cons_succ, List.set_cons_zero, List.set_cons_succ] at eA0 eA1 eA2 eA3 eA4 eA5
  have eC0 := BC.out.cell 0 (by simp)
  have fC0 := BC.out.froz 0 (by simp)
  have eC1 := BC.out.cell 1 (by simp)
  have fC1 := BC.out.froz 1 (by simp)
  have eC2 := BC.out.cell 2 (by simp)
  have fC2 := BC.out.froz 2 (by simp)
  have eC3 := BC.out.cell 3 (by simp)
  have fC3 := BC.out.froz 3 (by simp)
  have eC4 := BC.out.cell 4 (by simp)
  have fC4 := BC.out.froz 4 (by simp)
  have eC5 := BC.out.cell 5 (by simp)
  have fC5 := BC.out.froz 5 (by simp)
  simp only [List.getElem_cons_zero, List.getElem_cons_succ, List.set_cons_zero, List.set_cons_succ] at eC0 eC1 eC2 eC3 eC4 eC5
  have eB0 := BB.out.cell 0 (by simp)
  have fB0 := BB.out.froz 0 (by simp)
  have eB1 := BB.out.cell 1 (by simp)
  have fB1 := BB.out.froz 1 (by simp)
  have eB2 := BB.out.cell 2 (by simp)
  have fB2 := BB.out.froz 2 (by simp)
  have eB3 := BB.out.cell 3 (by simp)
  have fB3 := BB.out.froz 3 (by simp)
  have eB4 := BB.out.cell 4 (by simp)
  have fB4 := BB.out.froz 4 (by simp)
  have eB5 := BB.out.cell 5 (by simp)
  have fB5 := BB.out.froz 5 (by simp)
  simp only [List.getElem_cons_zero, List.getElem_cons_succ, List.set_cons_zero, List.set_cons_succ] at eB0 eB1 eB2 eB3 eB4 eB5
  go_wp2_with fail
  clear eA0 eA1 eA2 eA3 eA4 eA5
  clear eC0 fC0 eC1 fC1 eC2 fC2 eC3 fC3 eC4 fC4 eC5 fC5
  clear eB0 fB0 eB1 fB1 eB2 fB2 eB3 fB3 eB4 fB4 eB5 fB5
  have BC := Lib.hid (BC.out.set 5 (by simp) (.slice p5 a1.length q5))
  have BA := Lib.hid (BA.out.other (c := w.heap.size + 1 + 1) (by omega) 5 (.slice p5 a1.length q5))
  have BB := Lib.hid (BB.out.other (c := w.heap.size + 1 + 1) (by omega) 5 (.slice p5 a1.length q5))
  have HB := Lib.hid (HB.out.setCell (p := ⟨w.heap.size + 1 + 1, 5, none⟩) (by simp; try omega) (.slice p5 a1.length q5))
  have R3 := Lib.hid (R3.out.keep (good_flat cCell_len) ((Kept.refl _ _).setCell (p := ⟨w.heap.size + 1 + 1, 5, none⟩) (by simp) (.slice p5 a1.length q5)))
  have R5 := Lib.hid (R5.out.keep (good_flat cLayer_len) ((Kept.refl _ _).setCell (p := ⟨w.heap.size + 1 + 1, 5, none⟩) (by simp) (.slice p5 a1.length q5)))
  simp only [List.set_cons_zero, List.set_cons_succ] at BC
  have BB := Lib.hid (BB.out.set 0 (by simp) (.string ⟨a0_0.toArray⟩))
  have HB := Lib.hid (HB.out.setCell (p := ⟨w.heap.size + 1, 0, none⟩) (by simp; try omega) (.string ⟨a0_0.toArray⟩))
  have BB := Lib.hid (BB.out.set 1 (by simp) (.bool a0_1))
  have HB := Lib.hid (HB.out.setCell (p := ⟨w.heap.size + 1, 1, none⟩) (by simp; try omega) (.bool a0_1))
  have BB := Lib.hid (BB.out.set 2 (by simp) (.bool a0_2))
  have HB := Lib.hid (HB.out.setCell (p := ⟨w.heap.size + 1, 2, none⟩) (by simp; try omega) (.bool a0_2))
  have BB := Lib.hid (BB.out.set 3 (by simp) (.slice p3 a0_3.length q3))
  have HB := Lib.hid (HB.out.setCell (p := ⟨w.heap.size + 1, 3, none⟩) (by simp; try omega) (.slice p3 a0_3.length q3))
  have BB := Lib.hid (BB.out.set 4 (by simp) (.int .i64 a0_4))
  have HB := Lib.hid (HB.out.setCell (p := ⟨w.heap.size + 1, 4, none⟩) (by simp; try omega) (.int .i64 a0_4))
  have BB := Lib.hid (BB.out.set 5 (by simp) (.slice p5 a1.length q5))
  have HB := Lib.hid (HB.out.setCell (p := ⟨w.heap.size + 1, 5, none⟩) (by simp; try omega) (.slice p5 a1.length q5))
  have R3 := Lib.hid ((R3.out.keep (good_flat cCell_len) (((((((Kept.refl _ _).setCell (p := ⟨w.heap.size + 1, 0, none⟩) (by simp) (.string ⟨a0_0.toArray⟩)).setCell (p := ⟨w.heap.size + 1, 1, none⟩) (by simp) (.bool a0_1)).setCell (p := ⟨w.heap.size + 1, 2, none⟩) (by simp) (.bool a0_2)).setCell (p := ⟨w.heap.size + 1, 3, none⟩) (by simp) (.slice p3 a0_3.length q3)).setCell (p := ⟨w.heap.size + 1, 4, none⟩) (by simp) (.int .i64 a0_4)).setCell (p := ⟨w.heap.size + 1, 5, none⟩) (by simp) (.slice p5 a1.length q5))).mono (good_flat cCell_len) (show w.heap.size ≤ w.heap.size + 3 by omega))
  have R5 := Lib.hid ((R5.out.keep (good_flat cLayer_len) (((((((Kept.refl _ _).setCell (p := ⟨w.heap.size + 1, 0, none⟩) (by simp) (.string ⟨a0_0.toArray⟩)).setCell (p := ⟨w.heap.size + 1, 1, none⟩) (by simp) (.bool a0_1)).setCell (p := ⟨w.heap.size + 1, 2, none⟩) (by simp) (.bool a0_2)).setCell (p := ⟨w.heap.size + 1, 3, none⟩) (by simp) (.slice p3 a0_3.length q3)).setCell (p := ⟨w.heap.size + 1, 4, none⟩) (by simp) (.int .i64 a0_4)).setCell (p := ⟨w.heap.size + 1, 5, none⟩) (by simp) (.slice p5 a1.length q5))).mono (good_flat cLayer_len) (show w.heap.size ≤ w.heap.size + 3 by omega))
  simp only [List.set_cons_zero, List.set_cons_succ] at BB
  generalize (((((((w2).setCell ⟨w.heap.size + 1 + 1, 5, none⟩ (.slice p5 a1.length q5)).setCell ⟨w.heap.size + 1, 0, none⟩ (.string ⟨a0_0.toArray⟩)).setCell ⟨w.heap.size + 1, 1, none⟩ (.bool a0_1)).setCell ⟨w.heap.size + 1, 2, none⟩ (.bool a0_2)).setCell ⟨w.heap.size + 1, 3, none⟩ (.slice p3 a0_3.length q3)).setCell ⟨w.heap.size + 1, 4, none⟩ (.int .i64 a0_4)).setCell ⟨w.heap.size + 1, 5, none⟩ (.slice p5 a1.length q5) = WE at *
  have eB0 := BB.out.cell 0 (by simp)
  have eB1 := BB.out.cell 1 (by simp)
  have eB2 := BB.out.cell 2 (by simp)
  have eB3 := BB.out.cell 3 (by simp)
  have eB4 := BB.out.cell 4 (by simp)
  have eB5 := BB.out.cell 5 (by simp)
  simp only [List.getElem_cons_zero, List.getElem_cons_succ, List.set_cons_zero, List.set_cons_succ] at eB0 eB1 eB2 eB3 eB4 eB5
  exact bodyPost_ret (v := .agg #[.string ⟨a0_0.toArray⟩, .bool a0_1, .bool a0_2, .slice p3 a0_3.length q3, .int .i64 a0_4, .slice p5 a1.length q5]) (by simp [results, Try.results66, go_sem, eB0, eB1, eB2, eB3, eB4, eB5]) rfl ⟨_, rfl, ⟨_, _, rfl, ownsF_base (OSl.own R3.out) (by omega), ownsF_base (OSl.own R5.out) (by omega)⟩, HB.out⟩
/-- a part of one's own, in the blocks from lo on and below hi -/
def OwnP (w : World) (lo hi : Nat) (cs : List Value) (x : PartD) : Prop := ∃ v3 v5, cs = [.string ⟨x.fCore.fKind.toArray⟩, .bool x.fCore.fOn, .bool x.fCore.fBroken, v3, .int .i64 x.fCore.fCount, v5] ∧ OwnR cCell 107 2 w lo hi v3 x.fCore.fCells ∧ OwnR cLayer 109 2 w lo hi v5 x.fLayers
theorem ownP_of {w : World} {lo : Nat} {cs : List Value} {x : PartD} (h : oPart w lo cs x) : OwnP w lo w.heap.size cs x := by
  obtain ⟨v3, v5, rfl, h3, h5⟩ := h; exact ⟨v3, v5, rfl, ownR_of h3, ownR_of h5⟩
theorem ownP_below {w w' : World} {lo hi B' : Nat} {cs : List Value} {x : PartD} (h : OwnP w lo hi cs x) (hb : Below B' w w') (hB : w.heap.size ≤ B') : OwnP w' lo hi cs x := by
  obtain ⟨v3, v5, rfl, h3, h5⟩ := h; exact ⟨v3, v5, rfl, ownR_below h3 hb hB, ownR_below h5 hb hB⟩
theorem ownP_betw {w w' : World} {lo hi lo2 hi2 : Nat} {cs : List Value} {x : PartD} (h : OwnP w lo hi cs x) (hb : Betw lo2 hi2 w w') (hd : hi ≤ lo2 ∨ hi2 ≤ lo) : OwnP w' lo hi cs x := by
  obtain ⟨v3, v5, rfl, h3, h5⟩ := h; exact ⟨v3, v5, rfl, ownR_betw h3 hb hd, ownR_betw h5 hb hd⟩
theorem ownP_at {w : World} {lo hi : Nat} {cs : List Value} {x : PartD} (h : OwnP w lo hi cs x) (h1 : x.fCore.fCells.length ≤ 4194304) (h2 : x.fLayers.length ≤ 4194304) : rPart 0 w cs x := by
  obtain ⟨v3, v5, rfl, h3, h5⟩ := h
  exact ⟨v3, v5, rfl, (sliceAt_of_owns cCell_len h3.1 h1).mono (good_flat cCell_len) (Nat.zero_le _), (sliceAt_of_owns cLayer_len h5.1 h2).mono (good_flat cLayer_len) (Nat.zero_le _)⟩
/-- what marks make of a part -/
def marksP (k : Int) (x : PartD) : PartD := ⟨{ x.fCore with fCells := marksCell k x.fCore.fCells.length }, marksLayer (k + x.fCore.fCells.length * 2) x.fLayers.length⟩
def countP (x : PartD) : Int := x.fCore.fCells.length * 2 + x.fLayers.length * 2
end Go.Proofs.Yteeopjcbpngofaa
/- Marks of a part, and what holds them. -/
namespace Go.Proofs.Yteeopjcbpngofaa
set_option linter.unusedVariables false
set_option linter.unusedSimpArgs false
open Go.RowKit
theorem betw_grown {lo hi : Nat} {w w' : World} {r : Option Nat} (h : w.grownBy w' r) (hr : ∀ g, r = some g → lo ≤ g ∧ g < hi) : Betw lo hi w w' :=
  ⟨h.os, h.tape, h.output, h.size, fun k hk hd => h.block k hk (fun e => by have := hr k e.symm; omega)⟩
theorem betw_trans {lo hi : Nat} {a b c : World} (h : Betw lo hi a b) (k : Betw lo hi b c) : Betw lo hi a c :=
  ⟨k.os.trans h.os, k.tape.trans h.tape, k.output.trans h.output, Nat.le_trans h.size k.size, fun i hi hd => (k.block i (Nat.lt_of_lt_of_le hi h.size) hd).trans (h.block i hi hd)⟩
theorem betw_alloc {lo hi : Nat} (w : World) (o : Obj) : Betw lo hi w (w.alloc o) := ⟨(bx_box w o).os, (bx_box w o).tape, (bx_box w o).output, (bx_box w o).size, fun k hk _ => (bx_box w o).block k hk⟩
theorem ownR_mk {α : Type} {f : α → List Value} {E k : Nat} {w : World} {lo hi : Nat} {v : Value} {l : List α} (h : OwnsF f E k w lo v l) (h2 : ∀ g, v.ownBlock = some g → g < hi) : OwnR f E k w lo hi v l := ⟨h, h2⟩
theorem own_loP {w : World} {B : Nat} {cs : List Value} {x : PartD} (ho : oPart w B cs x) : ∃ L, L = B ∧ oPart w L cs x := ⟨B, rfl, ho⟩
theorem oPart_0 {w : World} {B : Nat} {cs : List Value} {x : PartD} (h : oPart w B cs x) (hs : SmallP x) : rPart 0 w cs x := goodPart.mono (oPart_r h hs) (Nat.zero_le _)
end Go.Proofs.Yteeopjcbpngofaa
/- Lists of slots of one's own: how a law makes them, keeps them, marks them. Written by gen/ch8o.py. -/
namespace Go.Proofs.Yteeopjcbpngofaa
set_option linter.unusedVariables false
set_option linter.unusedSimpArgs false
open Go.RowKit
def rSltO : Nat → World → List Value → SlotD → Prop := fun F w cs x => ∃ v4 v6, cs = [.bool x.fFull, .string ⟨x.fPart.fCore.fKind.toArray⟩, .bool x.fPart.fCore.fOn, .bool x.fPart.fCore.fBroken, v4, .int .i64 x.fPart.fCore.fCount, v6] ∧ OwnsF cCell 107 2 w F v4 x.fPart.fCore.fCells ∧ OwnsF cLayer 109 2 w F v6 x.fPart.fLayers
theorem goodSltO : Good rSltO 7 := by
  refine ⟨?_, ?_, ?_⟩
  · rintro F w cs x ⟨v1, v4, rfl, h1, h4⟩; rfl
  · rintro F w w' cs x ⟨v1, v4, rfl, h1, h4⟩ hk; exact ⟨v1, v4, rfl, ownsF_kept h1 hk, ownsF_kept h4 hk⟩
  · rintro F F' w cs x ⟨v1, v4, rfl, h1, h4⟩ hF; exact ⟨v1, v4, rfl, ownsF_base h1 hF, ownsF_base h4 hF⟩
def GivesO1 (x : SlotD) (w : World) (e : Ending) (w' : World) : Prop := ∃ cs, e = .returned (.agg cs.toArray) ∧ rSltO w.heap.size w' cs x ∧ Below w.heap.size w w'
/-- the rows at place p of n elements of k cells lie in blocks of their own -/
def ApS (k p n : Nat) (xs : List Value) : Prop := ∀ i j u v, i < n → j < n → i ≠ j → xs[i * k + p]? = some u → xs[j * k + p]? = some v → u.ownBlock = none ∨ u.ownBlock ≠ v.ownBlock
theorem apS_0 (k p : Nat) (xs : List Value) : ApS k p 0 xs := fun i j u v hi => absurd hi (Nat.not_lt_zero _)
theorem apS_snoc {k p n N : Nat} {xs ys : List Value} {u : Value} (h : ApS k p n xs) (hp : p < k) (hs : ∀ i, i < n * k → ys[i]? = xs[i]?) (hn : ys[n * k + p]? = some u)
    (ho : ∀ i v, i < n → xs[i * k + p]? = some v → ∀ g, v.ownBlock = some g → g < N) (hu : ∀ g, u.ownBlock = some g → N ≤ g) : ApS k p (n + 1) ys := by
  have hlt : ∀ i, i < n → i * k + p < n * k := fun i hi => by
    have h3 : (i + 1) * k ≤ n * k := Nat.mul_le_mul_right k hi
    rw [Nat.succ_mul] at h3; omega
  have hap : ∀ i v, i < n → xs[i * k + p]? = some v → (v.ownBlock = none ∨ v.ownBlock ≠ u.ownBlock) ∧ (u.ownBlock = none ∨ u.ownBlock ≠ v.ownBlock) := fun i v hi hv => by
    cases hvb : v.ownBlock with
    | none => exact ⟨Or.inl rfl, by cases hub : u.ownBlock with | none => exact Or.inl rfl | some g => exact Or.inr (by simp)⟩
    | some g =>
      have h1 := ho i v hi hv g hvb
      cases hub : u.ownBlock with
      | none => exact ⟨Or.inr (by simp), Or.inl rfl⟩
      | some g2 =>
        have h2 := hu g2 hub
        exact ⟨Or.inr (fun e => by injection e with e; omega), Or.inr (fun e => by injection e with e; omega)⟩
  intro i j a b hi hj hij ha hb
  by_cases h1 : i < n
  · rw [hs _ (hlt i h1)] at ha
    by_cases h2 : j < n
    · rw [hs _ (hlt j h2)] at hb
      exact h i j a b h1 h2 hij ha hb
    · obtain rfl : j = n := by omega
      rw [hn] at hb; injection hb with hb; subst hb
      exact (hap i a h1 ha).1
  · obtain rfl : i = n := by omega
    rw [hn] at ha; injection ha with ha; subst ha
    have h2 : j < i := by omega
    rw [hs _ (hlt j h2)] at hb
    exact (hap j b h2 hb).2
theorem cellsS_lt4 {F : Nat} {w : World} {xs : List Value} {l : List SlotD} (h : Cells rSltO 7 F w xs l) : ∀ i v, i < l.length → xs[i * 7 + 4]? = some v → ∀ g, v.ownBlock = some g → g < w.heap.size := by
  intro i v hi hv g hg
  obtain ⟨cs, ⟨v1, v4, rfl, h1, h4⟩, h2⟩ := h i hi
  have := h2 4 (by decide)
  rw [hv] at this
  simp at this; subst this
  exact (World.ownsRow.lt h1 g hg).2
theorem cellsS_lt6 {F : Nat} {w : World} {xs : List Value} {l : List SlotD} (h : Cells rSltO 7 F w xs l) : ∀ i v, i < l.length → xs[i * 7 + 6]? = some v → ∀ g, v.ownBlock = some g → g < w.heap.size := by
  intro i v hi hv g hg
  obtain ⟨cs, ⟨v1, v4, rfl, h1, h4⟩, h2⟩ := h i hi
  have := h2 6 (by decide)
  rw [hv] at this
  simp at this; subst this
  exact (World.ownsRow.lt h4 g hg).2
def rSltR (hi : Nat) : Nat → World → List Value → SlotD → Prop := fun F w cs x => ∃ v4 v6, cs = [.bool x.fFull, .string ⟨x.fPart.fCore.fKind.toArray⟩, .bool x.fPart.fCore.fOn, .bool x.fPart.fCore.fBroken, v4, .int .i64 x.fPart.fCore.fCount, v6] ∧ OwnR cCell 107 2 w F hi v4 x.fPart.fCore.fCells ∧ OwnR cLayer 109 2 w F hi v6 x.fPart.fLayers
theorem sltR_of {F : Nat} {w : World} {cs : List Value} {x : SlotD} (h : rSltO F w cs x) : rSltR w.heap.size F w cs x := by
  obtain ⟨v1, v4, rfl, h1, h4⟩ := h; exact ⟨v1, v4, rfl, ownR_of h1, ownR_of h4⟩
/-- a list of slots of one's own, all of it in the blocks from lo on and below hi -/
def OwnO (w : World) (lo hi : Nat) (v : Value) (l : List SlotD) : Prop :=
  ∃ xs, w.ownsRow lo 63 7 v l.length xs ∧ (∀ g, v.ownBlock = some g → g < hi) ∧ Cells (rSltR hi) 7 lo w xs l ∧ ApS 7 4 l.length xs ∧ ApS 7 6 l.length xs
def GivesO1S (l : List SlotD) (w : World) (e : Ending) (w' : World) : Prop := ∃ v, e = .returned v ∧ OwnO w' w.heap.size w'.heap.size v l ∧ Below w.heap.size w w'
theorem ownO_below {w w' : World} {lo hi B' : Nat} {v : Value} {l : List SlotD} (h : OwnO w lo hi v l) (hb : Below B' w w') (hB : w.heap.size ≤ B') : OwnO w' lo hi v l := by
  obtain ⟨xs, h1, h2, h3, h4, h5⟩ := h
  refine ⟨xs, ownsRow_below h1 hb hB, h2, fun i hi => ?_, h4, h5⟩
  obtain ⟨cs, ⟨v1, v4, rfl, k1, k4⟩, hc⟩ := h3 i hi
  exact ⟨_, ⟨v1, v4, rfl, ownR_below k1 hb hB, ownR_below k4 hb hB⟩, hc⟩
theorem own_loO {w : World} {lo hi : Nat} {v : Value} {l : List SlotD} (ho : OwnO w lo hi v l) : ∃ L, L = lo ∧ OwnO w L hi v l := ⟨lo, rfl, ho⟩
theorem ownsRow_betwO {w w' : World} {lo hi lo2 hi2 E k n : Nat} {v : Value} {xs : List Value} (h : w.ownsRow lo E k v n xs) (hg : ∀ g, v.ownBlock = some g → g < hi) (hb : Betw lo2 hi2 w w') (hd : hi ≤ lo2 ∨ hi2 ≤ lo) : w'.ownsRow lo E k v n xs := by
  refine ⟨h.1, ?_⟩
  rcases h.2 with h1 | ⟨g, cap, cur, rfl, h2, h3, h4⟩
  · exact Or.inl h1
  · have := hg g rfl
    exact Or.inr ⟨g, cap, cur, rfl, h2, (hb.block g (Array.getElem?_eq_some_iff.1 h3).1 (by omega)).trans h3, h4⟩
theorem ownO_betw {w w' : World} {lo hi lo2 hi2 : Nat} {v : Value} {l : List SlotD} (h : OwnO w lo hi v l) (hb : Betw lo2 hi2 w w') (hd : hi ≤ lo2 ∨ hi2 ≤ lo) : OwnO w' lo hi v l := by
  obtain ⟨xs, h1, h2, h3, h4, h5⟩ := h
  refine ⟨xs, ownsRow_betwO h1 h2 hb hd, h2, fun i hi => ?_, h4, h5⟩
  obtain ⟨cs, ⟨v1, v4, rfl, k1, k4⟩, hc⟩ := h3 i hi
  exact ⟨_, ⟨v1, v4, rfl, ownR_betw k1 hb hd, ownR_betw k4 hb hd⟩, hc⟩
theorem ownO_at {w : World} {lo hi : Nat} {v : Value} {l : List SlotD} (h : OwnO w lo hi v l) (hm : l.length + sumF zSlot l ≤ 2097152) : SliceAt rSlot 7 0 w v l := by
  obtain ⟨xs, h1, h2, h3, h4, h5⟩ := h
  refine sliceAt_of_row (F := 0) h1 (fun i hi => ?_) (Nat.zero_le _) (by omega)
  have hz := sumF_mem zSlot l l[i] (List.getElem_mem hi)
  obtain ⟨cs, ⟨v1, v4, rfl, k1, k4⟩, hc⟩ := h3 i hi
  have hz2 : l[i].fPart.fCore.fCells.length + l[i].fPart.fLayers.length ≤ zSlot l[i] := by unfold zSlot zPart zCore; omega
  exact ⟨_, ⟨v1, v4, rfl, (sliceAt_of_owns cCell_len k1.1 (by omega)).mono (good_flat cCell_len) (Nat.zero_le _), (sliceAt_of_owns cLayer_len k4.1 (by omega)).mono (good_flat cLayer_len) (Nat.zero_le _)⟩, hc⟩
set_option maxRecDepth 100000 in
set_option maxHeartbeats 1600000 in
theorem toSlot_o (v : Value) (x : SlotD) (w : World) (hx : ValAt rSlot 0 w v x) (hm : zSlot x ≤ 2097152) : Calls Try.prog 36 #[v] w fun e w' => GivesO1 x w e w' := by
  obtain ⟨_, rfl, hx⟩ := hx
  obtain ⟨a0, ⟨⟨a1_0_0, a1_0_1, a1_0_2, a1_0_3, a1_0_4⟩, a1_1⟩⟩ := x
  obtain ⟨v4, v6, rfl, h4, h6⟩ := hx
  simp only at h4 h6
  simp only [zSlot, zPart, zCore] at hm
  have HM := Lib.hid hm
  obtain ⟨ra4, rc4, rfl, _⟩ := sliceAt_len h4
  obtain ⟨ra6, rc6, rfl, _⟩ := sliceAt_len h6
  have H4 := Lib.hid h4
  have H6 := Lib.hid h6
  clear hm h4 h6
  have HS := Lib.hid (bx_start3 w [.bool a0, .string ⟨a1_0_0.toArray⟩, .bool a1_0_1, .bool a1_0_2, .slice ra4 a1_0_3.length rc4, .int .i64 a1_0_4, .slice ra6 a1_1.length rc6] [.bool false, .string ⟨#[]⟩, .bool false, .bool false, .slice none 0 0, .int .i64 0, .slice none 0 0] [.bool a0, .string ⟨#[]⟩, .bool false, .bool false, .slice none 0 0, .int .i64 0, .slice none 0 0] 75 63 63)
  have BA := Lib.hid HS.out.1
  have BB := Lib.hid HS.out.2.1
  have BC := Lib.hid HS.out.2.2.1
  have HB := Lib.hid HS.out.2.2.2
  clear HS
  go_enter Try.func36, Try.ntmps36
  go_wp2_with fail
  generalize ((w.alloc (.cells #[.bool a0, .string ⟨a1_0_0.toArray⟩, .bool a1_0_1, .bool a1_0_2, .slice ra4 a1_0_3.length rc4, .int .i64 a1_0_4, .slice ra6 a1_1.length rc6] 75)).alloc (.cells #[.bool false, .string ⟨#[]⟩, .bool false, .bool false, .slice none 0 0, .int .i64 0, .slice none 0 0] 63)).alloc (.cells #[.bool a0, .string ⟨#[]⟩, .bool false, .bool false, .slice none 0 0, .int .i64 0, .slice none 0 0] 63) = X1 at *
  refine (toPart_o _ (⟨⟨a1_0_0, a1_0_1, a1_0_2, a1_0_3, a1_0_4⟩, a1_1⟩ : PartD) _ ⟨_, rfl, _, _, rfl, (H4.out.below (good_flat cCell_len) HB.out (Nat.le_refl _)), (H6.out.below (good_flat cLayer_len) HB.out (Nat.le_refl _))⟩ (by simp only [zPart, zCore]; have := HM.out; omega)).mono ?_
  rintro e w1 ⟨_, rfl, ⟨u4, u6, rfl, hr4, hr6⟩, hb⟩
  have hX : w.heap.size + 3 ≤ X1.heap.size := by have := BC.out.lt; omega
  simp only at hr4
  have R4 := Lib.hid ((OSl.mk hr4).mono (good_flat cCell_len) hX)
  obtain ⟨p4, q4, rfl⟩ := slice_of hr4
  clear hr4
  simp only at hr6
  have R6 := Lib.hid ((OSl.mk hr6).mono (good_flat cLayer_len) hX)
  obtain ⟨p6, q6, rfl⟩ := slice_of hr6
  clear hr6
  have BA := Lib.hid (BA.out.below hb)
  have BB := Lib.hid (BB.out.below hb)
  have BC := Lib.hid (BC.out.below hb)
  have HB := Lib.hid (belS (w := w) HB.out hb)
  clear hb hX
  have eA0 := BA.out.cell 0 (by simp)
  have eA1 := BA.out.cell 1 (by simp)
  have eA2 := BA.out.cell 2 (by simp)
  have eA3 := BA.out.cell 3 (by simp)
  have eA4 := BA.out.cell 4 (by simp)
  have eA5 := BA.out.cell 5 (by simp)
  have eA6 := BA.out.cell 6 (by simp)
  simp only [List.getElem_cons_zero, List.getElem_cons_succ, List.set_cons_zero, List.set_cons_succ] at eA0 eA1 eA2 eA3 eA4 eA5 eA6
  have eC0 := BC.out.cell 0 (by simp)
  have fC0 := BC.out.froz 0 (by simp)
  have eC1 := BC.out.cell 1 (by simp)
  have fC1 := BC.out.froz 1 (by simp)
  have eC2 := BC.out.cell 2 (by simp)
  have fC2 := BC.out.froz 2 (by simp)
  have eC3 := BC.out.cell 3 (by simp)
  have fC3 := BC.out.froz 3 (by simp)
  have eC4 := BC.out.cell 4 (by simp)
  have fC4 := BC.out.froz 4 (by simp)
  have eC5 := BC.out.cell 5 (by simp)
  have fC5 := BC.out.froz 5 (by simp)
  have eC6 := BC.out.cell 6 (by simp)
  have fC6 := BC.out.froz 6 (by simp)
  simp only [List.getElem_cons_zero, List.getElem_cons_succ, List.set_cons_zero, List.set_cons_succ] at eC0 eC1 eC2 eC3 eC4 eC5 eC6
  have eB0 := BB.out.cell 0 (by simp)
  have fB0 := BB.out.froz 0 (by simp)
  have eB1 := BB.out.cell 1 (by simp)
  have fB1 := BB.out.froz 1 (by simp)
  have eB2 := BB.out.cell 2 (by simp)
  have fB2 := BB.out.froz 2 (by simp)
  have eB3 := BB.out.cell 3 (by simp)
  have fB3 := BB.out.froz 3 (by simp)
  have eB4 := BB.out.cell 4 (by simp)
  have fB4 := BB.out.froz 4 (by simp)
  have eB5 := BB.out.cell 5 (by simp)
  have fB5 := BB.out.froz 5 (by simp)
  have eB6 := BB.out.cell 6 (by simp)
  have fB6 := BB.out.froz 6 (by simp)
  simp only [List.getElem_cons_zero, List.getElem_cons_succ, List.set_cons_zero, List.set_cons_succ] at eB0 eB1 eB2 eB3 eB4 eB5 eB6
  go_wp2_with fail
  clear eA0 eA1 eA2 eA3 eA4 eA5 eA6
  clear eC0 fC0 eC1 fC1 eC2 fC2 eC3 fC3 eC4 fC4 eC5 fC5 eC6 fC6
  clear eB0 fB0 eB1 fB1 eB2 fB2 eB3 fB3 eB4 fB4 eB5 fB5 eB6 fB6
  have BC := Lib.hid (BC.out.set 1 (by simp) (.string ⟨a1_0_0.toArray⟩))
  have BA := Lib.hid (BA.out.other (c := w.heap.size + 1 + 1) (by omega) 1 (.string ⟨a1_0_0.toArray⟩))
  have BB := Lib.hid (BB.out.other (c := w.heap.size + 1 + 1) (by omega) 1 (.string ⟨a1_0_0.toArray⟩))
  have HB := Lib.hid (HB.out.setCell (p := ⟨w.heap.size + 1 + 1, 1, none⟩) (by simp; try omega) (.string ⟨a1_0_0.toArray⟩))
  have BC := Lib.hid (BC.out.set 2 (by simp) (.bool a1_0_1))
  have BA := Lib.hid (BA.out.other (c := w.heap.size + 1 + 1) (by omega) 2 (.bool a1_0_1))
  have BB := Lib.hid (BB.out.other (c := w.heap.size + 1 + 1) (by omega) 2 (.bool a1_0_1))
  have HB := Lib.hid (HB.out.setCell (p := ⟨w.heap.size + 1 + 1, 2, none⟩) (by simp; try omega) (.bool a1_0_1))
  have BC := Lib.hid (BC.out.set 3 (by simp) (.bool a1_0_2))
  have BA := Lib.hid (BA.out.other (c := w.heap.size + 1 + 1) (by omega) 3 (.bool a1_0_2))
  have BB := Lib.hid (BB.out.other (c := w.heap.size + 1 + 1) (by omega) 3 (.bool a1_0_2))
  have HB := Lib.hid (HB.out.setCell (p := ⟨w.heap.size + 1 + 1, 3, none⟩) (by simp; try omega) (.bool a1_0_2))
  have BC := Lib.hid (BC.out.set 4 (by simp) (.slice p4 a1_0_3.length q4))
  have BA := Lib.hid (BA.out.other (c := w.heap.size + 1 + 1) (by omega) 4 (.slice p4 a1_0_3.length q4))
  have BB := Lib.hid (BB.out.other (c := w.heap.size + 1 + 1) (by omega) 4 (.slice p4 a1_0_3.length q4))
  have HB := Lib.hid (HB.out.setCell (p := ⟨w.heap.size + 1 + 1, 4, none⟩) (by simp; try omega) (.slice p4 a1_0_3.length q4))
  have BC := Lib.hid (BC.out.set 5 (by simp) (.int .i64 a1_0_4))
  have BA := Lib.hid (BA.out.other (c := w.heap.size + 1 + 1) (by omega) 5 (.int .i64 a1_0_4))
  have BB := Lib.hid (BB.out.other (c := w.heap.size + 1 + 1) (by omega) 5 (.int .i64 a1_0_4))
  have HB := Lib.hid (HB.out.setCell (p := ⟨w.heap.size + 1 + 1, 5, none⟩) (by simp; try omega) (.int .i64 a1_0_4))
  have BC := Lib.hid (BC.out.set 6 (by simp) (.slice p6 a1_1.length q6))
  have BA := Lib.hid (BA.out.other (c := w.heap.size + 1 + 1) (by omega) 6 (.slice p6 a1_1.length q6))
  have BB := Lib.hid (BB.out.other (c := w.heap.size + 1 + 1) (by omega) 6 (.slice p6 a1_1.length q6))
  have HB := Lib.hid (HB.out.setCell (p := ⟨w.heap.size + 1 + 1, 6, none⟩) (by simp; try omega) (.slice p6 a1_1.length q6))
  have R4 := Lib.hid (R4.out.keep (good_flat cCell_len) (((((((Kept.refl _ _).setCell (p := ⟨w.heap.size + 1 + 1, 1, none⟩) (by simp) (.string ⟨a1_0_0.toArray⟩)).setCell (p := ⟨w.heap.size + 1 + 1, 2, none⟩) (by simp) (.bool a1_0_1)).setCell (p := ⟨w.heap.size + 1 + 1, 3, none⟩) (by simp) (.bool a1_0_2)).setCell (p := ⟨w.heap.size + 1 + 1, 4, none⟩) (by simp) (.slice p4 a1_0_3.length q4)).setCell (p := ⟨w.heap.size + 1 + 1, 5, none⟩) (by simp) (.int .i64 a1_0_4)).setCell (p := ⟨w.heap.size + 1 + 1, 6, none⟩) (by simp) (.slice p6 a1_1.length q6)))
  have R6 := Lib.hid (R6.out.keep (good_flat cLayer_len) (((((((Kept.refl _ _).setCell (p := ⟨w.heap.size + 1 + 1, 1, none⟩) (by simp) (.string ⟨a1_0_0.toArray⟩)).setCell (p := ⟨w.heap.size + 1 + 1, 2, none⟩) (by simp) (.bool a1_0_1)).setCell (p := ⟨w.heap.size + 1 + 1, 3, none⟩) (by simp) (.bool a1_0_2)).setCell (p := ⟨w.heap.size + 1 + 1, 4, none⟩) (by simp) (.slice p4 a1_0_3.length q4)).setCell (p := ⟨w.heap.size + 1 + 1, 5, none⟩) (by simp) (.int .i64 a1_0_4)).setCell (p := ⟨w.heap.size + 1 + 1, 6, none⟩) (by simp) (.slice p6 a1_1.length q6)))
  simp only [List.set_cons_zero, List.set_cons_succ] at BC
  have BB := Lib.hid (BB.out.set 0 (by simp) (.bool a0))
  have HB := Lib.hid (HB.out.setCell (p := ⟨w.heap.size + 1, 0, none⟩) (by simp; try omega) (.bool a0))
  have BB := Lib.hid (BB.out.set 1 (by simp) (.string ⟨a1_0_0.toArray⟩))
  have HB := Lib.hid (HB.out.setCell (p := ⟨w.heap.size + 1, 1, none⟩) (by simp; try omega) (.string ⟨a1_0_0.toArray⟩))
  have BB := Lib.hid (BB.out.set 2 (by simp) (.bool a1_0_1))
  have HB := Lib.hid (HB.out.setCell (p := ⟨w.heap.size + 1, 2, none⟩) (by simp; try omega) (.bool a1_0_1))
  have BB := Lib.hid (BB.out.set 3 (by simp) (.bool a1_0_2))
  have HB := Lib.hid (HB.out.setCell (p := ⟨w.heap.size + 1, 3, none⟩) (by simp; try omega) (.bool a1_0_2))
  have BB := Lib.hid (BB.out.set 4 (by simp) (.slice p4 a1_0_3.length q4))
  have HB := Lib.hid (HB.out.setCell (p := ⟨w.heap.size + 1, 4, none⟩) (by simp; try omega) (.slice p4 a1_0_3.length q4))
  have BB := Lib.hid (BB.out.set 5 (by simp) (.int .i64 a1_0_4))
  have HB := Lib.hid (HB.out.setCell (p := ⟨w.heap.size + 1, 5, none⟩) (by simp; try omega) (.int .i64 a1_0_4))
  have BB := Lib.hid (BB.out.set 6 (by simp) (.slice p6 a1_1.length q6))
  have HB := Lib.hid (HB.out.setCell (p := ⟨w.heap.size + 1, 6, none⟩) (by simp; try omega) (.slice p6 a1_1.length q6))
  have R4 := Lib.hid ((R4.out.keep (good_flat cCell_len) ((((((((Kept.refl _ _).setCell (p := ⟨w.heap.size + 1, 0, none⟩) (by simp) (.bool a0)).setCell (p := ⟨w.heap.size + 1, 1, none⟩) (by simp) (.string ⟨a1_0_0.toArray⟩)).setCell (p := ⟨w.heap.size + 1, 2, none⟩) (by simp) (.bool a1_0_1)).setCell (p := ⟨w.heap.size + 1, 3, none⟩) (by simp) (.bool a1_0_2)).setCell (p := ⟨w.heap.size + 1, 4, none⟩) (by simp) (.slice p4 a1_0_3.length q4)).setCell (p := ⟨w.heap.size + 1, 5, none⟩) (by simp) (.int .i64 a1_0_4)).setCell (p := ⟨w.heap.size + 1, 6, none⟩) (by simp) (.slice p6 a1_1.length q6))).mono (good_flat cCell_len) (show w.heap.size ≤ w.heap.size + 3 by omega))
  have R6 := Lib.hid ((R6.out.keep (good_flat cLayer_len) ((((((((Kept.refl _ _).setCell (p := ⟨w.heap.size + 1, 0, none⟩) (by simp) (.bool a0)).setCell (p := ⟨w.heap.size + 1, 1, none⟩) (by simp) (.string ⟨a1_0_0.toArray⟩)).setCell (p := ⟨w.heap.size + 1, 2, none⟩) (by simp) (.bool a1_0_1)).setCell (p := ⟨w.heap.size + 1, 3, none⟩) (by simp) (.bool a1_0_2)).setCell (p := ⟨w.heap.size + 1, 4, none⟩) (by simp) (.slice p4 a1_0_3.length q4)).setCell (p := ⟨w.heap.size + 1, 5, none⟩) (by simp) (.int .i64 a1_0_4)).setCell (p := ⟨w.heap.size + 1, 6, none⟩) (by simp) (.slice p6 a1_1.length q6))).mono (good_flat cLayer_len) (show w.heap.size ≤ w.heap.size + 3 by omega))
  simp only [List.set_cons_zero, List.set_cons_succ] at BB
  generalize (((((((((((((w1).setCell ⟨w.heap.size + 1 + 1, 1, none⟩ (.string ⟨a1_0_0.toArray⟩)).setCell ⟨w.heap.size + 1 + 1, 2, none⟩ (.bool a1_0_1)).setCell ⟨w.heap.size + 1 + 1, 3, none⟩ (.bool a1_0_2)).setCell ⟨w.heap.size + 1 + 1, 4, none⟩ (.slice p4 a1_0_3.length q4)).setCell ⟨w.heap.size + 1 + 1, 5, none⟩ (.int .i64 a1_0_4)).setCell ⟨w.heap.size + 1 + 1, 6, none⟩ (.slice p6 a1_1.length q6)).setCell ⟨w.heap.size + 1, 0, none⟩ (.bool a0)).setCell ⟨w.heap.size + 1, 1, none⟩ (.string ⟨a1_0_0.toArray⟩)).setCell ⟨w.heap.size + 1, 2, none⟩ (.bool a1_0_1)).setCell ⟨w.heap.size + 1, 3, none⟩ (.bool a1_0_2)).setCell ⟨w.heap.size + 1, 4, none⟩ (.slice p4 a1_0_3.length q4)).setCell ⟨w.heap.size + 1, 5, none⟩ (.int .i64 a1_0_4)).setCell ⟨w.heap.size + 1, 6, none⟩ (.slice p6 a1_1.length q6) = WE at *
  have eB0 := BB.out.cell 0 (by simp)
  have eB1 := BB.out.cell 1 (by simp)
  have eB2 := BB.out.cell 2 (by simp)
  have eB3 := BB.out.cell 3 (by simp)
  have eB4 := BB.out.cell 4 (by simp)
  have eB5 := BB.out.cell 5 (by simp)
  have eB6 := BB.out.cell 6 (by simp)
  simp only [List.getElem_cons_zero, List.getElem_cons_succ, List.set_cons_zero, List.set_cons_succ] at eB0 eB1 eB2 eB3 eB4 eB5 eB6
  exact bodyPost_ret (v := .agg #[.bool a0, .string ⟨a1_0_0.toArray⟩, .bool a1_0_1, .bool a1_0_2, .slice p4 a1_0_3.length q4, .int .i64 a1_0_4, .slice p6 a1_1.length q6]) (by simp [results, Try.results36, go_sem, eB0, eB1, eB2, eB3, eB4, eB5, eB6]) rfl ⟨_, rfl, ⟨_, _, rfl, OSl.own R4.out, OSl.own R6.out⟩, HB.out⟩
set_option maxRecDepth 100000 in
set_option maxHeartbeats 3200000 in
theorem toSlotS_o (v : Value) (x : List SlotD) (w : World) (hx : SliceAt (rSlot) 7 0 w v x) (hm : x.length + sumF zSlot x ≤ 2097152) :
    Calls Try.prog 14 #[v] w fun e w' => GivesO1S x w e w' := by
  obtain ⟨a, c, rfl, hl⟩ := sliceAt_len hx
  obtain ⟨i0, hi, hz0, hz1, hz2⟩ := info_parts infoDSlot
  have HX := Lib.hid hx
  have HZ := Lib.hid hm
  have hm2 : x.length ≤ 2097152 := by omega
  clear hx hm
  unfold maxLen at hl
  go_enter Try.func14, Try.ntmps14
  have hb2 : i0.bytes * x.length ≤ 281474976710656 := by rw [hz2]; omega
  have HB2 := Lib.hid hb2
  have HM := Lib.hid (show x.length ≤ maxLen from by unfold maxLen; omega)
  clear hb2
  go_wp2_with (refine wpList_make_full _ rfl (.tmp 6) (.tmp 6) 22 rfl w.heap.size 63 i0 _ 7 Try.underlying22 hi hz0 hz1 .i64 .i64 _ _ x.length rfl rfl rfl rfl HB2.out HM.out (Nat.le_refl _) ?_; intro w1 hown1 hgrow1)
  have HO := Lib.hid (show ∃ xs, w1.ownsRow w.heap.size 63 7 (.slice (some ⟨w.heap.size, 0, none⟩) x.length x.length) x.length xs ∧ Cells rSltO 7 (w.heap.size + 1) w1 xs (x.take 0) ∧ ApS 7 4 0 xs ∧ ApS 7 6 0 xs from ⟨_, hown1, Cells.nil _ _ _, apS_0 _ _ _, apS_0 _ _ _⟩)
  have HB := Lib.hid (show Below w.heap.size w w1 from ⟨hgrow1.os, hgrow1.tape, hgrow1.output, hgrow1.size, fun i hi => hgrow1.block i hi (by simp)⟩)
  have hsz : w.heap.size < w1.heap.size := by
    rcases hown1.2 with ⟨h, _⟩ | ⟨g, cap, cur, h, _, hg, _⟩
    · simp at h
    · injection h with h _ _; injection h with h; injection h with h _; subst h; exact (Array.getElem?_eq_some_iff.1 hg).1
  clear hown1 hgrow1 hz0 hz1 hz2 HB2 hi
  go_loopw [4] (fun i wr => ∃ k : Nat, k ≤ x.length ∧ i = .int .i64 k ∧ (∃ xs, wr.ownsRow w.heap.size 63 7 (.slice (some ⟨w.heap.size, 0, none⟩) x.length x.length) x.length xs ∧ Cells rSltO 7 (w.heap.size + 1) wr xs (x.take k) ∧ ApS 7 4 k xs ∧ ApS 7 6 k xs) ∧ Below w.heap.size w wr ∧ w.heap.size < wr.heap.size) (fun i _ => x.length - (intOf i).toNat)
  case atStart => exact ⟨0, Nat.zero_le _, rfl, HO.out, HB.out, hsz⟩
  case round =>
    obtain ⟨k, hk, rfl, ⟨xs, hown, htake, hap1, hap4⟩, hb, hszr⟩ := hrel
    have HR := Lib.hid (SliceAt.below HX.out goodSlot hb (Nat.le_refl _))
    have HBr := Lib.hid hb
    have HOw := Lib.hid hown
    have HT := Lib.hid htake
    have HXL := Lib.hid (show xs.length = x.length * 7 from hown.1)
    have HP4 := Lib.hid hap1
    have HP6 := Lib.hid hap4
    clear hb hown htake hap1 hap4
    by_cases hlt : k < x.length
    · obtain ⟨b, o, cs, rfl, hbw, hat, hd⟩ := sliceAt_cell HR.out k hlt
      have HSN := Lib.hid (show x.take (k + 1) = x.take k ++ [x[k]] from List.take_succ_eq_append_getElem hlt)
      have HLT := Lib.hid (show (x.take k).length = k by rw [List.length_take]; omega)
      have HC := Lib.hid (toSlot_o (.agg cs.toArray) x[k] wr ⟨cs, rfl, hat⟩ (by have h1 := sumF_mem zSlot x x[k] (List.getElem_mem hlt); have h2 := HZ.out; omega))
      generalize x[k] = p at *
      obtain ⟨a0, ⟨⟨a1_0_0, a1_0_1, a1_0_2, a1_0_3, a1_0_4⟩, a1_1⟩⟩ := p
      obtain ⟨x4, x6, rfl, hr4, hr6⟩ := hat
      have d0 := hd 0 (by decide)
      have d1 := hd 1 (by decide)
      have d2 := hd 2 (by decide)
      have d3 := hd 3 (by decide)
      have d4 := hd 4 (by decide)
      have d5 := hd 5 (by decide)
      have d6 := hd 6 (by decide)
      simp only [List.getElem?_cons_zero, List.getElem?_cons_succ, Nat.add_zero] at d0 d1 d2 d3 d4 d5 d6 HC
      clear hd
      go_wp2_with fail
      refine HC.out.mono ?_
      rintro e w2 ⟨cs, rfl, hat2, hb0⟩
      have HA := Lib.hid hat2
      have HB3 := Lib.hid (HBr.out.trans (hb0.mono HBr.out.size))
      have HO3 := Lib.hid (ownsRow_below HOw.out hb0 (Nat.le_refl _))
      have HK := Lib.hid (Cells.keep HT.out goodSltO (kept_below hb0 (Nat.le_refl _)))
      have hsz2 : w.heap.size < w2.heap.size := by have := hb0.size; omega
      obtain ⟨y4, y6, rfl, hq4, hq6⟩ := hat2
      skip
      have Lhq4 := Lib.hid (show ∀ g, _ = some g → wr.heap.size ≤ g from fun g h => (World.ownsRow.lt hq4 g h).1)
      obtain ⟨yp4, yq4, rfl⟩ := slice_of hq4
      clear hq4
      have Lhq6 := Lib.hid (show ∀ g, _ = some g → wr.heap.size ≤ g from fun g h => (World.ownsRow.lt hq6 g h).1)
      obtain ⟨yp6, yq6, rfl⟩ := slice_of hq6
      clear hq6
      clear hb0
      obtain ⟨u0, c0⟩ : ∃ u, w2.cell? ⟨w.heap.size, k * 7, none⟩ = some u := by
        rw [World.ownsRow.cellAt HO3.out (k * 7) (by omega), List.getElem?_eq_getElem (by have := HXL.out; omega)]
        exact ⟨_, rfl⟩
      have f0 := World.ownsRow.frozenAt HO3.out (k * 7)
      obtain ⟨u1, c1⟩ : ∃ u, w2.cell? ⟨w.heap.size, k * 7 + 1, none⟩ = some u := by
        rw [World.ownsRow.cellAt HO3.out (k * 7 + 1) (by omega), List.getElem?_eq_getElem (by have := HXL.out; omega)]
        exact ⟨_, rfl⟩
      have f1 := World.ownsRow.frozenAt HO3.out (k * 7 + 1)
      obtain ⟨u2, c2⟩ : ∃ u, w2.cell? ⟨w.heap.size, k * 7 + 2, none⟩ = some u := by
        rw [World.ownsRow.cellAt HO3.out (k * 7 + 2) (by omega), List.getElem?_eq_getElem (by have := HXL.out; omega)]
        exact ⟨_, rfl⟩
      have f2 := World.ownsRow.frozenAt HO3.out (k * 7 + 2)
      obtain ⟨u3, c3⟩ : ∃ u, w2.cell? ⟨w.heap.size, k * 7 + 3, none⟩ = some u := by
        rw [World.ownsRow.cellAt HO3.out (k * 7 + 3) (by omega), List.getElem?_eq_getElem (by have := HXL.out; omega)]
        exact ⟨_, rfl⟩
      have f3 := World.ownsRow.frozenAt HO3.out (k * 7 + 3)
      obtain ⟨u4, c4⟩ : ∃ u, w2.cell? ⟨w.heap.size, k * 7 + 4, none⟩ = some u := by
        rw [World.ownsRow.cellAt HO3.out (k * 7 + 4) (by omega), List.getElem?_eq_getElem (by have := HXL.out; omega)]
        exact ⟨_, rfl⟩
      have f4 := World.ownsRow.frozenAt HO3.out (k * 7 + 4)
      obtain ⟨u5, c5⟩ : ∃ u, w2.cell? ⟨w.heap.size, k * 7 + 5, none⟩ = some u := by
        rw [World.ownsRow.cellAt HO3.out (k * 7 + 5) (by omega), List.getElem?_eq_getElem (by have := HXL.out; omega)]
        exact ⟨_, rfl⟩
      have f5 := World.ownsRow.frozenAt HO3.out (k * 7 + 5)
      obtain ⟨u6, c6⟩ : ∃ u, w2.cell? ⟨w.heap.size, k * 7 + 6, none⟩ = some u := by
        rw [World.ownsRow.cellAt HO3.out (k * 7 + 6) (by omega), List.getElem?_eq_getElem (by have := HXL.out; omega)]
        exact ⟨_, rfl⟩
      have f6 := World.ownsRow.frozenAt HO3.out (k * 7 + 6)
      have HS0 := Lib.hid (World.ownsRow.stored HO3.out (k * 7) (.bool a0))
      have HS1 := Lib.hid (World.ownsRow.stored HS0.out.1 (k * 7 + 1) (.string ⟨a1_0_0.toArray⟩))
      have HS2 := Lib.hid (World.ownsRow.stored HS1.out.1 (k * 7 + 2) (.bool a1_0_1))
      have HS3 := Lib.hid (World.ownsRow.stored HS2.out.1 (k * 7 + 3) (.bool a1_0_2))
      have HS4 := Lib.hid (World.ownsRow.stored HS3.out.1 (k * 7 + 4) (.slice yp4 a1_0_3.length yq4))
      have HS5 := Lib.hid (World.ownsRow.stored HS4.out.1 (k * 7 + 5) (.int .i64 a1_0_4))
      have HS6 := Lib.hid (World.ownsRow.stored HS5.out.1 (k * 7 + 6) (.slice yp6 a1_1.length yq6))
      have HN := Lib.hid (show Cells rSltO 7 (w.heap.size + 1) ((((((((w2).setCell ⟨w.heap.size, k * 7, none⟩ (.bool a0)).setCell ⟨w.heap.size, k * 7 + 1, none⟩ (.string ⟨a1_0_0.toArray⟩)).setCell ⟨w.heap.size, k * 7 + 2, none⟩ (.bool a1_0_1)).setCell ⟨w.heap.size, k * 7 + 3, none⟩ (.bool a1_0_2)).setCell ⟨w.heap.size, k * 7 + 4, none⟩ (.slice yp4 a1_0_3.length yq4)).setCell ⟨w.heap.size, k * 7 + 5, none⟩ (.int .i64 a1_0_4)).setCell ⟨w.heap.size, k * 7 + 6, none⟩ (.slice yp6 a1_1.length yq6)) ((((((((xs).set (k * 7) (.bool a0)).set (k * 7 + 1) (.string ⟨a1_0_0.toArray⟩)).set (k * 7 + 2) (.bool a1_0_1)).set (k * 7 + 3) (.bool a1_0_2)).set (k * 7 + 4) (.slice yp4 a1_0_3.length yq4)).set (k * 7 + 5) (.int .i64 a1_0_4)).set (k * 7 + 6) (.slice yp6 a1_1.length yq6)) (x.take (k + 1)) by
        rw [HSN.out]
        have hkk : Kept (w.heap.size + 1) w2 ((((((((w2).setCell ⟨w.heap.size, k * 7, none⟩ (.bool a0)).setCell ⟨w.heap.size, k * 7 + 1, none⟩ (.string ⟨a1_0_0.toArray⟩)).setCell ⟨w.heap.size, k * 7 + 2, none⟩ (.bool a1_0_1)).setCell ⟨w.heap.size, k * 7 + 3, none⟩ (.bool a1_0_2)).setCell ⟨w.heap.size, k * 7 + 4, none⟩ (.slice yp4 a1_0_3.length yq4)).setCell ⟨w.heap.size, k * 7 + 5, none⟩ (.int .i64 a1_0_4)).setCell ⟨w.heap.size, k * 7 + 6, none⟩ (.slice yp6 a1_1.length yq6)) := (((((((Kept.refl _ _).setCell (by simp) _).setCell (by simp) _).setCell (by simp) _).setCell (by simp) _).setCell (by simp) _).setCell (by simp) _).setCell (by simp) _
        refine Cells.snoc (Cells.keep HK.out goodSltO hkk) ((goodSltO).keep ((goodSltO).mono HA.out (by omega)) hkk) ?_ ?_
        · intro i hi
          rw [HLT.out] at hi
          repeat rw [List.getElem?_set_ne (by omega)]
        · intro j hj
          rw [HLT.out]
          have hxl := HXL.out
          rcases (show j = 0 ∨ j = 1 ∨ j = 2 ∨ j = 3 ∨ j = 4 ∨ j = 5 ∨ j = 6 by omega) with rfl | rfl | rfl | rfl | rfl | rfl | rfl
          all_goals (simp [List.getElem?_set]; try omega))
      have HQ4 := Lib.hid (show ApS 7 4 (k + 1) ((((((((((((((xs).set (k * 7) (.bool a0))).set (k * 7 + 1) (.string ⟨a1_0_0.toArray⟩))).set (k * 7 + 2) (.bool a1_0_1))).set (k * 7 + 3) (.bool a1_0_2))).set (k * 7 + 4) (.slice yp4 a1_0_3.length yq4))).set (k * 7 + 5) (.int .i64 a1_0_4))).set (k * 7 + 6) (.slice yp6 a1_1.length yq6)) from by
        have hxl := HXL.out
        refine apS_snoc HP4.out (by decide) (N := wr.heap.size) (u := .slice yp4 a1_0_3.length yq4) (fun i hi => by repeat rw [List.getElem?_set_ne (by omega)]) (by simp [List.getElem?_set]; try omega) (fun i v hi hv => cellsS_lt4 HT.out i v (by rw [HLT.out]; exact hi) hv) (Lhq4.out)
        )
      have HQ6 := Lib.hid (show ApS 7 6 (k + 1) ((((((((((((((xs).set (k * 7) (.bool a0))).set (k * 7 + 1) (.string ⟨a1_0_0.toArray⟩))).set (k * 7 + 2) (.bool a1_0_1))).set (k * 7 + 3) (.bool a1_0_2))).set (k * 7 + 4) (.slice yp4 a1_0_3.length yq4))).set (k * 7 + 5) (.int .i64 a1_0_4))).set (k * 7 + 6) (.slice yp6 a1_1.length yq6)) from by
        have hxl := HXL.out
        refine apS_snoc HP6.out (by decide) (N := wr.heap.size) (u := .slice yp6 a1_1.length yq6) (fun i hi => by repeat rw [List.getElem?_set_ne (by omega)]) (by simp [List.getElem?_set]; try omega) (fun i v hi hv => cellsS_lt6 HT.out i v (by rw [HLT.out]; exact hi) hv) (Lhq6.out)
        )
      go_wp2_with fail
      refine ⟨⟨k + 1, by omega, by go_num, ⟨_, HS6.out.1, HN.out, HQ4.out, HQ6.out⟩, ?_, by simp; omega⟩, by simp [intOf]; omega⟩
      exact (((((((HB3.out.setCell (by simp) _).setCell (by simp) _).setCell (by simp) _).setCell (by simp) _).setCell (by simp) _).setCell (by simp) _).setCell (by simp) _)
    · have HN := Lib.hid (show x.take k = x from List.take_of_length_le (by omega))
      have HF := Lib.hid (show OwnO wr w.heap.size wr.heap.size (.slice (some ⟨w.heap.size, 0, none⟩) x.length x.length) x from by
        have h := HT.out
        rw [HN.out] at h
        have h1 := HP4.out
        have h4 := HP6.out
        rw [show k = x.length by omega] at h1 h4
        exact ⟨_, HOw.out, fun g e => (World.ownsRow.lt HOw.out g e).2, fun i hi => by obtain ⟨cs, h1, h2⟩ := h i hi; exact ⟨cs, sltR_of (goodSltO.mono h1 (by omega)), h2⟩, h1, h4⟩)
      go_wp2_with fail
      go_ret
      exact ⟨_, rfl, HF.out, HBr.out⟩
end Go.Proofs.Yteeopjcbpngofaa
/- Marks of a list of slots of one's own. Written by gen/ch8o.py. -/
namespace Go.Proofs.Yteeopjcbpngofaa
set_option linter.unusedVariables false
set_option linter.unusedSimpArgs false
open Go.RowKit
theorem ownR_keptO {α : Type} {f : α → List Value} {E k : Nat} {w w' : World} {lo hi : Nat} {v : Value} {l : List α} {r : Option Nat} (h : OwnR f E k w lo hi v l) (hg : w.grownBy w' r) (hne : v.ownBlock = none ∨ v.ownBlock ≠ r) : OwnR f E k w' lo hi v l := ⟨World.ownsRow.kept h.1 hg hne, h.2⟩
/-- a slot whose rows may be written: how long they are -/
def mSlt (lo hi : Nat) (w : World) (cs : List Value) (x : SlotD) : Prop :=
  ∃ v0 v1 v2 v3 v4 v5 v6, cs = [v0, v1, v2, v3, v4, v5, v6] ∧ (∃ t : List CellD, t.length = x.fPart.fCore.fCells.length ∧ OwnR cCell 107 2 w lo hi v4 t) ∧ ∃ n : List LayerD, n.length = x.fPart.fLayers.length ∧ OwnR cLayer 109 2 w lo hi v6 n
def mCellsO (lo hi : Nat) (w : World) (xs : List Value) (l : List SlotD) : Prop := ∀ (i : Nat) (h : i < l.length), ∃ cs, mSlt lo hi w cs l[i] ∧ ∀ j, j < 7 → xs[i * 7 + j]? = cs[j]?
def cntO (x : SlotD) : Nat := 5 + x.fPart.fCore.fCells.length * 2 + x.fPart.fLayers.length * 2
theorem mCellsO_below {lo hi B : Nat} {w w' : World} {xs : List Value} {l : List SlotD} (h : mCellsO lo hi w xs l) (hb : Below B w w') (hB : w.heap.size ≤ B) : mCellsO lo hi w' xs l := fun i hi2 => by
  obtain ⟨cs, ⟨v0, v1, v2, v3, v4, v5, v6, rfl, ⟨t, h1, h2⟩, n, h3, h4⟩, hc⟩ := h i hi2
  exact ⟨_, ⟨v0, v1, v2, v3, v4, v5, v6, rfl, ⟨t, h1, ownR_below h2 hb hB⟩, n, h3, ownR_below h4 hb hB⟩, hc⟩
theorem mCellsO_row4 {lo hi : Nat} {w w' : World} {xs : List Value} {l : List SlotD} (h : mCellsO lo hi w xs l) (ha : ApS 7 4 l.length xs) (j : Nat) (hj : j < l.length) {u : Value} (hu : xs[j * 7 + 4]? = some u) {t t' : List CellD}
    (hO : OwnsF cCell 107 2 w lo u t) (hO' : OwnsF cCell 107 2 w' lo u t') (ht : t'.length = l[j].fPart.fCore.fCells.length) (hg : w.grownBy w' u.ownBlock) : mCellsO lo hi w' xs l := by
  intro i hi2
  obtain ⟨cs, ⟨v0, v1, v2, v3, v4, v5, v6, rfl, ⟨t1, h1, h2⟩, n, h3, h4⟩, hc⟩ := h i hi2
  have e1 := hc 4 (by decide)
  simp at e1
  have k4 : OwnR cLayer 109 2 w' lo hi v6 n := ownR_keptO h4 hg (rows_apart h4.1 hO (by decide))
  by_cases hij : i = j
  · subst hij
    rw [hu] at e1; injection e1 with e1; subst e1
    exact ⟨_, ⟨v0, v1, v2, v3, u, v5, v6, rfl, ⟨t', ht, hO', h2.2⟩, n, h3, k4⟩, hc⟩
  · exact ⟨_, ⟨v0, v1, v2, v3, v4, v5, v6, rfl, ⟨t1, h1, ownR_keptO h2 hg (ha i j v4 u hi2 hj hij e1 hu)⟩, n, h3, k4⟩, hc⟩
theorem mCellsO_row6 {lo hi : Nat} {w w' : World} {xs : List Value} {l : List SlotD} (h : mCellsO lo hi w xs l) (ha : ApS 7 6 l.length xs) (j : Nat) (hj : j < l.length) {u : Value} (hu : xs[j * 7 + 6]? = some u) {t t' : List LayerD}
    (hO : OwnsF cLayer 109 2 w lo u t) (hO' : OwnsF cLayer 109 2 w' lo u t') (ht : t'.length = l[j].fPart.fLayers.length) (hg : w.grownBy w' u.ownBlock) : mCellsO lo hi w' xs l := by
  intro i hi2
  obtain ⟨cs, ⟨v0, v1, v2, v3, v4, v5, v6, rfl, ⟨t1, h1, h2⟩, n, h3, h4⟩, hc⟩ := h i hi2
  have e4 := hc 6 (by decide)
  simp at e4
  have k1 : OwnR cCell 107 2 w' lo hi v4 t1 := ownR_keptO h2 hg (rows_apart h2.1 hO (by decide))
  by_cases hij : i = j
  · subst hij
    rw [hu] at e4; injection e4 with e4; subst e4
    exact ⟨_, ⟨v0, v1, v2, v3, v4, v5, u, rfl, ⟨t1, h1, k1⟩, t', ht, hO', h4.2⟩, hc⟩
  · exact ⟨_, ⟨v0, v1, v2, v3, v4, v5, v6, rfl, ⟨t1, h1, k1⟩, n, h3, ownR_keptO h4 hg (ha i j v6 u hi2 hj hij e4 hu)⟩, hc⟩
/-- a cell of the outer row is written that holds no row -/
theorem mCellsO_set {lo hi : Nat} {w w' : World} {xs : List Value} {l : List SlotD} (h : mCellsO lo hi w xs l) (hl : xs.length = l.length * 7) (j p : Nat) (hj : j < l.length) (hp : p = 0 ∨ p = 1 ∨ p = 2 ∨ p = 3 ∨ p = 5) (y : Value) {g : Nat} (hg : w.grownBy w' (some g))
    (hk : ∀ u : Value, ∀ t : List CellD, OwnsF cCell 107 2 w lo u t → u.ownBlock = none ∨ u.ownBlock ≠ some g) (hk2 : ∀ u : Value, ∀ t : List LayerD, OwnsF cLayer 109 2 w lo u t → u.ownBlock = none ∨ u.ownBlock ≠ some g) : mCellsO lo hi w' (xs.set (j * 7 + p) y) l := by
  intro i hi2
  obtain ⟨cs, ⟨v0, v1, v2, v3, v4, v5, v6, rfl, ⟨t1, h1, h2⟩, n, h3, h4⟩, hc⟩ := h i hi2
  have k1 := ownR_keptO h2 hg (hk v4 t1 h2.1)
  have k4 := ownR_keptO h4 hg (hk2 v6 n h4.1)
  by_cases hij : i = j
  · subst hij
    refine ⟨([v0, v1, v2, v3, v4, v5, v6] : List Value).set p y, ?_, fun q hq => ?_⟩
    · rcases hp with rfl | rfl | rfl | rfl | rfl
      · exact ⟨y, v1, v2, v3, v4, v5, v6, rfl, ⟨t1, h1, k1⟩, n, h3, k4⟩
      · exact ⟨v0, y, v2, v3, v4, v5, v6, rfl, ⟨t1, h1, k1⟩, n, h3, k4⟩
      · exact ⟨v0, v1, y, v3, v4, v5, v6, rfl, ⟨t1, h1, k1⟩, n, h3, k4⟩
      · exact ⟨v0, v1, v2, y, v4, v5, v6, rfl, ⟨t1, h1, k1⟩, n, h3, k4⟩
      · exact ⟨v0, v1, v2, v3, v4, y, v6, rfl, ⟨t1, h1, k1⟩, n, h3, k4⟩
    · by_cases hqp : q = p
      · subst hqp
        rw [List.getElem?_set_self (by omega), List.getElem?_set_self (by simp; omega)]
      · rw [List.getElem?_set_ne (by omega), List.getElem?_set_ne (by omega)]
        exact hc q hq
  · refine ⟨_, ⟨v0, v1, v2, v3, v4, v5, v6, rfl, ⟨t1, h1, k1⟩, n, h3, k4⟩, fun q hq => ?_⟩
    rw [List.getElem?_set_ne (by omega)]
    exact hc q hq
/-- all that a round of the marking keeps, at a world -/
structure MkO (lo hi g cap : Nat) (x : List SlotD) (w0 w : World) (xs : List Value) : Prop where
  own : w.ownsRow lo 63 7 (.slice (some ⟨g, 0, none⟩) x.length cap) x.length xs
  m : mCellsO lo hi w xs x
  p4 : ApS 7 4 x.length xs
  p6 : ApS 7 6 x.length xs
  bt : Betw lo hi w0 w
theorem betw_of_belowO {lo hi B : Nat} {w w' : World} (h : Below B w w') (hB : w.heap.size ≤ B) : Betw lo hi w w' := ⟨h.os, h.tape, h.output, h.size, fun k hk _ => h.block k (Nat.lt_of_lt_of_le hk hB)⟩
theorem MkO.below {lo hi g cap B : Nat} {x : List SlotD} {w0 w w' : World} {xs : List Value} (h : MkO lo hi g cap x w0 w xs) (hb : Below B w w') (hB : w.heap.size ≤ B) : MkO lo hi g cap x w0 w' xs :=
  ⟨ownsRow_below h.own hb hB, mCellsO_below h.m hb hB, h.p4, h.p6, betw_trans h.bt (betw_of_belowO hb hB)⟩
theorem apS_set {k p n : Nat} {xs : List Value} (h : ApS k p n xs) (j q : Nat) (hq : q ≠ p) (hqk : q < k) (hpk : p < k) (y : Value) : ApS k p n (xs.set (j * k + q) y) := by
  have hne : ∀ i, j * k + q ≠ i * k + p := fun i e => by
    have h1 : (j * k + q) % k = q := by rw [Nat.mul_comm, Nat.mul_add_mod]; exact Nat.mod_eq_of_lt hqk
    have h2 : (i * k + p) % k = p := by rw [Nat.mul_comm, Nat.mul_add_mod]; exact Nat.mod_eq_of_lt hpk
    rw [e, h2] at h1; exact hq h1.symm
  intro i m u v hi hm him hu hv
  rw [List.getElem?_set_ne (hne i)] at hu
  rw [List.getElem?_set_ne (hne m)] at hv
  exact h i m u v hi hm him hu hv
theorem MkO.len {lo hi g cap : Nat} {x : List SlotD} {w0 w : World} {xs : List Value} (h : MkO lo hi g cap x w0 w xs) : xs.length = x.length * 7 := h.own.1
theorem MkO.set {lo hi g cap : Nat} {x : List SlotD} {w0 w : World} {xs : List Value} (h : MkO lo hi g cap x w0 w xs) (hgh : g < hi) (j p : Nat) (hj : j < x.length) (hp : p = 0 ∨ p = 1 ∨ p = 2 ∨ p = 3 ∨ p = 5) (y : Value) : MkO lo hi g cap x w0 (w.setCell ⟨g, j * 7 + p, none⟩ y) (xs.set (j * 7 + p) y) := by
  have hS := World.ownsRow.stored h.own (j * 7 + p) y
  refine ⟨hS.1, mCellsO_set h.m h.len j p hj hp y hS.2 (fun u t h2 => rows_apart h2 h.own (by decide)) (fun u t h2 => rows_apart h2 h.own (by decide)), ?_, ?_, betw_trans h.bt (betw_grown hS.2 (fun q e => by injection e with e; rw [← e]; exact ⟨(World.ownsRow.lt h.own g rfl).1, hgh⟩))⟩
  · exact apS_set h.p4 j p (by omega) (by omega) (by omega) y
  · exact apS_set h.p6 j p (by omega) (by omega) (by omega) y
theorem MkO.cell {lo hi g cap : Nat} {x : List SlotD} {w0 w : World} {xs : List Value} (h : MkO lo hi g cap x w0 w xs) (j p : Nat) (hj : j < x.length) (hp : p < 7) : ∃ u, w.cell? ⟨g, j * 7 + p, none⟩ = some u := by
  rw [World.ownsRow.cellAt h.own (j * 7 + p) (by omega), List.getElem?_eq_getElem (by have := h.len; omega)]
  exact ⟨_, rfl⟩
theorem MkO.at {lo hi g cap : Nat} {x : List SlotD} {w0 w : World} {xs : List Value} (h : MkO lo hi g cap x w0 w xs) (j p : Nat) (hj : j < x.length) (hp : p < 7) : ∃ u, xs[j * 7 + p]? = some u ∧ w.cell? ⟨g, j * 7 + p, none⟩ = some u := by
  obtain ⟨u, hu⟩ := h.cell j p hj hp
  exact ⟨u, by rw [← hu, World.ownsRow.cellAt h.own (j * 7 + p) (by omega)], hu⟩
theorem MkO.froz {lo hi g cap : Nat} {x : List SlotD} {w0 w : World} {xs : List Value} (h : MkO lo hi g cap x w0 w xs) (j p : Nat) : w.frozen? ⟨g, j * 7 + p, none⟩ = false := World.ownsRow.frozenAt h.own _
theorem MkO.row4 {lo hi g cap : Nat} {x : List SlotD} {w0 w : World} {xs : List Value} (h : MkO lo hi g cap x w0 w xs) (j : Nat) (hj : j < x.length) {u : Value} (e : xs[j * 7 + 4]? = some u) : ∃ a c, ∃ t : List CellD, u = .slice a t.length c ∧ t.length = x[j].fPart.fCore.fCells.length ∧ OwnsF cCell 107 2 w lo (.slice a t.length c) t ∧
    ∀ (w' : World) (t' : List CellD), OwnsF cCell 107 2 w' lo (.slice a t.length c) t' → t'.length = x[j].fPart.fCore.fCells.length → w.grownBy w' (Value.slice a t.length c).ownBlock → MkO lo hi g cap x w0 w' xs := by
  obtain ⟨cs, ⟨v0, v1, v2, v3, v4, v5, v6, rfl, ⟨t, h1, h2⟩, n, h3, h4⟩, hc⟩ := h.m j hj
  obtain ⟨a, c, rfl⟩ := slice_of h2.1
  have e2 := hc 4 (by decide)
  simp only [List.getElem?_cons_zero, List.getElem?_cons_succ] at e2
  have e3 := e
  rw [e2] at e3
  obtain rfl := Option.some.inj e3
  refine ⟨a, c, t, rfl, h1, h2.1, fun w' t' ho ht hg => ?_⟩
  exact ⟨World.ownsRow.kept h.own hg (rows_apart h.own h2.1 (by decide)), mCellsO_row4 h.m h.p4 j hj e2 h2.1 ho ht hg, h.p4, h.p6, betw_trans h.bt (betw_grown hg (fun q e => ⟨(World.ownsRow.lt h2.1 q e).1, h2.2 q e⟩))⟩
theorem MkO.row6 {lo hi g cap : Nat} {x : List SlotD} {w0 w : World} {xs : List Value} (h : MkO lo hi g cap x w0 w xs) (j : Nat) (hj : j < x.length) {u : Value} (e : xs[j * 7 + 6]? = some u) : ∃ a c, ∃ t : List LayerD, u = .slice a t.length c ∧ t.length = x[j].fPart.fLayers.length ∧ OwnsF cLayer 109 2 w lo (.slice a t.length c) t ∧
    ∀ (w' : World) (t' : List LayerD), OwnsF cLayer 109 2 w' lo (.slice a t.length c) t' → t'.length = x[j].fPart.fLayers.length → w.grownBy w' (Value.slice a t.length c).ownBlock → MkO lo hi g cap x w0 w' xs := by
  obtain ⟨cs, ⟨v0, v1, v2, v3, v4, v5, v6, rfl, ⟨t, h1, h2⟩, n, h3, h4⟩, hc⟩ := h.m j hj
  obtain ⟨a, c, rfl⟩ := slice_of h4.1
  have e2 := hc 6 (by decide)
  simp only [List.getElem?_cons_zero, List.getElem?_cons_succ] at e2
  have e3 := e
  rw [e2] at e3
  obtain rfl := Option.some.inj e3
  refine ⟨a, c, n, rfl, h3, h4.1, fun w' t' ho ht hg => ?_⟩
  exact ⟨World.ownsRow.kept h.own hg (rows_apart h.own h4.1 (by decide)), mCellsO_row6 h.m h.p6 j hj e2 h4.1 ho ht hg, h.p4, h.p6, betw_trans h.bt (betw_grown hg (fun q e => ⟨(World.ownsRow.lt h4.1 q e).1, h4.2 q e⟩))⟩
set_option maxRecDepth 100000 in
set_option maxHeartbeats 3200000 in
theorem markSlotS_w (lo hi : Nat) (v : Value) (x : List SlotD) (k : Int) (w : World) (h : OwnO w lo hi v x) (hm : x.length + sumF zSlot x ≤ 1048576) (h0 : 1 ≤ k) (h1 : k ≤ 1) :
    Calls Try.prog 10 #[v, .int .i64 k] w fun e w' => e = .returned (.int .i64 (k + (sumF cntO x : Nat))) ∧ True ∧ Betw lo hi w w' := by
  obtain ⟨xs0, hr, hv, hc, ha1, ha4⟩ := h
  have hc2 : mCellsO lo hi w xs0 x := fun i hi2 => by
    obtain ⟨cs, ⟨v1, v4, rfl, k1, k4⟩, hcc⟩ := hc i hi2
    exact ⟨_, ⟨_, _, _, _, v1, _, v4, rfl, ⟨_, rfl, k1⟩, _, rfl, k4⟩, hcc⟩
  have HSZ := Lib.hid hm
  have HCB := Lib.hid (fun j (hj : j ≤ x.length) => (show sumF cntO (x.take j) ≤ 5 * j + 2 * sumF zSlot (x.take j) from by
    have : ∀ l : List SlotD, sumF cntO l ≤ 5 * l.length + 2 * sumF zSlot l := fun l => by
      induction l with
      | nil => simp [sumF]
      | cons a r ih => simp only [sumF, List.length_cons, cntO, zSlot, zPart, zCore] at ih ⊢; omega
    have h2 := this (x.take j)
    rw [List.length_take] at h2; omega))
  have HCK := Lib.hid (fun j (hj : j < x.length) => sumF_take_succ cntO x j hj)
  have HZT := Lib.hid (fun j => sumF_take_le zSlot x j)
  rcases hr.2 with ⟨rfl, hn⟩ | ⟨g, cap, cur, rfl, hg0, _⟩
  · have hx : x = [] := List.eq_nil_of_length_eq_zero hn
    subst hx
    go_enter Try.func10, Try.ntmps10
    go_wp2_with fail
    refine wp_loop_rounds 1 ?_
    rw [rounds_succ]
    go_wp2_with fail
    go_ret
    exact ⟨ret_int (by simp [sumF]), trivial, betw_grown (grownBy_refl w none) (fun g e => by cases e)⟩
  · have HGH := Lib.hid (show g < hi from hv g rfl)
    have HO := Lib.hid (show ∃ xs, MkO lo hi g cap x w w xs from ⟨_, hr, hc2, ha1, ha4, betw_grown (grownBy_refl w none) (fun g e => by cases e)⟩)
    clear hr hv hc hc2 ha1 ha4 hm
    go_enter Try.func10, Try.ntmps10
    go_wp2_with fail
    go_loopw [1, 5] (fun kv i wr => ∃ j : Nat, j ≤ x.length ∧ i = .int .i64 j ∧ kv = .int .i64 (k + (sumF cntO (x.take j) : Nat)) ∧ ∃ xs, MkO lo hi g cap x w wr xs) (fun _ i _ => x.length - (intOf i).toNat)
    case atStart => exact ⟨0, Nat.zero_le _, rfl, by simp [sumF], HO.out⟩
    case round =>
      obtain ⟨j, hj, rfl, rfl, xs, hmk⟩ := hrel
      have MK := Lib.hid hmk
      have hcb := HCB.out j hj
      have hzt := HZT.out j
      have hsz := HSZ.out
      clear hmk
      by_cases hlt : j < x.length
      · have HCJ := Lib.hid (HCK.out j hlt)
        have hS : sumF cntO (x.take j) ≤ 8388600 := by omega
        have HZ := Lib.hid (show x[j].fPart.fCore.fCells.length ≤ 1048576 ∧ x[j].fPart.fLayers.length ≤ 1048576 from by
          have h2 := sumF_mem zSlot x x[j] (List.getElem_mem hlt)
          have h3 : x[j].fPart.fCore.fCells.length ≤ zSlot x[j] ∧ x[j].fPart.fLayers.length ≤ zSlot x[j] := (by unfold zSlot zPart zCore; omega)
          omega)
        generalize sumF cntO (x.take j) = S at *
        have hxl : x.length ≤ 1048576 := by omega
        clear hcb hzt hsz
        obtain ⟨u0, c0⟩ := MK.out.cell j 0 hlt (by decide)
        have f0 := MK.out.froz j 0
        simp only [Nat.add_zero] at c0 f0
        go_wp2_with fail
        have MK1 : MkO lo hi g cap x w (wr.setCell ⟨g, j * 7, none⟩ (.bool ((k + S) % 3 == 0))) (xs.set (j * 7) (.bool ((k + S) % 3 == 0))) := MK.out.set HGH.out j 0 hlt (Or.inl rfl) (.bool ((k + S) % 3 == 0))
        refine (markText_any (k + S + 1) _ (by omega) (by omega)).mono ?_
        rintro e w1 ⟨rfl, hb⟩
        obtain ⟨y1, hm1⟩ : ∃ ys, MkO lo hi g cap x w w1 ys := ⟨_, MK1.below hb (Nat.le_refl _)⟩
        have M1 := Lib.hid hm1
        clear hb c0 f0 MK1 hm1
        obtain ⟨u1, c1⟩ := M1.out.cell j 1 hlt (by decide)
        have f1 := M1.out.froz j 1
        obtain ⟨u2, c2⟩ := M1.out.cell j 2 hlt (by decide)
        have f2 := M1.out.froz j 2
        obtain ⟨u3, c3⟩ := M1.out.cell j 3 hlt (by decide)
        have f3 := M1.out.froz j 3
        obtain ⟨u4, e4, c4⟩ := M1.out.at j 4 hlt (by decide)
        have hm2 := ((M1.out.set HGH.out j 1 hlt (by decide) (.string ⟨(markL (k + S + 1)).toArray⟩)).set HGH.out j 2 hlt (by decide) (.bool ((k + S + 1 + 1) % 3 == 0))).set HGH.out j 3 hlt (by decide) (.bool ((k + S + 1 + 1 + 1) % 3 == 0))
        obtain ⟨ra, rc, t, rfl, ht, ho4, hr4⟩ := hm2.row4 j hlt (u := u4) (by rw [List.getElem?_set_ne (by omega), List.getElem?_set_ne (by omega), List.getElem?_set_ne (by omega)]; exact e4)
        have HT := Lib.hid ht
        have O4 := Lib.hid ho4
        have R4 := Lib.hid hr4
        have hrl : t.length ≤ 1048576 := by have := HZ.out.1; omega
        clear hm2 ht ho4 hr4 e4
        go_wp2_with fail
        generalize ((w1.setCell ⟨g, j * 7 + 1, none⟩ (.string ⟨(markL (k + S + 1)).toArray⟩)).setCell ⟨g, j * 7 + 2, none⟩ (.bool ((k + S + 1 + 1) % 3 == 0))).setCell ⟨g, j * 7 + 3, none⟩ (.bool ((k + S + 1 + 1 + 1) % 3 == 0)) = W2 at *
        clear c1 f1 c2 f2 c3 f3 c4
        refine (markCellS_any lo (.slice ra t.length rc) t (k + S + 1 + 1 + 1 + 1) _ O4.out (by omega) (by omega) (by omega)).mono ?_
        rintro e w2 ⟨rfl, ho, hg⟩
        obtain ⟨y2, hm3⟩ : ∃ ys, MkO lo hi g cap x w w2 ys := ⟨_, R4.out w2 _ ho (by rw [marksCell_len]; exact HT.out) hg⟩
        have M3 := Lib.hid hm3
        clear ho hg hm3
        obtain ⟨u5, c5⟩ := M3.out.cell j 5 hlt (by decide)
        have f5 := M3.out.froz j 5
        obtain ⟨u6, e6, c6⟩ := M3.out.at j 6 hlt (by decide)
        have hm4 := M3.out.set HGH.out j 5 hlt (by decide) (.int .i64 (k + S + 1 + 1 + 1 + 1 + t.length * 2))
        obtain ⟨sa, sc, n, rfl, hn, ho6, hr6⟩ := hm4.row6 j hlt (u := u6) (by rw [List.getElem?_set_ne (by omega)]; exact e6)
        have HN2 := Lib.hid hn
        have O6 := Lib.hid ho6
        have R6 := Lib.hid hr6
        have hnl : n.length ≤ 1048576 := by have := HZ.out.2; omega
        clear hm4 hn ho6 hr6 e6
        go_wp2_with fail
        generalize w2.setCell ⟨g, j * 7 + 5, none⟩ (.int .i64 (k + S + 1 + 1 + 1 + 1 + t.length * 2)) = W3 at *
        clear c5 f5 c6
        refine (markLayerS_any lo (.slice sa n.length sc) n (k + S + 1 + 1 + 1 + 1 + t.length * 2 + 1) _ O6.out (by omega) (by omega) (by omega)).mono ?_
        rintro e w3 ⟨rfl, ho, hg⟩
        obtain ⟨y3, hm5⟩ : ∃ ys, MkO lo hi g cap x w w3 ys := ⟨_, R6.out w3 _ ho (by rw [marksLayer_len]; exact HN2.out) hg⟩
        have M5 := Lib.hid hm5
        clear ho hg hm5
        have KV := Lib.hid (show (k + S + 1 + 1 + 1 + 1 + t.length * 2 + 1 + n.length * 2 : Int) = k + (sumF cntO (x.take (j + 1)) : Nat) by rw [HCJ.out, HT.out, HN2.out]; unfold cntO; push_cast; omega)
        go_wp2_with fail
        exact ⟨⟨j + 1, by omega, by go_num, by rw [← KV.out], _, M5.out⟩, by simp [intOf]; omega⟩
      · have HN := Lib.hid (show x.take j = x from List.take_of_length_le (by omega))
        have HBT := Lib.hid MK.out.bt
        go_wp2_with fail
        go_ret
        exact ⟨ret_int (by rw [HN.out]), trivial, HBT.out⟩
end Go.Proofs.Yteeopjcbpngofaa
/- Arguments opened: structs by value, slices of structs. -/
namespace Go.Proofs.Yteeopjcbpngofaa
set_option linter.unusedVariables false
open Go.ChangeShapes Go.WideShapes Go.ChangeAt Go.RowKit Go.WideMaps Go.WideElems
open Go.Deep
section
variable {H : Type} {enc : TypeId × Value → H} {P : Program} {W : World}
theorem leaf_str {n : Nat} {t : TypeId} {c : Value} {x : DataW H × List MemPlace} (ht : P.underlying t = some .string) (h : DataW.trod enc P W 0 (fun _ => true) true n t [c] = some x) : ∃ l : List UInt8, c = .string ⟨l.toArray⟩ ∧ l.length ≤ maxLen := by
  obtain ⟨s, h1, _, h3⟩ := DataW.trod_string ht h
  injection h1 with h1
  exact ⟨s.data.toList, by rw [h1], by rw [Array.length_toList]; exact h3⟩
theorem leaf_int {n : Nat} {t : TypeId} {c : Value} {x : DataW H × List MemPlace} (ht : P.underlying t = some (.int .i64)) (h : DataW.trod enc P W 0 (fun _ => true) true n t [c] = some x) : ∃ z : Int, c = .int .i64 z ∧ -9223372036854775808 ≤ z ∧ z ≤ 9223372036854775807 := by
  obtain ⟨z, h1, _, h3⟩ := DataW.trod_int ht h
  injection h1 with h1
  exact ⟨z, h1, bounds_i64 h3⟩
theorem leaf_bool {n : Nat} {t : TypeId} {c : Value} {x : DataW H × List MemPlace} (ht : P.underlying t = some .bool) (h : DataW.trod enc P W 0 (fun _ => true) true n t [c] = some x) : ∃ b : Bool, c = .bool b := by
  obtain ⟨b, h1, _⟩ := DataW.trod_bool ht h
  injection h1 with h1
  exact ⟨b, h1⟩
theorem field_at {fs : Array Field} {n : Nat} {cs : List Value} {xs : List (DataW H × List MemPlace)} (hl : xs.length = fs.size)
    (hf : ∀ (i : Nat) (f : Field), fs[i]? = some f → DataW.trod enc P W 0 (fun _ => true) true n f.type ((cs.drop f.offset).take (P.cellsOf f.type)) = xs[i]?) (i : Nat) (f : Field) (h : fs[i]? = some f) :
    ∃ x, DataW.trod enc P W 0 (fun _ => true) true n f.type ((cs.drop f.offset).take (P.cellsOf f.type)) = some x := by
  have hi : i < fs.size := (Array.getElem?_eq_some_iff.1 h).1
  exact ⟨xs[i]'(by omega), by rw [hf i f h, List.getElem?_eq_getElem]⟩
theorem field_one {fs : Array Field} {n : Nat} {cs : List Value} {xs : List (DataW H × List MemPlace)} (hl : xs.length = fs.size)
    (hf : ∀ (i : Nat) (f : Field), fs[i]? = some f → DataW.trod enc P W 0 (fun _ => true) true n f.type ((cs.drop f.offset).take (P.cellsOf f.type)) = xs[i]?) (i : Nat) (f : Field) (T o : Nat) (c : Value) (r : List Value) (h : fs[i]? = some f) (hT : f.type = T) (ho : f.offset = o) (hc : P.cellsOf T = 1) (hd : cs.drop o = c :: r) :
    ∃ x, DataW.trod enc P W 0 (fun _ => true) true n T [c] = some x := by
  obtain ⟨x, hx⟩ := field_at hl hf i f h
  subst hT; subst ho
  rw [hc, hd] at hx
  exact ⟨x, hx⟩
/-- a slice of structs of texts and numbers -/
theorem open_flat {α : Type} [Inhabited α] {f : α → List Value} {k : Nat} {G : α → Prop} (hk : ∀ x, (f x).length = k) (hk0 : 0 < k) {t e : TypeId} {n : Nat} {v : Value} {x : DataW H × List MemPlace} (ht : P.underlying t = some (.slice e)) (hc : P.cellsOf e = k)
    (hel : ∀ n cs x, DataW.trod enc P W 0 (fun _ => true) true n e cs = some x → ∃ d, cs = f d ∧ G d) (h : DataW.trod enc P W 0 (fun _ => true) true n t [v] = some x) :
    ∃ l : List α, FlatAt f k W v l ∧ ∀ d ∈ l, G d := by
  rcases open_slice ht h with ⟨h0, _⟩ | ⟨a, len, cap, m, n', D, Pl, hcs, _, hl, hm, hmm, _, hx⟩
  · injection h0 with h0
    subst h0
    exact ⟨[], ⟨none, 0, rfl, by simp, Nat.zero_le _, Or.inl rfl⟩, by simp⟩
  · injection hcs with hcs
    subst hcs
    simp only [if_true] at hmm
    subst hmm
    obtain ⟨F, hF⟩ := choose_lt (α := α) (p := fun i d => (∀ j, j < k → W.cell? ((a.add (i * k)).add j) = (f d)[j]?) ∧ G d) (n := m) (fun i hi => by
      obtain ⟨cs', h1, h2⟩ := hx i hi
      obtain ⟨d, rfl, hg⟩ := hel _ _ _ h2
      rw [hc] at h1
      obtain ⟨_, _, h3⟩ := World.cells?_some h1
      exact ⟨d, h3, hg⟩)
    refine ⟨(List.range len).map F, ?_, ?_⟩
    · obtain ⟨ab, ao, spot⟩ := a
      refine ⟨some ⟨ab, ao, spot⟩, m - len, by simp; omega, by rw [flat_len f k hk, List.length_map], by simp; omega, ?_⟩
      rcases Nat.eq_zero_or_pos len with h0 | hpos
      · left; simp [h0]
      · right
        have g0 := (hF 0 (by omega)).1 0 hk0
        have hlen0 : 0 < (f (F 0)).length := by rw [hk]; exact hk0
        rw [List.getElem?_eq_getElem hlen0] at g0
        have hspot : spot = none := by
          have := World.cell?_spot g0
          simpa [Addr.add] using this
        subst hspot
        have hlt : ab < W.heap.size := by
          simp only [Addr.add_lit, Nat.zero_mul, Nat.add_zero] at g0
          exact World.block_lt_of_cell? W _ g0
        refine ⟨ab, ao, rfl, hlt, fun i hi => ?_⟩
        rw [List.length_map, List.length_range] at hi
        have hq : i / k < len := Nat.div_lt_of_lt_mul (by rw [Nat.mul_comm]; exact hi)
        have hr : i % k < k := Nat.mod_lt _ hk0
        have h1 := (hF (i / k) (by omega)).1 (i % k) hr
        rw [Addr.add_lit, Addr.add_lit] at h1
        have e1 : i / k * k + i % k = i := by rw [Nat.mul_comm]; exact Nat.div_add_mod i k
        rw [show ao + i / k * k + i % k = ao + i by omega] at h1
        rw [h1, ← e1, flat_get f k hk _ (i / k) (by simpa using hq) (i % k) hr]
        simp [e1]
    · intro d hd
      obtain ⟨i, hi, rfl⟩ := List.mem_map.1 hd
      exact (hF i (by have := List.mem_range.1 hi; omega)).2
theorem two_of {α : Type} {l : List α} (h : l.length = 2) : ∃ a b, l = [a, b] := by match l, h with | [a, b], _ => exact ⟨a, b, rfl⟩
theorem three_of {α : Type} {l : List α} (h : l.length = 3) : ∃ a b c, l = [a, b, c] := by match l, h with | [a, b, c], _ => exact ⟨a, b, c, rfl⟩
theorem four_of {α : Type} {l : List α} (h : l.length = 4) : ∃ a b c d, l = [a, b, c, d] := by match l, h with | [a, b, c, d], _ => exact ⟨a, b, c, d, rfl⟩
theorem five_of {α : Type} {l : List α} (h : l.length = 5) : ∃ a b c d e, l = [a, b, c, d, e] := by match l, h with | [a, b, c, d, e], _ => exact ⟨a, b, c, d, e, rfl⟩
end
section
variable {H : Type} {enc : TypeId × Value → H} {W : World}
set_option maxRecDepth 100000 in
theorem open_Cell {n : Nat} {cs : List Value} {x : DataW H × List MemPlace} (h : DataW.trod enc Try.prog W 0 (fun _ => true) true n 170 cs = some x) : ∃ d : CellD, cs = cCell d ∧ okCell d := by
  obtain ⟨xs, m, rfl, _, hl, hn, hf⟩ := DataW.trod_struct Try.underlying170 h
  rw [show Try.prog.cellsOf 170 = 2 by kernel_rfl] at hl
  obtain ⟨c0, c1, rfl⟩ := two_of hl
  obtain ⟨y0, k0⟩ := field_one hn hf 0 _ 9 0 _ _ rfl rfl rfl (by kernel_rfl) rfl
  obtain ⟨y1, k1⟩ := field_one hn hf 1 _ 3 1 _ _ rfl rfl rfl (by kernel_rfl) rfl
  obtain ⟨l0, rfl, b0⟩ := leaf_str Try.underlying9 k0
  obtain ⟨l1, rfl, b1⟩ := leaf_int Try.underlying3 k1
  exact ⟨⟨l0, l1⟩, rfl, b0, b1⟩
set_option maxRecDepth 100000 in
theorem openS_Cell {n : Nat} {v : Value} {x : DataW H × List MemPlace} (h : DataW.trod enc Try.prog W 0 (fun _ => true) true n 68 [v] = some x) : ∃ l : List CellD, FlatAt cCell 2 W v l ∧ ∀ d ∈ l, okCell d :=
  haveI : Inhabited CellD := ⟨⟨[], 0⟩⟩
  open_flat cCell_len (by decide) Try.underlying68 (by kernel_rfl) (fun _ _ _ h => open_Cell h) h
set_option maxRecDepth 100000 in
theorem argS_Cell {base : Nat} {v : Value} {d : DataW H} {p : List MemPlace} (hval : Value.okWide Try.prog W .any base 68 v) (h : DataW.Trod enc Try.prog W 0 (fun _ => true) true 68 v d p) : ∃ l : List CellD, FlatAt cCell 2 W v l ∧ ∀ d ∈ l, okCell d := by
  obtain ⟨a1, len, cap, rfl⟩ := okWide_slice Try.underlying68 hval
  obtain ⟨fuel, hf⟩ := h
  exact openS_Cell hf
end
end Go.Proofs.Yteeopjcbpngofaa
/- Arguments opened: cores. -/
namespace Go.Proofs.Yteeopjcbpngofaa
set_option linter.unusedVariables false
open Go.ChangeShapes Go.WideShapes Go.ChangeAt Go.RowKit Go.WideMaps Go.WideElems
open Go.Deep
section
variable {H : Type} {enc : TypeId × Value → H} {W : World}
set_option maxRecDepth 100000 in
theorem open_Core {n : Nat} {cs : List Value} {x : DataW H × List MemPlace} (h : DataW.trod enc Try.prog W 0 (fun _ => true) true n 70 cs = some x) :
    ∃ (d : CoreD) (cv : Value), cs = [.string ⟨d.fKind.toArray⟩, .bool d.fOn, .bool d.fBroken, cv, .int .i64 d.fCount] ∧ FlatAt cCell 2 W cv d.fCells ∧ okCore d := by
  obtain ⟨xs, m, rfl, _, hl, hn, hf⟩ := DataW.trod_struct Try.underlying70 h
  rw [show Try.prog.cellsOf 70 = 5 by kernel_rfl] at hl
  obtain ⟨c0, c1, c2, c3, c4, rfl⟩ := five_of hl
  obtain ⟨y0, k0⟩ := field_one hn hf 0 _ 9 0 _ _ rfl rfl rfl (by kernel_rfl) rfl
  obtain ⟨y1, k1⟩ := field_one hn hf 1 _ 4 1 _ _ rfl rfl rfl (by kernel_rfl) rfl
  obtain ⟨y2, k2⟩ := field_one hn hf 2 _ 4 2 _ _ rfl rfl rfl (by kernel_rfl) rfl
  obtain ⟨y3, k3⟩ := field_one hn hf 3 _ 68 3 _ _ rfl rfl rfl (by kernel_rfl) rfl
  obtain ⟨y4, k4⟩ := field_one hn hf 4 _ 3 4 _ _ rfl rfl rfl (by kernel_rfl) rfl
  obtain ⟨l0, rfl, b0⟩ := leaf_str Try.underlying9 k0
  obtain ⟨l1, rfl⟩ := leaf_bool Try.underlying4 k1
  obtain ⟨l2, rfl⟩ := leaf_bool Try.underlying4 k2
  obtain ⟨l3, b3, e3⟩ := openS_Cell k3
  obtain ⟨l4, rfl, b4⟩ := leaf_int Try.underlying3 k4
  exact ⟨⟨l0, l1, l2, l3, l4⟩, c3, rfl, b3, b0, e3, b4⟩
set_option maxRecDepth 100000 in
theorem arg_Core {base : Nat} {v : Value} {d : DataW H} {p : List MemPlace} (hval : Value.okWide Try.prog W .any base 70 v) (h : DataW.Trod enc Try.prog W 0 (fun _ => true) true 70 v d p) : ∃ d : CoreD, CoreAt W v d ∧ okCore d := by
  obtain ⟨cs, rfl, _⟩ := okWide_struct Try.underlying70 hval
  obtain ⟨fuel, hf⟩ := h
  obtain ⟨d, cv, h1, h2, h3⟩ := open_Core hf
  refine ⟨d, ⟨cv, ?_, h2⟩, h3⟩
  simp only [Value.cells] at h1
  unfold vCore
  congr 1
  exact Array.toList_inj.1 h1
end
end Go.Proofs.Yteeopjcbpngofaa
/- Arguments opened: flat structs. Written by gen/openflat.py. -/
namespace Go.Proofs.Yteeopjcbpngofaa
set_option linter.unusedVariables false
open Go.ChangeShapes Go.WideShapes Go.ChangeAt Go.RowKit Go.WideMaps Go.WideElems
open Go.Deep
section
variable {H : Type} {enc : TypeId × Value → H} {W : World}
set_option maxRecDepth 100000 in
theorem open_Layer {n : Nat} {cs : List Value} {x : DataW H × List MemPlace} (h : DataW.trod enc Try.prog W 0 (fun _ => true) true n 158 cs = some x) : ∃ d : LayerD, cs = cLayer d ∧ okLayer d := by
  obtain ⟨xs, m, rfl, _, hl, hn, hf⟩ := DataW.trod_struct Try.underlying158 h
  rw [show Try.prog.cellsOf 158 = 2 by kernel_rfl] at hl
  obtain ⟨c0, c1, rfl⟩ := two_of hl
  obtain ⟨y0, k0⟩ := field_one hn hf 0 _ 9 0 _ _ rfl rfl rfl (by kernel_rfl) rfl
  obtain ⟨y1, k1⟩ := field_one hn hf 1 _ 3 1 _ _ rfl rfl rfl (by kernel_rfl) rfl
  obtain ⟨l0, rfl, b0⟩ := leaf_str Try.underlying9 k0
  obtain ⟨l1, rfl, b1⟩ := leaf_int Try.underlying3 k1
  exact ⟨⟨l0, l1⟩, rfl, b0, b1⟩
set_option maxRecDepth 100000 in
theorem arg_Layer {base : Nat} {v : Value} {d : DataW H} {p : List MemPlace} (hval : Value.okWide Try.prog W .any base 158 v) (h : DataW.Trod enc Try.prog W 0 (fun _ => true) true 158 v d p) : ∃ d : LayerD, v = vLayer d ∧ okLayer d := by
  obtain ⟨cs, rfl, _⟩ := okWide_struct Try.underlying158 hval
  obtain ⟨fuel, hf⟩ := h
  obtain ⟨d, h1, h2⟩ := open_Layer hf
  refine ⟨d, ?_, h2⟩
  simp only [Value.cells] at h1
  unfold vLayer
  congr 1
  exact Array.toList_inj.1 h1
set_option maxRecDepth 100000 in
theorem openS_Layer {n : Nat} {v : Value} {x : DataW H × List MemPlace} (h : DataW.trod enc Try.prog W 0 (fun _ => true) true n 71 [v] = some x) : ∃ l : List LayerD, FlatAt cLayer 2 W v l ∧ ∀ d ∈ l, okLayer d :=
  haveI : Inhabited LayerD := ⟨⟨[], 0⟩⟩
  open_flat cLayer_len (by decide) Try.underlying71 (by kernel_rfl) (fun _ _ _ h => open_Layer h) h
set_option maxRecDepth 100000 in
theorem argS_Layer {base : Nat} {v : Value} {d : DataW H} {p : List MemPlace} (hval : Value.okWide Try.prog W .any base 71 v) (h : DataW.Trod enc Try.prog W 0 (fun _ => true) true 71 v d p) : ∃ l : List LayerD, FlatAt cLayer 2 W v l ∧ ∀ d ∈ l, okLayer d := by
  obtain ⟨a1, len, cap, rfl⟩ := okWide_slice Try.underlying71 hval
  obtain ⟨fuel, hf⟩ := h
  exact openS_Layer hf
end
end Go.Proofs.Yteeopjcbpngofaa
/- Arguments opened: slices of structs that hold rows themselves. -/
namespace Go.Proofs.Yteeopjcbpngofaa
set_option linter.unusedVariables false
open Go.ChangeShapes Go.WideShapes Go.ChangeAt Go.RowKit Go.WideMaps Go.WideElems
open Go.Deep
section
variable {H : Type} {enc : TypeId × Value → H} {P : Program} {W : World}
theorem open_deep {α : Type} [Inhabited α] {R : Nat → World → List Value → α → Prop} {k : Nat} {G : α → Prop} (hg : Good R k) (hk0 : 0 < k) {t e : TypeId} {n : Nat} {v : Value} {x : DataW H × List MemPlace} (ht : P.underlying t = some (.slice e)) (hc : P.cellsOf e = k)
    (hel : ∀ n cs x, DataW.trod enc P W 0 (fun _ => true) true n e cs = some x → ∃ d, R 0 W cs d ∧ G d) (h : DataW.trod enc P W 0 (fun _ => true) true n t [v] = some x) :
    ∃ l : List α, SliceAt R k 0 W v l ∧ ∀ d ∈ l, G d := by
  rcases open_slice ht h with ⟨h0, _⟩ | ⟨a, len, cap, m, n', D, Pl, hcs, _, hl, hm, hmm, _, hx⟩
  · injection h0 with h0
    subst h0
    exact ⟨[], sliceAt_nil _ _, by simp⟩
  · injection hcs with hcs
    subst hcs
    simp only [if_true] at hmm
    subst hmm
    obtain ⟨F, hF⟩ := choose_lt (α := α) (p := fun i d => (∃ cs, R 0 W cs d ∧ ∀ j, j < k → W.cell? ((a.add (i * k)).add j) = cs[j]?) ∧ G d) (n := m) (fun i hi => by
      obtain ⟨cs', h1, h2⟩ := hx i hi
      obtain ⟨d, hr, hg2⟩ := hel _ _ _ h2
      rw [hc] at h1
      obtain ⟨_, _, h3⟩ := World.cells?_some h1
      exact ⟨d, ⟨cs', hr, h3⟩, hg2⟩)
    refine ⟨(List.range len).map F, ?_, ?_⟩
    · obtain ⟨ab, ao, spot⟩ := a
      refine ⟨some ⟨ab, ao, spot⟩, m - len, by simp; omega, by simp; omega, ?_⟩
      rcases Nat.eq_zero_or_pos len with h0 | hpos
      · left; simp [h0]
      · right
        obtain ⟨cs0, r0, g0⟩ := (hF 0 (by omega)).1
        have g0 := g0 0 hk0
        have hlen0 : 0 < cs0.length := by rw [hg.len r0]; exact hk0
        rw [List.getElem?_eq_getElem hlen0] at g0
        have hspot : spot = none := by
          have := World.cell?_spot g0
          simpa [Addr.add] using this
        subst hspot
        have hlt : ab < W.heap.size := by
          simp only [Addr.add_lit, Nat.zero_mul, Nat.add_zero] at g0
          exact World.block_lt_of_cell? W _ g0
        refine ⟨ab, ao, rfl, Nat.zero_le _, hlt, fun i hi => ?_⟩
        have hi2 : i < len := by simpa using hi
        obtain ⟨cs, r1, g1⟩ := (hF i (by omega)).1
        refine ⟨cs, by simpa using r1, fun j hj => ?_⟩
        have h2 := g1 j hj
        rw [Addr.add_lit, Addr.add_lit] at h2
        exact h2
    · intro d hd
      obtain ⟨i, hi, rfl⟩ := List.mem_map.1 hd
      exact (hF i (by have := List.mem_range.1 hi; omega)).2
end
end Go.Proofs.Yteeopjcbpngofaa
/- Arguments opened: parts. -/
namespace Go.Proofs.Yteeopjcbpngofaa
set_option linter.unusedVariables false
open Go.ChangeShapes Go.WideShapes Go.ChangeAt Go.RowKit Go.WideMaps Go.WideElems
open Go.Deep
theorem belPart {w w' : World} {cs : List Value} {x : PartD} {F B : Nat} (h : rPart F w cs x) (hb : Below B w w') (hB : w.heap.size ≤ B) : rPart F w' cs x := goodPart.keep h (kept_below hb hB)
theorem six_of {α : Type} {l : List α} (h : l.length = 6) : ∃ a b c d e f, l = [a, b, c, d, e, f] := by match l, h with | [a, b, c, d, e, f], _ => exact ⟨a, b, c, d, e, f, rfl⟩
section
variable {H : Type} {enc : TypeId × Value → H} {W : World}
set_option maxRecDepth 100000 in
theorem openR_Part {n : Nat} {cs : List Value} {x : DataW H × List MemPlace} (h : DataW.trod enc Try.prog W 0 (fun _ => true) true n 73 cs = some x) : ∃ d : PartD, rPart 0 W cs d ∧ okPart d := by
  obtain ⟨xs, m, rfl, _, hl, hn, hf⟩ := DataW.trod_struct Try.underlying73 h
  rw [show Try.prog.cellsOf 73 = 6 by kernel_rfl] at hl
  obtain ⟨c0, c1, c2, c3, c4, c5, rfl⟩ := six_of hl
  obtain ⟨y0, k0⟩ := field_at hn hf 0 _ rfl
  have k0 : DataW.trod enc Try.prog W 0 (fun _ => true) true m 70 [c0, c1, c2, c3, c4] = some y0 := by
    have e : Try.prog.cellsOf 70 = 5 := by kernel_rfl
    simpa [e] using k0
  obtain ⟨y1, k1⟩ := field_one hn hf 1 _ 71 5 _ _ rfl rfl rfl (by kernel_rfl) rfl
  obtain ⟨d, cv, e0, b0, g0⟩ := open_Core k0
  obtain ⟨l1, b1, g1⟩ := openS_Layer k1
  injection e0 with e0 e1
  injection e1 with e1 e2
  injection e2 with e2 e3
  injection e3 with e3 e4
  injection e4 with e4 _
  subst e0 e1 e2 e3 e4
  exact ⟨⟨d, l1⟩, ⟨c3, c5, rfl, sliceAt_of_flat cCell_len b0, sliceAt_of_flat cLayer_len b1⟩, g0, g1⟩
set_option maxRecDepth 100000 in
theorem arg_Part {base : Nat} {v : Value} {d : DataW H} {p : List MemPlace} (hval : Value.okWide Try.prog W .any base 73 v) (h : DataW.Trod enc Try.prog W 0 (fun _ => true) true 73 v d p) : ∃ d : PartD, ValAt rPart 0 W v d ∧ okPart d := by
  obtain ⟨cs, rfl, _⟩ := okWide_struct Try.underlying73 hval
  obtain ⟨fuel, hf⟩ := h
  obtain ⟨d, h1, h2⟩ := openR_Part hf
  exact ⟨d, ⟨cs.toList, by simp, h1⟩, h2⟩
end
end Go.Proofs.Yteeopjcbpngofaa
/- Arguments opened: slices of slots. -/
namespace Go.Proofs.Yteeopjcbpngofaa
set_option linter.unusedVariables false
open Go.ChangeShapes Go.WideShapes Go.ChangeAt Go.RowKit Go.WideMaps Go.WideElems
open Go.Deep
theorem belSlot {w w' : World} {cs : List Value} {x : SlotD} {F B : Nat} (h : rSlot F w cs x) (hb : Below B w w') (hB : w.heap.size ≤ B) : rSlot F w' cs x := goodSlot.keep h (kept_below hb hB)
theorem belSlotS {w w' : World} {v : Value} {l : List SlotD} {F B : Nat} (h : SliceAt rSlot 7 F w v l) (hb : Below B w w') (hB : w.heap.size ≤ B) : SliceAt rSlot 7 F w' v l := h.below goodSlot hb hB
theorem zeroSlotS {w : World} {v : Value} {l : List SlotD} {F : Nat} (h : SliceAt rSlot 7 F w v l) : SliceAt rSlot 7 0 w v l := h.mono goodSlot (Nat.zero_le _)
theorem slot_seven {α : Type} {l : List α} (h : l.length = 7) : ∃ a b c d e f g, l = [a, b, c, d, e, f, g] := by match l, h with | [a, b, c, d, e, f, g], _ => exact ⟨a, b, c, d, e, f, g, rfl⟩
section
variable {H : Type} {enc : TypeId × Value → H} {W : World}
set_option maxRecDepth 100000 in
theorem openR_Slot {n : Nat} {cs : List Value} {x : DataW H × List MemPlace} (h : DataW.trod enc Try.prog W 0 (fun _ => true) true n 75 cs = some x) : ∃ d : SlotD, rSlot 0 W cs d ∧ okSlot d := by
  obtain ⟨xs, m, rfl, _, hl, hn, hf⟩ := DataW.trod_struct Try.underlying75 h
  rw [show Try.prog.cellsOf 75 = 7 by kernel_rfl] at hl
  obtain ⟨c0, c1, c2, c3, c4, c5, c6, rfl⟩ := slot_seven hl
  obtain ⟨y0, k0⟩ := field_one hn hf 0 _ 4 0 _ _ rfl rfl rfl (by kernel_rfl) rfl
  obtain ⟨y1, k1⟩ := field_at hn hf 1 _ rfl
  have k1 : DataW.trod enc Try.prog W 0 (fun _ => true) true m 73 [c1, c2, c3, c4, c5, c6] = some y1 := by
    have e : Try.prog.cellsOf 73 = 6 := by kernel_rfl
    simpa [e] using k1
  obtain ⟨b, rfl⟩ := leaf_bool Try.underlying4 k0
  obtain ⟨p, ⟨v3, v5, e1, b3, b5⟩, g1⟩ := openR_Part k1
  injection e1 with e1 e2
  injection e2 with e2 e3
  injection e3 with e3 e4
  injection e4 with e4 e5
  injection e5 with e5 e6
  injection e6 with e6 _
  subst e1 e2 e3 e4 e5 e6
  exact ⟨⟨b, p⟩, ⟨_, _, rfl, b3, b5⟩, trivial, g1⟩
set_option maxRecDepth 100000 in
theorem argS_Slot {base : Nat} {v : Value} {d : DataW H} {p : List MemPlace} (hval : Value.okWide Try.prog W .any base 27 v) (h : DataW.Trod enc Try.prog W 0 (fun _ => true) true 27 v d p) : ∃ l : List SlotD, SliceAt rSlot 7 0 W v l ∧ ∀ d ∈ l, okSlot d := by
  obtain ⟨a1, len, cap, rfl⟩ := okWide_slice Try.underlying27 hval
  obtain ⟨fuel, hf⟩ := h
  haveI : Inhabited SlotD := ⟨⟨false, ⟨⟨[], false, false, [], 0⟩, []⟩⟩⟩
  exact open_deep goodSlot (by decide) Try.underlying27 (by kernel_rfl) (fun _ _ _ h => openR_Slot h) hf
end
end Go.Proofs.Yteeopjcbpngofaa
namespace Go.Proofs.Yteeopjcbpngofaa
set_option linter.unusedVariables false
set_option linter.unusedSimpArgs false
open Go.ChangeShapes Go.WideShapes Go.ChangeAt Go.RowKit Go.WideMaps Go.WideElems
open Go.ChangeMaps (open_string shut_string)
set_option maxRecDepth 100000 in
set_option maxHeartbeats 3200000 in
theorem exactShapesOf_any (v0 : Value) (x0 : List SlotD) (w : World) (a0 : SliceAt rSlot 7 0 w v0 x0) (g0 : ∀ d ∈ x0, okSlot d) :
    Calls Try.prog 4 #[v0] w fun e w' => e = .returned (.bool true) ∧ Below w.heap.size w w' := by
  have A0 := Lib.hid a0
  have G0 := Lib.hid g0
  clear a0 g0
  go_enter Try.func4, Try.ntmps4
  go_wp2_with fail
  refine (szSlotS_d v0 x0 1048576 _ (belSlotS A0.out (by repeat (first | exact Below.refl _ _ | refine Below.alloc ?_ (by simp; try omega) _ | refine Below.setCell ?_ (by simp; try omega) _ | refine belN ?_ _ | refine belD ?_)) (Nat.le_refl _)) G0.out (by omega) (by omega)).mono ?_
  rintro e w1 ⟨r0, rfl, hr0a, hr0b, hb0⟩
  have hb := below_step (w := w) (by repeat (first | exact Below.refl _ _ | refine Below.alloc ?_ (by simp; try omega) _ | refine Below.setCell ?_ (by simp; try omega) _ | refine belN ?_ _ | refine belD ?_)) hb0
  have Cw_w1 := Lib.hid hb
  have A0_w1 := Lib.hid (belSlotS A0.out hb (Nat.le_refl _))
  clear hb hb0
  by_cases hr0 : r0 < 0
  · clear hr0b
    go_wp2_with fail
    go_ret
    exact ⟨rfl, below_to Cw_w1.out (by repeat (first | exact Below.refl _ _ | refine Below.alloc ?_ (by simp; try omega) _ | refine Below.setCell ?_ (by simp; try omega) _ | refine belN ?_ _ | refine belD ?_))⟩
  · have hs0 := hr0b (by omega)
    clear hr0b
    have HSZ := Lib.hid (show (x0.length + sumF zSlot x0) ≤ 1048576 by push_cast; omega)
    clear hs0
    have HSM0 := Lib.hid (show x0.length ≤ 1048576 by have h := HSZ.out; omega)
    have HZE := Lib.hid (show ∀ e ∈ x0, zPart e.fPart ≤ 1048576 from fun e he => by
      have h1 := HSZ.out
      have h2 := sumF_mem zSlot x0 e he
      have h3 : zPart e.fPart ≤ zSlot e := by unfold zSlot; omega
      omega)
    have HZL := Lib.hid (show x0.length ≤ 1048576 by have h1 := HSZ.out; omega)
    have HRL := Lib.hid (show (x0.map shapeS).length ≤ 2097152 from by rw [List.length_map]; have := HZL.out; omega)
    have HSP := Lib.hid (fun v w1 (h : SliceAt rSlot 7 0 w1 v x0) => (specShapes_any v x0 w1 h HZE.out HZL.out).mono (fun e w2 h2 => givesF_str h2))
    have HIM := Lib.hid (fun v w1 (h : SliceAt rSlot 7 0 w1 v x0) => (implShapes_any v x0 w1 h HZE.out HZL.out).mono (fun e w2 h2 => givesF_str h2))
    unfold GivesF at HSP HIM
    generalize x0.map shapeS = x at *
    go_wp2_with fail
    refine (toSlotS_d v0 x0 _ (belSlotS A0_w1.out (by repeat (first | exact Below.refl _ _ | refine Below.alloc ?_ (by simp; try omega) _ | refine Below.setCell ?_ (by simp; try omega) _ | refine belN ?_ _ | refine belD ?_)) (Nat.le_refl _)) (by have := HSZ.out; omega)).mono ?_
    rintro e w2 ⟨u1, rfl, ho, hb0⟩
    have hb := below_step (w := w1) (by repeat (first | exact Below.refl _ _ | refine Below.alloc ?_ (by simp; try omega) _ | refine Below.setCell ?_ (by simp; try omega) _ | refine belN ?_ _ | refine belD ?_)) hb0
    have Cw_w2 := Lib.hid (Cw_w1.out.trans (hb.mono Cw_w1.out.size))
    have A0_w2 := Lib.hid (belSlotS A0_w1.out hb (Nat.le_refl _))
    have S1 := Lib.hid (zeroSlotS ho)
    clear ho
    clear hb hb0
    go_wp2_with fail
    refine (HSP.out u1 _ (belSlotS S1.out (by repeat (first | exact Below.refl _ _ | refine Below.alloc ?_ (by simp; try omega) _ | refine Below.setCell ?_ (by simp; try omega) _ | refine belN ?_ _ | refine belD ?_)) (Nat.le_refl _))).mono ?_
    rintro e w3 ⟨vs, rfl, ho, hb0⟩
    have hb := below_step (w := w2) (by repeat (first | exact Below.refl _ _ | refine Below.alloc ?_ (by simp; try omega) _ | refine Below.setCell ?_ (by simp; try omega) _ | refine belN ?_ _ | refine belD ?_)) hb0
    have Cw_w3 := Lib.hid (Cw_w2.out.trans (hb.mono Cw_w2.out.size))
    have A0_w3 := Lib.hid (belSlotS A0_w2.out hb (Nat.le_refl _))
    have S1_w3 := Lib.hid (belSlotS S1.out hb (Nat.le_refl _))
    have ho := (show OwnsF cStr 9 1 _ _ _ x from ho)
    obtain ⟨LRs, hLRs, ho⟩ := own_lo ho
    try simp at hLRs
    have HLRs := Lib.hid hLRs
    clear hLRs
    have Rs := Lib.hid (ownR_of ho)
    have Rsa := Lib.hid (ownsF_at ho (by have := HRL.out; omega))
    clear ho
    clear hb hb0
    go_wp2_with fail
    refine (toSlotS_o v0 x0 _ (belSlotS A0_w3.out (by repeat (first | exact Below.refl _ _ | refine Below.alloc ?_ (by simp; try omega) _ | refine Below.setCell ?_ (by simp; try omega) _ | refine belN ?_ _ | refine belD ?_)) (Nat.le_refl _)) (by have := HSZ.out; omega)).mono ?_
    rintro e w4 ⟨u2, rfl, ho, hb0⟩
    have hb := below_step (w := w3) (by repeat (first | exact Below.refl _ _ | refine Below.alloc ?_ (by simp; try omega) _ | refine Below.setCell ?_ (by simp; try omega) _ | refine belN ?_ _ | refine belD ?_)) hb0
    have Cw_w4 := Lib.hid (Cw_w3.out.trans (hb.mono Cw_w3.out.size))
    have Cw3_w4 := Lib.hid hb
    have A0_w4 := Lib.hid (belSlotS A0_w3.out hb (Nat.le_refl _))
    have Rsa_w4 := Lib.hid (FlatAt.below Rsa.out hb (Nat.le_refl _))
    obtain ⟨LX2, hLX2, ho⟩ := own_loO ho
    try simp at hLX2
    have HLX2 := Lib.hid hLX2
    clear hLX2
    have X2 := Lib.hid ho
    have X2a := Lib.hid (ownO_at ho (by have := HSZ.out; omega))
    clear ho
    have LCX2_w := Lib.hid (show w.heap.size ≤ LX2 by have h := Cw_w3.out.size; have h2 := HLX2.out; omega)
    have LCX2_w3 := Lib.hid (show w3.heap.size ≤ LX2 by have h := (Below.refl w3.heap.size w3).size; have h2 := HLX2.out; omega)
    clear hb hb0
    go_wp2_with fail
    refine (HIM.out u2 _ (belSlotS X2a.out (by repeat (first | exact Below.refl _ _ | refine Below.alloc ?_ (by simp; try omega) _ | refine Below.setCell ?_ (by simp; try omega) _ | refine belN ?_ _ | refine belD ?_)) (Nat.le_refl _))).mono ?_
    rintro e w5 ⟨vg, rfl, ho, hb0⟩
    have hb := below_step (w := w4) (by repeat (first | exact Below.refl _ _ | refine Below.alloc ?_ (by simp; try omega) _ | refine Below.setCell ?_ (by simp; try omega) _ | refine belN ?_ _ | refine belD ?_)) hb0
    have Cw_w5 := Lib.hid (Cw_w4.out.trans (hb.mono Cw_w4.out.size))
    have Cw3_w5 := Lib.hid (Cw3_w4.out.trans (hb.mono Cw3_w4.out.size))
    have Cw4_w5 := Lib.hid hb
    have A0_w5 := Lib.hid (belSlotS A0_w4.out hb (Nat.le_refl _))
    have Rsa_w5 := Lib.hid (FlatAt.below Rsa_w4.out hb (Nat.le_refl _))
    have X2a_w5 := Lib.hid (belSlotS X2a.out hb (Nat.le_refl _))
    have X2_w5 := Lib.hid (ownO_below X2.out hb (Nat.le_refl _))
    have ho := (show OwnsF cStr 9 1 _ _ _ x from ho)
    obtain ⟨LRg, hLRg, ho⟩ := own_lo ho
    try simp at hLRg
    have HLRg := Lib.hid hLRg
    clear hLRg
    have Rg := Lib.hid (ownR_of ho)
    have Rga := Lib.hid (ownsF_at ho (by have := HRL.out; omega))
    clear ho
    have LCRg_w := Lib.hid (show w.heap.size ≤ LRg by have h := Cw_w4.out.size; have h2 := HLRg.out; omega)
    have LCRg_w3 := Lib.hid (show w3.heap.size ≤ LRg by have h := Cw3_w4.out.size; have h2 := HLRg.out; omega)
    have LCRg_w4 := Lib.hid (show w4.heap.size ≤ LRg by have h := (Below.refl w4.heap.size w4).size; have h2 := HLRg.out; omega)
    clear hb hb0
    go_wp2_with fail
    refine (eqStringS_f vg vs x x _ (FlatAt.below Rga.out (by repeat (first | exact Below.refl _ _ | refine Below.alloc ?_ (by simp; try omega) _ | refine Below.setCell ?_ (by simp; try omega) _ | refine belN ?_ _ | refine belD ?_)) (Nat.le_refl _)) (FlatAt.below Rsa_w5.out (by repeat (first | exact Below.refl _ _ | refine Below.alloc ?_ (by simp; try omega) _ | refine Below.setCell ?_ (by simp; try omega) _ | refine belN ?_ _ | refine belD ?_)) (Nat.le_refl _))).mono ?_
    rintro e w6 ⟨rfl, hb0⟩
    have hb := below_step (w := w5) (by repeat (first | exact Below.refl _ _ | refine Below.alloc ?_ (by simp; try omega) _ | refine Below.setCell ?_ (by simp; try omega) _ | refine belN ?_ _ | refine belD ?_)) hb0
    have Cw_w6 := Lib.hid (Cw_w5.out.trans (hb.mono Cw_w5.out.size))
    have Cw3_w6 := Lib.hid (Cw3_w5.out.trans (hb.mono Cw3_w5.out.size))
    have Cw4_w6 := Lib.hid (Cw4_w5.out.trans (hb.mono Cw4_w5.out.size))
    have Cw5_w6 := Lib.hid hb
    have A0_w6 := Lib.hid (belSlotS A0_w5.out hb (Nat.le_refl _))
    have Rsa_w6 := Lib.hid (FlatAt.below Rsa_w5.out hb (Nat.le_refl _))
    have X2a_w6 := Lib.hid (belSlotS X2a_w5.out hb (Nat.le_refl _))
    have X2_w6 := Lib.hid (ownO_below X2_w5.out hb (Nat.le_refl _))
    have Rga_w6 := Lib.hid (FlatAt.below Rga.out hb (Nat.le_refl _))
    have Rg_w6 := Lib.hid (ownR_below Rg.out hb (Nat.le_refl _))
    rw [show decide (x = x) = true by simp]
    clear hb hb0
    go_wp2_with fail
    refine (toSlotS_d v0 x0 _ (belSlotS A0_w6.out (by repeat (first | exact Below.refl _ _ | refine Below.alloc ?_ (by simp; try omega) _ | refine Below.setCell ?_ (by simp; try omega) _ | refine belN ?_ _ | refine belD ?_)) (Nat.le_refl _)) (by have := HSZ.out; omega)).mono ?_
    rintro e w7 ⟨u3, rfl, ho, hb0⟩
    have hb := below_step (w := w6) (by repeat (first | exact Below.refl _ _ | refine Below.alloc ?_ (by simp; try omega) _ | refine Below.setCell ?_ (by simp; try omega) _ | refine belN ?_ _ | refine belD ?_)) hb0
    have Cw_w7 := Lib.hid (Cw_w6.out.trans (hb.mono Cw_w6.out.size))
    have Cw3_w7 := Lib.hid (Cw3_w6.out.trans (hb.mono Cw3_w6.out.size))
    have Cw4_w7 := Lib.hid (Cw4_w6.out.trans (hb.mono Cw4_w6.out.size))
    have Cw5_w7 := Lib.hid (Cw5_w6.out.trans (hb.mono Cw5_w6.out.size))
    have A0_w7 := Lib.hid (belSlotS A0_w6.out hb (Nat.le_refl _))
    have Rsa_w7 := Lib.hid (FlatAt.below Rsa_w6.out hb (Nat.le_refl _))
    have X2a_w7 := Lib.hid (belSlotS X2a_w6.out hb (Nat.le_refl _))
    have X2_w7 := Lib.hid (ownO_below X2_w6.out hb (Nat.le_refl _))
    have Rga_w7 := Lib.hid (FlatAt.below Rga_w6.out hb (Nat.le_refl _))
    have Rg_w7 := Lib.hid (ownR_below Rg_w6.out hb (Nat.le_refl _))
    have Z3 := Lib.hid (zeroSlotS ho)
    clear ho
    clear hb hb0
    go_wp2_with fail
    refine (eqSlotS_d u2 u3 x0 x0 _ (belSlotS X2a_w7.out (by repeat (first | exact Below.refl _ _ | refine Below.alloc ?_ (by simp; try omega) _ | refine Below.setCell ?_ (by simp; try omega) _ | refine belN ?_ _ | refine belD ?_)) (Nat.le_refl _)) (belSlotS Z3.out (by repeat (first | exact Below.refl _ _ | refine Below.alloc ?_ (by simp; try omega) _ | refine Below.setCell ?_ (by simp; try omega) _ | refine belN ?_ _ | refine belD ?_)) (Nat.le_refl _))).mono ?_
    rintro e w8 ⟨rfl, hb0⟩
    have hb := below_step (w := w7) (by repeat (first | exact Below.refl _ _ | refine Below.alloc ?_ (by simp; try omega) _ | refine Below.setCell ?_ (by simp; try omega) _ | refine belN ?_ _ | refine belD ?_)) hb0
    have Cw_w8 := Lib.hid (Cw_w7.out.trans (hb.mono Cw_w7.out.size))
    have Cw3_w8 := Lib.hid (Cw3_w7.out.trans (hb.mono Cw3_w7.out.size))
    have Cw4_w8 := Lib.hid (Cw4_w7.out.trans (hb.mono Cw4_w7.out.size))
    have Cw5_w8 := Lib.hid (Cw5_w7.out.trans (hb.mono Cw5_w7.out.size))
    have A0_w8 := Lib.hid (belSlotS A0_w7.out hb (Nat.le_refl _))
    have Rsa_w8 := Lib.hid (FlatAt.below Rsa_w7.out hb (Nat.le_refl _))
    have X2a_w8 := Lib.hid (belSlotS X2a_w7.out hb (Nat.le_refl _))
    have X2_w8 := Lib.hid (ownO_below X2_w7.out hb (Nat.le_refl _))
    have Rga_w8 := Lib.hid (FlatAt.below Rga_w7.out hb (Nat.le_refl _))
    have Rg_w8 := Lib.hid (ownR_below Rg_w7.out hb (Nat.le_refl _))
    have Z3_w8 := Lib.hid (belSlotS Z3.out hb (Nat.le_refl _))
    rw [show decide (x0 = x0) = true by simp]
    clear hb hb0
    go_wp2_with fail
    refine (markSlotS_w LX2 _ u2 x0 1 _ (ownO_below X2_w8.out (by repeat (first | exact Below.refl _ _ | refine Below.alloc ?_ (by simp; try omega) _ | refine Below.setCell ?_ (by simp; try omega) _ | refine belN ?_ _ | refine belD ?_)) (Nat.le_refl _)) (by have := HSZ.out; omega) (by omega) (by omega)).mono ?_
    rintro e w9 ⟨rfl, ho, hbt⟩
    have Cw_w9 := Lib.hid (betw_below Cw_w8.out hbt LCX2_w.out)
    have Cw3_w9 := Lib.hid (betw_below Cw3_w8.out hbt LCX2_w3.out)
    have A0_w9 := Lib.hid (belSlotS A0.out Cw_w9.out (Nat.le_refl _))
    have Rsa_w9 := Lib.hid (FlatAt.below Rsa.out Cw3_w9.out (Nat.le_refl _))
    have Rg_w9 := Lib.hid (ownR_betw Rg_w8.out hbt (Or.inr LCRg_w4.out))
    have Rga_w9 := Lib.hid (ownR_at Rg_w9.out (by have := HRL.out; omega))
    clear ho hbt
    go_wp2_with fail
    refine (eqStringS_f vg vs x x _ (FlatAt.below Rga_w9.out (by repeat (first | exact Below.refl _ _ | refine Below.alloc ?_ (by simp; try omega) _ | refine Below.setCell ?_ (by simp; try omega) _ | refine belN ?_ _ | refine belD ?_)) (Nat.le_refl _)) (FlatAt.below Rsa_w9.out (by repeat (first | exact Below.refl _ _ | refine Below.alloc ?_ (by simp; try omega) _ | refine Below.setCell ?_ (by simp; try omega) _ | refine belN ?_ _ | refine belD ?_)) (Nat.le_refl _))).mono ?_
    rintro e w10 ⟨rfl, hb0⟩
    have hb := below_step (w := w9) (by repeat (first | exact Below.refl _ _ | refine Below.alloc ?_ (by simp; try omega) _ | refine Below.setCell ?_ (by simp; try omega) _ | refine belN ?_ _ | refine belD ?_)) hb0
    have Cw_w10 := Lib.hid (Cw_w9.out.trans (hb.mono Cw_w9.out.size))
    have Cw3_w10 := Lib.hid (Cw3_w9.out.trans (hb.mono Cw3_w9.out.size))
    have Cw9_w10 := Lib.hid hb
    have A0_w10 := Lib.hid (belSlotS A0_w9.out hb (Nat.le_refl _))
    have Rsa_w10 := Lib.hid (FlatAt.below Rsa_w9.out hb (Nat.le_refl _))
    have Rg_w10 := Lib.hid (ownR_below Rg_w9.out hb (Nat.le_refl _))
    have Rga_w10 := Lib.hid (FlatAt.below Rga_w9.out hb (Nat.le_refl _))
    rw [show decide (x = x) = true by simp]
    clear hb hb0
    go_wp2_with fail
    refine (mark_range (ownR_below Rg_w10.out (by repeat (first | exact Below.refl _ _ | refine Below.alloc ?_ (by simp; try omega) _ | refine Below.setCell ?_ (by simp; try omega) _ | refine belN ?_ _ | refine belD ?_)) (Nat.le_refl _)) (markStringS_f LRg vg x 1 _ (ownR_below Rg_w10.out (by repeat (first | exact Below.refl _ _ | refine Below.alloc ?_ (by simp; try omega) _ | refine Below.setCell ?_ (by simp; try omega) _ | refine belN ?_ _ | refine belD ?_)) (Nat.le_refl _)).1 (by have := HRL.out; omega) (by omega) (by omega))).mono ?_
    rintro e w11 ⟨rfl, ho, hbt⟩
    have Cw_w11 := Lib.hid (betw_below Cw_w10.out hbt LCRg_w.out)
    have Cw3_w11 := Lib.hid (betw_below Cw3_w10.out hbt LCRg_w3.out)
    have A0_w11 := Lib.hid (belSlotS A0.out Cw_w11.out (Nat.le_refl _))
    have Rsa_w11 := Lib.hid (FlatAt.below Rsa.out Cw3_w11.out (Nat.le_refl _))
    have MK := Lib.hid (ownR_at ho (by simp only [marksString_len]; have := HRL.out; omega))
    clear ho hbt
    go_wp2_with fail
    refine (heldStringS_f vg x.length 1 _ (FlatAt.below MK.out (by repeat (first | exact Below.refl _ _ | refine Below.alloc ?_ (by simp; try omega) _ | refine Below.setCell ?_ (by simp; try omega) _ | refine belN ?_ _ | refine belD ?_)) (Nat.le_refl _)) (by have := HRL.out; omega) (by omega) (by omega)).mono ?_
    rintro e w12 ⟨rfl, hb0⟩
    have hb := below_step (w := w11) (by repeat (first | exact Below.refl _ _ | refine Below.alloc ?_ (by simp; try omega) _ | refine Below.setCell ?_ (by simp; try omega) _ | refine belN ?_ _ | refine belD ?_)) hb0
    have Cw_w12 := Lib.hid (Cw_w11.out.trans (hb.mono Cw_w11.out.size))
    have Cw3_w12 := Lib.hid (Cw3_w11.out.trans (hb.mono Cw3_w11.out.size))
    have A0_w12 := Lib.hid (belSlotS A0_w11.out hb (Nat.le_refl _))
    have Rsa_w12 := Lib.hid (FlatAt.below Rsa_w11.out hb (Nat.le_refl _))
    have MK_w12 := Lib.hid (FlatAt.below MK.out hb (Nat.le_refl _))
    clear hb hb0
    go_wp2_with fail
    refine (toSlotS_d v0 x0 _ (belSlotS A0_w12.out (by repeat (first | exact Below.refl _ _ | refine Below.alloc ?_ (by simp; try omega) _ | refine Below.setCell ?_ (by simp; try omega) _ | refine belN ?_ _ | refine belD ?_)) (Nat.le_refl _)) (by have := HSZ.out; omega)).mono ?_
    rintro e w13 ⟨u4, rfl, ho, hb0⟩
    have hb := below_step (w := w12) (by repeat (first | exact Below.refl _ _ | refine Below.alloc ?_ (by simp; try omega) _ | refine Below.setCell ?_ (by simp; try omega) _ | refine belN ?_ _ | refine belD ?_)) hb0
    have Cw_w13 := Lib.hid (Cw_w12.out.trans (hb.mono Cw_w12.out.size))
    have Cw3_w13 := Lib.hid (Cw3_w12.out.trans (hb.mono Cw3_w12.out.size))
    have A0_w13 := Lib.hid (belSlotS A0_w12.out hb (Nat.le_refl _))
    have Rsa_w13 := Lib.hid (FlatAt.below Rsa_w12.out hb (Nat.le_refl _))
    have MK_w13 := Lib.hid (FlatAt.below MK_w12.out hb (Nat.le_refl _))
    have H4 := Lib.hid (zeroSlotS ho)
    clear ho
    clear hb hb0
    go_wp2_with fail
    refine (HIM.out u4 _ (belSlotS H4.out (by repeat (first | exact Below.refl _ _ | refine Below.alloc ?_ (by simp; try omega) _ | refine Below.setCell ?_ (by simp; try omega) _ | refine belN ?_ _ | refine belD ?_)) (Nat.le_refl _))).mono ?_
    rintro e w14 ⟨vh, rfl, ho, hb0⟩
    have hb := below_step (w := w13) (by repeat (first | exact Below.refl _ _ | refine Below.alloc ?_ (by simp; try omega) _ | refine Below.setCell ?_ (by simp; try omega) _ | refine belN ?_ _ | refine belD ?_)) hb0
    have Cw_w14 := Lib.hid (Cw_w13.out.trans (hb.mono Cw_w13.out.size))
    have Cw3_w14 := Lib.hid (Cw3_w13.out.trans (hb.mono Cw3_w13.out.size))
    have A0_w14 := Lib.hid (belSlotS A0_w13.out hb (Nat.le_refl _))
    have Rsa_w14 := Lib.hid (FlatAt.below Rsa_w13.out hb (Nat.le_refl _))
    have MK_w14 := Lib.hid (FlatAt.below MK_w13.out hb (Nat.le_refl _))
    have H4_w14 := Lib.hid (belSlotS H4.out hb (Nat.le_refl _))
    have ho := (show OwnsF cStr 9 1 _ _ _ x from ho)
    obtain ⟨LRh, hLRh, ho⟩ := own_lo ho
    try simp at hLRh
    have HLRh := Lib.hid hLRh
    clear hLRh
    have Rh := Lib.hid (ownR_of ho)
    have Rha := Lib.hid (ownsF_at ho (by have := HRL.out; omega))
    clear ho
    clear hb hb0
    go_wp2_with fail
    refine (eqStringS_f vh vs x x _ (FlatAt.below Rha.out (by repeat (first | exact Below.refl _ _ | refine Below.alloc ?_ (by simp; try omega) _ | refine Below.setCell ?_ (by simp; try omega) _ | refine belN ?_ _ | refine belD ?_)) (Nat.le_refl _)) (FlatAt.below Rsa_w14.out (by repeat (first | exact Below.refl _ _ | refine Below.alloc ?_ (by simp; try omega) _ | refine Below.setCell ?_ (by simp; try omega) _ | refine belN ?_ _ | refine belD ?_)) (Nat.le_refl _))).mono ?_
    rintro e w15 ⟨rfl, hb0⟩
    have hb := below_step (w := w14) (by repeat (first | exact Below.refl _ _ | refine Below.alloc ?_ (by simp; try omega) _ | refine Below.setCell ?_ (by simp; try omega) _ | refine belN ?_ _ | refine belD ?_)) hb0
    have Cw_w15 := Lib.hid (Cw_w14.out.trans (hb.mono Cw_w14.out.size))
    have Cw3_w15 := Lib.hid (Cw3_w14.out.trans (hb.mono Cw3_w14.out.size))
    have A0_w15 := Lib.hid (belSlotS A0_w14.out hb (Nat.le_refl _))
    have Rsa_w15 := Lib.hid (FlatAt.below Rsa_w14.out hb (Nat.le_refl _))
    have MK_w15 := Lib.hid (FlatAt.below MK_w14.out hb (Nat.le_refl _))
    have H4_w15 := Lib.hid (belSlotS H4_w14.out hb (Nat.le_refl _))
    have Rha_w15 := Lib.hid (FlatAt.below Rha.out hb (Nat.le_refl _))
    have Rh_w15 := Lib.hid (ownR_below Rh.out hb (Nat.le_refl _))
    rw [show decide (x = x) = true by simp]
    clear hb hb0
    go_wp2_with fail
    refine (heldStringS_f vg x.length 1 _ (FlatAt.below MK_w15.out (by repeat (first | exact Below.refl _ _ | refine Below.alloc ?_ (by simp; try omega) _ | refine Below.setCell ?_ (by simp; try omega) _ | refine belN ?_ _ | refine belD ?_)) (Nat.le_refl _)) (by have := HRL.out; omega) (by omega) (by omega)).mono ?_
    rintro e w16 ⟨rfl, hb0⟩
    have hb := below_step (w := w15) (by repeat (first | exact Below.refl _ _ | refine Below.alloc ?_ (by simp; try omega) _ | refine Below.setCell ?_ (by simp; try omega) _ | refine belN ?_ _ | refine belD ?_)) hb0
    have Cw_w16 := Lib.hid (Cw_w15.out.trans (hb.mono Cw_w15.out.size))
    have Cw3_w16 := Lib.hid (Cw3_w15.out.trans (hb.mono Cw3_w15.out.size))
    have A0_w16 := Lib.hid (belSlotS A0_w15.out hb (Nat.le_refl _))
    have Rsa_w16 := Lib.hid (FlatAt.below Rsa_w15.out hb (Nat.le_refl _))
    have MK_w16 := Lib.hid (FlatAt.below MK_w15.out hb (Nat.le_refl _))
    have H4_w16 := Lib.hid (belSlotS H4_w15.out hb (Nat.le_refl _))
    have Rha_w16 := Lib.hid (FlatAt.below Rha_w15.out hb (Nat.le_refl _))
    have Rh_w16 := Lib.hid (ownR_below Rh_w15.out hb (Nat.le_refl _))
    clear hb hb0
    go_wp2_with fail
    go_ret
    exact ⟨rfl, below_to Cw_w16.out (by repeat (first | exact Below.refl _ _ | refine Below.alloc ?_ (by simp; try omega) _ | refine Below.setCell ?_ (by simp; try omega) _ | refine belN ?_ _ | refine belD ?_))⟩
set_option maxRecDepth 100000 in
theorem fnExactShapesOf_lifted (os : Os) (started : os.Started) (H : Type) (enc : TypeId × Value → H) :
    ReturnsInHanded {} Try.checked os 4 .any (Rows.fnExactShapesOfSpec.pre6 enc Try.prog Try.f4 Rows.fnExactShapesOfRow.domain false) (Rows.fnExactShapesOfSpec.post enc Try.prog Try.f4 false true false false) := by
  refine returnsInHanded_of_change (C := Try.checked) ownK started (by kernel_rfl) Try.func4
    (ChangeSpec.witness6 (enc := enc) (C := Try.checked) false ⟨#[], #[.slice none 0 0], []⟩ 8 (by kernel_rfl) (by kernel_rfl) (by kernel_rfl) (by kernel_rfl)) ?_
  intro W base args ds gs before hval0 hW _ _
  have hval : ∀ (j : Nat) t v, Try.f4.params[j]? = some t → args[j]? = some v → Value.okWide Try.prog W .any base t v := hval0
  have hW' := hW
  obtain ⟨p, q, hA0, _, rfl, _, _⟩ := hW
  have hA : DataW.TrodAll enc Try.prog W 0 (fun _ => true) true Try.f4.params.toList args.toList ds p := hA0
  rw [Try.params4] at hA hval
  obtain ⟨v0, vs0, d0, ds0, p0, q0, hargs, rfl, rfl, h0, r0⟩ := trodAll_cons hA
  obtain ⟨rfl, rfl, rfl⟩ := trodAll_nil r0
  obtain rfl : args = #[v0] := by cases args; simp_all
  obtain ⟨l0, w0, z0⟩ := argS_Slot (hval 0 27 v0 rfl rfl) h0
  clear hA0 hval0
  refine (exactShapesOf_any v0 l0 W w0 z0).mono fun e W1 ⟨he, hb⟩ => ?_
  subst he
  exact ⟨_, rfl, law_post laidK rfl (by kernel_rfl) Try.underlying4 (by kernel_rfl) (fun ds h => by match ds, h with | [_], _ => rfl) hW' hb⟩
theorem fnExactShapesOf_closed : joinedFacts Try.prog 4 Try.f4 Rows.fnExactShapesOfSpec Rows.fnExactShapesOfRow = true := by unfold joinedFacts; rw [mayEnter_k, liftsFinal_k, make_k]; kernel_rfl
theorem fnExactShapesOf_holds : Rows.FnExactShapesOfSaid :=
  OpenClaim.holds_of_wide 4 Try.f4 rfl rfl rfl rfl rfl rfl rfl ⟨rfl, rfl, rfl, rfl, rfl⟩ rfl rfl rfl rfl rfl (by kernel_rfl) Try.func4 fnExactShapesOf_closed
    (of_decide_eq_true (by kernel_rfl)) (by unfold Func.isWrapper; first | (rw [if_pos (by decide +kernel)]; kernel_rfl) | (rw [if_neg (by decide +kernel)]; exact ⟨rfl, rfl⟩))
    (fun os started H enc _ => fnExactShapesOf_lifted os started H enc)
end Go.Proofs.Yteeopjcbpngofaa
