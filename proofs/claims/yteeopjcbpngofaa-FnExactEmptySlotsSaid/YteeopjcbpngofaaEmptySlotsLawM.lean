/- FnExactEmptySlots: the program's EmptySlots answers as the model's, and its answer owns its memory. No condition. -/
import Derived.Test.YteeopjcbpngofaaEndLineLawM1
import Derived.Test.YteeopjcbpngofaaEndLineLawM0
import Derived.Deep.RegionHeld3
import Derived.Deep.Slices
/- Parts of one's own: how a law makes them, keeps them beside marks, marks them. Written by gen/ch4om.py. -/
namespace Go.Proofs.Yteeopjcbpngofaa
set_option linter.unusedVariables false
set_option linter.unusedSimpArgs false
open Go.RowKit
/-- a row of one's own in blocks from F on, said as a reading is -/
structure OSl {α : Type} (f : α → List Value) (E k F : Nat) (w : World) (v : Value) (l : List α) : Prop where
  own : OwnsF f E k w F v l
theorem ownsF_kept {α : Type} {f : α → List Value} {E k : Nat} {w w' : World} {F : Nat} {v : Value} {l : List α} (h : OwnsF f E k w F v l) (hk : Kept F w w') : OwnsF f E k w' F v l := by
  refine ⟨h.1, ?_⟩
  rcases h.2 with h1 | ⟨g, cap, cur, rfl, h2, h3, h4⟩
  · exact Or.inl h1
  · exact Or.inr ⟨g, cap, cur, rfl, h2, (hk.block g h2 (Array.getElem?_eq_some_iff.1 h3).1).trans h3, h4⟩
theorem OSl.keep {α : Type} {f : α → List Value} {E k F m : Nat} {w w' : World} {v : Value} {l : List α} {R : Nat → World → List Value → α → Prop} (h : OSl f E k F w v l) (g : Good R m) (hk : Kept F w w') : OSl f E k F w' v l := ⟨ownsF_kept h.own hk⟩
theorem OSl.below {α : Type} {f : α → List Value} {E k F B m : Nat} {w w' : World} {v : Value} {l : List α} {R : Nat → World → List Value → α → Prop} (h : OSl f E k F w v l) (g : Good R m) (hb : Below B w w') (hB : w.heap.size ≤ B) : OSl f E k F w' v l := ⟨ownsF_below h.own hb hB⟩
theorem OSl.mono {α : Type} {f : α → List Value} {E k F F' m : Nat} {w : World} {v : Value} {l : List α} {R : Nat → World → List Value → α → Prop} (h : OSl f E k F w v l) (g : Good R m) (hF : F' ≤ F) : OSl f E k F' w v l := ⟨ownsF_base h.own hF⟩
theorem toCore_o (v : Value) (x : CoreD) (w : World) (hx : ValAt rCore 0 w v x) (hm : zCore x ≤ 2097152) : Calls Try.prog 89 #[v] w fun e w' => ∃ cs : List Value, e = .returned (.agg cs.toArray) ∧ (∃ v3, cs = [.string ⟨x.fKind.toArray⟩, .bool x.fOn, .bool x.fBroken, v3, .int .i64 x.fCount] ∧ OSl cCell 107 2 w.heap.size w' v3 x.fCells) ∧ Below w.heap.size w w' := by
  obtain ⟨cs, rfl, v3, rfl, h3⟩ := hx
  refine (toCore_any _ x w ⟨v3, rfl, flatAt_of_slice cCell_len (by decide) h3⟩ (by unfold zCore at hm; omega)).mono ?_
  rintro e w' ⟨v, rfl, ⟨cv, rfl, ho⟩, hb⟩
  exact ⟨_, rfl, ⟨cv, rfl, ⟨ho⟩⟩, hb⟩
theorem toLayerS_o (v : Value) (x : List LayerD) (w : World) (hx : SliceAt (rFlat cLayer) 2 0 w v x) (hm : x.length + sumF zLayer x ≤ 2097152) : Calls Try.prog 90 #[v] w fun e w' => ∃ u, e = .returned u ∧ OSl cLayer 109 2 w.heap.size w' u x ∧ Below w.heap.size w w' :=
  (toLayerS_any v x w (flatAt_of_slice cLayer_len (by decide) hx) (by omega)).mono fun e w' h => by
    obtain ⟨h1, h2, h3⟩ := h; exact ⟨_, h1, ⟨h2⟩, h3⟩
set_option maxRecDepth 100000 in
set_option maxHeartbeats 1600000 in
theorem toPart_o (v : Value) (x : PartD) (w : World) (hx : ValAt rPart 0 w v x) (hm : zPart x ≤ 2097152) : Calls Try.prog 66 #[v] w fun e w' => GivesOP x w e w' := by
  obtain ⟨_, rfl, hx⟩ := hx
  obtain ⟨⟨a0_0, a0_1, a0_2, a0_3, a0_4⟩, a1⟩ := x
  obtain ⟨v3, v5, rfl, h3, h5⟩ := hx
  simp only at h3 h5
  simp only [zPart, zCore] at hm
  have HM := Lib.hid hm
  obtain ⟨ra3, rc3, rfl, _⟩ := sliceAt_len h3
  obtain ⟨ra5, rc5, rfl, _⟩ := sliceAt_len h5
  have H3 := Lib.hid h3
  have H5 := Lib.hid h5
  clear hm h3 h5
  have HS := Lib.hid (bx_start3 w [.string ⟨a0_0.toArray⟩, .bool a0_1, .bool a0_2, .slice ra3 a0_3.length rc3, .int .i64 a0_4, .slice ra5 a1.length rc5] [.string ⟨#[]⟩, .bool false, .bool false, .slice none 0 0, .int .i64 0, .slice none 0 0] [.string ⟨#[]⟩, .bool false, .bool false, .slice none 0 0, .int .i64 0, .slice none 0 0] 73 61 61)
  have BA := Lib.hid HS.out.1
  have BB := Lib.hid HS.out.2.1
  have BC := Lib.hid HS.out.2.2.1
  have HB := Lib.hid HS.out.2.2.2
  clear HS
  go_enter Try.func66, Try.ntmps66
  go_wp2_with fail
  generalize ((w.alloc (.cells #[.string ⟨a0_0.toArray⟩, .bool a0_1, .bool a0_2, .slice ra3 a0_3.length rc3, .int .i64 a0_4, .slice ra5 a1.length rc5] 73)).alloc (.cells #[.string ⟨#[]⟩, .bool false, .bool false, .slice none 0 0, .int .i64 0, .slice none 0 0] 61)).alloc (.cells #[.string ⟨#[]⟩, .bool false, .bool false, .slice none 0 0, .int .i64 0, .slice none 0 0] 61) = X1 at *
  refine (toCore_o _ (⟨a0_0, a0_1, a0_2, a0_3, a0_4⟩ : CoreD) _ ⟨_, rfl, _, rfl, (H3.out.below (good_flat cCell_len) HB.out (Nat.le_refl _))⟩ (by simp only [zCore]; have := HM.out; omega)).mono ?_
  rintro e w1 ⟨_, rfl, ⟨u3, rfl, hr3⟩, hb⟩
  have hX : w.heap.size + 3 ≤ X1.heap.size := by have := BC.out.lt; omega
  simp only at hr3
  have R3 := Lib.hid (hr3.mono (good_flat cCell_len) hX)
  obtain ⟨p3, q3, rfl⟩ := slice_of (OSl.own hr3)
  clear hr3
  have BA := Lib.hid (BA.out.below hb)
  have BB := Lib.hid (BB.out.below hb)
  have BC := Lib.hid (BC.out.below hb)
  have HB := Lib.hid (belS (w := w) HB.out hb)
  clear hb hX
  have eA0 := BA.out.cell 0 (by simp)
  have eA1 := BA.out.cell 1 (by simp)
  have eA2 := BA.out.cell 2 (by simp)
  have eA3 := BA.out.cell 3 (by simp)
  have eA4 := BA.out.cell 4 (by simp)
  have eA5 := BA.out.cell 5 (by simp)
  simp only [List.getElem_cons_zero, List.getElem_cons_succ, List.set_cons_zero, List.set_cons_succ] at eA0 eA1 eA2 eA3 eA4 eA5
  have eC0 := BC.out.cell 0 (by simp)
  have fC0 := BC.out.froz 0 (by simp)
  have eC1 := BC.out.cell 1 (by simp)
  have fC1 := BC.out.froz 1 (by simp)
  have eC2 := BC.out.cell 2 (by simp)
  have fC2 := BC.out.froz 2 (by simp)
  have eC3 := BC.out.cell 3 (by simp)
  have fC3 := BC.out.froz 3 (by simp)
  have eC4 := BC.out.cell 4 (by simp)
  have fC4 := BC.out.froz 4 (by simp)
  have eC5 := BC.out.cell 5 (by simp)
  have fC5 := BC.out.froz 5 (by simp)
  simp only [List.getElem_cons_zero, List.getElem_cons_succ, List.set_cons_zero, List.set_cons_succ] at eC0 eC1 eC2 eC3 eC4 eC5
  go_wp2_with fail
  clear eA0 eA1 eA2 eA3 eA4 eA5
  clear eC0 fC0 eC1 fC1 eC2 fC2 eC3 fC3 eC4 fC4 eC5 fC5
  have BC := Lib.hid (BC.out.set 0 (by simp) (.string ⟨a0_0.toArray⟩))
  have BA := Lib.hid (BA.out.other (c := w.heap.size + 1 + 1) (by omega) 0 (.string ⟨a0_0.toArray⟩))
  have BB := Lib.hid (BB.out.other (c := w.heap.size + 1 + 1) (by omega) 0 (.string ⟨a0_0.toArray⟩))
  have HB := Lib.hid (HB.out.setCell (p := ⟨w.heap.size + 1 + 1, 0, none⟩) (by simp; try omega) (.string ⟨a0_0.toArray⟩))
  have BC := Lib.hid (BC.out.set 1 (by simp) (.bool a0_1))
  have BA := Lib.hid (BA.out.other (c := w.heap.size + 1 + 1) (by omega) 1 (.bool a0_1))
  have BB := Lib.hid (BB.out.other (c := w.heap.size + 1 + 1) (by omega) 1 (.bool a0_1))
  have HB := Lib.hid (HB.out.setCell (p := ⟨w.heap.size + 1 + 1, 1, none⟩) (by simp; try omega) (.bool a0_1))
  have BC := Lib.hid (BC.out.set 2 (by simp) (.bool a0_2))
  have BA := Lib.hid (BA.out.other (c := w.heap.size + 1 + 1) (by omega) 2 (.bool a0_2))
  have BB := Lib.hid (BB.out.other (c := w.heap.size + 1 + 1) (by omega) 2 (.bool a0_2))
  have HB := Lib.hid (HB.out.setCell (p := ⟨w.heap.size + 1 + 1, 2, none⟩) (by simp; try omega) (.bool a0_2))
  have BC := Lib.hid (BC.out.set 3 (by simp) (.slice p3 a0_3.length q3))
  have BA := Lib.hid (BA.out.other (c := w.heap.size + 1 + 1) (by omega) 3 (.slice p3 a0_3.length q3))
  have BB := Lib.hid (BB.out.other (c := w.heap.size + 1 + 1) (by omega) 3 (.slice p3 a0_3.length q3))
  have HB := Lib.hid (HB.out.setCell (p := ⟨w.heap.size + 1 + 1, 3, none⟩) (by simp; try omega) (.slice p3 a0_3.length q3))
  have BC := Lib.hid (BC.out.set 4 (by simp) (.int .i64 a0_4))
  have BA := Lib.hid (BA.out.other (c := w.heap.size + 1 + 1) (by omega) 4 (.int .i64 a0_4))
  have BB := Lib.hid (BB.out.other (c := w.heap.size + 1 + 1) (by omega) 4 (.int .i64 a0_4))
  have HB := Lib.hid (HB.out.setCell (p := ⟨w.heap.size + 1 + 1, 4, none⟩) (by simp; try omega) (.int .i64 a0_4))
  have R3 := Lib.hid (R3.out.keep (good_flat cCell_len) ((((((Kept.refl _ _).setCell (p := ⟨w.heap.size + 1 + 1, 0, none⟩) (by simp) (.string ⟨a0_0.toArray⟩)).setCell (p := ⟨w.heap.size + 1 + 1, 1, none⟩) (by simp) (.bool a0_1)).setCell (p := ⟨w.heap.size + 1 + 1, 2, none⟩) (by simp) (.bool a0_2)).setCell (p := ⟨w.heap.size + 1 + 1, 3, none⟩) (by simp) (.slice p3 a0_3.length q3)).setCell (p := ⟨w.heap.size + 1 + 1, 4, none⟩) (by simp) (.int .i64 a0_4)))
  simp only [List.set_cons_zero, List.set_cons_succ] at BC
  generalize (((((w1).setCell ⟨w.heap.size + 1 + 1, 0, none⟩ (.string ⟨a0_0.toArray⟩)).setCell ⟨w.heap.size + 1 + 1, 1, none⟩ (.bool a0_1)).setCell ⟨w.heap.size + 1 + 1, 2, none⟩ (.bool a0_2)).setCell ⟨w.heap.size + 1 + 1, 3, none⟩ (.slice p3 a0_3.length q3)).setCell ⟨w.heap.size + 1 + 1, 4, none⟩ (.int .i64 a0_4) = X2 at *
  refine (toLayerS_o _ a1 _ (H5.out.below (good_flat cLayer_len) HB.out (Nat.le_refl _)) (by have := HM.out; omega)).mono ?_
  rintro e w2 ⟨u5, rfl, hr5, hb⟩
  have hX : w.heap.size + 3 ≤ X2.heap.size := by have := BC.out.lt; omega
  have R3 := Lib.hid (R3.out.keep (good_flat cCell_len) (kept_below hb (Nat.le_refl _)))
  have R5 := Lib.hid (hr5.mono (good_flat cLayer_len) hX)
  obtain ⟨p5, q5, rfl⟩ := slice_of (OSl.own hr5)
  clear hr5
  have BA := Lib.hid (BA.out.below hb)
  have BB := Lib.hid (BB.out.below hb)
  have BC := Lib.hid (BC.out.below hb)
  have HB := Lib.hid (belS (w := w) HB.out hb)
  clear hb hX
  have eA0 := BA.out.cell 0 (by simp)
  have eA1 := BA.out.cell 1 (by simp)
  have eA2 := BA.out.cell 2 (by simp)
  have eA3 := BA.out.cell 3 (by simp)
  have eA4 := BA.out.cell 4 (by simp)
  have eA5 := BA.out.cell 5 (by simp)
  simp only [List.getElem_cons_zero, List.getElem_cons_succ, List.set_cons_zero, List.set_cons_succ] at eA0 eA1 eA2 eA3 eA4 eA5
  have eC0 := BC.out.cell 0 (by simp)
  have fC0 := BC.out.froz 0 (by simp)
  have eC1 := BC.out.cell 1 (by simp)
  have fC1 := BC.out.froz 1 (by simp)
  have eC2 := BC.out.cell 2 (by simp)
  have fC2 := BC.out.froz 2 (by simp)
  have eC3 := BC.out.cell 3 (by simp)
  have fC3 := BC.out.froz 3 (by simp)
  have eC4 := BC.out.cell 4 (by simp)
  have fC4 := BC.out.froz 4 (by simp)
  have eC5 := BC.out.cell 5 (by simp)
  have fC5 := BC.out.froz 5 (by simp)
  simp only [List.getElem_cons_zero, List.getElem_cons_succ, List.set_cons_zero, List.set_cons_succ] at eC0 eC1 eC2 eC3 eC4 eC5
  have eB0 := BB.out.cell 0 (by simp)
  have fB0 := BB.out.froz 0 (by simp)
  have eB1 := BB.out.cell 1 (by simp)
  have fB1 := BB.out.froz 1 (by simp)
  have eB2 := BB.out.cell 2 (by simp)
  have fB2 := BB.out.froz 2 (by simp)
  have eB3 := BB.out.cell 3 (by simp)
  have fB3 := BB.out.froz 3 (by simp)
  have eB4 := BB.out.cell 4 (by simp)
  have fB4 := BB.out.froz 4 (by simp)
  have eB5 := BB.out.cell 5 (by simp)
  have fB5 := BB.out.froz 5 (by simp)
  simp only [List.getElem_cons_zero, List.getElem_cons_succ, List.set_cons_zero, List.set_cons_succ] at eB0 eB1 eB2 eB3 eB4 eB5
  go_wp2_with fail
  clear eA0 eA1 eA2 eA3 eA4 eA5
  clear eC0 fC0 eC1 fC1 eC2 fC2 eC3 fC3 eC4 fC4 eC5 fC5
  clear eB0 fB0 eB1 fB1 eB2 fB2 eB3 fB3 eB4 fB4 eB5 fB5
  have BC := Lib.hid (BC.out.set 5 (by simp) (.slice p5 a1.length q5))
  have BA := Lib.hid (BA.out.other (c := w.heap.size + 1 + 1) (by omega) 5 (.slice p5 a1.length q5))
  have BB := Lib.hid (BB.out.other (c := w.heap.size + 1 + 1) (by omega) 5 (.slice p5 a1.length q5))
  have HB := Lib.hid (HB.out.setCell (p := ⟨w.heap.size + 1 + 1, 5, none⟩) (by simp; try omega) (.slice p5 a1.length q5))
  have R3 := Lib.hid (R3.out.keep (good_flat cCell_len) ((Kept.refl _ _).setCell (p := ⟨w.heap.size + 1 + 1, 5, none⟩) (by simp) (.slice p5 a1.length q5)))
  have R5 := Lib.hid (R5.out.keep (good_flat cLayer_len) ((Kept.refl _ _).setCell (p := ⟨w.heap.size + 1 + 1, 5, none⟩) (by simp) (.slice p5 a1.length q5)))
  simp only [List.set_cons_zero, List.set_cons_succ] at BC
  have BB := Lib.hid (BB.out.set 0 (by simp) (.string ⟨a0_0.toArray⟩))
  have HB := Lib.hid (HB.out.setCell (p := ⟨w.heap.size + 1, 0, none⟩) (by simp; try omega) (.string ⟨a0_0.toArray⟩))
  have BB := Lib.hid (BB.out.set 1 (by simp) (.bool a0_1))
  have HB := Lib.hid (HB.out.setCell (p := ⟨w.heap.size + 1, 1, none⟩) (by simp; try omega) (.bool a0_1))
  have BB := Lib.hid (BB.out.set 2 (by simp) (.bool a0_2))
  have HB := Lib.hid (HB.out.setCell (p := ⟨w.heap.size + 1, 2, none⟩) (by simp; try omega) (.bool a0_2))
  have BB := Lib.hid (BB.out.set 3 (by simp) (.slice p3 a0_3.length q3))
  have HB := Lib.hid (HB.out.setCell (p := ⟨w.heap.size + 1, 3, none⟩) (by simp; try omega) (.slice p3 a0_3.length q3))
  have BB := Lib.hid (BB.out.set 4 (by simp) (.int .i64 a0_4))
  have HB := Lib.hid (HB.out.setCell (p := ⟨w.heap.size + 1, 4, none⟩) (by simp; try omega) (.int .i64 a0_4))
  have BB := Lib.hid (BB.out.set 5 (by simp) (.slice p5 a1.length q5))
  have HB := Lib.hid (HB.out.setCell (p := ⟨w.heap.size + 1, 5, none⟩) (by simp; try omega) (.slice p5 a1.length q5))
  have R3 := Lib.hid ((R3.out.keep (good_flat cCell_len) (((((((Kept.refl _ _).setCell (p := ⟨w.heap.size + 1, 0, none⟩) (by simp) (.string ⟨a0_0.toArray⟩)).setCell (p := ⟨w.heap.size + 1, 1, none⟩) (by simp) (.bool a0_1)).setCell (p := ⟨w.heap.size + 1, 2, none⟩) (by simp) (.bool a0_2)).setCell (p := ⟨w.heap.size + 1, 3, none⟩) (by simp) (.slice p3 a0_3.length q3)).setCell (p := ⟨w.heap.size + 1, 4, none⟩) (by simp) (.int .i64 a0_4)).setCell (p := ⟨w.heap.size + 1, 5, none⟩) (by simp) (.slice p5 a1.length q5))).mono (good_flat cCell_len) (show w.heap.size ≤ w.heap.size + 3 by omega))
  have R5 := Lib.hid ((R5.out.keep (good_flat cLayer_len) (((((((Kept.refl _ _).setCell (p := ⟨w.heap.size + 1, 0, none⟩) (by simp) (.string ⟨a0_0.toArray⟩)).setCell (p := ⟨w.heap.size + 1, 1, none⟩) (by simp) (.bool a0_1)).setCell (p := ⟨w.heap.size + 1, 2, none⟩) (by simp) (.bool a0_2)).setCell (p := ⟨w.heap.size + 1, 3, none⟩) (by simp) (.slice p3 a0_3.length q3)).setCell (p := ⟨w.heap.size + 1, 4, none⟩) (by simp) (.int .i64 a0_4)).setCell (p := ⟨w.heap.size + 1, 5, none⟩) (by simp) (.slice p5 a1.length q5))).mono (good_flat cLayer_len) (show w.heap.size ≤ w.heap.size + 3 by omega))
  simp only [List.set_cons_zero, List.set_cons_succ] at BB
  generalize (((((((w2).setCell ⟨w.heap.size + 1 + 1, 5, none⟩ (.slice p5 a1.length q5)).setCell ⟨w.heap.size + 1, 0, none⟩ (.string ⟨a0_0.toArray⟩)).setCell ⟨w.heap.size + 1, 1, none⟩ (.bool a0_1)).setCell ⟨w.heap.size + 1, 2, none⟩ (.bool a0_2)).setCell ⟨w.heap.size + 1, 3, none⟩ (.slice p3 a0_3.length q3)).setCell ⟨w.heap.size + 1, 4, none⟩ (.int .i64 a0_4)).setCell ⟨w.heap.size + 1, 5, none⟩ (.slice p5 a1.length q5) = WE at *
  have eB0 := BB.out.cell 0 (by simp)
  have eB1 := BB.out.cell 1 (by simp)
  have eB2 := BB.out.cell 2 (by simp)
  have eB3 := BB.out.cell 3 (by simp)
  have eB4 := BB.out.cell 4 (by simp)
  have eB5 := BB.out.cell 5 (by simp)
  simp only [List.getElem_cons_zero, List.getElem_cons_succ, List.set_cons_zero, List.set_cons_succ] at eB0 eB1 eB2 eB3 eB4 eB5
  exact bodyPost_ret (v := .agg #[.string ⟨a0_0.toArray⟩, .bool a0_1, .bool a0_2, .slice p3 a0_3.length q3, .int .i64 a0_4, .slice p5 a1.length q5]) (by simp [results, Try.results66, go_sem, eB0, eB1, eB2, eB3, eB4, eB5]) rfl ⟨_, rfl, ⟨_, _, rfl, ownsF_base (OSl.own R3.out) (by omega), ownsF_base (OSl.own R5.out) (by omega)⟩, HB.out⟩
/-- a part of one's own, in the blocks from lo on and below hi -/
def OwnP (w : World) (lo hi : Nat) (cs : List Value) (x : PartD) : Prop := ∃ v3 v5, cs = [.string ⟨x.fCore.fKind.toArray⟩, .bool x.fCore.fOn, .bool x.fCore.fBroken, v3, .int .i64 x.fCore.fCount, v5] ∧ OwnR cCell 107 2 w lo hi v3 x.fCore.fCells ∧ OwnR cLayer 109 2 w lo hi v5 x.fLayers
theorem ownP_of {w : World} {lo : Nat} {cs : List Value} {x : PartD} (h : oPart w lo cs x) : OwnP w lo w.heap.size cs x := by
  obtain ⟨v3, v5, rfl, h3, h5⟩ := h; exact ⟨v3, v5, rfl, ownR_of h3, ownR_of h5⟩
theorem ownP_below {w w' : World} {lo hi B' : Nat} {cs : List Value} {x : PartD} (h : OwnP w lo hi cs x) (hb : Below B' w w') (hB : w.heap.size ≤ B') : OwnP w' lo hi cs x := by
  obtain ⟨v3, v5, rfl, h3, h5⟩ := h; exact ⟨v3, v5, rfl, ownR_below h3 hb hB, ownR_below h5 hb hB⟩
theorem ownP_betw {w w' : World} {lo hi lo2 hi2 : Nat} {cs : List Value} {x : PartD} (h : OwnP w lo hi cs x) (hb : Betw lo2 hi2 w w') (hd : hi ≤ lo2 ∨ hi2 ≤ lo) : OwnP w' lo hi cs x := by
  obtain ⟨v3, v5, rfl, h3, h5⟩ := h; exact ⟨v3, v5, rfl, ownR_betw h3 hb hd, ownR_betw h5 hb hd⟩
theorem ownP_at {w : World} {lo hi : Nat} {cs : List Value} {x : PartD} (h : OwnP w lo hi cs x) (h1 : x.fCore.fCells.length ≤ 4194304) (h2 : x.fLayers.length ≤ 4194304) : rPart 0 w cs x := by
  obtain ⟨v3, v5, rfl, h3, h5⟩ := h
  exact ⟨v3, v5, rfl, (sliceAt_of_owns cCell_len h3.1 h1).mono (good_flat cCell_len) (Nat.zero_le _), (sliceAt_of_owns cLayer_len h5.1 h2).mono (good_flat cLayer_len) (Nat.zero_le _)⟩
/-- what marks make of a part -/
def marksP (k : Int) (x : PartD) : PartD := ⟨{ x.fCore with fCells := marksCell k x.fCore.fCells.length }, marksLayer (k + x.fCore.fCells.length * 2) x.fLayers.length⟩
def countP (x : PartD) : Int := x.fCore.fCells.length * 2 + x.fLayers.length * 2
end Go.Proofs.Yteeopjcbpngofaa
/- Marks of a part, and what holds them. -/
namespace Go.Proofs.Yteeopjcbpngofaa
set_option linter.unusedVariables false
set_option linter.unusedSimpArgs false
open Go.RowKit
theorem betw_grown {lo hi : Nat} {w w' : World} {r : Option Nat} (h : w.grownBy w' r) (hr : ∀ g, r = some g → lo ≤ g ∧ g < hi) : Betw lo hi w w' :=
  ⟨h.os, h.tape, h.output, h.size, fun k hk hd => h.block k hk (fun e => by have := hr k e.symm; omega)⟩
theorem betw_trans {lo hi : Nat} {a b c : World} (h : Betw lo hi a b) (k : Betw lo hi b c) : Betw lo hi a c :=
  ⟨k.os.trans h.os, k.tape.trans h.tape, k.output.trans h.output, Nat.le_trans h.size k.size, fun i hi hd => (k.block i (Nat.lt_of_lt_of_le hi h.size) hd).trans (h.block i hi hd)⟩
theorem betw_alloc {lo hi : Nat} (w : World) (o : Obj) : Betw lo hi w (w.alloc o) := ⟨(bx_box w o).os, (bx_box w o).tape, (bx_box w o).output, (bx_box w o).size, fun k hk _ => (bx_box w o).block k hk⟩
theorem ownR_mk {α : Type} {f : α → List Value} {E k : Nat} {w : World} {lo hi : Nat} {v : Value} {l : List α} (h : OwnsF f E k w lo v l) (h2 : ∀ g, v.ownBlock = some g → g < hi) : OwnR f E k w lo hi v l := ⟨h, h2⟩
theorem own_loP {w : World} {B : Nat} {cs : List Value} {x : PartD} (ho : oPart w B cs x) : ∃ L, L = B ∧ oPart w L cs x := ⟨B, rfl, ho⟩
theorem oPart_0 {w : World} {B : Nat} {cs : List Value} {x : PartD} (h : oPart w B cs x) (hs : SmallP x) : rPart 0 w cs x := goodPart.mono (oPart_r h hs) (Nat.zero_le _)
end Go.Proofs.Yteeopjcbpngofaa
/- EmptySlots: three zero slots: made, marked. Written by gen/ch8z.py. -/
namespace Go.Proofs.Yteeopjcbpngofaa
set_option linter.unusedVariables false
set_option linter.unusedSimpArgs false
open Go.RowKit
set_option maxRecDepth 100000 in
set_option maxHeartbeats 6400000 in
theorem implEmpty_any (w : World) : Calls Try.prog 8 #[] w fun e w' => e = .returned (.slice (some ⟨w.heap.size, 0, none⟩) 3 3) ∧ w' = w.alloc (.cells #[.bool false, .string ⟨#[]⟩, .bool false, .bool false, .slice none 0 0, .int .i64 0, .slice none 0 0, .bool false, .string ⟨#[]⟩, .bool false, .bool false, .slice none 0 0, .int .i64 0, .slice none 0 0, .bool false, .string ⟨#[]⟩, .bool false, .bool false, .slice none 0 0, .int .i64 0, .slice none 0 0] 63) := by
  have hmk : ∀ w, (Instr.makeSlice 22 (.int .i64 3) (.int .i64 3)).run Try.prog w = .ok (.slice (some ⟨w.heap.size, 0, none⟩) 3 3) (w.alloc (.cells #[.bool false, .string ⟨#[]⟩, .bool false, .bool false, .slice none 0 0, .int .i64 0, .slice none 0 0, .bool false, .string ⟨#[]⟩, .bool false, .bool false, .slice none 0 0, .int .i64 0, .slice none 0 0, .bool false, .string ⟨#[]⟩, .bool false, .bool false, .slice none 0 0, .int .i64 0, .slice none 0 0] 63)) := fun w => by kernel_rfl
  go_enter Try.func8, Try.ntmps8
  go_wp2_with fail
  go_ret
  exact ⟨rfl, rfl⟩
set_option maxRecDepth 100000 in
set_option maxHeartbeats 6400000 in
theorem specEmpty_any (w : World) : Calls Try.prog 7 #[] w fun e w' => e = .returned (.slice (some ⟨w.heap.size, 0, none⟩) 3 3) ∧ w' = w.alloc (.cells #[.bool false, .string ⟨#[]⟩, .bool false, .bool false, .slice none 0 0, .int .i64 0, .slice none 0 0, .bool false, .string ⟨#[]⟩, .bool false, .bool false, .slice none 0 0, .int .i64 0, .slice none 0 0, .bool false, .string ⟨#[]⟩, .bool false, .bool false, .slice none 0 0, .int .i64 0, .slice none 0 0] 63) := by
  have hmk : ∀ w, (Instr.makeSlice 22 (.int .i64 3) (.int .i64 3)).run Try.prog w = .ok (.slice (some ⟨w.heap.size, 0, none⟩) 3 3) (w.alloc (.cells #[.bool false, .string ⟨#[]⟩, .bool false, .bool false, .slice none 0 0, .int .i64 0, .slice none 0 0, .bool false, .string ⟨#[]⟩, .bool false, .bool false, .slice none 0 0, .int .i64 0, .slice none 0 0, .bool false, .string ⟨#[]⟩, .bool false, .bool false, .slice none 0 0, .int .i64 0, .slice none 0 0] 63)) := fun w => by kernel_rfl
  go_enter Try.func7, Try.ntmps7
  go_wp2_with fail
  go_ret
  exact ⟨rfl, rfl⟩
theorem betw_setE (w : World) (b j : Nat) (u : Value) : Betw b (b + 1) w (w.setCell ⟨b, j, none⟩ u) := ⟨rfl, rfl, rfl, by simp, fun k _ hd => Below.heap_setCell w ⟨b, j, none⟩ u k (fun e => by have e : k = b := e; omega)⟩
theorem betw_belE {lo hi : Nat} {w w' : World} (h : Below w.heap.size w w') : Betw lo hi w w' := ⟨h.os, h.tape, h.output, h.size, fun k hk _ => h.block k hk⟩
theorem bx_betwE {lo hi c : Nat} {w w' : World} {cs : List Value} (h : Bx w c cs) (hb : Betw lo hi w w') (hd : c < lo ∨ hi ≤ c) : Bx w' c cs :=
  ⟨Nat.lt_of_lt_of_le h.lt hb.size, fun j hj => (World.cell?_of_block (hb.block c h.lt hd)).trans (h.cell j hj), fun j hj => (World.frozen?_of_block (hb.block c h.lt hd)).trans (h.froz j hj)⟩
def zSltD : SlotD := ⟨false, ⟨⟨[], false, false, [], 0⟩, []⟩⟩
theorem zeroSlots_at {w : World} {b : Nat} (h : Bx w b [.bool false, .string ⟨#[]⟩, .bool false, .bool false, .slice none 0 0, .int .i64 0, .slice none 0 0, .bool false, .string ⟨#[]⟩, .bool false, .bool false, .slice none 0 0, .int .i64 0, .slice none 0 0, .bool false, .string ⟨#[]⟩, .bool false, .bool false, .slice none 0 0, .int .i64 0, .slice none 0 0]) : SliceAt rSlot 7 0 w (.slice (some ⟨b, 0, none⟩) 3 3) [zSltD, zSltD, zSltD] := by
  refine ⟨_, 0, rfl, by decide, Or.inr ⟨b, 0, rfl, Nat.zero_le _, h.lt, fun i hi => ?_⟩⟩
  have hz : rSlot 0 w [.bool false, .string ⟨#[]⟩, .bool false, .bool false, .slice none 0 0, .int .i64 0, .slice none 0 0] zSltD := ⟨_, _, rfl, ⟨none, 0, rfl, by decide, Or.inl rfl⟩, ⟨none, 0, rfl, by decide, Or.inl rfl⟩⟩
  have hc : ∀ q, q < 21 → w.cell? ⟨b, q, none⟩ = ([.bool false, .string ⟨#[]⟩, .bool false, .bool false, .slice none 0 0, .int .i64 0, .slice none 0 0, .bool false, .string ⟨#[]⟩, .bool false, .bool false, .slice none 0 0, .int .i64 0, .slice none 0 0, .bool false, .string ⟨#[]⟩, .bool false, .bool false, .slice none 0 0, .int .i64 0, .slice none 0 0] : List Value)[q]? := fun q hq => by rw [h.cell q (by simpa using hq), List.getElem?_eq_getElem]
  have hi3 : i = 0 ∨ i = 1 ∨ i = 2 := by simp at hi; omega
  rcases hi3 with rfl | rfl | rfl
  all_goals refine ⟨_, hz, fun j hj => ?_⟩
  all_goals rw [hc _ (by omega)]
  all_goals (rcases (show j = 0 ∨ j = 1 ∨ j = 2 ∨ j = 3 ∨ j = 4 ∨ j = 5 ∨ j = 6 by omega) with rfl | rfl | rfl | rfl | rfl | rfl | rfl) <;> rfl
set_option maxRecDepth 100000 in
set_option maxHeartbeats 6400000 in
theorem markEmpty_any (b : Nat) (w : World) (h : Bx w b [.bool false, .string ⟨#[]⟩, .bool false, .bool false, .slice none 0 0, .int .i64 0, .slice none 0 0, .bool false, .string ⟨#[]⟩, .bool false, .bool false, .slice none 0 0, .int .i64 0, .slice none 0 0, .bool false, .string ⟨#[]⟩, .bool false, .bool false, .slice none 0 0, .int .i64 0, .slice none 0 0]) : Calls Try.prog 10 #[.slice (some ⟨b, 0, none⟩) 3 3, .int .i64 1] w fun e w' => e = .returned (.int .i64 16) ∧ Bx w' b [.bool false, .string ⟨(markL 2).toArray⟩, .bool true, .bool false, .slice none 0 0, .int .i64 5, .slice none 0 0, .bool true, .string ⟨(markL 7).toArray⟩, .bool false, .bool true, .slice none 0 0, .int .i64 10, .slice none 0 0, .bool false, .string ⟨(markL 12).toArray⟩, .bool false, .bool false, .slice none 0 0, .int .i64 15, .slice none 0 0] ∧ Betw b (b + 1) w w' := by
  have HN := Lib.hid (show ∀ W, OwnsF cCell 107 2 W 0 (.slice none 0 0) [] from fun W => ⟨rfl, Or.inl ⟨rfl, rfl⟩⟩)
  have HNL := Lib.hid (show ∀ W, OwnsF cLayer 109 2 W 0 (.slice none 0 0) [] from fun W => ⟨rfl, Or.inl ⟨rfl, rfl⟩⟩)
  have B0 := Lib.hid h
  have T0 := Lib.hid (betw_grown (lo := b) (hi := b + 1) (grownBy_refl w none) (fun g e => by cases e))
  clear h
  go_enter Try.func10, Try.ntmps10
  go_wp2_with fail
  refine wp_loop_rounds 4 ?_
  rw [rounds_succ]
  have c0 := B0.out.cell 0 (by simp)
  have f0 := B0.out.froz 0 (by simp)
  simp only [List.getElem_cons_zero, List.getElem_cons_succ] at c0
  go_wp2_with fail
  have B1 := Lib.hid (B0.out.set 0 (by simp) (.bool false))
  have T1 := Lib.hid (betw_trans T0.out (betw_setE w b 0 (.bool false)))
  simp only [List.set_cons_zero, List.set_cons_succ] at B1
  generalize w.setCell ⟨b, 0, none⟩ (.bool false) = x0 at *
  clear c0 f0
  refine (markText_any 2 _ (by decide) (by decide)).mono ?_
  rintro e w1 ⟨rfl, hb⟩
  have B2 := Lib.hid (B1.out.below hb)
  have T2 := Lib.hid (betw_trans T1.out (betw_belE hb))
  clear hb
  have c1 := B2.out.cell 1 (by simp)
  have f1 := B2.out.froz 1 (by simp)
  have c2 := B2.out.cell 2 (by simp)
  have f2 := B2.out.froz 2 (by simp)
  have c3 := B2.out.cell 3 (by simp)
  have f3 := B2.out.froz 3 (by simp)
  have c4 := B2.out.cell 4 (by simp)
  have f4 := B2.out.froz 4 (by simp)
  simp only [List.getElem_cons_zero, List.getElem_cons_succ] at c1 c2 c3 c4
  go_wp2_with fail
  have T3 := Lib.hid (betw_trans (betw_trans (betw_trans T2.out (betw_setE _ b 1 (.string ⟨(markL 2).toArray⟩))) (betw_setE _ b 2 (.bool true))) (betw_setE _ b 3 (.bool false)))
  have B3 := Lib.hid (((B2.out.set 1 (by simp) (.string ⟨(markL 2).toArray⟩)).set 2 (by simp) (.bool true)).set 3 (by simp) (.bool false))
  simp only [List.set_cons_zero, List.set_cons_succ] at B3
  generalize (((w1).setCell ⟨b, 1, none⟩ (.string ⟨(markL 2).toArray⟩)).setCell ⟨b, 2, none⟩ (.bool true)).setCell ⟨b, 3, none⟩ (.bool false) = x2 at *
  clear c1 f1 c2 f2 c3 f3 c4 f4
  refine (markCellS_any 0 (.slice none 0 0) [] 5 _ (HN.out _) (by decide) (by decide) (by decide)).mono ?_
  rintro e w3 ⟨rfl, _, hg⟩
  have B4 := Lib.hid (B3.out.grown hg (by simp [Value.ownBlock]))
  have T4 := Lib.hid (betw_trans T3.out (betw_grown hg (fun g e => by simp [Value.ownBlock] at e)))
  clear hg
  have c5 := B4.out.cell 5 (by simp)
  have f5 := B4.out.froz 5 (by simp)
  have c6 := B4.out.cell 6 (by simp)
  have f6 := B4.out.froz 6 (by simp)
  simp only [List.getElem_cons_zero, List.getElem_cons_succ] at c5 c6
  go_wp2_with fail
  have B5 := Lib.hid (B4.out.set 5 (by simp) (.int .i64 5))
  have T5 := Lib.hid (betw_trans T4.out (betw_setE w3 b 5 (.int .i64 5)))
  simp only [List.set_cons_zero, List.set_cons_succ] at B5
  generalize w3.setCell ⟨b, 5, none⟩ (.int .i64 5) = x4 at *
  clear c5 f5 c6 f6
  refine (markLayerS_any 0 (.slice none 0 0) [] 6 _ (HNL.out _) (by decide) (by decide) (by decide)).mono ?_
  rintro e w5 ⟨rfl, _, hg⟩
  have B6 := Lib.hid (B5.out.grown hg (by simp [Value.ownBlock]))
  have T6 := Lib.hid (betw_trans T5.out (betw_grown hg (fun g e => by simp [Value.ownBlock] at e)))
  clear hg
  go_wp2_with fail
  rw [rounds_succ]
  have c7 := B6.out.cell 7 (by simp)
  have f7 := B6.out.froz 7 (by simp)
  simp only [List.getElem_cons_zero, List.getElem_cons_succ] at c7
  go_wp2_with fail
  have B7 := Lib.hid (B6.out.set 7 (by simp) (.bool true))
  have T7 := Lib.hid (betw_trans T6.out (betw_setE w5 b 7 (.bool true)))
  simp only [List.set_cons_zero, List.set_cons_succ] at B7
  generalize w5.setCell ⟨b, 7, none⟩ (.bool true) = x6 at *
  clear c7 f7
  refine (markText_any 7 _ (by decide) (by decide)).mono ?_
  rintro e w7 ⟨rfl, hb⟩
  have B8 := Lib.hid (B7.out.below hb)
  have T8 := Lib.hid (betw_trans T7.out (betw_belE hb))
  clear hb
  have c8 := B8.out.cell 8 (by simp)
  have f8 := B8.out.froz 8 (by simp)
  have c9 := B8.out.cell 9 (by simp)
  have f9 := B8.out.froz 9 (by simp)
  have c10 := B8.out.cell 10 (by simp)
  have f10 := B8.out.froz 10 (by simp)
  have c11 := B8.out.cell 11 (by simp)
  have f11 := B8.out.froz 11 (by simp)
  simp only [List.getElem_cons_zero, List.getElem_cons_succ] at c8 c9 c10 c11
  go_wp2_with fail
  have T9 := Lib.hid (betw_trans (betw_trans (betw_trans T8.out (betw_setE _ b 8 (.string ⟨(markL 7).toArray⟩))) (betw_setE _ b 9 (.bool false))) (betw_setE _ b 10 (.bool true)))
  have B9 := Lib.hid (((B8.out.set 8 (by simp) (.string ⟨(markL 7).toArray⟩)).set 9 (by simp) (.bool false)).set 10 (by simp) (.bool true))
  simp only [List.set_cons_zero, List.set_cons_succ] at B9
  generalize (((w7).setCell ⟨b, 8, none⟩ (.string ⟨(markL 7).toArray⟩)).setCell ⟨b, 9, none⟩ (.bool false)).setCell ⟨b, 10, none⟩ (.bool true) = x8 at *
  clear c8 f8 c9 f9 c10 f10 c11 f11
  refine (markCellS_any 0 (.slice none 0 0) [] 10 _ (HN.out _) (by decide) (by decide) (by decide)).mono ?_
  rintro e w9 ⟨rfl, _, hg⟩
  have B10 := Lib.hid (B9.out.grown hg (by simp [Value.ownBlock]))
  have T10 := Lib.hid (betw_trans T9.out (betw_grown hg (fun g e => by simp [Value.ownBlock] at e)))
  clear hg
  have c12 := B10.out.cell 12 (by simp)
  have f12 := B10.out.froz 12 (by simp)
  have c13 := B10.out.cell 13 (by simp)
  have f13 := B10.out.froz 13 (by simp)
  simp only [List.getElem_cons_zero, List.getElem_cons_succ] at c12 c13
  go_wp2_with fail
  have B11 := Lib.hid (B10.out.set 12 (by simp) (.int .i64 10))
  have T11 := Lib.hid (betw_trans T10.out (betw_setE w9 b 12 (.int .i64 10)))
  simp only [List.set_cons_zero, List.set_cons_succ] at B11
  generalize w9.setCell ⟨b, 12, none⟩ (.int .i64 10) = x10 at *
  clear c12 f12 c13 f13
  refine (markLayerS_any 0 (.slice none 0 0) [] 11 _ (HNL.out _) (by decide) (by decide) (by decide)).mono ?_
  rintro e w11 ⟨rfl, _, hg⟩
  have B12 := Lib.hid (B11.out.grown hg (by simp [Value.ownBlock]))
  have T12 := Lib.hid (betw_trans T11.out (betw_grown hg (fun g e => by simp [Value.ownBlock] at e)))
  clear hg
  go_wp2_with fail
  rw [rounds_succ]
  have c14 := B12.out.cell 14 (by simp)
  have f14 := B12.out.froz 14 (by simp)
  simp only [List.getElem_cons_zero, List.getElem_cons_succ] at c14
  go_wp2_with fail
  have B13 := Lib.hid (B12.out.set 14 (by simp) (.bool false))
  have T13 := Lib.hid (betw_trans T12.out (betw_setE w11 b 14 (.bool false)))
  simp only [List.set_cons_zero, List.set_cons_succ] at B13
  generalize w11.setCell ⟨b, 14, none⟩ (.bool false) = x12 at *
  clear c14 f14
  refine (markText_any 12 _ (by decide) (by decide)).mono ?_
  rintro e w13 ⟨rfl, hb⟩
  have B14 := Lib.hid (B13.out.below hb)
  have T14 := Lib.hid (betw_trans T13.out (betw_belE hb))
  clear hb
  have c15 := B14.out.cell 15 (by simp)
  have f15 := B14.out.froz 15 (by simp)
  have c16 := B14.out.cell 16 (by simp)
  have f16 := B14.out.froz 16 (by simp)
  have c17 := B14.out.cell 17 (by simp)
  have f17 := B14.out.froz 17 (by simp)
  have c18 := B14.out.cell 18 (by simp)
  have f18 := B14.out.froz 18 (by simp)
  simp only [List.getElem_cons_zero, List.getElem_cons_succ] at c15 c16 c17 c18
  go_wp2_with fail
  have T15 := Lib.hid (betw_trans (betw_trans (betw_trans T14.out (betw_setE _ b 15 (.string ⟨(markL 12).toArray⟩))) (betw_setE _ b 16 (.bool false))) (betw_setE _ b 17 (.bool false)))
  have B15 := Lib.hid (((B14.out.set 15 (by simp) (.string ⟨(markL 12).toArray⟩)).set 16 (by simp) (.bool false)).set 17 (by simp) (.bool false))
  simp only [List.set_cons_zero, List.set_cons_succ] at B15
  generalize (((w13).setCell ⟨b, 15, none⟩ (.string ⟨(markL 12).toArray⟩)).setCell ⟨b, 16, none⟩ (.bool false)).setCell ⟨b, 17, none⟩ (.bool false) = x14 at *
  clear c15 f15 c16 f16 c17 f17 c18 f18
  refine (markCellS_any 0 (.slice none 0 0) [] 15 _ (HN.out _) (by decide) (by decide) (by decide)).mono ?_
  rintro e w15 ⟨rfl, _, hg⟩
  have B16 := Lib.hid (B15.out.grown hg (by simp [Value.ownBlock]))
  have T16 := Lib.hid (betw_trans T15.out (betw_grown hg (fun g e => by simp [Value.ownBlock] at e)))
  clear hg
  have c19 := B16.out.cell 19 (by simp)
  have f19 := B16.out.froz 19 (by simp)
  have c20 := B16.out.cell 20 (by simp)
  have f20 := B16.out.froz 20 (by simp)
  simp only [List.getElem_cons_zero, List.getElem_cons_succ] at c19 c20
  go_wp2_with fail
  have B17 := Lib.hid (B16.out.set 19 (by simp) (.int .i64 15))
  have T17 := Lib.hid (betw_trans T16.out (betw_setE w15 b 19 (.int .i64 15)))
  simp only [List.set_cons_zero, List.set_cons_succ] at B17
  generalize w15.setCell ⟨b, 19, none⟩ (.int .i64 15) = x16 at *
  clear c19 f19 c20 f20
  refine (markLayerS_any 0 (.slice none 0 0) [] 16 _ (HNL.out _) (by decide) (by decide) (by decide)).mono ?_
  rintro e w17 ⟨rfl, _, hg⟩
  have B18 := Lib.hid (B17.out.grown hg (by simp [Value.ownBlock]))
  have T18 := Lib.hid (betw_trans T17.out (betw_grown hg (fun g e => by simp [Value.ownBlock] at e)))
  clear hg
  go_wp2_with fail
  rw [rounds_succ]
  go_wp2_with fail
  go_ret
  exact ⟨rfl, B18.out, T18.out⟩
set_option maxRecDepth 100000 in
set_option maxHeartbeats 6400000 in
theorem heldEmpty_any (b : Nat) (w : World) (h : Bx w b [.bool false, .string ⟨(markL 2).toArray⟩, .bool true, .bool false, .slice none 0 0, .int .i64 5, .slice none 0 0, .bool true, .string ⟨(markL 7).toArray⟩, .bool false, .bool true, .slice none 0 0, .int .i64 10, .slice none 0 0, .bool false, .string ⟨(markL 12).toArray⟩, .bool false, .bool false, .slice none 0 0, .int .i64 15, .slice none 0 0]) : Calls Try.prog 11 #[.slice (some ⟨b, 0, none⟩) 3 3, .int .i64 1] w fun e w' => e = .returned (.int .i64 16) ∧ Below w.heap.size w w' := by
  have HN := Lib.hid (show ∀ W k, FlatAt cCell 2 W (.slice none 0 0) (marksCell k 0) from fun W k => by rw [show marksCell k 0 = [] from by simp [marksCell]]; exact ownsF_at (show OwnsF cCell 107 2 W 0 (.slice none 0 0) [] from ⟨rfl, Or.inl ⟨rfl, rfl⟩⟩) (by decide))
  have HNL := Lib.hid (show ∀ W k, FlatAt cLayer 2 W (.slice none 0 0) (marksLayer k 0) from fun W k => by rw [show marksLayer k 0 = [] from by simp [marksLayer]]; exact ownsF_at (show OwnsF cLayer 109 2 W 0 (.slice none 0 0) [] from ⟨rfl, Or.inl ⟨rfl, rfl⟩⟩) (by decide))
  have B0 := Lib.hid h
  have T0 := Lib.hid (Below.refl w.heap.size w)
  clear h
  go_enter Try.func11, Try.ntmps11
  go_wp2_with fail
  refine wp_loop_rounds 4 ?_
  rw [rounds_succ]
  have c0 := B0.out.cell 0 (by simp)
  have c1 := B0.out.cell 1 (by simp)
  simp only [List.getElem_cons_zero, List.getElem_cons_succ] at c0 c1
  have BL0 := Lib.hid B0.out.lt
  go_wp2_with fail
  go_region_held3 (fun w' => w'.cell? ⟨b, 1, none⟩ = some (.string ⟨(markL 2).toArray⟩))
    (first | go_keep | exact c1 | exact (hb1.cell (p := ⟨b, 1, none⟩) (by have := BL0.out; simp; omega)).trans c1)
    (first | (go_at_call 28; refine (markText_any 2 _ (by decide) (by decide)).mono ?_; rintro e w1 ⟨rfl, hb1⟩))
  have B1 := Lib.hid ((B0.out.below (Below.drew (Below.refl _ _))).below hb1)
  have T1 := Lib.hid ((Below.drew T0.out).trans (hb1.mono T0.out.size))
  rename_i hheld
  clear hb1 hheld c0 c1
  have c2 := B1.out.cell 2 (by simp)
  have c3 := B1.out.cell 3 (by simp)
  have c4 := B1.out.cell 4 (by simp)
  simp only [List.getElem_cons_zero, List.getElem_cons_succ] at c2 c3 c4
  go_wp2_with fail
  refine (heldCellS_any (.slice none 0 0) 0 5 _ (HN.out _ _) (by decide) (by decide) (by decide)).mono ?_
  rintro e w2 ⟨rfl, hb⟩
  have B2 := Lib.hid (B1.out.below hb)
  have T2 := Lib.hid (T1.out.trans (hb.mono T1.out.size))
  clear hb c2 c3 c4
  have c5 := B2.out.cell 5 (by simp)
  have c6 := B2.out.cell 6 (by simp)
  simp only [List.getElem_cons_zero, List.getElem_cons_succ] at c5 c6
  go_wp2_with fail
  refine (heldLayerS_any (.slice none 0 0) 0 6 _ (HNL.out _ _) (by decide) (by decide) (by decide)).mono ?_
  rintro e w3 ⟨rfl, hb⟩
  have B3 := Lib.hid (B2.out.below hb)
  have T3 := Lib.hid (T2.out.trans (hb.mono T2.out.size))
  clear hb c5 c6
  go_wp2_with fail
  rw [rounds_succ]
  have c7 := B3.out.cell 7 (by simp)
  have c8 := B3.out.cell 8 (by simp)
  simp only [List.getElem_cons_zero, List.getElem_cons_succ] at c7 c8
  have BL3 := Lib.hid B3.out.lt
  go_wp2_with fail
  go_region_held3 (fun w' => w'.cell? ⟨b, 8, none⟩ = some (.string ⟨(markL 7).toArray⟩))
    (first | go_keep | exact c8 | exact (hb1.cell (p := ⟨b, 8, none⟩) (by have := BL3.out; simp; omega)).trans c8)
    (first | (go_at_call 28; refine (markText_any 7 _ (by decide) (by decide)).mono ?_; rintro e w4 ⟨rfl, hb1⟩))
  have B4 := Lib.hid ((B3.out.below (Below.drew (Below.refl _ _))).below hb1)
  have T4 := Lib.hid ((Below.drew T3.out).trans (hb1.mono T3.out.size))
  rename_i hheld
  clear hb1 hheld c7 c8
  have c9 := B4.out.cell 9 (by simp)
  have c10 := B4.out.cell 10 (by simp)
  have c11 := B4.out.cell 11 (by simp)
  simp only [List.getElem_cons_zero, List.getElem_cons_succ] at c9 c10 c11
  go_wp2_with fail
  refine (heldCellS_any (.slice none 0 0) 0 10 _ (HN.out _ _) (by decide) (by decide) (by decide)).mono ?_
  rintro e w5 ⟨rfl, hb⟩
  have B5 := Lib.hid (B4.out.below hb)
  have T5 := Lib.hid (T4.out.trans (hb.mono T4.out.size))
  clear hb c9 c10 c11
  have c12 := B5.out.cell 12 (by simp)
  have c13 := B5.out.cell 13 (by simp)
  simp only [List.getElem_cons_zero, List.getElem_cons_succ] at c12 c13
  go_wp2_with fail
  refine (heldLayerS_any (.slice none 0 0) 0 11 _ (HNL.out _ _) (by decide) (by decide) (by decide)).mono ?_
  rintro e w6 ⟨rfl, hb⟩
  have B6 := Lib.hid (B5.out.below hb)
  have T6 := Lib.hid (T5.out.trans (hb.mono T5.out.size))
  clear hb c12 c13
  go_wp2_with fail
  rw [rounds_succ]
  have c14 := B6.out.cell 14 (by simp)
  have c15 := B6.out.cell 15 (by simp)
  simp only [List.getElem_cons_zero, List.getElem_cons_succ] at c14 c15
  have BL6 := Lib.hid B6.out.lt
  go_wp2_with fail
  go_region_held3 (fun w' => w'.cell? ⟨b, 15, none⟩ = some (.string ⟨(markL 12).toArray⟩))
    (first | go_keep | exact c15 | exact (hb1.cell (p := ⟨b, 15, none⟩) (by have := BL6.out; simp; omega)).trans c15)
    (first | (go_at_call 28; refine (markText_any 12 _ (by decide) (by decide)).mono ?_; rintro e w7 ⟨rfl, hb1⟩))
  have B7 := Lib.hid ((B6.out.below (Below.drew (Below.refl _ _))).below hb1)
  have T7 := Lib.hid ((Below.drew T6.out).trans (hb1.mono T6.out.size))
  rename_i hheld
  clear hb1 hheld c14 c15
  have c16 := B7.out.cell 16 (by simp)
  have c17 := B7.out.cell 17 (by simp)
  have c18 := B7.out.cell 18 (by simp)
  simp only [List.getElem_cons_zero, List.getElem_cons_succ] at c16 c17 c18
  go_wp2_with fail
  refine (heldCellS_any (.slice none 0 0) 0 15 _ (HN.out _ _) (by decide) (by decide) (by decide)).mono ?_
  rintro e w8 ⟨rfl, hb⟩
  have B8 := Lib.hid (B7.out.below hb)
  have T8 := Lib.hid (T7.out.trans (hb.mono T7.out.size))
  clear hb c16 c17 c18
  have c19 := B8.out.cell 19 (by simp)
  have c20 := B8.out.cell 20 (by simp)
  simp only [List.getElem_cons_zero, List.getElem_cons_succ] at c19 c20
  go_wp2_with fail
  refine (heldLayerS_any (.slice none 0 0) 0 16 _ (HNL.out _ _) (by decide) (by decide) (by decide)).mono ?_
  rintro e w9 ⟨rfl, hb⟩
  have B9 := Lib.hid (B8.out.below hb)
  have T9 := Lib.hid (T8.out.trans (hb.mono T8.out.size))
  clear hb c19 c20
  go_wp2_with fail
  rw [rounds_succ]
  go_wp2_with fail
  go_ret
  exact ⟨rfl, T9.out⟩
end Go.Proofs.Yteeopjcbpngofaa
/- Arguments opened: structs by value, slices of structs. -/
namespace Go.Proofs.Yteeopjcbpngofaa
set_option linter.unusedVariables false
open Go.ChangeShapes Go.WideShapes Go.ChangeAt Go.RowKit Go.WideMaps Go.WideElems
open Go.Deep
section
variable {H : Type} {enc : TypeId × Value → H} {P : Program} {W : World}
theorem leaf_str {n : Nat} {t : TypeId} {c : Value} {x : DataW H × List MemPlace} (ht : P.underlying t = some .string) (h : DataW.trod enc P W 0 (fun _ => true) true n t [c] = some x) : ∃ l : List UInt8, c = .string ⟨l.toArray⟩ ∧ l.length ≤ maxLen := by
  obtain ⟨s, h1, _, h3⟩ := DataW.trod_string ht h
  injection h1 with h1
  exact ⟨s.data.toList, by rw [h1], by rw [Array.length_toList]; exact h3⟩
theorem leaf_int {n : Nat} {t : TypeId} {c : Value} {x : DataW H × List MemPlace} (ht : P.underlying t = some (.int .i64)) (h : DataW.trod enc P W 0 (fun _ => true) true n t [c] = some x) : ∃ z : Int, c = .int .i64 z ∧ -9223372036854775808 ≤ z ∧ z ≤ 9223372036854775807 := by
  obtain ⟨z, h1, _, h3⟩ := DataW.trod_int ht h
  injection h1 with h1
  exact ⟨z, h1, bounds_i64 h3⟩
theorem leaf_bool {n : Nat} {t : TypeId} {c : Value} {x : DataW H × List MemPlace} (ht : P.underlying t = some .bool) (h : DataW.trod enc P W 0 (fun _ => true) true n t [c] = some x) : ∃ b : Bool, c = .bool b := by
  obtain ⟨b, h1, _⟩ := DataW.trod_bool ht h
  injection h1 with h1
  exact ⟨b, h1⟩
theorem field_at {fs : Array Field} {n : Nat} {cs : List Value} {xs : List (DataW H × List MemPlace)} (hl : xs.length = fs.size)
    (hf : ∀ (i : Nat) (f : Field), fs[i]? = some f → DataW.trod enc P W 0 (fun _ => true) true n f.type ((cs.drop f.offset).take (P.cellsOf f.type)) = xs[i]?) (i : Nat) (f : Field) (h : fs[i]? = some f) :
    ∃ x, DataW.trod enc P W 0 (fun _ => true) true n f.type ((cs.drop f.offset).take (P.cellsOf f.type)) = some x := by
  have hi : i < fs.size := (Array.getElem?_eq_some_iff.1 h).1
  exact ⟨xs[i]'(by omega), by rw [hf i f h, List.getElem?_eq_getElem]⟩
theorem field_one {fs : Array Field} {n : Nat} {cs : List Value} {xs : List (DataW H × List MemPlace)} (hl : xs.length = fs.size)
    (hf : ∀ (i : Nat) (f : Field), fs[i]? = some f → DataW.trod enc P W 0 (fun _ => true) true n f.type ((cs.drop f.offset).take (P.cellsOf f.type)) = xs[i]?) (i : Nat) (f : Field) (T o : Nat) (c : Value) (r : List Value) (h : fs[i]? = some f) (hT : f.type = T) (ho : f.offset = o) (hc : P.cellsOf T = 1) (hd : cs.drop o = c :: r) :
    ∃ x, DataW.trod enc P W 0 (fun _ => true) true n T [c] = some x := by
  obtain ⟨x, hx⟩ := field_at hl hf i f h
  subst hT; subst ho
  rw [hc, hd] at hx
  exact ⟨x, hx⟩
/-- a slice of structs of texts and numbers -/
theorem open_flat {α : Type} [Inhabited α] {f : α → List Value} {k : Nat} {G : α → Prop} (hk : ∀ x, (f x).length = k) (hk0 : 0 < k) {t e : TypeId} {n : Nat} {v : Value} {x : DataW H × List MemPlace} (ht : P.underlying t = some (.slice e)) (hc : P.cellsOf e = k)
    (hel : ∀ n cs x, DataW.trod enc P W 0 (fun _ => true) true n e cs = some x → ∃ d, cs = f d ∧ G d) (h : DataW.trod enc P W 0 (fun _ => true) true n t [v] = some x) :
    ∃ l : List α, FlatAt f k W v l ∧ ∀ d ∈ l, G d := by
  rcases open_slice ht h with ⟨h0, _⟩ | ⟨a, len, cap, m, n', D, Pl, hcs, _, hl, hm, hmm, _, hx⟩
  · injection h0 with h0
    subst h0
    exact ⟨[], ⟨none, 0, rfl, by simp, Nat.zero_le _, Or.inl rfl⟩, by simp⟩
  · injection hcs with hcs
    subst hcs
    simp only [if_true] at hmm
    subst hmm
    obtain ⟨F, hF⟩ := choose_lt (α := α) (p := fun i d => (∀ j, j < k → W.cell? ((a.add (i * k)).add j) = (f d)[j]?) ∧ G d) (n := m) (fun i hi => by
      obtain ⟨cs', h1, h2⟩ := hx i hi
      obtain ⟨d, rfl, hg⟩ := hel _ _ _ h2
      rw [hc] at h1
      obtain ⟨_, _, h3⟩ := World.cells?_some h1
      exact ⟨d, h3, hg⟩)
    refine ⟨(List.range len).map F, ?_, ?_⟩
    · obtain ⟨ab, ao, spot⟩ := a
      refine ⟨some ⟨ab, ao, spot⟩, m - len, by simp; omega, by rw [flat_len f k hk, List.length_map], by simp; omega, ?_⟩
      rcases Nat.eq_zero_or_pos len with h0 | hpos
      · left; simp [h0]
      · right
        have g0 := (hF 0 (by omega)).1 0 hk0
        have hlen0 : 0 < (f (F 0)).length := by rw [hk]; exact hk0
        rw [List.getElem?_eq_getElem hlen0] at g0
        have hspot : spot = none := by
          have := World.cell?_spot g0
          simpa [Addr.add] using this
        subst hspot
        have hlt : ab < W.heap.size := by
          simp only [Addr.add_lit, Nat.zero_mul, Nat.add_zero] at g0
          exact World.block_lt_of_cell? W _ g0
        refine ⟨ab, ao, rfl, hlt, fun i hi => ?_⟩
        rw [List.length_map, List.length_range] at hi
        have hq : i / k < len := Nat.div_lt_of_lt_mul (by rw [Nat.mul_comm]; exact hi)
        have hr : i % k < k := Nat.mod_lt _ hk0
        have h1 := (hF (i / k) (by omega)).1 (i % k) hr
        rw [Addr.add_lit, Addr.add_lit] at h1
        have e1 : i / k * k + i % k = i := by rw [Nat.mul_comm]; exact Nat.div_add_mod i k
        rw [show ao + i / k * k + i % k = ao + i by omega] at h1
        rw [h1, ← e1, flat_get f k hk _ (i / k) (by simpa using hq) (i % k) hr]
        simp [e1]
    · intro d hd
      obtain ⟨i, hi, rfl⟩ := List.mem_map.1 hd
      exact (hF i (by have := List.mem_range.1 hi; omega)).2
theorem two_of {α : Type} {l : List α} (h : l.length = 2) : ∃ a b, l = [a, b] := by match l, h with | [a, b], _ => exact ⟨a, b, rfl⟩
theorem three_of {α : Type} {l : List α} (h : l.length = 3) : ∃ a b c, l = [a, b, c] := by match l, h with | [a, b, c], _ => exact ⟨a, b, c, rfl⟩
theorem four_of {α : Type} {l : List α} (h : l.length = 4) : ∃ a b c d, l = [a, b, c, d] := by match l, h with | [a, b, c, d], _ => exact ⟨a, b, c, d, rfl⟩
theorem five_of {α : Type} {l : List α} (h : l.length = 5) : ∃ a b c d e, l = [a, b, c, d, e] := by match l, h with | [a, b, c, d, e], _ => exact ⟨a, b, c, d, e, rfl⟩
end
section
variable {H : Type} {enc : TypeId × Value → H} {W : World}
set_option maxRecDepth 100000 in
theorem open_Cell {n : Nat} {cs : List Value} {x : DataW H × List MemPlace} (h : DataW.trod enc Try.prog W 0 (fun _ => true) true n 170 cs = some x) : ∃ d : CellD, cs = cCell d ∧ okCell d := by
  obtain ⟨xs, m, rfl, _, hl, hn, hf⟩ := DataW.trod_struct Try.underlying170 h
  rw [show Try.prog.cellsOf 170 = 2 by kernel_rfl] at hl
  obtain ⟨c0, c1, rfl⟩ := two_of hl
  obtain ⟨y0, k0⟩ := field_one hn hf 0 _ 9 0 _ _ rfl rfl rfl (by kernel_rfl) rfl
  obtain ⟨y1, k1⟩ := field_one hn hf 1 _ 3 1 _ _ rfl rfl rfl (by kernel_rfl) rfl
  obtain ⟨l0, rfl, b0⟩ := leaf_str Try.underlying9 k0
  obtain ⟨l1, rfl, b1⟩ := leaf_int Try.underlying3 k1
  exact ⟨⟨l0, l1⟩, rfl, b0, b1⟩
set_option maxRecDepth 100000 in
theorem openS_Cell {n : Nat} {v : Value} {x : DataW H × List MemPlace} (h : DataW.trod enc Try.prog W 0 (fun _ => true) true n 68 [v] = some x) : ∃ l : List CellD, FlatAt cCell 2 W v l ∧ ∀ d ∈ l, okCell d :=
  haveI : Inhabited CellD := ⟨⟨[], 0⟩⟩
  open_flat cCell_len (by decide) Try.underlying68 (by kernel_rfl) (fun _ _ _ h => open_Cell h) h
set_option maxRecDepth 100000 in
theorem argS_Cell {base : Nat} {v : Value} {d : DataW H} {p : List MemPlace} (hval : Value.okWide Try.prog W .any base 68 v) (h : DataW.Trod enc Try.prog W 0 (fun _ => true) true 68 v d p) : ∃ l : List CellD, FlatAt cCell 2 W v l ∧ ∀ d ∈ l, okCell d := by
  obtain ⟨a1, len, cap, rfl⟩ := okWide_slice Try.underlying68 hval
  obtain ⟨fuel, hf⟩ := h
  exact openS_Cell hf
end
end Go.Proofs.Yteeopjcbpngofaa
/- Arguments opened: cores. -/
namespace Go.Proofs.Yteeopjcbpngofaa
set_option linter.unusedVariables false
open Go.ChangeShapes Go.WideShapes Go.ChangeAt Go.RowKit Go.WideMaps Go.WideElems
open Go.Deep
section
variable {H : Type} {enc : TypeId × Value → H} {W : World}
set_option maxRecDepth 100000 in
theorem open_Core {n : Nat} {cs : List Value} {x : DataW H × List MemPlace} (h : DataW.trod enc Try.prog W 0 (fun _ => true) true n 70 cs = some x) :
    ∃ (d : CoreD) (cv : Value), cs = [.string ⟨d.fKind.toArray⟩, .bool d.fOn, .bool d.fBroken, cv, .int .i64 d.fCount] ∧ FlatAt cCell 2 W cv d.fCells ∧ okCore d := by
  obtain ⟨xs, m, rfl, _, hl, hn, hf⟩ := DataW.trod_struct Try.underlying70 h
  rw [show Try.prog.cellsOf 70 = 5 by kernel_rfl] at hl
  obtain ⟨c0, c1, c2, c3, c4, rfl⟩ := five_of hl
  obtain ⟨y0, k0⟩ := field_one hn hf 0 _ 9 0 _ _ rfl rfl rfl (by kernel_rfl) rfl
  obtain ⟨y1, k1⟩ := field_one hn hf 1 _ 4 1 _ _ rfl rfl rfl (by kernel_rfl) rfl
  obtain ⟨y2, k2⟩ := field_one hn hf 2 _ 4 2 _ _ rfl rfl rfl (by kernel_rfl) rfl
  obtain ⟨y3, k3⟩ := field_one hn hf 3 _ 68 3 _ _ rfl rfl rfl (by kernel_rfl) rfl
  obtain ⟨y4, k4⟩ := field_one hn hf 4 _ 3 4 _ _ rfl rfl rfl (by kernel_rfl) rfl
  obtain ⟨l0, rfl, b0⟩ := leaf_str Try.underlying9 k0
  obtain ⟨l1, rfl⟩ := leaf_bool Try.underlying4 k1
  obtain ⟨l2, rfl⟩ := leaf_bool Try.underlying4 k2
  obtain ⟨l3, b3, e3⟩ := openS_Cell k3
  obtain ⟨l4, rfl, b4⟩ := leaf_int Try.underlying3 k4
  exact ⟨⟨l0, l1, l2, l3, l4⟩, c3, rfl, b3, b0, e3, b4⟩
set_option maxRecDepth 100000 in
theorem arg_Core {base : Nat} {v : Value} {d : DataW H} {p : List MemPlace} (hval : Value.okWide Try.prog W .any base 70 v) (h : DataW.Trod enc Try.prog W 0 (fun _ => true) true 70 v d p) : ∃ d : CoreD, CoreAt W v d ∧ okCore d := by
  obtain ⟨cs, rfl, _⟩ := okWide_struct Try.underlying70 hval
  obtain ⟨fuel, hf⟩ := h
  obtain ⟨d, cv, h1, h2, h3⟩ := open_Core hf
  refine ⟨d, ⟨cv, ?_, h2⟩, h3⟩
  simp only [Value.cells] at h1
  unfold vCore
  congr 1
  exact Array.toList_inj.1 h1
end
end Go.Proofs.Yteeopjcbpngofaa
/- Arguments opened: flat structs. Written by gen/openflat.py. -/
namespace Go.Proofs.Yteeopjcbpngofaa
set_option linter.unusedVariables false
open Go.ChangeShapes Go.WideShapes Go.ChangeAt Go.RowKit Go.WideMaps Go.WideElems
open Go.Deep
section
variable {H : Type} {enc : TypeId × Value → H} {W : World}
set_option maxRecDepth 100000 in
theorem open_Layer {n : Nat} {cs : List Value} {x : DataW H × List MemPlace} (h : DataW.trod enc Try.prog W 0 (fun _ => true) true n 158 cs = some x) : ∃ d : LayerD, cs = cLayer d ∧ okLayer d := by
  obtain ⟨xs, m, rfl, _, hl, hn, hf⟩ := DataW.trod_struct Try.underlying158 h
  rw [show Try.prog.cellsOf 158 = 2 by kernel_rfl] at hl
  obtain ⟨c0, c1, rfl⟩ := two_of hl
  obtain ⟨y0, k0⟩ := field_one hn hf 0 _ 9 0 _ _ rfl rfl rfl (by kernel_rfl) rfl
  obtain ⟨y1, k1⟩ := field_one hn hf 1 _ 3 1 _ _ rfl rfl rfl (by kernel_rfl) rfl
  obtain ⟨l0, rfl, b0⟩ := leaf_str Try.underlying9 k0
  obtain ⟨l1, rfl, b1⟩ := leaf_int Try.underlying3 k1
  exact ⟨⟨l0, l1⟩, rfl, b0, b1⟩
set_option maxRecDepth 100000 in
theorem arg_Layer {base : Nat} {v : Value} {d : DataW H} {p : List MemPlace} (hval : Value.okWide Try.prog W .any base 158 v) (h : DataW.Trod enc Try.prog W 0 (fun _ => true) true 158 v d p) : ∃ d : LayerD, v = vLayer d ∧ okLayer d := by
  obtain ⟨cs, rfl, _⟩ := okWide_struct Try.underlying158 hval
  obtain ⟨fuel, hf⟩ := h
  obtain ⟨d, h1, h2⟩ := open_Layer hf
  refine ⟨d, ?_, h2⟩
  simp only [Value.cells] at h1
  unfold vLayer
  congr 1
  exact Array.toList_inj.1 h1
set_option maxRecDepth 100000 in
theorem openS_Layer {n : Nat} {v : Value} {x : DataW H × List MemPlace} (h : DataW.trod enc Try.prog W 0 (fun _ => true) true n 71 [v] = some x) : ∃ l : List LayerD, FlatAt cLayer 2 W v l ∧ ∀ d ∈ l, okLayer d :=
  haveI : Inhabited LayerD := ⟨⟨[], 0⟩⟩
  open_flat cLayer_len (by decide) Try.underlying71 (by kernel_rfl) (fun _ _ _ h => open_Layer h) h
set_option maxRecDepth 100000 in
theorem argS_Layer {base : Nat} {v : Value} {d : DataW H} {p : List MemPlace} (hval : Value.okWide Try.prog W .any base 71 v) (h : DataW.Trod enc Try.prog W 0 (fun _ => true) true 71 v d p) : ∃ l : List LayerD, FlatAt cLayer 2 W v l ∧ ∀ d ∈ l, okLayer d := by
  obtain ⟨a1, len, cap, rfl⟩ := okWide_slice Try.underlying71 hval
  obtain ⟨fuel, hf⟩ := h
  exact openS_Layer hf
end
end Go.Proofs.Yteeopjcbpngofaa
/- Arguments opened: slices of structs that hold rows themselves. -/
namespace Go.Proofs.Yteeopjcbpngofaa
set_option linter.unusedVariables false
open Go.ChangeShapes Go.WideShapes Go.ChangeAt Go.RowKit Go.WideMaps Go.WideElems
open Go.Deep
section
variable {H : Type} {enc : TypeId × Value → H} {P : Program} {W : World}
theorem open_deep {α : Type} [Inhabited α] {R : Nat → World → List Value → α → Prop} {k : Nat} {G : α → Prop} (hg : Good R k) (hk0 : 0 < k) {t e : TypeId} {n : Nat} {v : Value} {x : DataW H × List MemPlace} (ht : P.underlying t = some (.slice e)) (hc : P.cellsOf e = k)
    (hel : ∀ n cs x, DataW.trod enc P W 0 (fun _ => true) true n e cs = some x → ∃ d, R 0 W cs d ∧ G d) (h : DataW.trod enc P W 0 (fun _ => true) true n t [v] = some x) :
    ∃ l : List α, SliceAt R k 0 W v l ∧ ∀ d ∈ l, G d := by
  rcases open_slice ht h with ⟨h0, _⟩ | ⟨a, len, cap, m, n', D, Pl, hcs, _, hl, hm, hmm, _, hx⟩
  · injection h0 with h0
    subst h0
    exact ⟨[], sliceAt_nil _ _, by simp⟩
  · injection hcs with hcs
    subst hcs
    simp only [if_true] at hmm
    subst hmm
    obtain ⟨F, hF⟩ := choose_lt (α := α) (p := fun i d => (∃ cs, R 0 W cs d ∧ ∀ j, j < k → W.cell? ((a.add (i * k)).add j) = cs[j]?) ∧ G d) (n := m) (fun i hi => by
      obtain ⟨cs', h1, h2⟩ := hx i hi
      obtain ⟨d, hr, hg2⟩ := hel _ _ _ h2
      rw [hc] at h1
      obtain ⟨_, _, h3⟩ := World.cells?_some h1
      exact ⟨d, ⟨cs', hr, h3⟩, hg2⟩)
    refine ⟨(List.range len).map F, ?_, ?_⟩
    · obtain ⟨ab, ao, spot⟩ := a
      refine ⟨some ⟨ab, ao, spot⟩, m - len, by simp; omega, by simp; omega, ?_⟩
      rcases Nat.eq_zero_or_pos len with h0 | hpos
      · left; simp [h0]
      · right
        obtain ⟨cs0, r0, g0⟩ := (hF 0 (by omega)).1
        have g0 := g0 0 hk0
        have hlen0 : 0 < cs0.length := by rw [hg.len r0]; exact hk0
        rw [List.getElem?_eq_getElem hlen0] at g0
        have hspot : spot = none := by
          have := World.cell?_spot g0
          simpa [Addr.add] using this
        subst hspot
        have hlt : ab < W.heap.size := by
          simp only [Addr.add_lit, Nat.zero_mul, Nat.add_zero] at g0
          exact World.block_lt_of_cell? W _ g0
        refine ⟨ab, ao, rfl, Nat.zero_le _, hlt, fun i hi => ?_⟩
        have hi2 : i < len := by simpa using hi
        obtain ⟨cs, r1, g1⟩ := (hF i (by omega)).1
        refine ⟨cs, by simpa using r1, fun j hj => ?_⟩
        have h2 := g1 j hj
        rw [Addr.add_lit, Addr.add_lit] at h2
        exact h2
    · intro d hd
      obtain ⟨i, hi, rfl⟩ := List.mem_map.1 hd
      exact (hF i (by have := List.mem_range.1 hi; omega)).2
end
end Go.Proofs.Yteeopjcbpngofaa
/- Arguments opened: parts. -/
namespace Go.Proofs.Yteeopjcbpngofaa
set_option linter.unusedVariables false
open Go.ChangeShapes Go.WideShapes Go.ChangeAt Go.RowKit Go.WideMaps Go.WideElems
open Go.Deep
theorem belPart {w w' : World} {cs : List Value} {x : PartD} {F B : Nat} (h : rPart F w cs x) (hb : Below B w w') (hB : w.heap.size ≤ B) : rPart F w' cs x := goodPart.keep h (kept_below hb hB)
theorem six_of {α : Type} {l : List α} (h : l.length = 6) : ∃ a b c d e f, l = [a, b, c, d, e, f] := by match l, h with | [a, b, c, d, e, f], _ => exact ⟨a, b, c, d, e, f, rfl⟩
section
variable {H : Type} {enc : TypeId × Value → H} {W : World}
set_option maxRecDepth 100000 in
theorem openR_Part {n : Nat} {cs : List Value} {x : DataW H × List MemPlace} (h : DataW.trod enc Try.prog W 0 (fun _ => true) true n 73 cs = some x) : ∃ d : PartD, rPart 0 W cs d ∧ okPart d := by
  obtain ⟨xs, m, rfl, _, hl, hn, hf⟩ := DataW.trod_struct Try.underlying73 h
  rw [show Try.prog.cellsOf 73 = 6 by kernel_rfl] at hl
  obtain ⟨c0, c1, c2, c3, c4, c5, rfl⟩ := six_of hl
  obtain ⟨y0, k0⟩ := field_at hn hf 0 _ rfl
  have k0 : DataW.trod enc Try.prog W 0 (fun _ => true) true m 70 [c0, c1, c2, c3, c4] = some y0 := by
    have e : Try.prog.cellsOf 70 = 5 := by kernel_rfl
    simpa [e] using k0
  obtain ⟨y1, k1⟩ := field_one hn hf 1 _ 71 5 _ _ rfl rfl rfl (by kernel_rfl) rfl
  obtain ⟨d, cv, e0, b0, g0⟩ := open_Core k0
  obtain ⟨l1, b1, g1⟩ := openS_Layer k1
  injection e0 with e0 e1
  injection e1 with e1 e2
  injection e2 with e2 e3
  injection e3 with e3 e4
  injection e4 with e4 _
  subst e0 e1 e2 e3 e4
  exact ⟨⟨d, l1⟩, ⟨c3, c5, rfl, sliceAt_of_flat cCell_len b0, sliceAt_of_flat cLayer_len b1⟩, g0, g1⟩
set_option maxRecDepth 100000 in
theorem arg_Part {base : Nat} {v : Value} {d : DataW H} {p : List MemPlace} (hval : Value.okWide Try.prog W .any base 73 v) (h : DataW.Trod enc Try.prog W 0 (fun _ => true) true 73 v d p) : ∃ d : PartD, ValAt rPart 0 W v d ∧ okPart d := by
  obtain ⟨cs, rfl, _⟩ := okWide_struct Try.underlying73 hval
  obtain ⟨fuel, hf⟩ := h
  obtain ⟨d, h1, h2⟩ := openR_Part hf
  exact ⟨d, ⟨cs.toList, by simp, h1⟩, h2⟩
end
end Go.Proofs.Yteeopjcbpngofaa
/- Arguments opened: slices of slots. -/
namespace Go.Proofs.Yteeopjcbpngofaa
set_option linter.unusedVariables false
open Go.ChangeShapes Go.WideShapes Go.ChangeAt Go.RowKit Go.WideMaps Go.WideElems
open Go.Deep
theorem belSlot {w w' : World} {cs : List Value} {x : SlotD} {F B : Nat} (h : rSlot F w cs x) (hb : Below B w w') (hB : w.heap.size ≤ B) : rSlot F w' cs x := goodSlot.keep h (kept_below hb hB)
theorem belSlotS {w w' : World} {v : Value} {l : List SlotD} {F B : Nat} (h : SliceAt rSlot 7 F w v l) (hb : Below B w w') (hB : w.heap.size ≤ B) : SliceAt rSlot 7 F w' v l := h.below goodSlot hb hB
theorem zeroSlotS {w : World} {v : Value} {l : List SlotD} {F : Nat} (h : SliceAt rSlot 7 F w v l) : SliceAt rSlot 7 0 w v l := h.mono goodSlot (Nat.zero_le _)
theorem slot_seven {α : Type} {l : List α} (h : l.length = 7) : ∃ a b c d e f g, l = [a, b, c, d, e, f, g] := by match l, h with | [a, b, c, d, e, f, g], _ => exact ⟨a, b, c, d, e, f, g, rfl⟩
section
variable {H : Type} {enc : TypeId × Value → H} {W : World}
set_option maxRecDepth 100000 in
theorem openR_Slot {n : Nat} {cs : List Value} {x : DataW H × List MemPlace} (h : DataW.trod enc Try.prog W 0 (fun _ => true) true n 75 cs = some x) : ∃ d : SlotD, rSlot 0 W cs d ∧ okSlot d := by
  obtain ⟨xs, m, rfl, _, hl, hn, hf⟩ := DataW.trod_struct Try.underlying75 h
  rw [show Try.prog.cellsOf 75 = 7 by kernel_rfl] at hl
  obtain ⟨c0, c1, c2, c3, c4, c5, c6, rfl⟩ := slot_seven hl
  obtain ⟨y0, k0⟩ := field_one hn hf 0 _ 4 0 _ _ rfl rfl rfl (by kernel_rfl) rfl
  obtain ⟨y1, k1⟩ := field_at hn hf 1 _ rfl
  have k1 : DataW.trod enc Try.prog W 0 (fun _ => true) true m 73 [c1, c2, c3, c4, c5, c6] = some y1 := by
    have e : Try.prog.cellsOf 73 = 6 := by kernel_rfl
    simpa [e] using k1
  obtain ⟨b, rfl⟩ := leaf_bool Try.underlying4 k0
  obtain ⟨p, ⟨v3, v5, e1, b3, b5⟩, g1⟩ := openR_Part k1
  injection e1 with e1 e2
  injection e2 with e2 e3
  injection e3 with e3 e4
  injection e4 with e4 e5
  injection e5 with e5 e6
  injection e6 with e6 _
  subst e1 e2 e3 e4 e5 e6
  exact ⟨⟨b, p⟩, ⟨_, _, rfl, b3, b5⟩, trivial, g1⟩
set_option maxRecDepth 100000 in
theorem argS_Slot {base : Nat} {v : Value} {d : DataW H} {p : List MemPlace} (hval : Value.okWide Try.prog W .any base 27 v) (h : DataW.Trod enc Try.prog W 0 (fun _ => true) true 27 v d p) : ∃ l : List SlotD, SliceAt rSlot 7 0 W v l ∧ ∀ d ∈ l, okSlot d := by
  obtain ⟨a1, len, cap, rfl⟩ := okWide_slice Try.underlying27 hval
  obtain ⟨fuel, hf⟩ := h
  haveI : Inhabited SlotD := ⟨⟨false, ⟨⟨[], false, false, [], 0⟩, []⟩⟩⟩
  exact open_deep goodSlot (by decide) Try.underlying27 (by kernel_rfl) (fun _ _ _ h => openR_Slot h) hf
end
end Go.Proofs.Yteeopjcbpngofaa
namespace Go.Proofs.Yteeopjcbpngofaa
set_option linter.unusedVariables false
set_option linter.unusedSimpArgs false
open Go.ChangeShapes Go.WideShapes Go.ChangeAt Go.RowKit Go.WideMaps Go.WideElems
open Go.ChangeMaps (open_string shut_string)
set_option maxRecDepth 100000 in
set_option maxHeartbeats 6400000 in
theorem exactEmptySlots_any (w : World) : Calls Try.prog 3 #[] w fun e w' => e = .returned (.bool true) ∧ Below w.heap.size w w' := by
  go_enter Try.func3, Try.ntmps3
  go_wp2_with fail
  refine (specEmpty_any _).mono ?_
  rintro e w1 ⟨rfl, rfl⟩
  have BA := Lib.hid (Bx.new w [.bool false, .string ⟨#[]⟩, .bool false, .bool false, .slice none 0 0, .int .i64 0, .slice none 0 0, .bool false, .string ⟨#[]⟩, .bool false, .bool false, .slice none 0 0, .int .i64 0, .slice none 0 0, .bool false, .string ⟨#[]⟩, .bool false, .bool false, .slice none 0 0, .int .i64 0, .slice none 0 0] 63)
  have HB := Lib.hid (bx_box w (.cells #[.bool false, .string ⟨#[]⟩, .bool false, .bool false, .slice none 0 0, .int .i64 0, .slice none 0 0, .bool false, .string ⟨#[]⟩, .bool false, .bool false, .slice none 0 0, .int .i64 0, .slice none 0 0, .bool false, .string ⟨#[]⟩, .bool false, .bool false, .slice none 0 0, .int .i64 0, .slice none 0 0] 63))
  have HS := Lib.hid (show w.heap.size < (w.alloc (.cells #[.bool false, .string ⟨#[]⟩, .bool false, .bool false, .slice none 0 0, .int .i64 0, .slice none 0 0, .bool false, .string ⟨#[]⟩, .bool false, .bool false, .slice none 0 0, .int .i64 0, .slice none 0 0, .bool false, .string ⟨#[]⟩, .bool false, .bool false, .slice none 0 0, .int .i64 0, .slice none 0 0] 63)).heap.size by simp)
  generalize w.alloc (.cells #[.bool false, .string ⟨#[]⟩, .bool false, .bool false, .slice none 0 0, .int .i64 0, .slice none 0 0, .bool false, .string ⟨#[]⟩, .bool false, .bool false, .slice none 0 0, .int .i64 0, .slice none 0 0, .bool false, .string ⟨#[]⟩, .bool false, .bool false, .slice none 0 0, .int .i64 0, .slice none 0 0] 63) = w1 at *
  go_wp2_with fail
  refine (implEmpty_any _).mono ?_
  rintro e w2 ⟨rfl, rfl⟩
  have BA2 := Lib.hid (BA.out.alloc (.cells #[.bool false, .string ⟨#[]⟩, .bool false, .bool false, .slice none 0 0, .int .i64 0, .slice none 0 0, .bool false, .string ⟨#[]⟩, .bool false, .bool false, .slice none 0 0, .int .i64 0, .slice none 0 0, .bool false, .string ⟨#[]⟩, .bool false, .bool false, .slice none 0 0, .int .i64 0, .slice none 0 0] 63))
  have BB2 := Lib.hid (Bx.new w1 [.bool false, .string ⟨#[]⟩, .bool false, .bool false, .slice none 0 0, .int .i64 0, .slice none 0 0, .bool false, .string ⟨#[]⟩, .bool false, .bool false, .slice none 0 0, .int .i64 0, .slice none 0 0, .bool false, .string ⟨#[]⟩, .bool false, .bool false, .slice none 0 0, .int .i64 0, .slice none 0 0] 63)
  have HB2 := Lib.hid (HB.out.alloc HB.out.size (.cells #[.bool false, .string ⟨#[]⟩, .bool false, .bool false, .slice none 0 0, .int .i64 0, .slice none 0 0, .bool false, .string ⟨#[]⟩, .bool false, .bool false, .slice none 0 0, .int .i64 0, .slice none 0 0, .bool false, .string ⟨#[]⟩, .bool false, .bool false, .slice none 0 0, .int .i64 0, .slice none 0 0] 63))
  have HS2 := Lib.hid (show w1.heap.size < (w1.alloc (.cells #[.bool false, .string ⟨#[]⟩, .bool false, .bool false, .slice none 0 0, .int .i64 0, .slice none 0 0, .bool false, .string ⟨#[]⟩, .bool false, .bool false, .slice none 0 0, .int .i64 0, .slice none 0 0, .bool false, .string ⟨#[]⟩, .bool false, .bool false, .slice none 0 0, .int .i64 0, .slice none 0 0] 63)).heap.size by simp)
  generalize w1.alloc (.cells #[.bool false, .string ⟨#[]⟩, .bool false, .bool false, .slice none 0 0, .int .i64 0, .slice none 0 0, .bool false, .string ⟨#[]⟩, .bool false, .bool false, .slice none 0 0, .int .i64 0, .slice none 0 0, .bool false, .string ⟨#[]⟩, .bool false, .bool false, .slice none 0 0, .int .i64 0, .slice none 0 0] 63) = w2 at *
  go_wp2_with fail
  refine (eqSlotS_d (.slice (some ⟨w1.heap.size, 0, none⟩) 3 3) (.slice (some ⟨w.heap.size, 0, none⟩) 3 3) _ _ _ (zeroSlots_at BB2.out) (zeroSlots_at BA2.out)).mono ?_
  rintro e w3 ⟨rfl, hb⟩
  rw [show decide ([zSltD, zSltD, zSltD] = [zSltD, zSltD, zSltD]) = true by simp]
  have BA3 := Lib.hid (BA2.out.below hb)
  have BB3 := Lib.hid (BB2.out.below hb)
  have HB3 := Lib.hid (HB2.out.trans (hb.mono HB2.out.size))
  clear hb
  go_wp2_with fail
  refine (markEmpty_any w1.heap.size _ BB3.out).mono ?_
  rintro e w4 ⟨rfl, hx, hb⟩
  have BB4 := Lib.hid hx
  have BA4 := Lib.hid (bx_betwE BA3.out hb (Or.inl HS.out))
  have HB4 := Lib.hid (betw_below HB3.out hb (Nat.le_of_lt HS.out))
  clear hb hx
  go_wp2_with fail
  refine (heldEmpty_any w1.heap.size _ BB4.out).mono ?_
  rintro e w5 ⟨rfl, hb⟩
  have BA5 := Lib.hid (BA4.out.below hb)
  have BB5 := Lib.hid (BB4.out.below hb)
  have HB5 := Lib.hid (HB4.out.trans (hb.mono HB4.out.size))
  clear hb
  go_wp2_with fail
  refine (implEmpty_any _).mono ?_
  rintro e w6 ⟨rfl, rfl⟩
  have BA6 := Lib.hid (BA5.out.alloc (.cells #[.bool false, .string ⟨#[]⟩, .bool false, .bool false, .slice none 0 0, .int .i64 0, .slice none 0 0, .bool false, .string ⟨#[]⟩, .bool false, .bool false, .slice none 0 0, .int .i64 0, .slice none 0 0, .bool false, .string ⟨#[]⟩, .bool false, .bool false, .slice none 0 0, .int .i64 0, .slice none 0 0] 63))
  have BB6 := Lib.hid (BB5.out.alloc (.cells #[.bool false, .string ⟨#[]⟩, .bool false, .bool false, .slice none 0 0, .int .i64 0, .slice none 0 0, .bool false, .string ⟨#[]⟩, .bool false, .bool false, .slice none 0 0, .int .i64 0, .slice none 0 0, .bool false, .string ⟨#[]⟩, .bool false, .bool false, .slice none 0 0, .int .i64 0, .slice none 0 0] 63))
  have BC6 := Lib.hid (Bx.new w5 [.bool false, .string ⟨#[]⟩, .bool false, .bool false, .slice none 0 0, .int .i64 0, .slice none 0 0, .bool false, .string ⟨#[]⟩, .bool false, .bool false, .slice none 0 0, .int .i64 0, .slice none 0 0, .bool false, .string ⟨#[]⟩, .bool false, .bool false, .slice none 0 0, .int .i64 0, .slice none 0 0] 63)
  have HB6 := Lib.hid (HB5.out.alloc HB5.out.size (.cells #[.bool false, .string ⟨#[]⟩, .bool false, .bool false, .slice none 0 0, .int .i64 0, .slice none 0 0, .bool false, .string ⟨#[]⟩, .bool false, .bool false, .slice none 0 0, .int .i64 0, .slice none 0 0, .bool false, .string ⟨#[]⟩, .bool false, .bool false, .slice none 0 0, .int .i64 0, .slice none 0 0] 63))
  generalize w5.alloc (.cells #[.bool false, .string ⟨#[]⟩, .bool false, .bool false, .slice none 0 0, .int .i64 0, .slice none 0 0, .bool false, .string ⟨#[]⟩, .bool false, .bool false, .slice none 0 0, .int .i64 0, .slice none 0 0, .bool false, .string ⟨#[]⟩, .bool false, .bool false, .slice none 0 0, .int .i64 0, .slice none 0 0] 63) = w6 at *
  go_wp2_with fail
  refine (eqSlotS_d (.slice (some ⟨w5.heap.size, 0, none⟩) 3 3) (.slice (some ⟨w.heap.size, 0, none⟩) 3 3) _ _ _ (zeroSlots_at BC6.out) (zeroSlots_at BA6.out)).mono ?_
  rintro e w7 ⟨rfl, hb⟩
  rw [show decide ([zSltD, zSltD, zSltD] = [zSltD, zSltD, zSltD]) = true by simp]
  have BB7 := Lib.hid (BB6.out.below hb)
  have HB7 := Lib.hid (HB6.out.trans (hb.mono HB6.out.size))
  clear hb
  go_wp2_with fail
  refine (heldEmpty_any w1.heap.size _ BB7.out).mono ?_
  rintro e w8 ⟨rfl, hb⟩
  have HB8 := Lib.hid (HB7.out.trans (hb.mono HB7.out.size))
  clear hb
  go_wp2_with fail
  go_ret
  exact ⟨rfl, HB8.out⟩
set_option maxRecDepth 100000 in
theorem fnExactEmptySlots_lifted (os : Os) (started : os.Started) (H : Type) (enc : TypeId × Value → H) :
    ReturnsInHanded {} Try.checked os 3 .any (Rows.fnExactEmptySlotsSpec.pre6 enc Try.prog Try.f3 Rows.fnExactEmptySlotsRow.domain false) (Rows.fnExactEmptySlotsSpec.post enc Try.prog Try.f3 false true false false) := by
  refine returnsInHanded_of_change (C := Try.checked) ownK started (by kernel_rfl) Try.func3
    (ChangeSpec.witness6 (enc := enc) (C := Try.checked) false ⟨#[], #[], []⟩ 8 (by kernel_rfl) (by kernel_rfl) (by kernel_rfl) (by kernel_rfl)) ?_
  intro W base args ds gs before hval0 hW _ _
  have hval : ∀ (j : Nat) t v, Try.f3.params[j]? = some t → args[j]? = some v → Value.okWide Try.prog W .any base t v := hval0
  have hW' := hW
  obtain ⟨p, q, hA0, _, rfl, _, _⟩ := hW
  have hA : DataW.TrodAll enc Try.prog W 0 (fun _ => true) true Try.f3.params.toList args.toList ds p := hA0
  rw [Try.params3] at hA hval
  obtain ⟨hargs, rfl, rfl⟩ := trodAll_nil hA
  obtain rfl : args = #[] := by cases args; simp_all
  clear hA0 hval0
  refine (exactEmptySlots_any  W ).mono fun e W1 ⟨he, hb⟩ => ?_
  subst he
  exact ⟨_, rfl, law_post laidK rfl (by kernel_rfl) Try.underlying4 (by kernel_rfl) (fun ds h => by match ds, h with | [], _ => rfl) hW' hb⟩
theorem fnExactEmptySlots_closed : joinedFacts Try.prog 3 Try.f3 Rows.fnExactEmptySlotsSpec Rows.fnExactEmptySlotsRow = true := by unfold joinedFacts; rw [mayEnter_k, liftsFinal_k, make_k]; kernel_rfl
theorem fnExactEmptySlots_holds : Rows.FnExactEmptySlotsSaid :=
  OpenClaim.holds_of_wide 3 Try.f3 rfl rfl rfl rfl rfl rfl rfl ⟨rfl, rfl, rfl, rfl, rfl⟩ rfl rfl rfl rfl rfl (by kernel_rfl) Try.func3 fnExactEmptySlots_closed
    (of_decide_eq_true (by kernel_rfl)) (by unfold Func.isWrapper; first | (rw [if_pos (by decide +kernel)]; kernel_rfl) | (rw [if_neg (by decide +kernel)]; exact ⟨rfl, rfl⟩))
    (fun os started H enc _ => fnExactEmptySlots_lifted os started H enc)
end Go.Proofs.Yteeopjcbpngofaa
