/- Parts of one's own: how a law makes them, keeps them beside marks, marks them. Written by gen/ch4om.py. -/
import Derived.Test.YtmoliamenekemaaOPart
import Derived.Test.YtmoliamenekemaaLaw5
namespace Go.Proofs.Ytmoliamenekemaa
set_option linter.unusedVariables false
set_option linter.unusedSimpArgs false
open Go.RowKit
/-- a row of one's own in blocks from F on, said as a reading is -/
structure OSl {α : Type} (f : α → List Value) (E k F : Nat) (w : World) (v : Value) (l : List α) : Prop where
  own : OwnsF f E k w F v l
theorem ownsF_kept {α : Type} {f : α → List Value} {E k : Nat} {w w' : World} {F : Nat} {v : Value} {l : List α} (h : OwnsF f E k w F v l) (hk : Kept F w w') : OwnsF f E k w' F v l := by
  refine ⟨h.1, ?_⟩
  rcases h.2 with h1 | ⟨g, cap, cur, rfl, h2, h3, h4⟩
  · exact Or.inl h1
  · exact Or.inr ⟨g, cap, cur, rfl, h2, (hk.block g h2 (Array.getElem?_eq_some_iff.1 h3).1).trans h3, h4⟩
theorem OSl.keep {α : Type} {f : α → List Value} {E k F m : Nat} {w w' : World} {v : Value} {l : List α} {R : Nat → World → List Value → α → Prop} (h : OSl f E k F w v l) (g : Good R m) (hk : Kept F w w') : OSl f E k F w' v l := ⟨ownsF_kept h.own hk⟩
theorem OSl.below {α : Type} {f : α → List Value} {E k F B m : Nat} {w w' : World} {v : Value} {l : List α} {R : Nat → World → List Value → α → Prop} (h : OSl f E k F w v l) (g : Good R m) (hb : Below B w w') (hB : w.heap.size ≤ B) : OSl f E k F w' v l := ⟨ownsF_below h.own hb hB⟩
theorem OSl.mono {α : Type} {f : α → List Value} {E k F F' m : Nat} {w : World} {v : Value} {l : List α} {R : Nat → World → List Value → α → Prop} (h : OSl f E k F w v l) (g : Good R m) (hF : F' ≤ F) : OSl f E k F' w v l := ⟨ownsF_base h.own hF⟩
theorem toCore_o (v : Value) (x : CoreD) (w : World) (hx : ValAt rCore 0 w v x) (hm : zCore x ≤ 2097152) : Calls Try.prog 38 #[v] w fun e w' => ∃ cs : List Value, e = .returned (.agg cs.toArray) ∧ (∃ v3, cs = [.string ⟨x.fKind.toArray⟩, .bool x.fOn, .bool x.fBroken, v3, .int .i64 x.fCount] ∧ OSl cCell 115 2 w.heap.size w' v3 x.fCells) ∧ Below w.heap.size w w' := by
  obtain ⟨cs, rfl, v3, rfl, h3⟩ := hx
  refine (toCore_any _ x w ⟨v3, rfl, flatAt_of_slice cCell_len (by decide) h3⟩ (by unfold zCore at hm; omega)).mono ?_
  rintro e w' ⟨v, rfl, ⟨cv, rfl, ho⟩, hb⟩
  exact ⟨_, rfl, ⟨cv, rfl, ⟨ho⟩⟩, hb⟩
theorem toLayerS_o (v : Value) (x : List LayerD) (w : World) (hx : SliceAt (rFlat cLayer) 2 0 w v x) (hm : x.length + sumF zLayer x ≤ 2097152) : Calls Try.prog 39 #[v] w fun e w' => ∃ u, e = .returned u ∧ OSl cLayer 61 2 w.heap.size w' u x ∧ Below w.heap.size w w' :=
  (toLayerS_any v x w (flatAt_of_slice cLayer_len (by decide) hx) (by omega)).mono fun e w' h => by
    obtain ⟨h1, h2, h3⟩ := h; exact ⟨_, h1, ⟨h2⟩, h3⟩
set_option maxRecDepth 100000 in
set_option maxHeartbeats 1600000 in
theorem toPart_o (v : Value) (x : PartD) (w : World) (hx : ValAt rPart 0 w v x) (hm : zPart x ≤ 2097152) : Calls Try.prog 11 #[v] w fun e w' => GivesOP x w e w' := by
  obtain ⟨_, rfl, hx⟩ := hx
  obtain ⟨⟨a0_0, a0_1, a0_2, a0_3, a0_4⟩, a1⟩ := x
  obtain ⟨v3, v5, rfl, h3, h5⟩ := hx
  simp only at h3 h5
  simp only [zPart, zCore] at hm
  have HM := Lib.hid hm
  obtain ⟨ra3, rc3, rfl, _⟩ := sliceAt_len h3
  obtain ⟨ra5, rc5, rfl, _⟩ := sliceAt_len h5
  have H3 := Lib.hid h3
  have H5 := Lib.hid h5
  clear hm h3 h5
  have HS := Lib.hid (bx_start3 w [.string ⟨a0_0.toArray⟩, .bool a0_1, .bool a0_2, .slice ra3 a0_3.length rc3, .int .i64 a0_4, .slice ra5 a1.length rc5] [.string ⟨#[]⟩, .bool false, .bool false, .slice none 0 0, .int .i64 0, .slice none 0 0] [.string ⟨#[]⟩, .bool false, .bool false, .slice none 0 0, .int .i64 0, .slice none 0 0] 27 35 35)
  have BA := Lib.hid HS.out.1
  have BB := Lib.hid HS.out.2.1
  have BC := Lib.hid HS.out.2.2.1
  have HB := Lib.hid HS.out.2.2.2
  clear HS
  go_enter Try.func11, Try.ntmps11
  go_wp2_with fail
  generalize ((w.alloc (.cells #[.string ⟨a0_0.toArray⟩, .bool a0_1, .bool a0_2, .slice ra3 a0_3.length rc3, .int .i64 a0_4, .slice ra5 a1.length rc5] 27)).alloc (.cells #[.string ⟨#[]⟩, .bool false, .bool false, .slice none 0 0, .int .i64 0, .slice none 0 0] 35)).alloc (.cells #[.string ⟨#[]⟩, .bool false, .bool false, .slice none 0 0, .int .i64 0, .slice none 0 0] 35) = X1 at *
  refine (toCore_o _ (⟨a0_0, a0_1, a0_2, a0_3, a0_4⟩ : CoreD) _ ⟨_, rfl, _, rfl, (H3.out.below (good_flat cCell_len) HB.out (Nat.le_refl _))⟩ (by simp only [zCore]; have := HM.out; omega)).mono ?_
  rintro e w1 ⟨_, rfl, ⟨u3, rfl, hr3⟩, hb⟩
  have hX : w.heap.size + 3 ≤ X1.heap.size := by have := BC.out.lt; omega
  simp only at hr3
  have R3 := Lib.hid (hr3.mono (good_flat cCell_len) hX)
  obtain ⟨p3, q3, rfl⟩ := slice_of (OSl.own hr3)
  clear hr3
  have BA := Lib.hid (BA.out.below hb)
  have BB := Lib.hid (BB.out.below hb)
  have BC := Lib.hid (BC.out.below hb)
  have HB := Lib.hid (belS (w := w) HB.out hb)
  clear hb hX
  have eA0 := BA.out.cell 0 (by simp)
  have eA1 := BA.out.cell 1 (by simp)
  have eA2 := BA.out.cell 2 (by simp)
  have eA3 := BA.out.cell 3 (by simp)
  have eA4 := BA.out.cell 4 (by simp)
  have eA5 := BA.out.cell 5 (by simp)
  simp only [List.getElem_cons_zero, List.getElem_cons_succ, List.set_cons_zero, List.set_cons_succ] at eA0 eA1 eA2 eA3 eA4 eA5
  have eC0 := BC.out.cell 0 (by simp)
  have fC0 := BC.out.froz 0 (by simp)
  have eC1 := BC.out.cell 1 (by simp)
  have fC1 := BC.out.froz 1 (by simp)
  have eC2 := BC.out.cell 2 (by simp)
  have fC2 := BC.out.froz 2 (by simp)
  have eC3 := BC.out.cell 3 (by simp)
  have fC3 := BC.out.froz 3 (by simp)
  have eC4 := BC.out.cell 4 (by simp)
  have fC4 := BC.out.froz 4 (by simp)
  have eC5 := BC.out.cell 5 (by simp)
  have fC5 := BC.out.froz 5 (by simp)
  simp only [List.getElem_cons_zero, List.getElem_cons_succ, List.set_cons_zero, List.set_cons_succ] at eC0 eC1 eC2 eC3 eC4 eC5
  go_wp2_with fail
  clear eA0 eA1 eA2 eA3 eA4 eA5
  clear eC0 fC0 eC1 fC1 eC2 fC2 eC3 fC3 eC4 fC4 eC5 fC5
  have BC := Lib.hid (BC.out.set 0 (by simp) (.string ⟨a0_0.toArray⟩))
  have BA := Lib.hid (BA.out.other (c := w.heap.size + 1 + 1) (by omega) 0 (.string ⟨a0_0.toArray⟩))
  have BB := Lib.hid (BB.out.other (c := w.heap.size + 1 + 1) (by omega) 0 (.string ⟨a0_0.toArray⟩))
  have HB := Lib.hid (HB.out.setCell (p := ⟨w.heap.size + 1 + 1, 0, none⟩) (by simp; try omega) (.string ⟨a0_0.toArray⟩))
  have BC := Lib.hid (BC.out.set 1 (by simp) (.bool a0_1))
  have BA := Lib.hid (BA.out.other (c := w.heap.size + 1 + 1) (by omega) 1 (.bool a0_1))
  have BB := Lib.hid (BB.out.other (c := w.heap.size + 1 + 1) (by omega) 1 (.bool a0_1))
  have HB := Lib.hid (HB.out.setCell (p := ⟨w.heap.size + 1 + 1, 1, none⟩) (by simp; try omega) (.bool a0_1))
  have BC := Lib.hid (BC.out.set 2 (by simp) (.bool a0_2))
  have BA := Lib.hid (BA.out.other (c := w.heap.size + 1 + 1) (by omega) 2 (.bool a0_2))
  have BB := Lib.hid (BB.out.other (c := w.heap.size + 1 + 1) (by omega) 2 (.bool a0_2))
  have HB := Lib.hid (HB.out.setCell (p := ⟨w.heap.size + 1 + 1, 2, none⟩) (by simp; try omega) (.bool a0_2))
  have BC := Lib.hid (BC.out.set 3 (by simp) (.slice p3 a0_3.length q3))
  have BA := Lib.hid (BA.out.other (c := w.heap.size + 1 + 1) (by omega) 3 (.slice p3 a0_3.length q3))
  have BB := Lib.hid (BB.out.other (c := w.heap.size + 1 + 1) (by omega) 3 (.slice p3 a0_3.length q3))
  have HB := Lib.hid (HB.out.setCell (p := ⟨w.heap.size + 1 + 1, 3, none⟩) (by simp; try omega) (.slice p3 a0_3.length q3))
  have BC := Lib.hid (BC.out.set 4 (by simp) (.int .i64 a0_4))
  have BA := Lib.hid (BA.out.other (c := w.heap.size + 1 + 1) (by omega) 4 (.int .i64 a0_4))
  have BB := Lib.hid (BB.out.other (c := w.heap.size + 1 + 1) (by omega) 4 (.int .i64 a0_4))
  have HB := Lib.hid (HB.out.setCell (p := ⟨w.heap.size + 1 + 1, 4, none⟩) (by simp; try omega) (.int .i64 a0_4))
  have R3 := Lib.hid (R3.out.keep (good_flat cCell_len) ((((((Kept.refl _ _).setCell (p := ⟨w.heap.size + 1 + 1, 0, none⟩) (by simp) (.string ⟨a0_0.toArray⟩)).setCell (p := ⟨w.heap.size + 1 + 1, 1, none⟩) (by simp) (.bool a0_1)).setCell (p := ⟨w.heap.size + 1 + 1, 2, none⟩) (by simp) (.bool a0_2)).setCell (p := ⟨w.heap.size + 1 + 1, 3, none⟩) (by simp) (.slice p3 a0_3.length q3)).setCell (p := ⟨w.heap.size + 1 + 1, 4, none⟩) (by simp) (.int .i64 a0_4)))
  simp only [List.set_cons_zero, List.set_cons_succ] at BC
  generalize (((((w1).setCell ⟨w.heap.size + 1 + 1, 0, none⟩ (.string ⟨a0_0.toArray⟩)).setCell ⟨w.heap.size + 1 + 1, 1, none⟩ (.bool a0_1)).setCell ⟨w.heap.size + 1 + 1, 2, none⟩ (.bool a0_2)).setCell ⟨w.heap.size + 1 + 1, 3, none⟩ (.slice p3 a0_3.length q3)).setCell ⟨w.heap.size + 1 + 1, 4, none⟩ (.int .i64 a0_4) = X2 at *
  refine (toLayerS_o _ a1 _ (H5.out.below (good_flat cLayer_len) HB.out (Nat.le_refl _)) (by have := HM.out; omega)).mono ?_
  rintro e w2 ⟨u5, rfl, hr5, hb⟩
  have hX : w.heap.size + 3 ≤ X2.heap.size := by have := BC.out.lt; omega
  have R3 := Lib.hid (R3.out.keep (good_flat cCell_len) (kept_below hb (Nat.le_refl _)))
  have R5 := Lib.hid (hr5.mono (good_flat cLayer_len) hX)
  obtain ⟨p5, q5, rfl⟩ := slice_of (OSl.own hr5)
  clear hr5
  have BA := Lib.hid (BA.out.below hb)
  have BB := Lib.hid (BB.out.below hb)
  have BC := Lib.hid (BC.out.below hb)
  have HB := Lib.hid (belS (w := w) HB.out hb)
  clear hb hX
  have eA0 := BA.out.cell 0 (by simp)
  have eA1 := BA.out.cell 1 (by simp)
  have eA2 := BA.out.cell 2 (by simp)
  have eA3 := BA.out.cell 3 (by simp)
  have eA4 := BA.out.cell 4 (by simp)
  have eA5 := BA.out.cell 5 (by simp)
  simp only [List.getElem_cons_zero, List.getElem_cons_succ, List.set_cons_zero, List.set_cons_succ] at eA0 eA1 eA2 eA3 eA4 eA5
  have eC0 := BC.out.cell 0 (by simp)
  have fC0 := BC.out.froz 0 (by simp)
  have eC1 := BC.out.cell 1 (by simp)
  have fC1 := BC.out.froz 1 (by simp)
  have eC2 := BC.out.cell 2 (by simp)
  have fC2 := BC.out.froz 2 (by simp)
  have eC3 := BC.out.cell 3 (by simp)
  have fC3 := BC.out.froz 3 (by simp)
  have eC4 := BC.out.cell 4 (by simp)
  have fC4 := BC.out.froz 4 (by simp)
  have eC5 := BC.out.cell 5 (by simp)
  have fC5 := BC.out.froz 5 (by simp)
  simp only [List.getElem_cons_zero, List.getElem_cons_succ, List.set_cons_zero, List.set_cons_succ] at eC0 eC1 eC2 eC3 eC4 eC5
  have eB0 := BB.out.cell 0 (by simp)
  have fB0 := BB.out.froz 0 (by simp)
  have eB1 := BB.out.cell 1 (by simp)
  have fB1 := BB.out.froz 1 (by simp)
  have eB2 := BB.out.cell 2 (by simp)
  have fB2 := BB.out.froz 2 (by simp)
  have eB3 := BB.out.cell 3 (by simp)
  have fB3 := BB.out.froz 3 (by simp)
  have eB4 := BB.out.cell 4 (by simp)
  have fB4 := BB.out.froz 4 (by simp)
  have eB5 := BB.out.cell 5 (by simp)
  have fB5 := BB.out.froz 5 (by simp)
  simp only [List.getElem_cons_zero, List.getElem_cons_succ, List.set_cons_zero, List.set_cons_succ] at eB0 eB1 eB2 eB3 eB4 eB5
  go_wp2_with fail
  clear eA0 eA1 eA2 eA3 eA4 eA5
  clear eC0 fC0 eC1 fC1 eC2 fC2 eC3 fC3 eC4 fC4 eC5 fC5
  clear eB0 fB0 eB1 fB1 eB2 fB2 eB3 fB3 eB4 fB4 eB5 fB5
  have BC := Lib.hid (BC.out.set 5 (by simp) (.slice p5 a1.length q5))
  have BA := Lib.hid (BA.out.other (c := w.heap.size + 1 + 1) (by omega) 5 (.slice p5 a1.length q5))
  have BB := Lib.hid (BB.out.other (c := w.heap.size + 1 + 1) (by omega) 5 (.slice p5 a1.length q5))
  have HB := Lib.hid (HB.out.setCell (p := ⟨w.heap.size + 1 + 1, 5, none⟩) (by simp; try omega) (.slice p5 a1.length q5))
  have R3 := Lib.hid (R3.out.keep (good_flat cCell_len) ((Kept.refl _ _).setCell (p := ⟨w.heap.size + 1 + 1, 5, none⟩) (by simp) (.slice p5 a1.length q5)))
  have R5 := Lib.hid (R5.out.keep (good_flat cLayer_len) ((Kept.refl _ _).setCell (p := ⟨w.heap.size + 1 + 1, 5, none⟩) (by simp) (.slice p5 a1.length q5)))
  simp only [List.set_cons_zero, List.set_cons_succ] at BC
  have BB := Lib.hid (BB.out.set 0 (by simp) (.string ⟨a0_0.toArray⟩))
  have HB := Lib.hid (HB.out.setCell (p := ⟨w.heap.size + 1, 0, none⟩) (by simp; try omega) (.string ⟨a0_0.toArray⟩))
  have BB := Lib.hid (BB.out.set 1 (by simp) (.bool a0_1))
  have HB := Lib.hid (HB.out.setCell (p := ⟨w.heap.size + 1, 1, none⟩) (by simp; try omega) (.bool a0_1))
  have BB := Lib.hid (BB.out.set 2 (by simp) (.bool a0_2))
  have HB := Lib.hid (HB.out.setCell (p := ⟨w.heap.size + 1, 2, none⟩) (by simp; try omega) (.bool a0_2))
  have BB := Lib.hid (BB.out.set 3 (by simp) (.slice p3 a0_3.length q3))
  have HB := Lib.hid (HB.out.setCell (p := ⟨w.heap.size + 1, 3, none⟩) (by simp; try omega) (.slice p3 a0_3.length q3))
  have BB := Lib.hid (BB.out.set 4 (by simp) (.int .i64 a0_4))
  have HB := Lib.hid (HB.out.setCell (p := ⟨w.heap.size + 1, 4, none⟩) (by simp; try omega) (.int .i64 a0_4))
  have BB := Lib.hid (BB.out.set 5 (by simp) (.slice p5 a1.length q5))
  have HB := Lib.hid (HB.out.setCell (p := ⟨w.heap.size + 1, 5, none⟩) (by simp; try omega) (.slice p5 a1.length q5))
  have R3 := Lib.hid ((R3.out.keep (good_flat cCell_len) (((((((Kept.refl _ _).setCell (p := ⟨w.heap.size + 1, 0, none⟩) (by simp) (.string ⟨a0_0.toArray⟩)).setCell (p := ⟨w.heap.size + 1, 1, none⟩) (by simp) (.bool a0_1)).setCell (p := ⟨w.heap.size + 1, 2, none⟩) (by simp) (.bool a0_2)).setCell (p := ⟨w.heap.size + 1, 3, none⟩) (by simp) (.slice p3 a0_3.length q3)).setCell (p := ⟨w.heap.size + 1, 4, none⟩) (by simp) (.int .i64 a0_4)).setCell (p := ⟨w.heap.size + 1, 5, none⟩) (by simp) (.slice p5 a1.length q5))).mono (good_flat cCell_len) (show w.heap.size ≤ w.heap.size + 3 by omega))
  have R5 := Lib.hid ((R5.out.keep (good_flat cLayer_len) (((((((Kept.refl _ _).setCell (p := ⟨w.heap.size + 1, 0, none⟩) (by simp) (.string ⟨a0_0.toArray⟩)).setCell (p := ⟨w.heap.size + 1, 1, none⟩) (by simp) (.bool a0_1)).setCell (p := ⟨w.heap.size + 1, 2, none⟩) (by simp) (.bool a0_2)).setCell (p := ⟨w.heap.size + 1, 3, none⟩) (by simp) (.slice p3 a0_3.length q3)).setCell (p := ⟨w.heap.size + 1, 4, none⟩) (by simp) (.int .i64 a0_4)).setCell (p := ⟨w.heap.size + 1, 5, none⟩) (by simp) (.slice p5 a1.length q5))).mono (good_flat cLayer_len) (show w.heap.size ≤ w.heap.size + 3 by omega))
  simp only [List.set_cons_zero, List.set_cons_succ] at BB
  generalize (((((((w2).setCell ⟨w.heap.size + 1 + 1, 5, none⟩ (.slice p5 a1.length q5)).setCell ⟨w.heap.size + 1, 0, none⟩ (.string ⟨a0_0.toArray⟩)).setCell ⟨w.heap.size + 1, 1, none⟩ (.bool a0_1)).setCell ⟨w.heap.size + 1, 2, none⟩ (.bool a0_2)).setCell ⟨w.heap.size + 1, 3, none⟩ (.slice p3 a0_3.length q3)).setCell ⟨w.heap.size + 1, 4, none⟩ (.int .i64 a0_4)).setCell ⟨w.heap.size + 1, 5, none⟩ (.slice p5 a1.length q5) = WE at *
  have eB0 := BB.out.cell 0 (by simp)
  have eB1 := BB.out.cell 1 (by simp)
  have eB2 := BB.out.cell 2 (by simp)
  have eB3 := BB.out.cell 3 (by simp)
  have eB4 := BB.out.cell 4 (by simp)
  have eB5 := BB.out.cell 5 (by simp)
  simp only [List.getElem_cons_zero, List.getElem_cons_succ, List.set_cons_zero, List.set_cons_succ] at eB0 eB1 eB2 eB3 eB4 eB5
  exact bodyPost_ret (v := .agg #[.string ⟨a0_0.toArray⟩, .bool a0_1, .bool a0_2, .slice p3 a0_3.length q3, .int .i64 a0_4, .slice p5 a1.length q5]) (by simp [results, Try.results11, go_sem, eB0, eB1, eB2, eB3, eB4, eB5]) rfl ⟨_, rfl, ⟨_, _, rfl, ownsF_base (OSl.own R3.out) (by omega), ownsF_base (OSl.own R5.out) (by omega)⟩, HB.out⟩
/-- a part of one's own, in the blocks from lo on and below hi -/
def OwnP (w : World) (lo hi : Nat) (cs : List Value) (x : PartD) : Prop := ∃ v3 v5, cs = [.string ⟨x.fCore.fKind.toArray⟩, .bool x.fCore.fOn, .bool x.fCore.fBroken, v3, .int .i64 x.fCore.fCount, v5] ∧ OwnR cCell 115 2 w lo hi v3 x.fCore.fCells ∧ OwnR cLayer 61 2 w lo hi v5 x.fLayers
theorem ownP_of {w : World} {lo : Nat} {cs : List Value} {x : PartD} (h : oPart w lo cs x) : OwnP w lo w.heap.size cs x := by
  obtain ⟨v3, v5, rfl, h3, h5⟩ := h; exact ⟨v3, v5, rfl, ownR_of h3, ownR_of h5⟩
theorem ownP_below {w w' : World} {lo hi B' : Nat} {cs : List Value} {x : PartD} (h : OwnP w lo hi cs x) (hb : Below B' w w') (hB : w.heap.size ≤ B') : OwnP w' lo hi cs x := by
  obtain ⟨v3, v5, rfl, h3, h5⟩ := h; exact ⟨v3, v5, rfl, ownR_below h3 hb hB, ownR_below h5 hb hB⟩
theorem ownP_betw {w w' : World} {lo hi lo2 hi2 : Nat} {cs : List Value} {x : PartD} (h : OwnP w lo hi cs x) (hb : Betw lo2 hi2 w w') (hd : hi ≤ lo2 ∨ hi2 ≤ lo) : OwnP w' lo hi cs x := by
  obtain ⟨v3, v5, rfl, h3, h5⟩ := h; exact ⟨v3, v5, rfl, ownR_betw h3 hb hd, ownR_betw h5 hb hd⟩
theorem ownP_at {w : World} {lo hi : Nat} {cs : List Value} {x : PartD} (h : OwnP w lo hi cs x) (h1 : x.fCore.fCells.length ≤ 4194304) (h2 : x.fLayers.length ≤ 4194304) : rPart 0 w cs x := by
  obtain ⟨v3, v5, rfl, h3, h5⟩ := h
  exact ⟨v3, v5, rfl, (sliceAt_of_owns cCell_len h3.1 h1).mono (good_flat cCell_len) (Nat.zero_le _), (sliceAt_of_owns cLayer_len h5.1 h2).mono (good_flat cLayer_len) (Nat.zero_le _)⟩
/-- what marks make of a part -/
def marksP (k : Int) (x : PartD) : PartD := ⟨{ x.fCore with fCells := marksCell k x.fCore.fCells.length }, marksLayer (k + x.fCore.fCells.length * 2) x.fLayers.length⟩
def countP (x : PartD) : Int := x.fCore.fCells.length * 2 + x.fLayers.length * 2
end Go.Proofs.Ytmoliamenekemaa
