/- Entry: how it reads, and what the laws' own helpers do with it. Written by gen/deep.py. -/
import Derived.Test.YtbofplofpggdladRep
import Derived.Test.YtbofplofpggdladRNeed
import Derived.Test.YtbofplofpggdladRString
namespace Go.Proofs.Ytbofplofpggdlad
set_option linter.unusedVariables false
set_option linter.unusedSimpArgs false
open Go.RowKit
structure EntryD where
  fName : List UInt8
  fRecipe : List (List UInt8)
  fVersion : VersionD
  fNeeds : List NeedD
deriving DecidableEq
def okEntry (x : EntryD) : Prop := (x.fName.length ≤ maxLen) ∧ (∀ s ∈ x.fRecipe, s.length ≤ maxLen) ∧ (okVersion x.fVersion) ∧ (∀ c ∈ x.fNeeds, okNeed c)
def rEntry : Nat → World → List Value → EntryD → Prop := fun F w cs x => ∃ v1 v4, cs = [.string ⟨x.fName.toArray⟩, v1, .int .i64 x.fVersion.fMajor, .int .i64 x.fVersion.fMinor, v4] ∧ SliceAt rStr 1 F w v1 x.fRecipe ∧ SliceAt (rFlat cNeed) 4 F w v4 x.fNeeds
theorem goodEntry : Good rEntry 5 := by
  refine ⟨?_, ?_, ?_⟩
  · rintro F w cs x ⟨v1, v4, rfl, h1, h4⟩; rfl
  · rintro F w w' cs x ⟨v1, v4, rfl, h1, h4⟩ hk; exact ⟨v1, v4, rfl, h1.keep good_str hk, h4.keep (good_flat cNeed_len) hk⟩
  · rintro F F' w cs x ⟨v1, v4, rfl, h1, h4⟩ hF; exact ⟨v1, v4, rfl, h1.mono good_str hF, h4.mono (good_flat cNeed_len) hF⟩
def zEntry (x : EntryD) : Nat := x.fName.length + (x.fRecipe.length + sumF List.length x.fRecipe) + (x.fNeeds.length + sumF zNeed x.fNeeds)
set_option maxRecDepth 100000 in
set_option maxHeartbeats 1600000 in
theorem toEntry_d (v : Value) (x : EntryD) (w : World) (hx : ValAt rEntry 0 w v x) (hm : zEntry x ≤ 2097152) : Calls Try.prog 7 #[v] w fun e w' => GivesV rEntry x w e w' := by
  obtain ⟨_, rfl, hx⟩ := hx
  obtain ⟨a0, a1, ⟨a2_0, a2_1⟩, a3⟩ := x
  obtain ⟨v1, v4, rfl, h1, h4⟩ := hx
  simp only at h1 h4
  simp only [zEntry] at hm
  have HM := Lib.hid hm
  obtain ⟨ra1, rc1, rfl, _⟩ := sliceAt_len h1
  obtain ⟨ra4, rc4, rfl, _⟩ := sliceAt_len h4
  have H1 := Lib.hid h1
  have H4 := Lib.hid h4
  clear hm h1 h4
  have HS := Lib.hid (bx_start3 w [.string ⟨a0.toArray⟩, .slice ra1 a1.length rc1, .int .i64 a2_0, .int .i64 a2_1, .slice ra4 a3.length rc4] [.string ⟨#[]⟩, .slice none 0 0, .int .i64 0, .int .i64 0, .slice none 0 0] [.string ⟨a0.toArray⟩, .slice none 0 0, .int .i64 0, .int .i64 0, .slice none 0 0] 27 33 33)
  have BA := Lib.hid HS.out.1
  have BB := Lib.hid HS.out.2.1
  have BC := Lib.hid HS.out.2.2.1
  have HB := Lib.hid HS.out.2.2.2
  clear HS
  go_enter Try.func7, Try.ntmps7
  go_wp2_with fail
  generalize ((w.alloc (.cells #[.string ⟨a0.toArray⟩, .slice ra1 a1.length rc1, .int .i64 a2_0, .int .i64 a2_1, .slice ra4 a3.length rc4] 27)).alloc (.cells #[.string ⟨#[]⟩, .slice none 0 0, .int .i64 0, .int .i64 0, .slice none 0 0] 33)).alloc (.cells #[.string ⟨a0.toArray⟩, .slice none 0 0, .int .i64 0, .int .i64 0, .slice none 0 0] 33) = X1 at *
  refine (toStringS_d _ a1 _ (H1.out.below good_str HB.out (Nat.le_refl _)) (by have := HM.out; omega)).mono ?_
  rintro e w1 ⟨u1, rfl, hr1, hb⟩
  have hX : w.heap.size + 3 ≤ X1.heap.size := by have := BC.out.lt; omega
  have R1 := Lib.hid (hr1.mono good_str hX)
  obtain ⟨p1, q1, rfl, _⟩ := sliceAt_len hr1
  clear hr1
  have BA := Lib.hid (BA.out.below hb)
  have BB := Lib.hid (BB.out.below hb)
  have BC := Lib.hid (BC.out.below hb)
  have HB := Lib.hid (belS (w := w) HB.out hb)
  clear hb hX
  have eA0 := BA.out.cell 0 (by simp)
  have eA1 := BA.out.cell 1 (by simp)
  have eA2 := BA.out.cell 2 (by simp)
  have eA3 := BA.out.cell 3 (by simp)
  have eA4 := BA.out.cell 4 (by simp)
  simp only [List.getElem_cons_zero, List.getElem_cons_succ, List.set_cons_zero, List.set_cons_succ] at eA0 eA1 eA2 eA3 eA4
  have eC0 := BC.out.cell 0 (by simp)
  have fC0 := BC.out.froz 0 (by simp)
  have eC1 := BC.out.cell 1 (by simp)
  have fC1 := BC.out.froz 1 (by simp)
  have eC2 := BC.out.cell 2 (by simp)
  have fC2 := BC.out.froz 2 (by simp)
  have eC3 := BC.out.cell 3 (by simp)
  have fC3 := BC.out.froz 3 (by simp)
  have eC4 := BC.out.cell 4 (by simp)
  have fC4 := BC.out.froz 4 (by simp)
  simp only [List.getElem_cons_zero, List.getElem_cons_succ, List.set_cons_zero, List.set_cons_succ] at eC0 eC1 eC2 eC3 eC4
  go_wp2_with fail
  clear eA0 eA1 eA2 eA3 eA4
  clear eC0 fC0 eC1 fC1 eC2 fC2 eC3 fC3 eC4 fC4
  have BC := Lib.hid (BC.out.set 1 (by simp) (.slice p1 a1.length q1))
  have BA := Lib.hid (BA.out.other (c := w.heap.size + 1 + 1) (by omega) 1 (.slice p1 a1.length q1))
  have BB := Lib.hid (BB.out.other (c := w.heap.size + 1 + 1) (by omega) 1 (.slice p1 a1.length q1))
  have HB := Lib.hid (HB.out.setCell (p := ⟨w.heap.size + 1 + 1, 1, none⟩) (by simp; try omega) (.slice p1 a1.length q1))
  have R1 := Lib.hid (R1.out.keep good_str ((Kept.refl _ _).setCell (p := ⟨w.heap.size + 1 + 1, 1, none⟩) (by simp) (.slice p1 a1.length q1)))
  simp only [List.set_cons_zero, List.set_cons_succ] at BC
  generalize (w1).setCell ⟨w.heap.size + 1 + 1, 1, none⟩ (.slice p1 a1.length q1) = X2 at *
  have HF2 := Lib.hid (fun w0 => toVersion_any (⟨a2_0, a2_1⟩ : VersionD) w0)
  simp only [vVersion] at HF2
  refine (HF2.out _).mono ?_
  rintro e w2 ⟨rfl, hb⟩
  have hX : w.heap.size + 3 ≤ X2.heap.size := by have := BC.out.lt; omega
  have R1 := Lib.hid (R1.out.keep good_str (kept_below hb (Nat.le_refl _)))
  have BA := Lib.hid (BA.out.below hb)
  have BB := Lib.hid (BB.out.below hb)
  have BC := Lib.hid (BC.out.below hb)
  have HB := Lib.hid (belS (w := w) HB.out hb)
  clear hb hX
  have eA0 := BA.out.cell 0 (by simp)
  have eA1 := BA.out.cell 1 (by simp)
  have eA2 := BA.out.cell 2 (by simp)
  have eA3 := BA.out.cell 3 (by simp)
  have eA4 := BA.out.cell 4 (by simp)
  simp only [List.getElem_cons_zero, List.getElem_cons_succ, List.set_cons_zero, List.set_cons_succ] at eA0 eA1 eA2 eA3 eA4
  have eC0 := BC.out.cell 0 (by simp)
  have fC0 := BC.out.froz 0 (by simp)
  have eC1 := BC.out.cell 1 (by simp)
  have fC1 := BC.out.froz 1 (by simp)
  have eC2 := BC.out.cell 2 (by simp)
  have fC2 := BC.out.froz 2 (by simp)
  have eC3 := BC.out.cell 3 (by simp)
  have fC3 := BC.out.froz 3 (by simp)
  have eC4 := BC.out.cell 4 (by simp)
  have fC4 := BC.out.froz 4 (by simp)
  simp only [List.getElem_cons_zero, List.getElem_cons_succ, List.set_cons_zero, List.set_cons_succ] at eC0 eC1 eC2 eC3 eC4
  go_wp2_with fail
  clear eA0 eA1 eA2 eA3 eA4
  clear eC0 fC0 eC1 fC1 eC2 fC2 eC3 fC3 eC4 fC4
  have BC := Lib.hid (BC.out.set 2 (by simp) (.int .i64 a2_0))
  have BA := Lib.hid (BA.out.other (c := w.heap.size + 1 + 1) (by omega) 2 (.int .i64 a2_0))
  have BB := Lib.hid (BB.out.other (c := w.heap.size + 1 + 1) (by omega) 2 (.int .i64 a2_0))
  have HB := Lib.hid (HB.out.setCell (p := ⟨w.heap.size + 1 + 1, 2, none⟩) (by simp; try omega) (.int .i64 a2_0))
  have BC := Lib.hid (BC.out.set 3 (by simp) (.int .i64 a2_1))
  have BA := Lib.hid (BA.out.other (c := w.heap.size + 1 + 1) (by omega) 3 (.int .i64 a2_1))
  have BB := Lib.hid (BB.out.other (c := w.heap.size + 1 + 1) (by omega) 3 (.int .i64 a2_1))
  have HB := Lib.hid (HB.out.setCell (p := ⟨w.heap.size + 1 + 1, 3, none⟩) (by simp; try omega) (.int .i64 a2_1))
  have R1 := Lib.hid (R1.out.keep good_str (((Kept.refl _ _).setCell (p := ⟨w.heap.size + 1 + 1, 2, none⟩) (by simp) (.int .i64 a2_0)).setCell (p := ⟨w.heap.size + 1 + 1, 3, none⟩) (by simp) (.int .i64 a2_1)))
  simp only [List.set_cons_zero, List.set_cons_succ] at BC
  generalize ((w2).setCell ⟨w.heap.size + 1 + 1, 2, none⟩ (.int .i64 a2_0)).setCell ⟨w.heap.size + 1 + 1, 3, none⟩ (.int .i64 a2_1) = X3 at *
  refine (toNeedS_d _ a3 _ (H4.out.below (good_flat cNeed_len) HB.out (Nat.le_refl _)) (by have := HM.out; omega)).mono ?_
  rintro e w3 ⟨u4, rfl, hr4, hb⟩
  have hX : w.heap.size + 3 ≤ X3.heap.size := by have := BC.out.lt; omega
  have R1 := Lib.hid (R1.out.keep good_str (kept_below hb (Nat.le_refl _)))
  have R4 := Lib.hid (hr4.mono (good_flat cNeed_len) hX)
  obtain ⟨p4, q4, rfl, _⟩ := sliceAt_len hr4
  clear hr4
  have BA := Lib.hid (BA.out.below hb)
  have BB := Lib.hid (BB.out.below hb)
  have BC := Lib.hid (BC.out.below hb)
  have HB := Lib.hid (belS (w := w) HB.out hb)
  clear hb hX
  have eA0 := BA.out.cell 0 (by simp)
  have eA1 := BA.out.cell 1 (by simp)
  have eA2 := BA.out.cell 2 (by simp)
  have eA3 := BA.out.cell 3 (by simp)
  have eA4 := BA.out.cell 4 (by simp)
  simp only [List.getElem_cons_zero, List.getElem_cons_succ, List.set_cons_zero, List.set_cons_succ] at eA0 eA1 eA2 eA3 eA4
  have eC0 := BC.out.cell 0 (by simp)
  have fC0 := BC.out.froz 0 (by simp)
  have eC1 := BC.out.cell 1 (by simp)
  have fC1 := BC.out.froz 1 (by simp)
  have eC2 := BC.out.cell 2 (by simp)
  have fC2 := BC.out.froz 2 (by simp)
  have eC3 := BC.out.cell 3 (by simp)
  have fC3 := BC.out.froz 3 (by simp)
  have eC4 := BC.out.cell 4 (by simp)
  have fC4 := BC.out.froz 4 (by simp)
  simp only [List.getElem_cons_zero, List.getElem_cons_succ, List.set_cons_zero, List.set_cons_succ] at eC0 eC1 eC2 eC3 eC4
  have eB0 := BB.out.cell 0 (by simp)
  have fB0 := BB.out.froz 0 (by simp)
  have eB1 := BB.out.cell 1 (by simp)
  have fB1 := BB.out.froz 1 (by simp)
  have eB2 := BB.out.cell 2 (by simp)
  have fB2 := BB.out.froz 2 (by simp)
  have eB3 := BB.out.cell 3 (by simp)
  have fB3 := BB.out.froz 3 (by simp)
  have eB4 := BB.out.cell 4 (by simp)
  have fB4 := BB.out.froz 4 (by simp)
  simp only [List.getElem_cons_zero, List.getElem_cons_succ, List.set_cons_zero, List.set_cons_succ] at eB0 eB1 eB2 eB3 eB4
  go_wp2_with fail
  clear eA0 eA1 eA2 eA3 eA4
  clear eC0 fC0 eC1 fC1 eC2 fC2 eC3 fC3 eC4 fC4
  clear eB0 fB0 eB1 fB1 eB2 fB2 eB3 fB3 eB4 fB4
  have BC := Lib.hid (BC.out.set 4 (by simp) (.slice p4 a3.length q4))
  have BA := Lib.hid (BA.out.other (c := w.heap.size + 1 + 1) (by omega) 4 (.slice p4 a3.length q4))
  have BB := Lib.hid (BB.out.other (c := w.heap.size + 1 + 1) (by omega) 4 (.slice p4 a3.length q4))
  have HB := Lib.hid (HB.out.setCell (p := ⟨w.heap.size + 1 + 1, 4, none⟩) (by simp; try omega) (.slice p4 a3.length q4))
  have R1 := Lib.hid (R1.out.keep good_str ((Kept.refl _ _).setCell (p := ⟨w.heap.size + 1 + 1, 4, none⟩) (by simp) (.slice p4 a3.length q4)))
  have R4 := Lib.hid (R4.out.keep (good_flat cNeed_len) ((Kept.refl _ _).setCell (p := ⟨w.heap.size + 1 + 1, 4, none⟩) (by simp) (.slice p4 a3.length q4)))
  simp only [List.set_cons_zero, List.set_cons_succ] at BC
  have BB := Lib.hid (BB.out.set 0 (by simp) (.string ⟨a0.toArray⟩))
  have HB := Lib.hid (HB.out.setCell (p := ⟨w.heap.size + 1, 0, none⟩) (by simp; try omega) (.string ⟨a0.toArray⟩))
  have BB := Lib.hid (BB.out.set 1 (by simp) (.slice p1 a1.length q1))
  have HB := Lib.hid (HB.out.setCell (p := ⟨w.heap.size + 1, 1, none⟩) (by simp; try omega) (.slice p1 a1.length q1))
  have BB := Lib.hid (BB.out.set 2 (by simp) (.int .i64 a2_0))
  have HB := Lib.hid (HB.out.setCell (p := ⟨w.heap.size + 1, 2, none⟩) (by simp; try omega) (.int .i64 a2_0))
  have BB := Lib.hid (BB.out.set 3 (by simp) (.int .i64 a2_1))
  have HB := Lib.hid (HB.out.setCell (p := ⟨w.heap.size + 1, 3, none⟩) (by simp; try omega) (.int .i64 a2_1))
  have BB := Lib.hid (BB.out.set 4 (by simp) (.slice p4 a3.length q4))
  have HB := Lib.hid (HB.out.setCell (p := ⟨w.heap.size + 1, 4, none⟩) (by simp; try omega) (.slice p4 a3.length q4))
  have R1 := Lib.hid ((R1.out.keep good_str ((((((Kept.refl _ _).setCell (p := ⟨w.heap.size + 1, 0, none⟩) (by simp) (.string ⟨a0.toArray⟩)).setCell (p := ⟨w.heap.size + 1, 1, none⟩) (by simp) (.slice p1 a1.length q1)).setCell (p := ⟨w.heap.size + 1, 2, none⟩) (by simp) (.int .i64 a2_0)).setCell (p := ⟨w.heap.size + 1, 3, none⟩) (by simp) (.int .i64 a2_1)).setCell (p := ⟨w.heap.size + 1, 4, none⟩) (by simp) (.slice p4 a3.length q4))).mono good_str (show w.heap.size ≤ w.heap.size + 3 by omega))
  have R4 := Lib.hid ((R4.out.keep (good_flat cNeed_len) ((((((Kept.refl _ _).setCell (p := ⟨w.heap.size + 1, 0, none⟩) (by simp) (.string ⟨a0.toArray⟩)).setCell (p := ⟨w.heap.size + 1, 1, none⟩) (by simp) (.slice p1 a1.length q1)).setCell (p := ⟨w.heap.size + 1, 2, none⟩) (by simp) (.int .i64 a2_0)).setCell (p := ⟨w.heap.size + 1, 3, none⟩) (by simp) (.int .i64 a2_1)).setCell (p := ⟨w.heap.size + 1, 4, none⟩) (by simp) (.slice p4 a3.length q4))).mono (good_flat cNeed_len) (show w.heap.size ≤ w.heap.size + 3 by omega))
  simp only [List.set_cons_zero, List.set_cons_succ] at BB
  generalize ((((((w3).setCell ⟨w.heap.size + 1 + 1, 4, none⟩ (.slice p4 a3.length q4)).setCell ⟨w.heap.size + 1, 0, none⟩ (.string ⟨a0.toArray⟩)).setCell ⟨w.heap.size + 1, 1, none⟩ (.slice p1 a1.length q1)).setCell ⟨w.heap.size + 1, 2, none⟩ (.int .i64 a2_0)).setCell ⟨w.heap.size + 1, 3, none⟩ (.int .i64 a2_1)).setCell ⟨w.heap.size + 1, 4, none⟩ (.slice p4 a3.length q4) = WE at *
  have eB0 := BB.out.cell 0 (by simp)
  have eB1 := BB.out.cell 1 (by simp)
  have eB2 := BB.out.cell 2 (by simp)
  have eB3 := BB.out.cell 3 (by simp)
  have eB4 := BB.out.cell 4 (by simp)
  simp only [List.getElem_cons_zero, List.getElem_cons_succ, List.set_cons_zero, List.set_cons_succ] at eB0 eB1 eB2 eB3 eB4
  exact bodyPost_ret (v := .agg #[.string ⟨a0.toArray⟩, .slice p1 a1.length q1, .int .i64 a2_0, .int .i64 a2_1, .slice p4 a3.length q4]) (by simp [results, Try.results7, go_sem, eB0, eB1, eB2, eB3, eB4]) rfl ⟨_, rfl, ⟨_, _, rfl, R1.out, R4.out⟩, HB.out⟩
set_option maxRecDepth 100000 in
set_option maxHeartbeats 1600000 in
theorem szEntry_d (v : Value) (x : EntryD) (left : Int) (w : World) (hx : ValAt rEntry 0 w v x) (hk : okEntry x) (h0 : 0 ≤ left) (h1 : left ≤ 1099511627776) : Calls Try.prog 5 #[v, .int .i64 left] w fun e w' => SzF (zEntry x) left w e w' := by
  obtain ⟨_, rfl, hx⟩ := hx
  obtain ⟨a0, a1, ⟨a2_0, a2_1⟩, a3⟩ := x
  obtain ⟨v1, v4, rfl, hr1, hr4⟩ := hx
  simp only at hr1 hr4
  unfold okEntry at hk
  simp only at hk
  simp only [zEntry]
  have HK := Lib.hid hk
  obtain ⟨ra1, rc1, rfl, _⟩ := sliceAt_len hr1
  obtain ⟨ra4, rc4, rfl, _⟩ := sliceAt_len hr4
  have H1 := Lib.hid hr1
  have H4 := Lib.hid hr4
  clear hk hr1 hr4
  have HS := Lib.hid (bx_start1 w [.string ⟨a0.toArray⟩, .slice ra1 a1.length rc1, .int .i64 a2_0, .int .i64 a2_1, .slice ra4 a3.length rc4] 27)
  have BA := Lib.hid HS.out.1
  have HB := Lib.hid HS.out.2
  clear HS
  go_enter Try.func5, Try.ntmps5
  have HZ0 := Lib.hid (size_strB a0)
  have hl0 : a0.length ≤ 9223372036854775807 := by have h := HK.out.1; unfold maxLen at h; exact h
  by_cases hn0 : left - (a0.length : Int) < 0
  · go_wp2_with fail
    go_ret
    exact ⟨-1, rfl, by omega, by omega, HB.out⟩
  · skip
    go_wp2_with fail
    generalize w.alloc (.cells #[.string ⟨a0.toArray⟩, .slice ra1 a1.length rc1, .int .i64 a2_0, .int .i64 a2_1, .slice ra4 a3.length rc4] 27) = X1 at *
    refine (szStringS_d _ a1 _ _ (H1.out.below good_str HB.out (Nat.le_refl _)) HK.out.2.1 (by omega) (by omega)).mono ?_
    rintro e w1 ⟨r1, rfl, hra1, hrb1, hb⟩
    have HR1 := Lib.hid hrb1
    have HB := Lib.hid (belS (w := w) HB.out hb)
    have BA := Lib.hid (BA.out.below hb)
    clear hb hrb1
    have eA0 := BA.out.cell 0 (by simp)
    have eA1 := BA.out.cell 1 (by simp)
    have eA2 := BA.out.cell 2 (by simp)
    have eA3 := BA.out.cell 3 (by simp)
    have eA4 := BA.out.cell 4 (by simp)
    simp only [List.getElem_cons_zero, List.getElem_cons_succ, List.set_cons_zero, List.set_cons_succ] at eA0 eA1 eA2 eA3 eA4
    by_cases hn1 : r1 < 0
    · go_wp2_with fail
      go_ret
      exact ⟨-1, rfl, by omega, by omega, HB.out⟩
    · have hs1 := HR1.out (by omega)
      go_wp2_with fail
      clear eA0 eA1 eA2 eA3 eA4
      refine (szNeedS_d _ a3 _ _ (H4.out.below (good_flat cNeed_len) HB.out (Nat.le_refl _)) HK.out.2.2.2 (by omega) (by omega)).mono ?_
      rintro e w2 ⟨r3, rfl, hra3, hrb3, hb⟩
      have HR3 := Lib.hid hrb3
      have HB := Lib.hid (belS (w := w) HB.out hb)
      have BA := Lib.hid (BA.out.below hb)
      clear hb hrb3
      have eA0 := BA.out.cell 0 (by simp)
      have eA1 := BA.out.cell 1 (by simp)
      have eA2 := BA.out.cell 2 (by simp)
      have eA3 := BA.out.cell 3 (by simp)
      have eA4 := BA.out.cell 4 (by simp)
      simp only [List.getElem_cons_zero, List.getElem_cons_succ, List.set_cons_zero, List.set_cons_succ] at eA0 eA1 eA2 eA3 eA4
      by_cases hn3 : r3 < 0
      · go_wp2_with fail
        go_ret
        exact ⟨-1, rfl, by omega, by omega, HB.out⟩
      · have hs3 := HR3.out (by omega)
        go_wp2_with fail
        go_ret
        exact ⟨_, rfl, by omega, by intro _; push_cast; omega, HB.out⟩
set_option maxRecDepth 100000 in
set_option maxHeartbeats 1600000 in
theorem eqEntry_d (v u : Value) (x y : EntryD) (w : World) (hx : ValAt rEntry 0 w v x) (hy : ValAt rEntry 0 w u y) : Calls Try.prog 9 #[v, u] w fun e w' => e = .returned (.bool (decide (x = y))) ∧ Below w.heap.size w w' := by
  have HQ := Lib.hid (show decide (x = y) = (decide (x.fName = y.fName) && decide (x.fRecipe = y.fRecipe) && decide (x.fVersion = y.fVersion) && decide (x.fNeeds = y.fNeeds)) by rw [Bool.eq_iff_iff]; cases x; cases y; simp [and_assoc])
  obtain ⟨_, rfl, hx⟩ := hx
  obtain ⟨a0, a1, ⟨a2_0, a2_1⟩, a3⟩ := x
  obtain ⟨v1, v4, rfl, hv1, hv4⟩ := hx
  simp only at hv1 hv4
  obtain ⟨_, rfl, hy⟩ := hy
  obtain ⟨b0, b1, ⟨b2_0, b2_1⟩, b3⟩ := y
  obtain ⟨u1, u4, rfl, hu1, hu4⟩ := hy
  simp only at hu1 hu4
  simp only at HQ
  obtain ⟨ra1, rc1, rfl, _⟩ := sliceAt_len hv1
  obtain ⟨ra4, rc4, rfl, _⟩ := sliceAt_len hv4
  obtain ⟨sa1, sc1, rfl, _⟩ := sliceAt_len hu1
  obtain ⟨sa4, sc4, rfl, _⟩ := sliceAt_len hu4
  have HV1 := Lib.hid hv1
  have HU1 := Lib.hid hu1
  have HV4 := Lib.hid hv4
  have HU4 := Lib.hid hu4
  clear hv1 hu1 hv4 hu4
  have HC1 := Lib.hid (fun w0 (hw : Below w.heap.size w w0) => eqStringS_d _ _ a1 b1 w0 (HV1.out.below good_str hw (Nat.le_refl _)) (HU1.out.below good_str hw (Nat.le_refl _)))
  generalize decide (a1 = b1) = p1 at *
  have HC2 := Lib.hid (fun w0 (hw : Below w.heap.size w w0) => eqVersion_any (⟨a2_0, a2_1⟩ : VersionD) (⟨b2_0, b2_1⟩ : VersionD) w0)
  simp only [vVersion] at HC2
  generalize decide ((⟨a2_0, a2_1⟩ : VersionD) = (⟨b2_0, b2_1⟩ : VersionD)) = p2 at *
  have HC3 := Lib.hid (fun w0 (hw : Below w.heap.size w w0) => eqNeedS_d _ _ a3 b3 w0 (HV4.out.below (good_flat cNeed_len) hw (Nat.le_refl _)) (HU4.out.below (good_flat cNeed_len) hw (Nat.le_refl _)))
  generalize decide (a3 = b3) = p3 at *
  generalize hq : decide ((⟨a0, a1, ⟨a2_0, a2_1⟩, a3⟩ : EntryD) = (⟨b0, b1, ⟨b2_0, b2_1⟩, b3⟩ : EntryD)) = q at *
  clear hq
  have HS := Lib.hid (bx_start2 w [.string ⟨a0.toArray⟩, .slice ra1 a1.length rc1, .int .i64 a2_0, .int .i64 a2_1, .slice ra4 a3.length rc4] [.string ⟨b0.toArray⟩, .slice sa1 b1.length sc1, .int .i64 b2_0, .int .i64 b2_1, .slice sa4 b3.length sc4] 33 33)
  by_cases h0 : a0 = b0
  · subst h0
    cases p1 with
    | true =>
      cases p2 with
      | true =>
        cases p3 with
        | true =>
          have HF := Lib.hid (show q = true from by rw [HQ.out]; simp)
          go_enter Try.func9, Try.ntmps9
          have BA := Lib.hid HS.out.1
          have BB := Lib.hid HS.out.2.1
          have HB := Lib.hid HS.out.2.2
          go_wp2_with fail
          refine (HC1.out _ HB.out).mono ?_
          rintro e w1 ⟨rfl, hb⟩
          have HB := Lib.hid (belS (w := w) HB.out hb)
          have BA := Lib.hid (BA.out.below hb)
          have BB := Lib.hid (BB.out.below hb)
          clear hb
          have eA0 := BA.out.cell 0 (by simp)
          have eB0 := BB.out.cell 0 (by simp)
          have eA1 := BA.out.cell 1 (by simp)
          have eB1 := BB.out.cell 1 (by simp)
          have eA2 := BA.out.cell 2 (by simp)
          have eB2 := BB.out.cell 2 (by simp)
          have eA3 := BA.out.cell 3 (by simp)
          have eB3 := BB.out.cell 3 (by simp)
          have eA4 := BA.out.cell 4 (by simp)
          have eB4 := BB.out.cell 4 (by simp)
          simp only [List.getElem_cons_zero, List.getElem_cons_succ, List.set_cons_zero, List.set_cons_succ] at eA0 eB0 eA1 eB1 eA2 eB2 eA3 eB3 eA4 eB4
          go_wp2_with fail
          clear eA0 eB0 eA1 eB1 eA2 eB2 eA3 eB3 eA4 eB4
          refine (HC2.out _ HB.out).mono ?_
          rintro e w2 ⟨rfl, hb⟩
          have HB := Lib.hid (belS (w := w) HB.out hb)
          have BA := Lib.hid (BA.out.below hb)
          have BB := Lib.hid (BB.out.below hb)
          clear hb
          have eA0 := BA.out.cell 0 (by simp)
          have eB0 := BB.out.cell 0 (by simp)
          have eA1 := BA.out.cell 1 (by simp)
          have eB1 := BB.out.cell 1 (by simp)
          have eA2 := BA.out.cell 2 (by simp)
          have eB2 := BB.out.cell 2 (by simp)
          have eA3 := BA.out.cell 3 (by simp)
          have eB3 := BB.out.cell 3 (by simp)
          have eA4 := BA.out.cell 4 (by simp)
          have eB4 := BB.out.cell 4 (by simp)
          simp only [List.getElem_cons_zero, List.getElem_cons_succ, List.set_cons_zero, List.set_cons_succ] at eA0 eB0 eA1 eB1 eA2 eB2 eA3 eB3 eA4 eB4
          go_wp2_with fail
          clear eA0 eB0 eA1 eB1 eA2 eB2 eA3 eB3 eA4 eB4
          refine (HC3.out _ HB.out).mono ?_
          rintro e w3 ⟨rfl, hb⟩
          have HB := Lib.hid (belS (w := w) HB.out hb)
          have BA := Lib.hid (BA.out.below hb)
          have BB := Lib.hid (BB.out.below hb)
          clear hb
          have eA0 := BA.out.cell 0 (by simp)
          have eB0 := BB.out.cell 0 (by simp)
          have eA1 := BA.out.cell 1 (by simp)
          have eB1 := BB.out.cell 1 (by simp)
          have eA2 := BA.out.cell 2 (by simp)
          have eB2 := BB.out.cell 2 (by simp)
          have eA3 := BA.out.cell 3 (by simp)
          have eB3 := BB.out.cell 3 (by simp)
          have eA4 := BA.out.cell 4 (by simp)
          have eB4 := BB.out.cell 4 (by simp)
          simp only [List.getElem_cons_zero, List.getElem_cons_succ, List.set_cons_zero, List.set_cons_succ] at eA0 eB0 eA1 eB1 eA2 eB2 eA3 eB3 eA4 eB4
          go_wp2_with fail
          go_ret
          exact ⟨ret_bool HF.out.symm, HB.out⟩
        | false =>
          have HF := Lib.hid (show q = false from by rw [HQ.out]; simp)
          go_enter Try.func9, Try.ntmps9
          have BA := Lib.hid HS.out.1
          have BB := Lib.hid HS.out.2.1
          have HB := Lib.hid HS.out.2.2
          go_wp2_with fail
          refine (HC1.out _ HB.out).mono ?_
          rintro e w1 ⟨rfl, hb⟩
          have HB := Lib.hid (belS (w := w) HB.out hb)
          have BA := Lib.hid (BA.out.below hb)
          have BB := Lib.hid (BB.out.below hb)
          clear hb
          have eA0 := BA.out.cell 0 (by simp)
          have eB0 := BB.out.cell 0 (by simp)
          have eA1 := BA.out.cell 1 (by simp)
          have eB1 := BB.out.cell 1 (by simp)
          have eA2 := BA.out.cell 2 (by simp)
          have eB2 := BB.out.cell 2 (by simp)
          have eA3 := BA.out.cell 3 (by simp)
          have eB3 := BB.out.cell 3 (by simp)
          have eA4 := BA.out.cell 4 (by simp)
          have eB4 := BB.out.cell 4 (by simp)
          simp only [List.getElem_cons_zero, List.getElem_cons_succ, List.set_cons_zero, List.set_cons_succ] at eA0 eB0 eA1 eB1 eA2 eB2 eA3 eB3 eA4 eB4
          go_wp2_with fail
          clear eA0 eB0 eA1 eB1 eA2 eB2 eA3 eB3 eA4 eB4
          refine (HC2.out _ HB.out).mono ?_
          rintro e w2 ⟨rfl, hb⟩
          have HB := Lib.hid (belS (w := w) HB.out hb)
          have BA := Lib.hid (BA.out.below hb)
          have BB := Lib.hid (BB.out.below hb)
          clear hb
          have eA0 := BA.out.cell 0 (by simp)
          have eB0 := BB.out.cell 0 (by simp)
          have eA1 := BA.out.cell 1 (by simp)
          have eB1 := BB.out.cell 1 (by simp)
          have eA2 := BA.out.cell 2 (by simp)
          have eB2 := BB.out.cell 2 (by simp)
          have eA3 := BA.out.cell 3 (by simp)
          have eB3 := BB.out.cell 3 (by simp)
          have eA4 := BA.out.cell 4 (by simp)
          have eB4 := BB.out.cell 4 (by simp)
          simp only [List.getElem_cons_zero, List.getElem_cons_succ, List.set_cons_zero, List.set_cons_succ] at eA0 eB0 eA1 eB1 eA2 eB2 eA3 eB3 eA4 eB4
          go_wp2_with fail
          clear eA0 eB0 eA1 eB1 eA2 eB2 eA3 eB3 eA4 eB4
          refine (HC3.out _ HB.out).mono ?_
          rintro e w3 ⟨rfl, hb⟩
          have HB := Lib.hid (belS (w := w) HB.out hb)
          have BA := Lib.hid (BA.out.below hb)
          have BB := Lib.hid (BB.out.below hb)
          clear hb
          have eA0 := BA.out.cell 0 (by simp)
          have eB0 := BB.out.cell 0 (by simp)
          have eA1 := BA.out.cell 1 (by simp)
          have eB1 := BB.out.cell 1 (by simp)
          have eA2 := BA.out.cell 2 (by simp)
          have eB2 := BB.out.cell 2 (by simp)
          have eA3 := BA.out.cell 3 (by simp)
          have eB3 := BB.out.cell 3 (by simp)
          have eA4 := BA.out.cell 4 (by simp)
          have eB4 := BB.out.cell 4 (by simp)
          simp only [List.getElem_cons_zero, List.getElem_cons_succ, List.set_cons_zero, List.set_cons_succ] at eA0 eB0 eA1 eB1 eA2 eB2 eA3 eB3 eA4 eB4
          go_wp2_with fail
          go_ret
          exact ⟨ret_bool HF.out.symm, HB.out⟩
      | false =>
        have HF := Lib.hid (show q = false from by rw [HQ.out]; simp)
        go_enter Try.func9, Try.ntmps9
        have BA := Lib.hid HS.out.1
        have BB := Lib.hid HS.out.2.1
        have HB := Lib.hid HS.out.2.2
        go_wp2_with fail
        refine (HC1.out _ HB.out).mono ?_
        rintro e w1 ⟨rfl, hb⟩
        have HB := Lib.hid (belS (w := w) HB.out hb)
        have BA := Lib.hid (BA.out.below hb)
        have BB := Lib.hid (BB.out.below hb)
        clear hb
        have eA0 := BA.out.cell 0 (by simp)
        have eB0 := BB.out.cell 0 (by simp)
        have eA1 := BA.out.cell 1 (by simp)
        have eB1 := BB.out.cell 1 (by simp)
        have eA2 := BA.out.cell 2 (by simp)
        have eB2 := BB.out.cell 2 (by simp)
        have eA3 := BA.out.cell 3 (by simp)
        have eB3 := BB.out.cell 3 (by simp)
        have eA4 := BA.out.cell 4 (by simp)
        have eB4 := BB.out.cell 4 (by simp)
        simp only [List.getElem_cons_zero, List.getElem_cons_succ, List.set_cons_zero, List.set_cons_succ] at eA0 eB0 eA1 eB1 eA2 eB2 eA3 eB3 eA4 eB4
        go_wp2_with fail
        clear eA0 eB0 eA1 eB1 eA2 eB2 eA3 eB3 eA4 eB4
        refine (HC2.out _ HB.out).mono ?_
        rintro e w2 ⟨rfl, hb⟩
        have HB := Lib.hid (belS (w := w) HB.out hb)
        have BA := Lib.hid (BA.out.below hb)
        have BB := Lib.hid (BB.out.below hb)
        clear hb
        have eA0 := BA.out.cell 0 (by simp)
        have eB0 := BB.out.cell 0 (by simp)
        have eA1 := BA.out.cell 1 (by simp)
        have eB1 := BB.out.cell 1 (by simp)
        have eA2 := BA.out.cell 2 (by simp)
        have eB2 := BB.out.cell 2 (by simp)
        have eA3 := BA.out.cell 3 (by simp)
        have eB3 := BB.out.cell 3 (by simp)
        have eA4 := BA.out.cell 4 (by simp)
        have eB4 := BB.out.cell 4 (by simp)
        simp only [List.getElem_cons_zero, List.getElem_cons_succ, List.set_cons_zero, List.set_cons_succ] at eA0 eB0 eA1 eB1 eA2 eB2 eA3 eB3 eA4 eB4
        go_wp2_with fail
        go_ret
        exact ⟨ret_bool HF.out.symm, HB.out⟩
    | false =>
      have HF := Lib.hid (show q = false from by rw [HQ.out]; simp)
      go_enter Try.func9, Try.ntmps9
      have BA := Lib.hid HS.out.1
      have BB := Lib.hid HS.out.2.1
      have HB := Lib.hid HS.out.2.2
      go_wp2_with fail
      refine (HC1.out _ HB.out).mono ?_
      rintro e w1 ⟨rfl, hb⟩
      have HB := Lib.hid (belS (w := w) HB.out hb)
      have BA := Lib.hid (BA.out.below hb)
      have BB := Lib.hid (BB.out.below hb)
      clear hb
      have eA0 := BA.out.cell 0 (by simp)
      have eB0 := BB.out.cell 0 (by simp)
      have eA1 := BA.out.cell 1 (by simp)
      have eB1 := BB.out.cell 1 (by simp)
      have eA2 := BA.out.cell 2 (by simp)
      have eB2 := BB.out.cell 2 (by simp)
      have eA3 := BA.out.cell 3 (by simp)
      have eB3 := BB.out.cell 3 (by simp)
      have eA4 := BA.out.cell 4 (by simp)
      have eB4 := BB.out.cell 4 (by simp)
      simp only [List.getElem_cons_zero, List.getElem_cons_succ, List.set_cons_zero, List.set_cons_succ] at eA0 eB0 eA1 eB1 eA2 eB2 eA3 eB3 eA4 eB4
      go_wp2_with fail
      go_ret
      exact ⟨ret_bool HF.out.symm, HB.out⟩
  · have HF := Lib.hid (show q = false from by rw [HQ.out]; simp [h0])
    have hne0 : (a0 == b0) = false := by simpa using h0
    have hnf0 : (a0 != b0) = true := by simpa using h0
    clear h0
    go_enter Try.func9, Try.ntmps9
    have BA := Lib.hid HS.out.1
    have BB := Lib.hid HS.out.2.1
    have HB := Lib.hid HS.out.2.2
    go_wp2_with fail
    go_ret
    exact ⟨ret_bool HF.out.symm, HB.out⟩
theorem infoDEntry : (Try.prog.info? 33).map (fun i => (i.zero, i.size, i.bytes)) = some (some (.agg #[.string ⟨#[]⟩, .slice none 0 0, .int .i64 0, .int .i64 0, .slice none 0 0]), 5, 80) := by kernel_rfl
set_option maxRecDepth 100000 in
set_option maxHeartbeats 3200000 in
theorem toEntryS_d (v : Value) (x : List EntryD) (w : World) (hx : SliceAt (rEntry) 5 0 w v x) (hm : x.length + sumF zEntry x ≤ 2097152) :
    Calls Try.prog 12 #[v] w fun e w' => GivesS (rEntry) 5 x w e w' := by
  obtain ⟨a, c, rfl, hl⟩ := sliceAt_len hx
  obtain ⟨i0, hi, hz0, hz1, hz2⟩ := info_parts infoDEntry
  have HX := Lib.hid hx
  have HZ := Lib.hid hm
  have hm2 : x.length ≤ 2097152 := by omega
  clear hx hm
  unfold maxLen at hl
  go_enter Try.func12, Try.ntmps12
  have hb2 : i0.bytes * x.length ≤ 281474976710656 := by rw [hz2]; omega
  have HB2 := Lib.hid hb2
  have HM := Lib.hid (show x.length ≤ maxLen from by unfold maxLen; omega)
  clear hb2
  go_wp2_with (refine wpList_make_full _ rfl (.tmp 6) (.tmp 6) 40 rfl w.heap.size 33 i0 _ 5 Try.underlying40 hi hz0 hz1 .i64 .i64 _ _ x.length rfl rfl rfl rfl HB2.out HM.out (Nat.le_refl _) ?_; intro w1 hown1 hgrow1)
  have HO := Lib.hid (show ∃ xs, w1.ownsRow w.heap.size 33 5 (.slice (some ⟨w.heap.size, 0, none⟩) x.length x.length) x.length xs ∧ Cells (rEntry) 5 (w.heap.size + 1) w1 xs (x.take 0) from ⟨_, hown1, Cells.nil _ _ _⟩)
  have HB := Lib.hid (show Below w.heap.size w w1 from ⟨hgrow1.os, hgrow1.tape, hgrow1.output, hgrow1.size, fun i hi => hgrow1.block i hi (by simp)⟩)
  have hsz : w.heap.size < w1.heap.size := by
    rcases hown1.2 with ⟨h, _⟩ | ⟨g, cap, cur, h, _, hg, _⟩
    · simp at h
    · injection h with h _ _; injection h with h; injection h with h _; subst h; exact (Array.getElem?_eq_some_iff.1 hg).1
  clear hown1 hgrow1 hz0 hz1 hz2 HB2 hi
  go_loopw [4] (fun i wr => ∃ k : Nat, k ≤ x.length ∧ i = .int .i64 k ∧ (∃ xs, wr.ownsRow w.heap.size 33 5 (.slice (some ⟨w.heap.size, 0, none⟩) x.length x.length) x.length xs ∧ Cells (rEntry) 5 (w.heap.size + 1) wr xs (x.take k)) ∧ Below w.heap.size w wr ∧ w.heap.size < wr.heap.size) (fun i _ => x.length - (intOf i).toNat)
  case atStart => exact ⟨0, Nat.zero_le _, rfl, HO.out, HB.out, hsz⟩
  case round =>
    obtain ⟨k, hk, rfl, ⟨xs, hown, htake⟩, hb, hszr⟩ := hrel
    have HR := Lib.hid (SliceAt.below HX.out goodEntry hb (Nat.le_refl _))
    have HBr := Lib.hid hb
    have HOw := Lib.hid hown
    have HT := Lib.hid htake
    have HXL := Lib.hid (show xs.length = x.length * 5 from hown.1)
    clear hb hown htake
    by_cases hlt : k < x.length
    · obtain ⟨b, o, cs, rfl, hbw, hat, hd⟩ := sliceAt_cell HR.out k hlt
      have HSN := Lib.hid (show x.take (k + 1) = x.take k ++ [x[k]] from List.take_succ_eq_append_getElem hlt)
      have HLT := Lib.hid (show (x.take k).length = k by rw [List.length_take]; omega)
      have HC := Lib.hid (toEntry_d (.agg cs.toArray) x[k] wr ⟨cs, rfl, hat⟩ (by have h1 := sumF_mem zEntry x x[k] (List.getElem_mem hlt); have h2 := HZ.out; omega))
      generalize x[k] = p at *
      obtain ⟨a0, a1, ⟨a2_0, a2_1⟩, a3⟩ := p
      obtain ⟨x1, x4, rfl, hr1, hr4⟩ := hat
      have d0 := hd 0 (by decide)
      have d1 := hd 1 (by decide)
      have d2 := hd 2 (by decide)
      have d3 := hd 3 (by decide)
      have d4 := hd 4 (by decide)
      simp only [List.getElem?_cons_zero, List.getElem?_cons_succ, Nat.add_zero] at d0 d1 d2 d3 d4 HC
      clear hd
      go_wp2_with fail
      refine HC.out.mono ?_
      rintro e w2 ⟨cs, rfl, hat2, hb0⟩
      have HA := Lib.hid hat2
      have HB3 := Lib.hid (HBr.out.trans (hb0.mono HBr.out.size))
      have HO3 := Lib.hid (ownsRow_below HOw.out hb0 (Nat.le_refl _))
      have HK := Lib.hid (Cells.keep HT.out goodEntry (kept_below hb0 (Nat.le_refl _)))
      have hsz2 : w.heap.size < w2.heap.size := by have := hb0.size; omega
      obtain ⟨y1, y4, rfl, hq1, hq4⟩ := hat2
      skip
      obtain ⟨yp1, yq1, rfl, _⟩ := sliceAt_len hq1
      clear hq1
      obtain ⟨yp4, yq4, rfl, _⟩ := sliceAt_len hq4
      clear hq4
      clear hb0
      obtain ⟨u0, c0⟩ : ∃ u, w2.cell? ⟨w.heap.size, k * 5, none⟩ = some u := by
        rw [World.ownsRow.cellAt HO3.out (k * 5) (by omega), List.getElem?_eq_getElem (by have := HXL.out; omega)]
        exact ⟨_, rfl⟩
      have f0 := World.ownsRow.frozenAt HO3.out (k * 5)
      obtain ⟨u1, c1⟩ : ∃ u, w2.cell? ⟨w.heap.size, k * 5 + 1, none⟩ = some u := by
        rw [World.ownsRow.cellAt HO3.out (k * 5 + 1) (by omega), List.getElem?_eq_getElem (by have := HXL.out; omega)]
        exact ⟨_, rfl⟩
      have f1 := World.ownsRow.frozenAt HO3.out (k * 5 + 1)
      obtain ⟨u2, c2⟩ : ∃ u, w2.cell? ⟨w.heap.size, k * 5 + 2, none⟩ = some u := by
        rw [World.ownsRow.cellAt HO3.out (k * 5 + 2) (by omega), List.getElem?_eq_getElem (by have := HXL.out; omega)]
        exact ⟨_, rfl⟩
      have f2 := World.ownsRow.frozenAt HO3.out (k * 5 + 2)
      obtain ⟨u3, c3⟩ : ∃ u, w2.cell? ⟨w.heap.size, k * 5 + 3, none⟩ = some u := by
        rw [World.ownsRow.cellAt HO3.out (k * 5 + 3) (by omega), List.getElem?_eq_getElem (by have := HXL.out; omega)]
        exact ⟨_, rfl⟩
      have f3 := World.ownsRow.frozenAt HO3.out (k * 5 + 3)
      obtain ⟨u4, c4⟩ : ∃ u, w2.cell? ⟨w.heap.size, k * 5 + 4, none⟩ = some u := by
        rw [World.ownsRow.cellAt HO3.out (k * 5 + 4) (by omega), List.getElem?_eq_getElem (by have := HXL.out; omega)]
        exact ⟨_, rfl⟩
      have f4 := World.ownsRow.frozenAt HO3.out (k * 5 + 4)
      have HS0 := Lib.hid (World.ownsRow.stored HO3.out (k * 5) (.string ⟨a0.toArray⟩))
      have HS1 := Lib.hid (World.ownsRow.stored HS0.out.1 (k * 5 + 1) (.slice yp1 a1.length yq1))
      have HS2 := Lib.hid (World.ownsRow.stored HS1.out.1 (k * 5 + 2) (.int .i64 a2_0))
      have HS3 := Lib.hid (World.ownsRow.stored HS2.out.1 (k * 5 + 3) (.int .i64 a2_1))
      have HS4 := Lib.hid (World.ownsRow.stored HS3.out.1 (k * 5 + 4) (.slice yp4 a3.length yq4))
      have HN := Lib.hid (show Cells (rEntry) 5 (w.heap.size + 1) ((((((w2).setCell ⟨w.heap.size, k * 5, none⟩ (.string ⟨a0.toArray⟩)).setCell ⟨w.heap.size, k * 5 + 1, none⟩ (.slice yp1 a1.length yq1)).setCell ⟨w.heap.size, k * 5 + 2, none⟩ (.int .i64 a2_0)).setCell ⟨w.heap.size, k * 5 + 3, none⟩ (.int .i64 a2_1)).setCell ⟨w.heap.size, k * 5 + 4, none⟩ (.slice yp4 a3.length yq4)) ((((((xs).set (k * 5) (.string ⟨a0.toArray⟩)).set (k * 5 + 1) (.slice yp1 a1.length yq1)).set (k * 5 + 2) (.int .i64 a2_0)).set (k * 5 + 3) (.int .i64 a2_1)).set (k * 5 + 4) (.slice yp4 a3.length yq4)) (x.take (k + 1)) by
        rw [HSN.out]
        have hkk : Kept (w.heap.size + 1) w2 ((((((w2).setCell ⟨w.heap.size, k * 5, none⟩ (.string ⟨a0.toArray⟩)).setCell ⟨w.heap.size, k * 5 + 1, none⟩ (.slice yp1 a1.length yq1)).setCell ⟨w.heap.size, k * 5 + 2, none⟩ (.int .i64 a2_0)).setCell ⟨w.heap.size, k * 5 + 3, none⟩ (.int .i64 a2_1)).setCell ⟨w.heap.size, k * 5 + 4, none⟩ (.slice yp4 a3.length yq4)) := (((((Kept.refl _ _).setCell (by simp) _).setCell (by simp) _).setCell (by simp) _).setCell (by simp) _).setCell (by simp) _
        refine Cells.snoc (Cells.keep HK.out goodEntry hkk) ((goodEntry).keep ((goodEntry).mono HA.out (by omega)) hkk) ?_ ?_
        · intro i hi
          rw [HLT.out] at hi
          repeat rw [List.getElem?_set_ne (by omega)]
        · intro j hj
          rw [HLT.out]
          have hxl := HXL.out
          rcases (show j = 0 ∨ j = 1 ∨ j = 2 ∨ j = 3 ∨ j = 4 by omega) with rfl | rfl | rfl | rfl | rfl
          all_goals (simp [List.getElem?_set]; try omega))
      go_wp2_with fail
      refine ⟨⟨k + 1, by omega, by go_num, ⟨_, HS4.out.1, HN.out⟩, ?_, by simp; omega⟩, by simp [intOf]; omega⟩
      exact (((((HB3.out.setCell (by simp) _).setCell (by simp) _).setCell (by simp) _).setCell (by simp) _).setCell (by simp) _)
    · have HN := Lib.hid (show x.take k = x from List.take_of_length_le (by omega))
      have HF := Lib.hid (show SliceAt (rEntry) 5 w.heap.size wr (.slice (some ⟨w.heap.size, 0, none⟩) x.length x.length) x from by
        have h := HT.out
        rw [HN.out] at h
        exact sliceAt_of_row HOw.out (fun i hi => by obtain ⟨cs, h1, h2⟩ := h i hi; exact ⟨cs, (goodEntry).mono h1 (by omega), h2⟩) (Nat.le_refl _) (by omega))
      go_wp2_with fail
      go_ret
      exact ⟨_, rfl, HF.out, HBr.out⟩
set_option maxRecDepth 100000 in
set_option maxHeartbeats 1600000 in
theorem szEntryS_d (v : Value) (x : List EntryD) (left : Int) (w : World) (hx : SliceAt (rEntry) 5 0 w v x) (hs : ∀ d ∈ x, okEntry d) (h0 : 0 ≤ left) (h1 : left ≤ 1099511627776) :
    Calls Try.prog 10 #[v, .int .i64 left] w fun e w' => SzF (x.length + sumF zEntry x) left w e w' := by
  obtain ⟨a, c, rfl, hl⟩ := sliceAt_len hx
  have HX := Lib.hid hx
  have HS := Lib.hid hs
  clear hx hs
  unfold maxLen at hl
  by_cases hneg : left - (x.length : Int) < 0
  · go_enter Try.func10, Try.ntmps10
    go_wp2
    go_ret
    exact ⟨-1, rfl, by omega, by omega, Below.refl _ _⟩
  · go_enter Try.func10, Try.ntmps10
    go_wp2
    go_loopw [1, 5] (fun r i wr => ∃ k : Nat, ∃ z : Int, k ≤ x.length ∧ i = .int .i64 k ∧ r = .int .i64 z ∧ 0 ≤ z ∧ z ≤ left ∧ (x.length : Int) + sumF zEntry (x.take k) + z = left ∧ Below w.heap.size w wr) (fun _ i _ => x.length - (intOf i).toNat)
    case atStart => exact ⟨0, _, Nat.zero_le _, rfl, rfl, by omega, by omega, by simp [sumF]; omega, Below.refl _ _⟩
    case round =>
      obtain ⟨k, z, hk, rfl, rfl, hz0, hz1, ht, hbr⟩ := hrel
      have HT := Lib.hid ht
      have HB := Lib.hid hbr
      have HXr := Lib.hid (SliceAt.below HX.out goodEntry hbr (Nat.le_refl _))
      clear ht hbr
      by_cases hlt : k < x.length
      · obtain ⟨b, o, cs, rfl, hbw, hat, hd⟩ := sliceAt_cell HXr.out k hlt
        have HC := Lib.hid (szEntry_d (.agg cs.toArray) x[k] z wr ⟨cs, rfl, hat⟩ (HS.out _ (List.getElem_mem hlt)) hz0 (by omega))
        have HK := Lib.hid (sumF_take_succ zEntry x k hlt)
        generalize x[k] = p at *
        generalize hzp : zEntry p = zp at *
        clear hzp
        obtain ⟨a0, a1, ⟨a2_0, a2_1⟩, a3⟩ := p
        obtain ⟨x1, x4, rfl, hr1, hr4⟩ := hat
        have d0 := hd 0 (by decide)
        have d1 := hd 1 (by decide)
        have d2 := hd 2 (by decide)
        have d3 := hd 3 (by decide)
        have d4 := hd 4 (by decide)
        simp only [List.getElem?_cons_zero, List.getElem?_cons_succ, Nat.add_zero] at d0 d1 d2 d3 d4 HC
        clear hd
        go_wp2_with fail
        refine HC.out.mono ?_
        rintro e w2 ⟨r, rfl, hr0, hr1, hb0⟩
        have HB2 := Lib.hid (HB.out.trans (hb0.mono HB.out.size))
        have HR := Lib.hid hr1
        clear hb0 hr1
        by_cases hn2 : r < 0
        · go_wp2_with fail
          go_ret
          exact ⟨-1, rfl, by omega, by omega, HB2.out⟩
        · have hr := HR.out (by omega)
          go_wp2_with fail
          exact ⟨⟨k + 1, _, by omega, by go_num, rfl, by omega, by omega, by rw [HK.out]; have := HT.out; push_cast; omega, HB2.out⟩, by simp [intOf]; omega⟩
      · have HN := Lib.hid (show x.take k = x from List.take_of_length_le (by omega))
        go_wp2
        go_ret
        exact ⟨z, rfl, by omega, fun _ => by have := HT.out; rw [HN.out] at this; omega, HB.out⟩
set_option maxRecDepth 100000 in
set_option maxHeartbeats 1600000 in
theorem eqEntryS_d (v u : Value) (x y : List EntryD) (w : World) (hx : SliceAt (rEntry) 5 0 w v x) (hy : SliceAt (rEntry) 5 0 w u y) :
    Calls Try.prog 14 #[v, u] w fun e w' => e = .returned (.bool (decide (x = y))) ∧ Below w.heap.size w w' := by
  obtain ⟨a, c, rfl, hl⟩ := sliceAt_len hx
  obtain ⟨a2, c2, rfl, hl2⟩ := sliceAt_len hy
  have HX := Lib.hid hx
  have HY := Lib.hid hy
  clear hx hy
  unfold maxLen at hl hl2
  by_cases he : x.length = y.length
  · have hb : ((x.length : Int) == y.length) = true := beq_iff_eq.2 (by omega)
    have hbn : ((x.length : Int) != y.length) = false := by rw [bne_eq_false_iff_eq]; omega
    have HE := Lib.hid he
    clear he
    go_enter Try.func14, Try.ntmps14
    go_wp2
    go_loopw [5] (fun i wr => ∃ k : Nat, k ≤ x.length ∧ i = .int .i64 k ∧ x.take k = y.take k ∧ Below w.heap.size w wr) (fun i _ => x.length - (intOf i).toNat)
    case atStart => exact ⟨0, Nat.zero_le _, rfl, rfl, Below.refl _ _⟩
    case round =>
      obtain ⟨k, hk, rfl, ht, hbr⟩ := hrel
      have HT := Lib.hid ht
      have HB := Lib.hid hbr
      have HXr := Lib.hid (SliceAt.below HX.out goodEntry hbr (Nat.le_refl _))
      have HYr := Lib.hid (SliceAt.below HY.out goodEntry hbr (Nat.le_refl _))
      clear ht hbr
      by_cases hlt : k < x.length
      · have hky : k < y.length := by have := HE.out; omega
        obtain ⟨b, o, cs, rfl, _, hat, hd⟩ := sliceAt_cell HXr.out k hlt
        obtain ⟨b2, o2, cs2, rfl, _, hat2, hd2⟩ := sliceAt_cell HYr.out k hky
        have HS := Lib.hid (take_eq_step x y HE.out k hlt HT.out)
        have HD := Lib.hid (show x[k] ≠ y[k] → ¬ x = y from fun h e => h (by subst e; rfl))
        have HC := Lib.hid (fun w1 hw => eqEntry_d (.agg cs.toArray) (.agg cs2.toArray) x[k] y[k] w1 ⟨cs, rfl, (goodEntry).keep hat (kept_below (B := wr.heap.size) (w' := w1) hw (Nat.le_refl _))⟩ ⟨cs2, rfl, (goodEntry).keep hat2 (kept_below hw (Nat.le_refl _))⟩)
        generalize x[k] = p at *
        generalize y[k] = q at *
        generalize hqq : decide (p = q) = qq at *
        have HQ := Lib.hid (show qq = true → p = q from fun h => by rw [h] at hqq; exact of_decide_eq_true hqq)
        have HQ2 := Lib.hid (show qq = false → p ≠ q from fun h => by rw [h] at hqq; exact of_decide_eq_false hqq)
        clear hqq
        obtain ⟨a0, a1, ⟨a2_0, a2_1⟩, a3⟩ := p
        obtain ⟨b0, b1, ⟨b2_0, b2_1⟩, b3⟩ := q
        obtain ⟨x1, x4, rfl, hr1, hr4⟩ := hat
        obtain ⟨z1, z4, rfl, hs1, hs4⟩ := hat2
        have d0 := hd 0 (by decide)
        have d1 := hd 1 (by decide)
        have d2 := hd 2 (by decide)
        have d3 := hd 3 (by decide)
        have d4 := hd 4 (by decide)
        have q0 := hd2 0 (by decide)
        have q1 := hd2 1 (by decide)
        have q2 := hd2 2 (by decide)
        have q3 := hd2 3 (by decide)
        have q4 := hd2 4 (by decide)
        simp only [List.getElem?_cons_zero, List.getElem?_cons_succ, Nat.add_zero] at d0 d1 d2 d3 d4 q0 q1 q2 q3 q4 HC
        clear hd hd2
        go_wp2
        go_still_tail 8, (by kernel_rfl)
        have HB0 := Lib.hid (show Below wr.heap.size wr wr.drew from ⟨rfl, rfl, rfl, Nat.le_refl _, fun _ _ => rfl⟩)
        have HB1 := Lib.hid (show Below w.heap.size w wr.drew from ⟨HB.out.os, HB.out.tape, HB.out.output, HB.out.size, HB.out.block⟩)
        change wpList _ _ _ _ _ wr.drew
        generalize wr.drew = w1 at *
        go_wp2_with fail
        refine (HC.out _ HB0.out).mono ?_
        rintro e w2 ⟨rfl, hb0⟩
        have HB2 := Lib.hid (HB1.out.trans (hb0.mono HB1.out.size))
        clear hb0
        cases qq with
        | true =>
          have HN := Lib.hid (HS.out (HQ.out rfl))
          go_wp2_with fail
          exact ⟨⟨k + 1, by omega, by go_num, HN.out, HB2.out⟩, by simp [intOf]; omega⟩
        | false =>
          have HN := Lib.hid (HD.out (HQ2.out rfl))
          go_wp2_with fail
          go_ret
          exact ⟨ret_bool (by simp [HN.out]), HB2.out⟩
      · have HN := Lib.hid (show x = y from by
          have h := HT.out
          rw [List.take_of_length_le (by omega), List.take_of_length_le (by have := HE.out; omega)] at h
          exact h)
        go_wp2
        go_ret
        exact ⟨ret_bool (by simp [HN.out]), HB.out⟩
  · have hb : ((x.length : Int) == y.length) = false := beq_eq_false_iff_ne.2 (by omega)
    have hbn : ((x.length : Int) != y.length) = true := by rw [bne_iff_ne]; omega
    have HN := Lib.hid (show ¬ x = y from fun e => he (by rw [e]))
    clear he
    go_enter Try.func14, Try.ntmps14
    go_wp2
    go_ret
    exact ⟨ret_bool (by simp [HN.out]), Below.refl _ _⟩
end Go.Proofs.Ytbofplofpggdlad
