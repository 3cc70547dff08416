/- Contracts of chapter 2: the abilities of a face, their number; methods of abilities; what is in a list. -/
import Derived.Test.YtlkpinlkbikokaaIsEntryLawM0
import Derived.WalkKit
import Derived.Lib.Small
import Derived.WalkSpells
import Derived.WalkLawsBesides
import Derived.Lib.Hide
import Derived.Lib.Bytes
import Derived.Deep.QuietTactic
import Derived.BigQuiet
import Derived.StillTailTactics
/- Entry: how it reads, and what the laws' own helpers do with it. Written by gen/deep.py. -/
namespace Go.Proofs.Ytlkpinlkbikokaa
set_option linter.unusedVariables false
set_option linter.unusedSimpArgs false
open Go.RowKit
structure EntryD where
  fName : List UInt8
  fRecipe : List (List UInt8)
  fVersion : VersionD
  fNeeds : List NeedD
deriving DecidableEq
def okEntry (x : EntryD) : Prop := (x.fName.length ≤ maxLen) ∧ (∀ s ∈ x.fRecipe, s.length ≤ maxLen) ∧ (okVersion x.fVersion) ∧ (∀ c ∈ x.fNeeds, okNeed c)
def rEntry : Nat → World → List Value → EntryD → Prop := fun F w cs x => ∃ v1 v4, cs = [.string ⟨x.fName.toArray⟩, v1, .int .i64 x.fVersion.fMajor, .int .i64 x.fVersion.fMinor, v4] ∧ SliceAt rStr 1 F w v1 x.fRecipe ∧ SliceAt (rFlat cNeed) 4 F w v4 x.fNeeds
theorem goodEntry : Good rEntry 5 := by
  refine ⟨?_, ?_, ?_⟩
  · rintro F w cs x ⟨v1, v4, rfl, h1, h4⟩; rfl
  · rintro F w w' cs x ⟨v1, v4, rfl, h1, h4⟩ hk; exact ⟨v1, v4, rfl, h1.keep good_str hk, h4.keep (good_flat cNeed_len) hk⟩
  · rintro F F' w cs x ⟨v1, v4, rfl, h1, h4⟩ hF; exact ⟨v1, v4, rfl, h1.mono good_str hF, h4.mono (good_flat cNeed_len) hF⟩
def zEntry (x : EntryD) : Nat := x.fName.length + (x.fRecipe.length + sumF List.length x.fRecipe) + (x.fNeeds.length + sumF zNeed x.fNeeds)
set_option maxRecDepth 100000 in
set_option maxHeartbeats 1600000 in
theorem toEntry_d (v : Value) (x : EntryD) (w : World) (hx : ValAt rEntry 0 w v x) (hm : zEntry x ≤ 2097152) : Calls Try.prog 26 #[v] w fun e w' => GivesV rEntry x w e w' := by
  obtain ⟨_, rfl, hx⟩ := hx
  obtain ⟨a0, a1, ⟨a2_0, a2_1⟩, a3⟩ := x
  obtain ⟨v1, v4, rfl, h1, h4⟩ := hx
  simp only at h1 h4
  simp only [zEntry] at hm
  have HM := Lib.hid hm
  obtain ⟨ra1, rc1, rfl, _⟩ := sliceAt_len h1
  obtain ⟨ra4, rc4, rfl, _⟩ := sliceAt_len h4
  have H1 := Lib.hid h1
  have H4 := Lib.hid h4
  clear hm h1 h4
  have HS := Lib.hid (bx_start3 w [.string ⟨a0.toArray⟩, .slice ra1 a1.length rc1, .int .i64 a2_0, .int .i64 a2_1, .slice ra4 a3.length rc4] [.string ⟨#[]⟩, .slice none 0 0, .int .i64 0, .int .i64 0, .slice none 0 0] [.string ⟨a0.toArray⟩, .slice none 0 0, .int .i64 0, .int .i64 0, .slice none 0 0] 56 62 62)
  have BA := Lib.hid HS.out.1
  have BB := Lib.hid HS.out.2.1
  have BC := Lib.hid HS.out.2.2.1
  have HB := Lib.hid HS.out.2.2.2
  clear HS
  go_enter Try.func26, Try.ntmps26
  go_wp2_with fail
  generalize ((w.alloc (.cells #[.string ⟨a0.toArray⟩, .slice ra1 a1.length rc1, .int .i64 a2_0, .int .i64 a2_1, .slice ra4 a3.length rc4] 56)).alloc (.cells #[.string ⟨#[]⟩, .slice none 0 0, .int .i64 0, .int .i64 0, .slice none 0 0] 62)).alloc (.cells #[.string ⟨a0.toArray⟩, .slice none 0 0, .int .i64 0, .int .i64 0, .slice none 0 0] 62) = X1 at *
  refine (toStringS_d _ a1 _ (H1.out.below good_str HB.out (Nat.le_refl _)) (by have := HM.out; omega)).mono ?_
  rintro e w1 ⟨u1, rfl, hr1, hb⟩
  have hX : w.heap.size + 3 ≤ X1.heap.size := by have := BC.out.lt; omega
  have R1 := Lib.hid (hr1.mono good_str hX)
  obtain ⟨p1, q1, rfl, _⟩ := sliceAt_len hr1
  clear hr1
  have BA := Lib.hid (BA.out.below hb)
  have BB := Lib.hid (BB.out.below hb)
  have BC := Lib.hid (BC.out.below hb)
  have HB := Lib.hid (belS (w := w) HB.out hb)
  clear hb hX
  have eA0 := BA.out.cell 0 (by simp)
  have eA1 := BA.out.cell 1 (by simp)
  have eA2 := BA.out.cell 2 (by simp)
  have eA3 := BA.out.cell 3 (by simp)
  have eA4 := BA.out.cell 4 (by simp)
  simp only [List.getElem_cons_zero, List.getElem_cons_succ, List.set_cons_zero, List.set_cons_succ] at eA0 eA1 eA2 eA3 eA4
  have eC0 := BC.out.cell 0 (by simp)
  have fC0 := BC.out.froz 0 (by simp)
  have eC1 := BC.out.cell 1 (by simp)
  have fC1 := BC.out.froz 1 (by simp)
  have eC2 := BC.out.cell 2 (by simp)
  have fC2 := BC.out.froz 2 (by simp)
  have eC3 := BC.out.cell 3 (by simp)
  have fC3 := BC.out.froz 3 (by simp)
  have eC4 := BC.out.cell 4 (by simp)
  have fC4 := BC.out.froz 4 (by simp)
  simp only [List.getElem_cons_zero, List.getElem_cons_succ, List.set_cons_zero, List.set_cons_succ] at eC0 eC1 eC2 eC3 eC4
  go_wp2_with fail
  clear eA0 eA1 eA2 eA3 eA4
  clear eC0 fC0 eC1 fC1 eC2 fC2 eC3 fC3 eC4 fC4
  have BC := Lib.hid (BC.out.set 1 (by simp) (.slice p1 a1.length q1))
  have BA := Lib.hid (BA.out.other (c := w.heap.size + 1 + 1) (by omega) 1 (.slice p1 a1.length q1))
  have BB := Lib.hid (BB.out.other (c := w.heap.size + 1 + 1) (by omega) 1 (.slice p1 a1.length q1))
  have HB := Lib.hid (HB.out.setCell (p := ⟨w.heap.size + 1 + 1, 1, none⟩) (by simp; try omega) (.slice p1 a1.length q1))
  have R1 := Lib.hid (R1.out.keep good_str ((Kept.refl _ _).setCell (p := ⟨w.heap.size + 1 + 1, 1, none⟩) (by simp) (.slice p1 a1.length q1)))
  simp only [List.set_cons_zero, List.set_cons_succ] at BC
  generalize (w1).setCell ⟨w.heap.size + 1 + 1, 1, none⟩ (.slice p1 a1.length q1) = X2 at *
  have HF2 := Lib.hid (fun w0 => toVersion_any (⟨a2_0, a2_1⟩ : VersionD) w0)
  simp only [vVersion] at HF2
  refine (HF2.out _).mono ?_
  rintro e w2 ⟨rfl, hb⟩
  have hX : w.heap.size + 3 ≤ X2.heap.size := by have := BC.out.lt; omega
  have R1 := Lib.hid (R1.out.keep good_str (kept_below hb (Nat.le_refl _)))
  have BA := Lib.hid (BA.out.below hb)
  have BB := Lib.hid (BB.out.below hb)
  have BC := Lib.hid (BC.out.below hb)
  have HB := Lib.hid (belS (w := w) HB.out hb)
  clear hb hX
  have eA0 := BA.out.cell 0 (by simp)
  have eA1 := BA.out.cell 1 (by simp)
  have eA2 := BA.out.cell 2 (by simp)
  have eA3 := BA.out.cell 3 (by simp)
  have eA4 := BA.out.cell 4 (by simp)
  simp only [List.getElem_cons_zero, List.getElem_cons_succ, List.set_cons_zero, List.set_cons_succ] at eA0 eA1 eA2 eA3 eA4
  have eC0 := BC.out.cell 0 (by simp)
  have fC0 := BC.out.froz 0 (by simp)
  have eC1 := BC.out.cell 1 (by simp)
  have fC1 := BC.out.froz 1 (by simp)
  have eC2 := BC.out.cell 2 (by simp)
  have fC2 := BC.out.froz 2 (by simp)
  have eC3 := BC.out.cell 3 (by simp)
  have fC3 := BC.out.froz 3 (by simp)
  have eC4 := BC.out.cell 4 (by simp)
  have fC4 := BC.out.froz 4 (by simp)
  simp only [List.getElem_cons_zero, List.getElem_cons_succ, List.set_cons_zero, List.set_cons_succ] at eC0 eC1 eC2 eC3 eC4
  go_wp2_with fail
  clear eA0 eA1 eA2 eA3 eA4
  clear eC0 fC0 eC1 fC1 eC2 fC2 eC3 fC3 eC4 fC4
  have BC := Lib.hid (BC.out.set 2 (by simp) (.int .i64 a2_0))
  have BA := Lib.hid (BA.out.other (c := w.heap.size + 1 + 1) (by omega) 2 (.int .i64 a2_0))
  have BB := Lib.hid (BB.out.other (c := w.heap.size + 1 + 1) (by omega) 2 (.int .i64 a2_0))
  have HB := Lib.hid (HB.out.setCell (p := ⟨w.heap.size + 1 + 1, 2, none⟩) (by simp; try omega) (.int .i64 a2_0))
  have BC := Lib.hid (BC.out.set 3 (by simp) (.int .i64 a2_1))
  have BA := Lib.hid (BA.out.other (c := w.heap.size + 1 + 1) (by omega) 3 (.int .i64 a2_1))
  have BB := Lib.hid (BB.out.other (c := w.heap.size + 1 + 1) (by omega) 3 (.int .i64 a2_1))
  have HB := Lib.hid (HB.out.setCell (p := ⟨w.heap.size + 1 + 1, 3, none⟩) (by simp; try omega) (.int .i64 a2_1))
  have R1 := Lib.hid (R1.out.keep good_str (((Kept.refl _ _).setCell (p := ⟨w.heap.size + 1 + 1, 2, none⟩) (by simp) (.int .i64 a2_0)).setCell (p := ⟨w.heap.size + 1 + 1, 3, none⟩) (by simp) (.int .i64 a2_1)))
  simp only [List.set_cons_zero, List.set_cons_succ] at BC
  generalize ((w2).setCell ⟨w.heap.size + 1 + 1, 2, none⟩ (.int .i64 a2_0)).setCell ⟨w.heap.size + 1 + 1, 3, none⟩ (.int .i64 a2_1) = X3 at *
  refine (toNeedS_d _ a3 _ (H4.out.below (good_flat cNeed_len) HB.out (Nat.le_refl _)) (by have := HM.out; omega)).mono ?_
  rintro e w3 ⟨u4, rfl, hr4, hb⟩
  have hX : w.heap.size + 3 ≤ X3.heap.size := by have := BC.out.lt; omega
  have R1 := Lib.hid (R1.out.keep good_str (kept_below hb (Nat.le_refl _)))
  have R4 := Lib.hid (hr4.mono (good_flat cNeed_len) hX)
  obtain ⟨p4, q4, rfl, _⟩ := sliceAt_len hr4
  clear hr4
  have BA := Lib.hid (BA.out.below hb)
  have BB := Lib.hid (BB.out.below hb)
  have BC := Lib.hid (BC.out.below hb)
  have HB := Lib.hid (belS (w := w) HB.out hb)
  clear hb hX
  have eA0 := BA.out.cell 0 (by simp)
  have eA1 := BA.out.cell 1 (by simp)
  have eA2 := BA.out.cell 2 (by simp)
  have eA3 := BA.out.cell 3 (by simp)
  have eA4 := BA.out.cell 4 (by simp)
  simp only [List.getElem_cons_zero, List.getElem_cons_succ, List.set_cons_zero, List.set_cons_succ] at eA0 eA1 eA2 eA3 eA4
  have eC0 := BC.out.cell 0 (by simp)
  have fC0 := BC.out.froz 0 (by simp)
  have eC1 := BC.out.cell 1 (by simp)
  have fC1 := BC.out.froz 1 (by simp)
  have eC2 := BC.out.cell 2 (by simp)
  have fC2 := BC.out.froz 2 (by simp)
  have eC3 := BC.out.cell 3 (by simp)
  have fC3 := BC.out.froz 3 (by simp)
  have eC4 := BC.out.cell 4 (by simp)
  have fC4 := BC.out.froz 4 (by simp)
  simp only [List.getElem_cons_zero, List.getElem_cons_succ, List.set_cons_zero, List.set_cons_succ] at eC0 eC1 eC2 eC3 eC4
  have eB0 := BB.out.cell 0 (by simp)
  have fB0 := BB.out.froz 0 (by simp)
  have eB1 := BB.out.cell 1 (by simp)
  have fB1 := BB.out.froz 1 (by simp)
  have eB2 := BB.out.cell 2 (by simp)
  have fB2 := BB.out.froz 2 (by simp)
  have eB3 := BB.out.cell 3 (by simp)
  have fB3 := BB.out.froz 3 (by simp)
  have eB4 := BB.out.cell 4 (by simp)
  have fB4 := BB.out.froz 4 (by simp)
  simp only [List.getElem_cons_zero, List.getElem_cons_succ, List.set_cons_zero, List.set_cons_succ] at eB0 eB1 eB2 eB3 eB4
  go_wp2_with fail
  clear eA0 eA1 eA2 eA3 eA4
  clear eC0 fC0 eC1 fC1 eC2 fC2 eC3 fC3 eC4 fC4
  clear eB0 fB0 eB1 fB1 eB2 fB2 eB3 fB3 eB4 fB4
  have BC := Lib.hid (BC.out.set 4 (by simp) (.slice p4 a3.length q4))
  have BA := Lib.hid (BA.out.other (c := w.heap.size + 1 + 1) (by omega) 4 (.slice p4 a3.length q4))
  have BB := Lib.hid (BB.out.other (c := w.heap.size + 1 + 1) (by omega) 4 (.slice p4 a3.length q4))
  have HB := Lib.hid (HB.out.setCell (p := ⟨w.heap.size + 1 + 1, 4, none⟩) (by simp; try omega) (.slice p4 a3.length q4))
  have R1 := Lib.hid (R1.out.keep good_str ((Kept.refl _ _).setCell (p := ⟨w.heap.size + 1 + 1, 4, none⟩) (by simp) (.slice p4 a3.length q4)))
  have R4 := Lib.hid (R4.out.keep (good_flat cNeed_len) ((Kept.refl _ _).setCell (p := ⟨w.heap.size + 1 + 1, 4, none⟩) (by simp) (.slice p4 a3.length q4)))
  simp only [List.set_cons_zero, List.set_cons_succ] at BC
  have BB := Lib.hid (BB.out.set 0 (by simp) (.string ⟨a0.toArray⟩))
  have HB := Lib.hid (HB.out.setCell (p := ⟨w.heap.size + 1, 0, none⟩) (by simp; try omega) (.string ⟨a0.toArray⟩))
  have BB := Lib.hid (BB.out.set 1 (by simp) (.slice p1 a1.length q1))
  have HB := Lib.hid (HB.out.setCell (p := ⟨w.heap.size + 1, 1, none⟩) (by simp; try omega) (.slice p1 a1.length q1))
  have BB := Lib.hid (BB.out.set 2 (by simp) (.int .i64 a2_0))
  have HB := Lib.hid (HB.out.setCell (p := ⟨w.heap.size + 1, 2, none⟩) (by simp; try omega) (.int .i64 a2_0))
  have BB := Lib.hid (BB.out.set 3 (by simp) (.int .i64 a2_1))
  have HB := Lib.hid (HB.out.setCell (p := ⟨w.heap.size + 1, 3, none⟩) (by simp; try omega) (.int .i64 a2_1))
  have BB := Lib.hid (BB.out.set 4 (by simp) (.slice p4 a3.length q4))
  have HB := Lib.hid (HB.out.setCell (p := ⟨w.heap.size + 1, 4, none⟩) (by simp; try omega) (.slice p4 a3.length q4))
  have R1 := Lib.hid ((R1.out.keep good_str ((((((Kept.refl _ _).setCell (p := ⟨w.heap.size + 1, 0, none⟩) (by simp) (.string ⟨a0.toArray⟩)).setCell (p := ⟨w.heap.size + 1, 1, none⟩) (by simp) (.slice p1 a1.length q1)).setCell (p := ⟨w.heap.size + 1, 2, none⟩) (by simp) (.int .i64 a2_0)).setCell (p := ⟨w.heap.size + 1, 3, none⟩) (by simp) (.int .i64 a2_1)).setCell (p := ⟨w.heap.size + 1, 4, none⟩) (by simp) (.slice p4 a3.length q4))).mono good_str (show w.heap.size ≤ w.heap.size + 3 by omega))
  have R4 := Lib.hid ((R4.out.keep (good_flat cNeed_len) ((((((Kept.refl _ _).setCell (p := ⟨w.heap.size + 1, 0, none⟩) (by simp) (.string ⟨a0.toArray⟩)).setCell (p := ⟨w.heap.size + 1, 1, none⟩) (by simp) (.slice p1 a1.length q1)).setCell (p := ⟨w.heap.size + 1, 2, none⟩) (by simp) (.int .i64 a2_0)).setCell (p := ⟨w.heap.size + 1, 3, none⟩) (by simp) (.int .i64 a2_1)).setCell (p := ⟨w.heap.size + 1, 4, none⟩) (by simp) (.slice p4 a3.length q4))).mono (good_flat cNeed_len) (show w.heap.size ≤ w.heap.size + 3 by omega))
  simp only [List.set_cons_zero, List.set_cons_succ] at BB
  generalize ((((((w3).setCell ⟨w.heap.size + 1 + 1, 4, none⟩ (.slice p4 a3.length q4)).setCell ⟨w.heap.size + 1, 0, none⟩ (.string ⟨a0.toArray⟩)).setCell ⟨w.heap.size + 1, 1, none⟩ (.slice p1 a1.length q1)).setCell ⟨w.heap.size + 1, 2, none⟩ (.int .i64 a2_0)).setCell ⟨w.heap.size + 1, 3, none⟩ (.int .i64 a2_1)).setCell ⟨w.heap.size + 1, 4, none⟩ (.slice p4 a3.length q4) = WE at *
  have eB0 := BB.out.cell 0 (by simp)
  have eB1 := BB.out.cell 1 (by simp)
  have eB2 := BB.out.cell 2 (by simp)
  have eB3 := BB.out.cell 3 (by simp)
  have eB4 := BB.out.cell 4 (by simp)
  simp only [List.getElem_cons_zero, List.getElem_cons_succ, List.set_cons_zero, List.set_cons_succ] at eB0 eB1 eB2 eB3 eB4
  exact bodyPost_ret (v := .agg #[.string ⟨a0.toArray⟩, .slice p1 a1.length q1, .int .i64 a2_0, .int .i64 a2_1, .slice p4 a3.length q4]) (by simp [results, Try.results26, go_sem, eB0, eB1, eB2, eB3, eB4]) rfl ⟨_, rfl, ⟨_, _, rfl, R1.out, R4.out⟩, HB.out⟩
set_option maxRecDepth 100000 in
set_option maxHeartbeats 1600000 in
theorem szEntry_d (v : Value) (x : EntryD) (left : Int) (w : World) (hx : ValAt rEntry 0 w v x) (hk : okEntry x) (h0 : 0 ≤ left) (h1 : left ≤ 1099511627776) : Calls Try.prog 24 #[v, .int .i64 left] w fun e w' => SzF (zEntry x) left w e w' := by
  obtain ⟨_, rfl, hx⟩ := hx
  obtain ⟨a0, a1, ⟨a2_0, a2_1⟩, a3⟩ := x
  obtain ⟨v1, v4, rfl, hr1, hr4⟩ := hx
  simp only at hr1 hr4
  unfold okEntry at hk
  simp only at hk
  simp only [zEntry]
  have HK := Lib.hid hk
  obtain ⟨ra1, rc1, rfl, _⟩ := sliceAt_len hr1
  obtain ⟨ra4, rc4, rfl, _⟩ := sliceAt_len hr4
  have H1 := Lib.hid hr1
  have H4 := Lib.hid hr4
  clear hk hr1 hr4
  have HS := Lib.hid (bx_start1 w [.string ⟨a0.toArray⟩, .slice ra1 a1.length rc1, .int .i64 a2_0, .int .i64 a2_1, .slice ra4 a3.length rc4] 56)
  have BA := Lib.hid HS.out.1
  have HB := Lib.hid HS.out.2
  clear HS
  go_enter Try.func24, Try.ntmps24
  have HZ0 := Lib.hid (size_strB a0)
  have hl0 : a0.length ≤ 9223372036854775807 := by have h := HK.out.1; unfold maxLen at h; exact h
  by_cases hn0 : left - (a0.length : Int) < 0
  · go_wp2_with fail
    go_ret
    exact ⟨-1, rfl, by omega, by omega, HB.out⟩
  · skip
    go_wp2_with fail
    generalize w.alloc (.cells #[.string ⟨a0.toArray⟩, .slice ra1 a1.length rc1, .int .i64 a2_0, .int .i64 a2_1, .slice ra4 a3.length rc4] 56) = X1 at *
    refine (szStringS_d _ a1 _ _ (H1.out.below good_str HB.out (Nat.le_refl _)) HK.out.2.1 (by omega) (by omega)).mono ?_
    rintro e w1 ⟨r1, rfl, hra1, hrb1, hb⟩
    have HR1 := Lib.hid hrb1
    have HB := Lib.hid (belS (w := w) HB.out hb)
    have BA := Lib.hid (BA.out.below hb)
    clear hb hrb1
    have eA0 := BA.out.cell 0 (by simp)
    have eA1 := BA.out.cell 1 (by simp)
    have eA2 := BA.out.cell 2 (by simp)
    have eA3 := BA.out.cell 3 (by simp)
    have eA4 := BA.out.cell 4 (by simp)
    simp only [List.getElem_cons_zero, List.getElem_cons_succ, List.set_cons_zero, List.set_cons_succ] at eA0 eA1 eA2 eA3 eA4
    by_cases hn1 : r1 < 0
    · go_wp2_with fail
      go_ret
      exact ⟨-1, rfl, by omega, by omega, HB.out⟩
    · have hs1 := HR1.out (by omega)
      go_wp2_with fail
      clear eA0 eA1 eA2 eA3 eA4
      refine (szNeedS_d _ a3 _ _ (H4.out.below (good_flat cNeed_len) HB.out (Nat.le_refl _)) HK.out.2.2.2 (by omega) (by omega)).mono ?_
      rintro e w2 ⟨r3, rfl, hra3, hrb3, hb⟩
      have HR3 := Lib.hid hrb3
      have HB := Lib.hid (belS (w := w) HB.out hb)
      have BA := Lib.hid (BA.out.below hb)
      clear hb hrb3
      have eA0 := BA.out.cell 0 (by simp)
      have eA1 := BA.out.cell 1 (by simp)
      have eA2 := BA.out.cell 2 (by simp)
      have eA3 := BA.out.cell 3 (by simp)
      have eA4 := BA.out.cell 4 (by simp)
      simp only [List.getElem_cons_zero, List.getElem_cons_succ, List.set_cons_zero, List.set_cons_succ] at eA0 eA1 eA2 eA3 eA4
      by_cases hn3 : r3 < 0
      · go_wp2_with fail
        go_ret
        exact ⟨-1, rfl, by omega, by omega, HB.out⟩
      · have hs3 := HR3.out (by omega)
        go_wp2_with fail
        go_ret
        exact ⟨_, rfl, by omega, by intro _; push_cast; omega, HB.out⟩
set_option maxRecDepth 100000 in
set_option maxHeartbeats 1600000 in
theorem eqEntry_d (v u : Value) (x y : EntryD) (w : World) (hx : ValAt rEntry 0 w v x) (hy : ValAt rEntry 0 w u y) : Calls Try.prog 28 #[v, u] w fun e w' => e = .returned (.bool (decide (x = y))) ∧ Below w.heap.size w w' := by
  have HQ := Lib.hid (show decide (x = y) = (decide (x.fName = y.fName) && decide (x.fRecipe = y.fRecipe) && decide (x.fVersion = y.fVersion) && decide (x.fNeeds = y.fNeeds)) by rw [Bool.eq_iff_iff]; cases x; cases y; simp [and_assoc])
  obtain ⟨_, rfl, hx⟩ := hx
  obtain ⟨a0, a1, ⟨a2_0, a2_1⟩, a3⟩ := x
  obtain ⟨v1, v4, rfl, hv1, hv4⟩ := hx
  simp only at hv1 hv4
  obtain ⟨_, rfl, hy⟩ := hy
  obtain ⟨b0, b1, ⟨b2_0, b2_1⟩, b3⟩ := y
  obtain ⟨u1, u4, rfl, hu1, hu4⟩ := hy
  simp only at hu1 hu4
  simp only at HQ
  obtain ⟨ra1, rc1, rfl, _⟩ := sliceAt_len hv1
  obtain ⟨ra4, rc4, rfl, _⟩ := sliceAt_len hv4
  obtain ⟨sa1, sc1, rfl, _⟩ := sliceAt_len hu1
  obtain ⟨sa4, sc4, rfl, _⟩ := sliceAt_len hu4
  have HV1 := Lib.hid hv1
  have HU1 := Lib.hid hu1
  have HV4 := Lib.hid hv4
  have HU4 := Lib.hid hu4
  clear hv1 hu1 hv4 hu4
  have HC1 := Lib.hid (fun w0 (hw : Below w.heap.size w w0) => eqStringS_d _ _ a1 b1 w0 (HV1.out.below good_str hw (Nat.le_refl _)) (HU1.out.below good_str hw (Nat.le_refl _)))
  generalize decide (a1 = b1) = p1 at *
  have HC2 := Lib.hid (fun w0 (hw : Below w.heap.size w w0) => eqVersion_any (⟨a2_0, a2_1⟩ : VersionD) (⟨b2_0, b2_1⟩ : VersionD) w0)
  simp only [vVersion] at HC2
  generalize decide ((⟨a2_0, a2_1⟩ : VersionD) = (⟨b2_0, b2_1⟩ : VersionD)) = p2 at *
  have HC3 := Lib.hid (fun w0 (hw : Below w.heap.size w w0) => eqNeedS_d _ _ a3 b3 w0 (HV4.out.below (good_flat cNeed_len) hw (Nat.le_refl _)) (HU4.out.below (good_flat cNeed_len) hw (Nat.le_refl _)))
  generalize decide (a3 = b3) = p3 at *
  generalize hq : decide ((⟨a0, a1, ⟨a2_0, a2_1⟩, a3⟩ : EntryD) = (⟨b0, b1, ⟨b2_0, b2_1⟩, b3⟩ : EntryD)) = q at *
  clear hq
  have HS := Lib.hid (bx_start2 w [.string ⟨a0.toArray⟩, .slice ra1 a1.length rc1, .int .i64 a2_0, .int .i64 a2_1, .slice ra4 a3.length rc4] [.string ⟨b0.toArray⟩, .slice sa1 b1.length sc1, .int .i64 b2_0, .int .i64 b2_1, .slice sa4 b3.length sc4] 62 62)
  by_cases h0 : a0 = b0
  · subst h0
    cases p1 with
    | true =>
      cases p2 with
      | true =>
        cases p3 with
        | true =>
          have HF := Lib.hid (show q = true from by rw [HQ.out]; simp)
          go_enter Try.func28, Try.ntmps28
          have BA := Lib.hid HS.out.1
          have BB := Lib.hid HS.out.2.1
          have HB := Lib.hid HS.out.2.2
          go_wp2_with fail
          refine (HC1.out _ HB.out).mono ?_
          rintro e w1 ⟨rfl, hb⟩
          have HB := Lib.hid (belS (w := w) HB.out hb)
          have BA := Lib.hid (BA.out.below hb)
          have BB := Lib.hid (BB.out.below hb)
          clear hb
          have eA0 := BA.out.cell 0 (by simp)
          have eB0 := BB.out.cell 0 (by simp)
          have eA1 := BA.out.cell 1 (by simp)
          have eB1 := BB.out.cell 1 (by simp)
          have eA2 := BA.out.cell 2 (by simp)
          have eB2 := BB.out.cell 2 (by simp)
          have eA3 := BA.out.cell 3 (by simp)
          have eB3 := BB.out.cell 3 (by simp)
          have eA4 := BA.out.cell 4 (by simp)
          have eB4 := BB.out.cell 4 (by simp)
          simp only [List.getElem_cons_zero, List.getElem_cons_succ, List.set_cons_zero, List.set_cons_succ] at eA0 eB0 eA1 eB1 eA2 eB2 eA3 eB3 eA4 eB4
          go_wp2_with fail
          clear eA0 eB0 eA1 eB1 eA2 eB2 eA3 eB3 eA4 eB4
          refine (HC2.out _ HB.out).mono ?_
          rintro e w2 ⟨rfl, hb⟩
          have HB := Lib.hid (belS (w := w) HB.out hb)
          have BA := Lib.hid (BA.out.below hb)
          have BB := Lib.hid (BB.out.below hb)
          clear hb
          have eA0 := BA.out.cell 0 (by simp)
          have eB0 := BB.out.cell 0 (by simp)
          have eA1 := BA.out.cell 1 (by simp)
          have eB1 := BB.out.cell 1 (by simp)
          have eA2 := BA.out.cell 2 (by simp)
          have eB2 := BB.out.cell 2 (by simp)
          have eA3 := BA.out.cell 3 (by simp)
          have eB3 := BB.out.cell 3 (by simp)
          have eA4 := BA.out.cell 4 (by simp)
          have eB4 := BB.out.cell 4 (by simp)
          simp only [List.getElem_cons_zero, List.getElem_cons_succ, List.set_cons_zero, List.set_cons_succ] at eA0 eB0 eA1 eB1 eA2 eB2 eA3 eB3 eA4 eB4
          go_wp2_with fail
          clear eA0 eB0 eA1 eB1 eA2 eB2 eA3 eB3 eA4 eB4
          refine (HC3.out _ HB.out).mono ?_
          rintro e w3 ⟨rfl, hb⟩
          have HB := Lib.hid (belS (w := w) HB.out hb)
          have BA := Lib.hid (BA.out.below hb)
          have BB := Lib.hid (BB.out.below hb)
          clear hb
          have eA0 := BA.out.cell 0 (by simp)
          have eB0 := BB.out.cell 0 (by simp)
          have eA1 := BA.out.cell 1 (by simp)
          have eB1 := BB.out.cell 1 (by simp)
          have eA2 := BA.out.cell 2 (by simp)
          have eB2 := BB.out.cell 2 (by simp)
          have eA3 := BA.out.cell 3 (by simp)
          have eB3 := BB.out.cell 3 (by simp)
          have eA4 := BA.out.cell 4 (by simp)
          have eB4 := BB.out.cell 4 (by simp)
          simp only [List.getElem_cons_zero, List.getElem_cons_succ, List.set_cons_zero, List.set_cons_succ] at eA0 eB0 eA1 eB1 eA2 eB2 eA3 eB3 eA4 eB4
          go_wp2_with fail
          go_ret
          exact ⟨ret_bool HF.out.symm, HB.out⟩
        | false =>
          have HF := Lib.hid (show q = false from by rw [HQ.out]; simp)
          go_enter Try.func28, Try.ntmps28
          have BA := Lib.hid HS.out.1
          have BB := Lib.hid HS.out.2.1
          have HB := Lib.hid HS.out.2.2
          go_wp2_with fail
          refine (HC1.out _ HB.out).mono ?_
          rintro e w1 ⟨rfl, hb⟩
          have HB := Lib.hid (belS (w := w) HB.out hb)
          have BA := Lib.hid (BA.out.below hb)
          have BB := Lib.hid (BB.out.below hb)
          clear hb
          have eA0 := BA.out.cell 0 (by simp)
          have eB0 := BB.out.cell 0 (by simp)
          have eA1 := BA.out.cell 1 (by simp)
          have eB1 := BB.out.cell 1 (by simp)
          have eA2 := BA.out.cell 2 (by simp)
          have eB2 := BB.out.cell 2 (by simp)
          have eA3 := BA.out.cell 3 (by simp)
          have eB3 := BB.out.cell 3 (by simp)
          have eA4 := BA.out.cell 4 (by simp)
          have eB4 := BB.out.cell 4 (by simp)
          simp only [List.getElem_cons_zero, List.getElem_cons_succ, List.set_cons_zero, List.set_cons_succ] at eA0 eB0 eA1 eB1 eA2 eB2 eA3 eB3 eA4 eB4
          go_wp2_with fail
          clear eA0 eB0 eA1 eB1 eA2 eB2 eA3 eB3 eA4 eB4
          refine (HC2.out _ HB.out).mono ?_
          rintro e w2 ⟨rfl, hb⟩
          have HB := Lib.hid (belS (w := w) HB.out hb)
          have BA := Lib.hid (BA.out.below hb)
          have BB := Lib.hid (BB.out.below hb)
          clear hb
          have eA0 := BA.out.cell 0 (by simp)
          have eB0 := BB.out.cell 0 (by simp)
          have eA1 := BA.out.cell 1 (by simp)
          have eB1 := BB.out.cell 1 (by simp)
          have eA2 := BA.out.cell 2 (by simp)
          have eB2 := BB.out.cell 2 (by simp)
          have eA3 := BA.out.cell 3 (by simp)
          have eB3 := BB.out.cell 3 (by simp)
          have eA4 := BA.out.cell 4 (by simp)
          have eB4 := BB.out.cell 4 (by simp)
          simp only [List.getElem_cons_zero, List.getElem_cons_succ, List.set_cons_zero, List.set_cons_succ] at eA0 eB0 eA1 eB1 eA2 eB2 eA3 eB3 eA4 eB4
          go_wp2_with fail
          clear eA0 eB0 eA1 eB1 eA2 eB2 eA3 eB3 eA4 eB4
          refine (HC3.out _ HB.out).mono ?_
          rintro e w3 ⟨rfl, hb⟩
          have HB := Lib.hid (belS (w := w) HB.out hb)
          have BA := Lib.hid (BA.out.below hb)
          have BB := Lib.hid (BB.out.below hb)
          clear hb
          have eA0 := BA.out.cell 0 (by simp)
          have eB0 := BB.out.cell 0 (by simp)
          have eA1 := BA.out.cell 1 (by simp)
          have eB1 := BB.out.cell 1 (by simp)
          have eA2 := BA.out.cell 2 (by simp)
          have eB2 := BB.out.cell 2 (by simp)
          have eA3 := BA.out.cell 3 (by simp)
          have eB3 := BB.out.cell 3 (by simp)
          have eA4 := BA.out.cell 4 (by simp)
          have eB4 := BB.out.cell 4 (by simp)
          simp only [List.getElem_cons_zero, List.getElem_cons_succ, List.set_cons_zero, List.set_cons_succ] at eA0 eB0 eA1 eB1 eA2 eB2 eA3 eB3 eA4 eB4
          go_wp2_with fail
          go_ret
          exact ⟨ret_bool HF.out.symm, HB.out⟩
      | false =>
        have HF := Lib.hid (show q = false from by rw [HQ.out]; simp)
        go_enter Try.func28, Try.ntmps28
        have BA := Lib.hid HS.out.1
        have BB := Lib.hid HS.out.2.1
        have HB := Lib.hid HS.out.2.2
        go_wp2_with fail
        refine (HC1.out _ HB.out).mono ?_
        rintro e w1 ⟨rfl, hb⟩
        have HB := Lib.hid (belS (w := w) HB.out hb)
        have BA := Lib.hid (BA.out.below hb)
        have BB := Lib.hid (BB.out.below hb)
        clear hb
        have eA0 := BA.out.cell 0 (by simp)
        have eB0 := BB.out.cell 0 (by simp)
        have eA1 := BA.out.cell 1 (by simp)
        have eB1 := BB.out.cell 1 (by simp)
        have eA2 := BA.out.cell 2 (by simp)
        have eB2 := BB.out.cell 2 (by simp)
        have eA3 := BA.out.cell 3 (by simp)
        have eB3 := BB.out.cell 3 (by simp)
        have eA4 := BA.out.cell 4 (by simp)
        have eB4 := BB.out.cell 4 (by simp)
        simp only [List.getElem_cons_zero, List.getElem_cons_succ, List.set_cons_zero, List.set_cons_succ] at eA0 eB0 eA1 eB1 eA2 eB2 eA3 eB3 eA4 eB4
        go_wp2_with fail
        clear eA0 eB0 eA1 eB1 eA2 eB2 eA3 eB3 eA4 eB4
        refine (HC2.out _ HB.out).mono ?_
        rintro e w2 ⟨rfl, hb⟩
        have HB := Lib.hid (belS (w := w) HB.out hb)
        have BA := Lib.hid (BA.out.below hb)
        have BB := Lib.hid (BB.out.below hb)
        clear hb
        have eA0 := BA.out.cell 0 (by simp)
        have eB0 := BB.out.cell 0 (by simp)
        have eA1 := BA.out.cell 1 (by simp)
        have eB1 := BB.out.cell 1 (by simp)
        have eA2 := BA.out.cell 2 (by simp)
        have eB2 := BB.out.cell 2 (by simp)
        have eA3 := BA.out.cell 3 (by simp)
        have eB3 := BB.out.cell 3 (by simp)
        have eA4 := BA.out.cell 4 (by simp)
        have eB4 := BB.out.cell 4 (by simp)
        simp only [List.getElem_cons_zero, List.getElem_cons_succ, List.set_cons_zero, List.set_cons_succ] at eA0 eB0 eA1 eB1 eA2 eB2 eA3 eB3 eA4 eB4
        go_wp2_with fail
        go_ret
        exact ⟨ret_bool HF.out.symm, HB.out⟩
    | false =>
      have HF := Lib.hid (show q = false from by rw [HQ.out]; simp)
      go_enter Try.func28, Try.ntmps28
      have BA := Lib.hid HS.out.1
      have BB := Lib.hid HS.out.2.1
      have HB := Lib.hid HS.out.2.2
      go_wp2_with fail
      refine (HC1.out _ HB.out).mono ?_
      rintro e w1 ⟨rfl, hb⟩
      have HB := Lib.hid (belS (w := w) HB.out hb)
      have BA := Lib.hid (BA.out.below hb)
      have BB := Lib.hid (BB.out.below hb)
      clear hb
      have eA0 := BA.out.cell 0 (by simp)
      have eB0 := BB.out.cell 0 (by simp)
      have eA1 := BA.out.cell 1 (by simp)
      have eB1 := BB.out.cell 1 (by simp)
      have eA2 := BA.out.cell 2 (by simp)
      have eB2 := BB.out.cell 2 (by simp)
      have eA3 := BA.out.cell 3 (by simp)
      have eB3 := BB.out.cell 3 (by simp)
      have eA4 := BA.out.cell 4 (by simp)
      have eB4 := BB.out.cell 4 (by simp)
      simp only [List.getElem_cons_zero, List.getElem_cons_succ, List.set_cons_zero, List.set_cons_succ] at eA0 eB0 eA1 eB1 eA2 eB2 eA3 eB3 eA4 eB4
      go_wp2_with fail
      go_ret
      exact ⟨ret_bool HF.out.symm, HB.out⟩
  · have HF := Lib.hid (show q = false from by rw [HQ.out]; simp [h0])
    have hne0 : (a0 == b0) = false := by simpa using h0
    have hnf0 : (a0 != b0) = true := by simpa using h0
    clear h0
    go_enter Try.func28, Try.ntmps28
    have BA := Lib.hid HS.out.1
    have BB := Lib.hid HS.out.2.1
    have HB := Lib.hid HS.out.2.2
    go_wp2_with fail
    go_ret
    exact ⟨ret_bool HF.out.symm, HB.out⟩
theorem infoDEntry : (Try.prog.info? 62).map (fun i => (i.zero, i.size, i.bytes)) = some (some (.agg #[.string ⟨#[]⟩, .slice none 0 0, .int .i64 0, .int .i64 0, .slice none 0 0]), 5, 80) := by kernel_rfl
end Go.Proofs.Ytlkpinlkbikokaa
/- Faces as numbers: the plain side. -/
namespace Go.Proofs.Ytlkpinlkbikokaa
set_option linter.unusedVariables false
open Go.RowKit

def isF (f : Int) : Bool := decide (0 ≤ f ∧ f ≤ 63)
/-- ability k is in f -/
def hasI (f : Int) (k : Nat) : Bool := decide (f / 2 ^ k % 2 = 1)
/-- the face of the abilities below k for which p holds -/
def madeK (p : Nat → Bool) : Nat → Int
  | 0 => 0
  | k + 1 => madeK p k + if p k then 2 ^ k else 0
def bothP (a b : Int) (k : Nat) : Bool := hasI a k && hasI b k
def eitherP (a b : Int) (k : Nat) : Bool := hasI a k || hasI b k
def lackP (want f : Int) (k : Nat) : Bool := hasI want k && !hasI f k
def bothF (a b : Int) : Int := if isF a = true ∧ isF b = true then madeK (bothP a b) 6 else 0
def eitherF (a b : Int) : Int := if isF a = true ∧ isF b = true then madeK (eitherP a b) 6 else 0
def lackF (f want : Int) : Int := if isF f = true ∧ isF want = true then madeK (lackP want f) 6 else 0
def offersF (f want : Int) : Bool := isF f && isF want && (lackF f want == 0)
/-- the first k from k0 on, among n, for which p holds; -1 -/
def findK (p : Nat → Bool) : Nat → Nat → Int
  | _, 0 => -1
  | k, n + 1 => if p k then k else findK p (k + 1) n
theorem findK_yes {p : Nat → Bool} {k n : Nat} (hk : k < n) (h : p k = true) : findK p k (n - k) = k := by
  obtain ⟨m, rfl⟩ : ∃ m, n = k + (m + 1) := ⟨n - k - 1, by omega⟩
  rw [show k + (m + 1) - k = m + 1 by omega, findK, if_pos h]
theorem findK_no {p : Nat → Bool} {k n : Nat} (hk : k < n) (h : p k = false) : findK p k (n - k) = findK p (k + 1) (n - (k + 1)) := by
  obtain ⟨m, rfl⟩ : ∃ m, n = k + (m + 1) := ⟨n - k - 1, by omega⟩
  rw [show k + (m + 1) - k = m + 1 by omega, findK, if_neg (by simp [h]), show k + (m + 1) - (k + 1) = m by omega]
theorem findK_end {p : Nat → Bool} {n : Nat} : findK p n (n - n) = -1 := by rw [Nat.sub_self]; rfl
theorem isF_yes {f : Int} (h : isF f = true) : 0 ≤ f ∧ f ≤ 63 := of_decide_eq_true h
theorem isF_no {f : Int} (h : isF f = false) : f < 0 ∨ 63 < f := by have := of_decide_eq_false h; omega
theorem isF_fin {f : Int} (h : isF f = true) : ∃ F : Fin 64, f = ((F : Nat) : Int) := by
  have := isF_yes h
  exact ⟨⟨f.toNat, by omega⟩, by simp; omega⟩
theorem and_fin : ∀ a b : Fin 64, bits .and .i64 ((a : Nat) : Int) ((b : Nat) : Int) = madeK (bothP (a : Nat) (b : Nat)) 6 := by decide +kernel
theorem or_fin : ∀ a b : Fin 64, bits .or .i64 ((a : Nat) : Int) ((b : Nat) : Int) = madeK (eitherP (a : Nat) (b : Nat)) 6 := by decide +kernel
theorem andNot_fin : ∀ a b : Fin 64, bits .andNot .i64 ((a : Nat) : Int) ((b : Nat) : Int) = madeK (lackP (a : Nat) (b : Nat)) 6 := by decide +kernel
theorem and_eq {a b : Int} (ha : isF a = true) (hb : isF b = true) : bits .and .i64 a b = madeK (bothP a b) 6 := by
  obtain ⟨A, rfl⟩ := isF_fin ha; obtain ⟨B, rfl⟩ := isF_fin hb; exact and_fin A B
theorem or_eq {a b : Int} (ha : isF a = true) (hb : isF b = true) : bits .or .i64 a b = madeK (eitherP a b) 6 := by
  obtain ⟨A, rfl⟩ := isF_fin ha; obtain ⟨B, rfl⟩ := isF_fin hb; exact or_fin A B
theorem andNot_eq {a b : Int} (ha : isF a = true) (hb : isF b = true) : bits .andNot .i64 a b = madeK (lackP a b) 6 := by
  obtain ⟨A, rfl⟩ := isF_fin ha; obtain ⟨B, rfl⟩ := isF_fin hb; exact andNot_fin A B
theorem bit_fin : ∀ a : Fin 64, ∀ k : Fin 6, (bits .and .i64 ((a : Nat) : Int) (2 ^ (k : Nat)) != 0) = hasI (a : Nat) k := by decide +kernel
theorem bit_eq {a : Int} (ha : isF a = true) (k : Nat) (hk : k < 6) : (bits .and .i64 a (2 ^ k) != 0) = hasI a k := by
  obtain ⟨A, rfl⟩ := isF_fin ha; exact bit_fin A ⟨k, hk⟩
theorem madeK_bd (p : Nat → Bool) : ∀ k, 0 ≤ madeK p k ∧ madeK p k < 2 ^ k := by
  intro k
  induction k with
  | zero => simp [madeK]
  | succ k ih =>
    have h : (2 : Int) ^ (k + 1) = 2 ^ k + 2 ^ k := by rw [Int.pow_succ]; omega
    have h0 : (0 : Int) < 2 ^ k := Int.pow_pos (by decide)
    simp only [madeK]; rw [h]
    generalize (2 : Int) ^ k = q at *
    split <;> omega
theorem madeK_6 (p : Nat → Bool) : 0 ≤ madeK p 6 ∧ madeK p 6 ≤ 63 := by have := madeK_bd p 6; omega
theorem madeK_step (p : Nat → Bool) (k : Nat) (h : k < 6) : 0 ≤ madeK p k ∧ madeK p k ≤ 63 := by
  have h1 := madeK_bd p k
  have h2 : (2 : Int) ^ k ≤ 2 ^ 6 := by
    rcases (show k = 0 ∨ k = 1 ∨ k = 2 ∨ k = 3 ∨ k = 4 ∨ k = 5 by omega) with rfl | rfl | rfl | rfl | rfl | rfl <;> decide
  omega
theorem madeK_zero (p : Nat → Bool) : ∀ k, madeK p k = 0 ↔ ∀ j, j < k → p j = false := by
  intro k
  induction k with
  | zero => simp [madeK]
  | succ k ih =>
    have h0 : (0 : Int) < 2 ^ k := Int.pow_pos (by decide)
    have hb := madeK_bd p k
    simp only [madeK]
    constructor
    · intro h j hj
      have hk : p k = false := by cases hp : p k with
        | false => rfl
        | true => rw [hp, if_pos rfl] at h; omega
      rcases Nat.lt_or_ge j k with hjk | hjk
      · refine ih.1 ?_ j hjk; rw [hk] at h; simpa using h
      · have : j = k := by omega
        subst this; exact hk
    · intro h
      rw [h k (by omega), ih.2 fun j hj => h j (by omega)]; simp
/-- the abilities of a face -/
def abilK (f : Int) (k : Nat) : List Nat := (List.range k).filter (hasI f)
def abilL (f : Int) : List Nat := if isF f = true then abilK f 6 else []
theorem abilK_succ (f : Int) (k : Nat) : abilK f (k + 1) = abilK f k ++ if hasI f k = true then [k] else [] := by
  unfold abilK; rw [List.range_succ, List.filter_append]; simp [List.filter_cons]
theorem abilK_len (f : Int) (k : Nat) : (abilK f k).length ≤ k := by
  have := List.length_filter_le (hasI f) (List.range k); simpa [abilK] using this
theorem abilL_len (f : Int) : (abilL f).length ≤ 6 := by
  unfold abilL
  split
  · exact abilK_len f 6
  · simp
theorem abilL_lt (f : Int) (k : Nat) (h : k ∈ abilL f) : k < 6 := by
  unfold abilL at h; split at h
  · have := List.mem_filter.1 h; simpa using this.1
  · simp at h
/-- the name of an ability -/
def abN : Nat → List UInt8
  | 0 => [114, 117, 110]
  | 1 => [107, 101, 101, 112]
  | 2 => [116, 101, 108, 108]
  | 3 => [104, 101, 97, 114]
  | 4 => [115, 97, 118, 101]
  | 5 => [104, 101, 97, 108]
  | _ => []
def abNI (k : Int) : List UInt8 := if k < 0 then [] else abN k.toNat
theorem abNI_out {k : Int} (h : k < 0 ∨ 6 ≤ k) : abNI k = [] := by
  unfold abNI
  split
  · rfl
  · obtain ⟨m, hm⟩ : ∃ m, k.toNat = m + 6 := ⟨k.toNat - 6, by omega⟩
    rw [hm]; rfl
theorem abN_len (k : Nat) : (abN k).length ≤ 4 := by unfold abN; split <;> simp
/-- the methods of an ability -/
def mthN : Nat → List (List UInt8)
  | 0 => [[83, 116, 97, 114, 116], [83, 116, 111, 112]]
  | 1 => [[71, 101, 116], [80, 117, 116]]
  | 2 => [[84, 101, 108, 108]]
  | 3 => [[72, 101, 97, 114]]
  | 4 => [[76, 111, 97, 100], [83, 97, 118, 101]]
  | 5 => [[72, 101, 97, 108]]
  | _ => []
theorem mthN_len (k : Nat) : (mthN k).length ≤ 2 := by unfold mthN; split <;> simp
theorem mthN_short (k : Nat) : ∀ s ∈ mthN k, s.length ≤ 5 := by unfold mthN; split <;> simp
def abOf (s : List UInt8) : Int := findK (fun k => abN k == s) 0 6
def abOfM (s : List UInt8) : Int := findK (fun k => decide (s ∈ mthN k)) 0 6
/-- the names of a face's abilities; its methods -/
def namesF (f : Int) : List (List UInt8) := (abilL f).map abN
def methsF (f : Int) : List (List UInt8) := (abilL f).flatMap mthN
/-- the face of all abilities whose methods are in l -/
def faceM (l : List (List UInt8)) (k : Nat) : Bool := (mthN k).all fun s => decide (s ∈ l)
def faceOfM (l : List (List UInt8)) : Int := madeK (faceM l) 6
/-- the faces that f offers -/
def underK (f : Int) (k : Nat) : List Int := ((List.range k).filter fun g => offersF f (g : Nat)).map fun g => ((g : Nat) : Int)
def underL (f : Int) : List Int := underK f 64
theorem underK_succ (f : Int) (k : Nat) : underK f (k + 1) = underK f k ++ if offersF f (k : Nat) = true then [(k : Int)] else [] := by
  unfold underK; rw [List.range_succ, List.filter_append, List.map_append]; by_cases h : offersF f (k : Nat) = true <;> simp [h]
theorem underK_len (f : Int) (k : Nat) : (underK f k).length ≤ k := by
  have := List.length_filter_le (fun g => offersF f (g : Nat)) (List.range k); simpa [underK] using this
end Go.Proofs.Ytlkpinlkbikokaa
/- Versions as numbers: the plain side. -/
namespace Go.Proofs.Ytlkpinlkbikokaa
set_option linter.unusedVariables false
open Go.RowKit
instance : Inhabited VersionD := ⟨⟨0, 0⟩⟩
def vnB (n : Int) : Bool := decide (0 ≤ n ∧ n ≤ 99)
def verB (d : VersionD) : Bool := vnB d.fMajor && vnB d.fMinor
/-- -1, 0 or 1: Major first, then Minor -/
def cmpV (a b : VersionD) : Int := if a.fMajor = b.fMajor then Lib.compareInt a.fMinor b.fMinor else Lib.compareInt a.fMajor b.fMajor
def meetsB (a b : VersionD) : Bool := decide (a.fMajor = b.fMajor) && decide (b.fMinor ≤ a.fMinor)
def fmtVer (d : VersionD) : List UInt8 := if verB d = true then numL d.fMajor ++ 46 :: numL d.fMinor else []
def sinceN : Nat → VersionD
  | 0 => ⟨1, 0⟩
  | 1 => ⟨1, 0⟩
  | 2 => ⟨1, 1⟩
  | 3 => ⟨1, 2⟩
  | 4 => ⟨2, 0⟩
  | 5 => ⟨2, 1⟩
  | _ => ⟨0, 0⟩
def sinceI (k : Int) : VersionD := if k < 0 then ⟨0, 0⟩ else sinceN k.toNat
def abB (k : Int) : Bool := decide (0 ≤ k ∧ k < 6)
def sinV (k : Int) : Value := .tuple #[vVersion (sinceI k), .bool (abB k)]
def allowP (v : VersionD) (k : Nat) : Bool := decide (cmpV (sinceN k) v ≤ 0)
def allowF (v : VersionD) : Int := if verB v = true then madeK (allowP v) 6 else 0
/-- the least version that allows the abilities of f below k -/
def leastK (f : Int) : Nat → VersionD
  | 0 => ⟨0, 0⟩
  | k + 1 => if hasI f k = true then sinceN k else leastK f k
def leastV (f : Int) : VersionD := if isF f = true then leastK f 6 else ⟨0, 0⟩
theorem sinceI_out {k : Int} (h : k < 0 ∨ 6 ≤ k) : sinceI k = ⟨0, 0⟩ ∧ abB k = false := by
  refine ⟨?_, decide_eq_false (by omega)⟩
  unfold sinceI
  split
  · rfl
  · obtain ⟨m, hm⟩ : ∃ m, k.toNat = m + 6 := ⟨k.toNat - 6, by omega⟩
    rw [hm]; rfl
theorem sinceI_nat (k : Nat) : sinceI (k : Int) = sinceN k := by unfold sinceI; rw [if_neg (by omega)]; simp
theorem cmpI_self (a : Int) : Lib.compareInt a a = 0 := by unfold Lib.compareInt; rw [if_neg (by omega), if_neg (by omega)]
theorem cmpI_cases (a b : Int) : (a < b ∧ Lib.compareInt a b = -1) ∨ (a = b ∧ Lib.compareInt a b = 0) ∨ (b < a ∧ Lib.compareInt a b = 1) := by
  unfold Lib.compareInt
  rcases Int.lt_trichotomy a b with h | h | h
  · exact Or.inl ⟨h, if_pos h⟩
  · exact Or.inr (Or.inl ⟨h, by rw [if_neg (by omega), if_neg (by omega)]⟩)
  · exact Or.inr (Or.inr ⟨h, by rw [if_neg (by omega), if_pos (by omega)]⟩)
/-- what the order says, in numbers -/
theorem cmpV_cases (a b : VersionD) : ((a.fMajor < b.fMajor ∨ a.fMajor = b.fMajor ∧ a.fMinor < b.fMinor) ∧ cmpV a b = -1) ∨ (a = b ∧ cmpV a b = 0) ∨ ((b.fMajor < a.fMajor ∨ a.fMajor = b.fMajor ∧ b.fMinor < a.fMinor) ∧ cmpV a b = 1) := by
  obtain ⟨a0, a1⟩ := a
  obtain ⟨b0, b1⟩ := b
  unfold cmpV
  simp only
  by_cases h : a0 = b0
  · subst h
    rw [if_pos rfl]
    rcases cmpI_cases a1 b1 with ⟨h1, h2⟩ | ⟨h1, h2⟩ | ⟨h1, h2⟩
    · exact Or.inl ⟨Or.inr ⟨rfl, h1⟩, h2⟩
    · exact Or.inr (Or.inl ⟨by rw [h1], h2⟩)
    · exact Or.inr (Or.inr ⟨Or.inr ⟨rfl, h1⟩, h2⟩)
  · rw [if_neg h]
    rcases cmpI_cases a0 b0 with ⟨h1, h2⟩ | ⟨h1, h2⟩ | ⟨h1, h2⟩
    · exact Or.inl ⟨Or.inl h1, h2⟩
    · exact absurd h1 h
    · exact Or.inr (Or.inr ⟨Or.inl h1, h2⟩)
theorem meetsB_cmp (a b : VersionD) : meetsB a b = (decide (a.fMajor = b.fMajor) && decide (0 ≤ cmpV a b)) := by
  unfold meetsB
  rcases cmpV_cases a b with ⟨h, e⟩ | ⟨h, e⟩ | ⟨h, e⟩ <;> rw [e, Bool.eq_iff_iff] <;> simp only [Bool.and_eq_true, decide_eq_true_eq]
  · omega
  · subst h; simp
  · omega
end Go.Proofs.Ytlkpinlkbikokaa
/- Contracts of chapter 2, the functions that only reckon. -/
namespace Go.Proofs.Ytlkpinlkbikokaa
set_option linter.unusedVariables false
open Go.RowKit
theorem ret_strL {a b : List UInt8} (h : a = b) : Ending.returned (.string ⟨a.toArray⟩) = .returned (.string ⟨b.toArray⟩) := by rw [h]
set_option maxHeartbeats 400000 in
theorem specIsFace_any (f : Int) (w : World) :
    Calls Try.prog 77 #[.int .i64 f] w fun e w' => e = .returned (.bool (isF f)) ∧ w = w' := by
  by_cases h0 : f < 0
  · go_enter Try.func77, Try.ntmps77
    go_wp2
    go_ret
    exact ⟨ret_bool (by simp [isF]; omega), rfl⟩
  · go_enter Try.func77, Try.ntmps77
    go_wp2
    go_ret
    exact ⟨ret_bool (by simp [isF]; omega), rfl⟩
theorem specIsFace_b (f : Int) (x : Bool) (h : isF f = x) (w : World) :
    Calls Try.prog 77 #[.int .i64 f] w fun e w' => e = .returned (.bool x) ∧ w = w' := by
  subst h; exact specIsFace_any f w
set_option maxHeartbeats 400000 in
theorem implIsFace_any (f : Int) (w : World) :
    Calls Try.prog 119 #[.int .i64 f] w fun e w' => e = .returned (.bool (isF f)) ∧ w = w' := by
  by_cases h0 : f < 0
  · go_enter Try.func119, Try.ntmps119
    go_wp2
    go_ret
    exact ⟨ret_bool (by simp [isF]; omega), rfl⟩
  · go_enter Try.func119, Try.ntmps119
    go_wp2
    go_ret
    exact ⟨ret_bool (by simp [isF]; omega), rfl⟩
theorem implIsFace_b (f : Int) (x : Bool) (h : isF f = x) (w : World) :
    Calls Try.prog 119 #[.int .i64 f] w fun e w' => e = .returned (.bool x) ∧ w = w' := by
  subst h; exact implIsFace_any f w
set_option maxHeartbeats 400000 in
theorem areFaces_b (a b : Int) (x y : Bool) (hx : isF a = x) (hy : isF b = y) (w : World) :
    Calls Try.prog 111 #[.int .i64 a, .int .i64 b] w fun e w' => e = .returned (.bool (x && y)) ∧ w = w' := by
  have HA := Lib.hid (implIsFace_b a x hx)
  have HB := Lib.hid (implIsFace_b b y hy)
  clear hx hy
  cases x <;> cases y
  all_goals
    go_enter Try.func111, Try.ntmps111
    go_wp2_with (first | (go_at_call 119; (with_reducible refine (HA.out _).mono ?_); rintro e w' ⟨rfl, rfl⟩) | (go_at_call 119; (with_reducible refine (HB.out _).mono ?_); rintro e w' ⟨rfl, rfl⟩))
    go_ret
    exact ⟨rfl, rfl⟩
set_option maxHeartbeats 400000 in
theorem l2Has_any (f : Int) (k : Nat) (w : World) (hf : isF f = true) (hk : k < 6) :
    Calls Try.prog 78 #[.int .i64 f, .int .i64 k] w fun e w' => e = .returned (.bool (hasI f k)) ∧ w = w' := by
  obtain ⟨h0, h1⟩ := isF_yes hf
  clear hf
  rcases (show k = 0 ∨ k = 1 ∨ k = 2 ∨ k = 3 ∨ k = 4 ∨ k = 5 by omega) with rfl | rfl | rfl | rfl | rfl | rfl
  all_goals
    clear hk
    go_enter Try.func78, Try.ntmps78
    go_wp2
    go_ret
    exact ⟨ret_bool (by rw [Bool.eq_iff_iff]; simp [hasI]), rfl⟩
theorem l2Has_b (f : Int) (k : Nat) (x : Bool) (h : hasI f k = x) (hf : isF f = true) (hk : k < 6) (w : World) :
    Calls Try.prog 78 #[.int .i64 f, .int .i64 k] w fun e w' => e = .returned (.bool x) ∧ w = w' := by
  subst h; exact l2Has_any f k w hf hk
def selB (how : Int) (x y : Bool) : Bool := (decide (how = 0) && x && y) || (decide (how = 1) && (x || y)) || (decide (how = 2) && x && !y)
def madeF (how a b : Int) : Int := if isF a = true ∧ isF b = true then madeK (fun k => selB how (hasI a k) (hasI b k)) 6 else 0
theorem madeF_no (how a b : Int) (h : isF a = false ∨ isF b = false) : madeF how a b = 0 := by
  unfold madeF; rw [if_neg]; rintro ⟨h1, h2⟩; rcases h with h | h <;> simp_all
theorem w64 {x : Int} (h0 : -9223372036854775808 ≤ x) (h1 : x ≤ 9223372036854775807) : wrap64 x = x := by unfold wrap64; omega
theorem pow_bd (k : Nat) (hk : k < 6) : (0 : Int) < 2 ^ k ∧ (2 : Int) ^ k ≤ 32 := by
  rcases (show k = 0 ∨ k = 1 ∨ k = 2 ∨ k = 3 ∨ k = 4 ∨ k = 5 by omega) with rfl | rfl | rfl | rfl | rfl | rfl <;> decide
theorem pow_of (k : Nat) (hk : k < 6) : wrap64 (2 ^ k) = 2 ^ k := by have := pow_bd k hk; exact w64 (by omega) (by omega)
theorem sum_pow (z : Int) (k : Nat) (hk : k < 6) (h0 : 0 ≤ z) (h1 : z ≤ 63) : wrap64 (z + wrap64 (2 ^ k)) = z + 2 ^ k := by
  have := pow_bd k hk; rw [pow_of k hk]; exact w64 (by omega) (by omega)
end Go.Proofs.Ytlkpinlkbikokaa
/- Contracts of chapter 5: IsVersion, CompareVersions, Meets, the program's and the model's. -/
namespace Go.Proofs.Ytlkpinlkbikokaa
set_option linter.unusedVariables false
open Go.RowKit
theorem box1 (w : World) (o) : Below w.heap.size w (w.alloc o) := (Below.refl _ _).alloc (Nat.le_refl _) o
theorem box2 (w : World) (o p) : Below w.heap.size w ((w.alloc o).alloc p) := ((Below.refl _ _).alloc (Nat.le_refl _) o).alloc (by simp) p
set_option maxHeartbeats 400000 in
theorem vn_any (n : Int) (w : World) :
    Calls Try.prog 117 #[.int .i64 n] w fun e w' => e = .returned (.bool (vnB n)) ∧ w = w' := by
  by_cases h0 : n < 0
  · go_enter Try.func117, Try.ntmps117
    go_wp2
    go_ret
    exact ⟨ret_bool (by simp [vnB]; omega), rfl⟩
  · go_enter Try.func117, Try.ntmps117
    go_wp2
    go_ret
    exact ⟨ret_bool (by simp [vnB]; omega), rfl⟩
theorem vn_b (n : Int) (x : Bool) (h : vnB n = x) (w : World) :
    Calls Try.prog 117 #[.int .i64 n] w fun e w' => e = .returned (.bool x) ∧ w = w' := by subst h; exact vn_any n w
set_option maxHeartbeats 800000 in
theorem implIsVer_any (d : VersionD) (w : World) :
    Calls Try.prog 101 #[vVersion d] w fun e w' => e = .returned (.bool (verB d)) ∧ Below w.heap.size w w' := by
  obtain ⟨a, b⟩ := d
  unfold vVersion verB
  simp only
  have HA := Lib.hid (vn_b a)
  have HB := Lib.hid (vn_b b)
  generalize vnB a = x at *
  generalize vnB b = y at *
  have HA := Lib.hid (HA.out x rfl)
  have HB := Lib.hid (HB.out y rfl)
  cases x <;> cases y
  all_goals
    go_enter Try.func101, Try.ntmps101
    go_wp2_with (first | (go_at_call 117; (with_reducible refine (HA.out _).mono ?_); rintro e w' ⟨rfl, rfl⟩) | (go_at_call 117; (with_reducible refine (HB.out _).mono ?_); rintro e w' ⟨rfl, rfl⟩))
    go_ret
    exact ⟨rfl, box1 _ _⟩
theorem implIsVer_b (d : VersionD) (x : Bool) (h : verB d = x) (w : World) :
    Calls Try.prog 101 #[vVersion d] w fun e w' => e = .returned (.bool x) ∧ Below w.heap.size w w' := by subst h; exact implIsVer_any d w
set_option maxHeartbeats 1600000 in
theorem specIsVer_any (d : VersionD) (w : World) :
    Calls Try.prog 61 #[vVersion d] w fun e w' => e = .returned (.bool (verB d)) ∧ Below w.heap.size w w' := by
  obtain ⟨a, b⟩ := d
  unfold vVersion verB
  simp only
  have HR := Lib.hid (show (vnB a && vnB b) = (decide (0 ≤ a) && decide (a ≤ 99) && (decide (0 ≤ b) && decide (b ≤ 99))) by unfold vnB; simp)
  rcases (show a < 0 ∨ 99 < a ∨ (0 ≤ a ∧ a ≤ 99) by omega) with h | h | ⟨h, h1⟩
  · rw [show decide (0 ≤ a) = false from decide_eq_false (by omega)] at HR
    go_enter Try.func61, Try.ntmps61
    go_wp2
    go_ret
    exact ⟨ret_bool (by rw [HR.out]; rfl), box1 _ _⟩
  · rw [show decide (0 ≤ a) = true from decide_eq_true (by omega), show decide (a ≤ 99) = false from decide_eq_false (by omega)] at HR
    have h0 : 0 ≤ a := by omega
    go_enter Try.func61, Try.ntmps61
    go_wp2
    go_ret
    exact ⟨ret_bool (by rw [HR.out]; rfl), box1 _ _⟩
  · rw [decide_eq_true h, decide_eq_true h1] at HR
    rcases (show b < 0 ∨ 99 < b ∨ (0 ≤ b ∧ b ≤ 99) by omega) with h2 | h2 | ⟨h2, h3⟩
    · rw [show decide (0 ≤ b) = false from decide_eq_false (by omega)] at HR
      go_enter Try.func61, Try.ntmps61
      go_wp2
      go_ret
      exact ⟨ret_bool (by rw [HR.out]; rfl), box1 _ _⟩
    · rw [show decide (0 ≤ b) = true from decide_eq_true (by omega), show decide (b ≤ 99) = false from decide_eq_false (by omega)] at HR
      have h4 : 0 ≤ b := by omega
      have h5 : decide (b ≤ 99) = false := decide_eq_false (by omega)
      go_enter Try.func61, Try.ntmps61
      go_wp2
      go_ret
      exact ⟨ret_bool (by rw [HR.out]; first | rfl | (rw [h5]; rfl)), box1 _ _⟩
    · rw [decide_eq_true h2, decide_eq_true h3] at HR
      go_enter Try.func61, Try.ntmps61
      go_wp2
      go_ret
      exact ⟨ret_bool (by rw [HR.out]; rfl), box1 _ _⟩
theorem specIsVer_b (d : VersionD) (x : Bool) (h : verB d = x) (w : World) :
    Calls Try.prog 61 #[vVersion d] w fun e w' => e = .returned (.bool x) ∧ Below w.heap.size w w' := by subst h; exact specIsVer_any d w
end Go.Proofs.Ytlkpinlkbikokaa
/- Contracts of chapter 6: IsNeed, both sides. -/
namespace Go.Proofs.Ytlkpinlkbikokaa
set_option linter.unusedVariables false
set_option linter.unusedSimpArgs false
open Go.RowKit
theorem bel_toN {w w1 X : World} (h : Below w.heap.size w w1) (hb : Below w1.heap.size w1 X) : Below w.heap.size w X := h.trans (hb.mono h.size)
def needB (d : NeedD) : Bool := isF d.fFace && (!decide (d.fFace = 0) && ((decide (d.fFrom = []) || nameB d.fFrom) && verB ⟨d.fMajor, d.fMinor⟩))
set_option maxRecDepth 100000 in
set_option maxHeartbeats 1600000 in
theorem implIsNeed_any (d : NeedD) (w : World) (hs : d.fFrom.length ≤ maxLen) :
    Calls Try.prog 118 #[vNeed d] w fun e w' => e = .returned (.bool (needB d)) ∧ Below w.heap.size w w' := by
  obtain ⟨a0, a1, a2, a3⟩ := d
  have HI := Lib.hid (implIsFace_any a0)
  have HN := Lib.hid (fun w1 => implIsName_any ⟨a1.toArray⟩ w1 (by simpa [ByteArray.size] using hs))
  have HV := Lib.hid (fun w1 => implIsVer_any ⟨a2, a3⟩ w1)
  unfold vNeed needB
  simp only [vVersion, List.toList_toArray] at *
  generalize isF a0 = p at *
  generalize verB ⟨a2, a3⟩ = q at *
  generalize nameB a1 = n at *
  clear hs
  cases p with
  | false =>
    go_enter Try.func118, Try.ntmps118
    go_wp2_with (first | (go_at_call 119; (with_reducible refine (HI.out _).mono ?_); rintro e w' ⟨rfl, rfl⟩))
    go_ret
    exact ⟨ret_bool (by simp), box1 w _⟩
  | true =>
    by_cases h0 : a0 = 0
    · subst h0
      go_enter Try.func118, Try.ntmps118
      go_wp2_with (first | (go_at_call 119; (with_reducible refine (HI.out _).mono ?_); rintro e w' ⟨rfl, rfl⟩))
      go_ret
      exact ⟨ret_bool (by simp), box1 w _⟩
    · have HD := Lib.hid (show decide (a0 = 0) = false from decide_eq_false h0)
      have hne : (a0 == 0) = false := by simpa using h0
      have hnf : (a0 != 0) = true := by simpa using h0
      clear h0
      rw [HD.out]
      cases a1 with
      | nil =>
        go_enter Try.func118, Try.ntmps118
        go_wp2_with (first | (go_at_call 119; (with_reducible refine (HI.out _).mono ?_); rintro e w' ⟨rfl, rfl⟩))
        refine (HV.out _).mono ?_
        rintro e w1 ⟨rfl, hb⟩
        have HB := Lib.hid (bel_toN (box1 w _) hb)
        clear hb
        go_wp2_with fail
        go_ret
        exact ⟨ret_bool (by simp), HB.out⟩
      | cons c r =>
        cases n with
        | false =>
          go_enter Try.func118, Try.ntmps118
          go_wp2_with (first | (go_at_call 119; (with_reducible refine (HI.out _).mono ?_); rintro e w' ⟨rfl, rfl⟩) | (go_at_call 100; (with_reducible refine (HN.out _).mono ?_); rintro e w' ⟨rfl, rfl⟩))
          go_ret
          exact ⟨ret_bool (by simp), box1 w _⟩
        | true =>
          go_enter Try.func118, Try.ntmps118
          go_wp2_with (first | (go_at_call 119; (with_reducible refine (HI.out _).mono ?_); rintro e w' ⟨rfl, rfl⟩) | (go_at_call 100; (with_reducible refine (HN.out _).mono ?_); rintro e w' ⟨rfl, rfl⟩))
          refine (HV.out _).mono ?_
          rintro e w1 ⟨rfl, hb⟩
          have HB := Lib.hid (bel_toN (box1 w _) hb)
          clear hb
          go_wp2_with fail
          go_ret
          exact ⟨ret_bool (by simp), HB.out⟩
set_option maxRecDepth 100000 in
set_option maxHeartbeats 1600000 in
theorem specIsNeed_any (d : NeedD) (w : World) (hs : d.fFrom.length ≤ maxLen) :
    Calls Try.prog 62 #[vNeed d] w fun e w' => e = .returned (.bool (needB d)) ∧ Below w.heap.size w w' := by
  obtain ⟨a0, a1, a2, a3⟩ := d
  have HI := Lib.hid (specIsFace_any a0)
  have HN := Lib.hid (fun w1 => specIsName_any ⟨a1.toArray⟩ w1 (by simpa [ByteArray.size] using hs))
  have HV := Lib.hid (fun w1 => specIsVer_any ⟨a2, a3⟩ w1)
  unfold vNeed needB
  simp only [vVersion, List.toList_toArray] at *
  generalize isF a0 = p at *
  generalize verB ⟨a2, a3⟩ = q at *
  generalize nameB a1 = n at *
  clear hs
  cases p with
  | false =>
    go_enter Try.func62, Try.ntmps62
    go_wp2_with (first | (go_at_call 77; (with_reducible refine (HI.out _).mono ?_); rintro e w' ⟨rfl, rfl⟩))
    go_ret
    exact ⟨ret_bool (by simp), box1 w _⟩
  | true =>
    by_cases h0 : a0 = 0
    · subst h0
      go_enter Try.func62, Try.ntmps62
      go_wp2_with (first | (go_at_call 77; (with_reducible refine (HI.out _).mono ?_); rintro e w' ⟨rfl, rfl⟩))
      go_ret
      exact ⟨ret_bool (by simp), box1 w _⟩
    · have HD := Lib.hid (show decide (a0 = 0) = false from decide_eq_false h0)
      have hne : (a0 == 0) = false := by simpa using h0
      have hnf : (a0 != 0) = true := by simpa using h0
      clear h0
      rw [HD.out]
      cases a1 with
      | nil =>
        go_enter Try.func62, Try.ntmps62
        go_wp2_with (first | (go_at_call 77; (with_reducible refine (HI.out _).mono ?_); rintro e w' ⟨rfl, rfl⟩))
        refine (HV.out _).mono ?_
        rintro e w1 ⟨rfl, hb⟩
        have HB := Lib.hid (bel_toN (box1 w _) hb)
        clear hb
        go_wp2_with fail
        go_ret
        exact ⟨ret_bool (by simp), HB.out⟩
      | cons c r =>
        cases n with
        | false =>
          go_enter Try.func62, Try.ntmps62
          go_wp2_with (first | (go_at_call 77; (with_reducible refine (HI.out _).mono ?_); rintro e w' ⟨rfl, rfl⟩) | (go_at_call 60; (with_reducible refine (HN.out _).mono ?_); rintro e w' ⟨rfl, rfl⟩))
          go_ret
          exact ⟨ret_bool (by simp), box1 w _⟩
        | true =>
          go_enter Try.func62, Try.ntmps62
          go_wp2_with (first | (go_at_call 77; (with_reducible refine (HI.out _).mono ?_); rintro e w' ⟨rfl, rfl⟩) | (go_at_call 60; (with_reducible refine (HN.out _).mono ?_); rintro e w' ⟨rfl, rfl⟩))
          refine (HV.out _).mono ?_
          rintro e w1 ⟨rfl, hb⟩
          have HB := Lib.hid (bel_toN (box1 w _) hb)
          clear hb
          go_wp2_with fail
          go_ret
          exact ⟨ret_bool (by simp), HB.out⟩
end Go.Proofs.Ytlkpinlkbikokaa
/- Cell: what the laws' own helpers do with it. Written by gen/flat.py. -/
namespace Go.Proofs.Ytlkpinlkbikokaa
set_option linter.unusedVariables false
open Go.RowKit
structure CellD where
  fKey : List UInt8
  fValue : Int
deriving DecidableEq
def okCell (d : CellD) : Prop := (d.fKey.length ≤ maxLen) ∧ (-9223372036854775808 ≤ d.fValue ∧ d.fValue ≤ 9223372036854775807)
def vCell (d : CellD) : Value := .agg #[.string ⟨d.fKey.toArray⟩, .int .i64 d.fValue]
def cCell (d : CellD) : List Value := [.string ⟨d.fKey.toArray⟩, .int .i64 d.fValue]
theorem cCell_len (d : CellD) : (cCell d).length = 2 := rfl
theorem cCell_one (d : CellD) : ∀ u ∈ cCell d, u.oneCell' = true := by intro u hu; simp only [cCell, List.mem_cons, List.not_mem_nil, or_false] at hu; rcases hu with rfl | rfl <;> rfl
set_option maxHeartbeats 800000 in
theorem eqCell_any (x y : CellD) (w : World) :
    Calls Try.prog 114 #[vCell x, vCell y] w fun e w' => e = .returned (.bool (decide (x = y))) ∧ Below w.heap.size w w' := by
  obtain ⟨a0, a1⟩ := x
  obtain ⟨b0, b1⟩ := y
  unfold vCell
  by_cases h0 : a0 = b0
  · by_cases h1 : a1 = b1
    · have HN := Lib.hid (show decide ((⟨a0, a1⟩ : CellD) = (⟨b0, b1⟩ : CellD)) = true by rw [h0, h1]; simp)
      subst h0 h1
      go_enter Try.func114, Try.ntmps114
      go_wp2
      go_ret
      exact ⟨ret_bool HN.out.symm, ((Below.refl _ _).alloc (Nat.le_refl _) _).alloc (by simp) _⟩
    · have HN := Lib.hid (show decide ((⟨a0, a1⟩ : CellD) = (⟨b0, b1⟩ : CellD)) = false by rw [decide_eq_false_iff_not]; exact fun e => h1 (by injection e))
      have hne1 : (a1 == b1) = false := by simpa using h1
      have hnf1 : (a1 != b1) = true := by simpa using h1
      subst h0
      clear h1
      go_enter Try.func114, Try.ntmps114
      go_wp2
      go_ret
      exact ⟨ret_bool HN.out.symm, ((Below.refl _ _).alloc (Nat.le_refl _) _).alloc (by simp) _⟩
  · have HN := Lib.hid (show decide ((⟨a0, a1⟩ : CellD) = (⟨b0, b1⟩ : CellD)) = false by rw [decide_eq_false_iff_not]; exact fun e => h0 (by injection e))
    have hne0 : (a0 == b0) = false := by simpa using h0
    have hnf0 : (a0 != b0) = true := by simpa using h0
    clear h0
    go_enter Try.func114, Try.ntmps114
    go_wp2
    go_ret
    exact ⟨ret_bool HN.out.symm, ((Below.refl _ _).alloc (Nat.le_refl _) _).alloc (by simp) _⟩
set_option maxHeartbeats 800000 in
theorem toCell_any (x : CellD) (w : World) :
    Calls Try.prog 107 #[vCell x] w fun e w' => e = .returned (vCell x) ∧ Below w.heap.size w w' := by
  obtain ⟨a0, a1⟩ := x
  unfold vCell
  go_enter Try.func107, Try.ntmps107
  go_wp2
  exact bodyPost_ret (v := .agg #[.string ⟨a0.toArray⟩, .int .i64 a1]) (by simp [results, Try.results107, go_sem]) rfl ⟨rfl, ((((Below.refl _ _).alloc (Nat.le_refl _) _).alloc (by simp) _).alloc (by simp; try omega) _)⟩
set_option maxRecDepth 100000 in
set_option maxHeartbeats 1600000 in
theorem eqCellS_any (v u : Value) (x y : List CellD) (w : World) (hx : FlatAt cCell 2 w v x) (hy : FlatAt cCell 2 w u y) :
    Calls Try.prog 91 #[v, u] w fun e w' => e = .returned (.bool (decide (x = y))) ∧ Below w.heap.size w w' := by
  obtain ⟨a, c, rfl, hl⟩ := flatAt_len hx
  obtain ⟨a2, c2, rfl, hl2⟩ := flatAt_len hy
  have HX := Lib.hid hx
  have HY := Lib.hid hy
  clear hx hy
  unfold maxLen at hl hl2
  by_cases he : x.length = y.length
  · have hb : ((x.length : Int) == y.length) = true := beq_iff_eq.2 (by omega)
    have hbn : ((x.length : Int) != y.length) = false := by rw [bne_eq_false_iff_eq]; omega
    have HE := Lib.hid he
    clear he
    go_enter Try.func91, Try.ntmps91
    go_wp2
    go_loopw [5] (fun i wr => ∃ k : Nat, k ≤ x.length ∧ i = .int .i64 k ∧ x.take k = y.take k ∧ Below w.heap.size w wr) (fun i _ => x.length - (intOf i).toNat)
    case atStart => exact ⟨0, Nat.zero_le _, rfl, rfl, Below.refl _ _⟩
    case round =>
      obtain ⟨k, hk, rfl, ht, hbr⟩ := hrel
      have HT := Lib.hid ht
      have HB := Lib.hid hbr
      have HXr := Lib.hid (FlatAt.below HX.out hbr (Nat.le_refl _))
      have HYr := Lib.hid (FlatAt.below HY.out hbr (Nat.le_refl _))
      clear ht hbr
      by_cases hlt : k < x.length
      · have hky : k < y.length := by have := HE.out; omega
        obtain ⟨b, o, rfl, _, hd⟩ := flatAt_cell cCell_len HXr.out k hlt (by decide)
        obtain ⟨b2, o2, rfl, _, hd2⟩ := flatAt_cell cCell_len HYr.out k hky (by decide)
        have d0 := hd 0 (by decide)
        have d1 := hd 1 (by decide)
        have q0 := hd2 0 (by decide)
        have q1 := hd2 1 (by decide)
        clear hd hd2
        have HS := Lib.hid (take_eq_step x y HE.out k hlt HT.out)
        have HD := Lib.hid (show x[k] ≠ y[k] → ¬ x = y from fun h e => h (by subst e; rfl))
        have HC := Lib.hid (eqCell_any x[k] y[k])
        generalize x[k] = p at *
        generalize y[k] = q at *
        obtain ⟨a0, a1⟩ := p
        obtain ⟨b0, b1⟩ := q
        simp only [cCell, vCell, List.getElem?_cons_zero, List.getElem?_cons_succ, Nat.add_zero] at d0 q0 d1 q1 HC
        go_wp2
        go_still_tail 8, (by kernel_rfl)
        have HB1 := Lib.hid (show Below w.heap.size w wr.drew from ⟨HB.out.os, HB.out.tape, HB.out.output, HB.out.size, HB.out.block⟩)
        change wpList _ _ _ _ _ wr.drew
        generalize wr.drew = w1 at *
        go_wp2_with fail
        refine (HC.out _).mono ?_
        rintro e w2 ⟨rfl, hb0⟩
        have HB2 := Lib.hid (HB1.out.trans (hb0.mono HB1.out.size))
        clear hb0
        by_cases heq : (⟨a0, a1⟩ : CellD) = (⟨b0, b1⟩ : CellD)
        · have HN := Lib.hid (HS.out heq)
          rw [show decide ((⟨a0, a1⟩ : CellD) = (⟨b0, b1⟩ : CellD)) = true by simpa using heq]
          clear heq
          go_wp2_with fail
          exact ⟨⟨k + 1, by omega, by go_num, HN.out, HB2.out⟩, by simp [intOf]; omega⟩
        · have HN := Lib.hid (HD.out heq)
          rw [show decide ((⟨a0, a1⟩ : CellD) = (⟨b0, b1⟩ : CellD)) = false by rw [decide_eq_false_iff_not]; exact heq]
          clear heq
          go_wp2_with fail
          go_ret
          exact ⟨ret_bool (by simp [HN.out]), HB2.out⟩
      · have HN := Lib.hid (show x = y from by
          have h := HT.out
          rw [List.take_of_length_le (by omega), List.take_of_length_le (by have := HE.out; omega)] at h
          exact h)
        go_wp2
        go_ret
        exact ⟨ret_bool (by simp [HN.out]), HB.out⟩
  · have hb : ((x.length : Int) == y.length) = false := beq_eq_false_iff_ne.2 (by omega)
    have hbn : ((x.length : Int) != y.length) = true := by rw [bne_iff_ne]; omega
    have HN := Lib.hid (show ¬ x = y from fun e => he (by rw [e]))
    clear he
    go_enter Try.func91, Try.ntmps91
    go_wp2
    go_ret
    exact ⟨ret_bool (by simp [HN.out]), Below.refl _ _⟩
def zCell (d : CellD) : Nat := d.fKey.length
set_option maxHeartbeats 800000 in
theorem szCell_any (x : CellD) (left : Int) (w : World) (h0 : 0 ≤ left) (h1 : left ≤ 1099511627776) (hs : okCell x) :
    Calls Try.prog 104 #[vCell x, .int .i64 left] w fun e w' => SzF (zCell x) left w e w' := by
  obtain ⟨a0, a1⟩ := x
  obtain ⟨hs0, hs1⟩ := hs
  simp only [vCell, zCell] at *
  unfold maxLen at *
  have HZ0 := Lib.hid (size_strB a0)
  by_cases hn0 : left - (a0.length : Int) < 0
  · go_enter Try.func104, Try.ntmps104
    go_wp2
    go_ret
    exact ⟨-1, rfl, by omega, by omega, (Below.refl _ _).alloc (Nat.le_refl _) _⟩
  · go_enter Try.func104, Try.ntmps104
    go_wp2
    go_ret
    exact ⟨_, rfl, by omega, by push_cast; omega, (Below.refl _ _).alloc (Nat.le_refl _) _⟩
set_option maxRecDepth 100000 in
set_option maxHeartbeats 800000 in
theorem szCellS_any (v : Value) (x : List CellD) (left : Int) (w : World) (hx : FlatAt cCell 2 w v x) (hs : ∀ d ∈ x, okCell d) (h0 : 0 ≤ left) (h1 : left ≤ 1099511627776) :
    Calls Try.prog 71 #[v, .int .i64 left] w fun e w' => SzF (x.length + sumF zCell x) left w e w' := by
  obtain ⟨a, c, rfl, hl⟩ := flatAt_len hx
  have HX := Lib.hid hx
  have HS := Lib.hid hs
  clear hx hs
  unfold maxLen at hl
  by_cases hneg : left - (x.length : Int) < 0
  · go_enter Try.func71, Try.ntmps71
    go_wp2
    go_ret
    exact ⟨-1, rfl, by omega, by omega, Below.refl _ _⟩
  · go_enter Try.func71, Try.ntmps71
    go_wp2
    go_loopw [1, 5] (fun r i wr => ∃ k : Nat, ∃ z : Int, k ≤ x.length ∧ i = .int .i64 k ∧ r = .int .i64 z ∧ 0 ≤ z ∧ z ≤ left ∧ (x.length : Int) + sumF zCell (x.take k) + z = left ∧ Below w.heap.size w wr) (fun _ i _ => x.length - (intOf i).toNat)
    case atStart => exact ⟨0, _, Nat.zero_le _, rfl, rfl, by omega, by omega, by simp [sumF]; omega, Below.refl _ _⟩
    case round =>
      obtain ⟨k, z, hk, rfl, rfl, hz0, hz1, ht, hbr⟩ := hrel
      have HT := Lib.hid ht
      have HB := Lib.hid hbr
      have HXr := Lib.hid (FlatAt.below HX.out hbr (Nat.le_refl _))
      clear ht hbr
      by_cases hlt : k < x.length
      · obtain ⟨b, o, rfl, _, hd⟩ := flatAt_cell cCell_len HXr.out k hlt (by decide)
        have d0 := hd 0 (by decide)
        have d1 := hd 1 (by decide)
        clear hd
        have HC := Lib.hid (szCell_any x[k] z wr hz0 (by omega) (HS.out _ (List.getElem_mem hlt)))
        have HK := Lib.hid (sumF_take_succ zCell x k hlt)
        generalize x[k] = p at *
        have HP := Lib.hid (rfl : zCell p = zCell p)
        obtain ⟨a0, a1⟩ := p
        simp only [cCell, vCell, List.getElem?_cons_zero, List.getElem?_cons_succ, Nat.add_zero] at d0 d1 HC
        go_wp2_with fail
        refine HC.out.mono ?_
        rintro e w2 ⟨r, rfl, hr0, hr1, hb0⟩
        have HB2 := Lib.hid (HB.out.trans (hb0.mono HB.out.size))
        have HR := Lib.hid hr1
        clear hb0 hr1
        by_cases hn2 : r < 0
        · go_wp2_with fail
          go_ret
          exact ⟨-1, rfl, by omega, by omega, HB2.out⟩
        · have hr := HR.out (by omega)
          go_wp2_with fail
          exact ⟨⟨k + 1, _, by omega, by go_num, rfl, by omega, by omega, by rw [HK.out]; have := HT.out; push_cast; omega, HB2.out⟩, by simp [intOf]; omega⟩
      · have HN := Lib.hid (show x.take k = x from List.take_of_length_le (by omega))
        go_wp2
        go_ret
        exact ⟨z, rfl, by omega, fun _ => by have := HT.out; rw [HN.out] at this; omega, HB.out⟩
theorem infoCell : (Try.prog.info? 146).map (fun i => (i.zero, i.size, i.bytes)) = some (some (.agg #[.string ⟨#[]⟩, .int .i64 0]), 2, 24) := by kernel_rfl
set_option maxRecDepth 100000 in
set_option maxHeartbeats 1600000 in
theorem toCellS_any (v : Value) (x : List CellD) (w : World) (hx : FlatAt cCell 2 w v x) (hm : x.length ≤ 2097152) :
    Calls Try.prog 79 #[v] w fun e w' => e = .returned (.slice (some ⟨w.heap.size, 0, none⟩) x.length x.length) ∧ OwnsF cCell 146 2 w' w.heap.size (.slice (some ⟨w.heap.size, 0, none⟩) x.length x.length) x ∧ Below w.heap.size w w' := by
  obtain ⟨a, c, rfl, hl⟩ := flatAt_len hx
  obtain ⟨i0, hi, hz0, hz1, hz2⟩ := info_parts infoCell
  have HX := Lib.hid hx
  clear hx
  unfold maxLen at hl
  go_enter Try.func79, Try.ntmps79
  have hb2 : i0.bytes * x.length ≤ 281474976710656 := by rw [hz2]; omega
  have HB2 := Lib.hid hb2
  have HM := Lib.hid (show x.length ≤ maxLen from by unfold maxLen; omega)
  clear hb2
  go_wp2_with (refine wpList_make_full _ rfl (.tmp 6) (.tmp 6) 29 rfl w.heap.size 146 i0 _ 2 Try.underlying29 hi hz0 hz1 .i64 .i64 _ _ x.length rfl rfl rfl rfl HB2.out HM.out (Nat.le_refl _) ?_; intro w1 hown1 hgrow1)
  have HO := Lib.hid (show ∃ xs, w1.ownsRow w.heap.size 146 2 (.slice (some ⟨w.heap.size, 0, none⟩) x.length x.length) x.length xs ∧ xs.take (0 * 2) = (x.flatMap cCell).take (0 * 2) from ⟨_, hown1, by simp⟩)
  have HB := Lib.hid (show Below w.heap.size w w1 from ⟨hgrow1.os, hgrow1.tape, hgrow1.output, hgrow1.size, fun i hi => hgrow1.block i hi (by simp)⟩)
  have hsz := hgrow1.size
  clear hown1 hgrow1 hz0 hz1 hz2 HB2 hi
  go_loopw [4] (fun i wr => ∃ k : Nat, k ≤ x.length ∧ i = .int .i64 k ∧ (∃ xs, wr.ownsRow w.heap.size 146 2 (.slice (some ⟨w.heap.size, 0, none⟩) x.length x.length) x.length xs ∧ xs.take (k * 2) = (x.flatMap cCell).take (k * 2)) ∧ Below w.heap.size w wr) (fun i _ => x.length - (intOf i).toNat)
  case atStart => exact ⟨0, Nat.zero_le _, rfl, HO.out, HB.out⟩
  case round =>
    obtain ⟨k, hk, rfl, ⟨xs, hown, htake⟩, hb⟩ := hrel
    have HR := Lib.hid (FlatAt.below HX.out hb (Nat.le_refl _))
    have HBr := Lib.hid hb
    have HOw := Lib.hid hown
    have HT := Lib.hid htake
    have HXL := Lib.hid (show xs.length = x.length * 2 from hown.1)
    clear hb hown htake
    by_cases hlt : k < x.length
    · obtain ⟨b, o, rfl, _, hd⟩ := flatAt_cell cCell_len HR.out k hlt (by decide)
      have d0 := hd 0 (by decide)
      have d1 := hd 1 (by decide)
      have g0 := flat_get cCell 2 cCell_len x k hlt 0 (by decide)
      have g1 := flat_get cCell 2 cCell_len x k hlt 1 (by decide)
      clear hd
      have HC := Lib.hid (toCell_any x[k] wr)
      generalize x[k] = p at *
      obtain ⟨a0, a1⟩ := p
      simp only [cCell, vCell, List.getElem?_cons_zero, List.getElem?_cons_succ, Nat.add_zero] at d0 d1 HC g0 g1
      have G0 := Lib.hid g0
      have G1 := Lib.hid g1
      clear g0 g1
      go_wp2_with fail
      refine HC.out.mono ?_
      rintro e w2 ⟨rfl, hb0⟩
      have HB3 := Lib.hid (HBr.out.trans (hb0.mono HBr.out.size))
      have HO3 := Lib.hid (ownsRow_below HOw.out hb0 (Nat.le_refl _))
      clear hb0
      obtain ⟨u0, c0⟩ : ∃ u, w2.cell? ⟨w.heap.size, k * 2, none⟩ = some u := by
        rw [World.ownsRow.cellAt HO3.out (k * 2) (by omega), List.getElem?_eq_getElem (by have := HXL.out; omega)]
        exact ⟨_, rfl⟩
      have f0 := World.ownsRow.frozenAt HO3.out (k * 2)
      obtain ⟨u1, c1⟩ : ∃ u, w2.cell? ⟨w.heap.size, k * 2 + 1, none⟩ = some u := by
        rw [World.ownsRow.cellAt HO3.out (k * 2 + 1) (by omega), List.getElem?_eq_getElem (by have := HXL.out; omega)]
        exact ⟨_, rfl⟩
      have f1 := World.ownsRow.frozenAt HO3.out (k * 2 + 1)
      have HS0 := Lib.hid (World.ownsRow.stored HO3.out (k * 2) (.string ⟨a0.toArray⟩))
      have HT0 := Lib.hid (take_set_get _ (x.flatMap cCell) (k * 2) _ (by have := HXL.out; (try simp only [List.length_set]); omega) G0.out HT.out)
      have HS1 := Lib.hid (World.ownsRow.stored HS0.out.1 (k * 2 + 1) (.int .i64 a1))
      have HT1 := Lib.hid (take_set_get _ (x.flatMap cCell) (k * 2 + 1) _ (by have := HXL.out; (try simp only [List.length_set]); omega) G1.out HT0.out)
      go_wp2_with fail
      refine ⟨⟨k + 1, by omega, by go_num, ⟨_, HS1.out.1, by rw [show (k + 1) * 2 = k * 2 + 1 + 1 by omega]; exact HT1.out⟩, ?_⟩, by simp [intOf]; omega⟩
      exact ((HB3.out.setCell (Nat.le_refl _) _).setCell (Nat.le_refl _) _)
    · have HN := Lib.hid (show xs = x.flatMap cCell from by
        have h := HT.out
        rw [List.take_of_length_le (by have := HXL.out; omega), List.take_of_length_le (by rw [flat_len cCell 2 cCell_len]; omega)] at h
        exact h)
      go_wp2
      go_ret
      exact ⟨rfl, by have h := HOw.out; rw [HN.out] at h; exact h, HBr.out⟩
def marksCell (k : Int) (n : Nat) : List CellD := (List.range n).map fun i : Nat => ⟨markL (k + i * 2), k + i * 2 + 1⟩
theorem marksCell_len (k : Int) (n : Nat) : (marksCell k n).length = n := by simp [marksCell]
theorem marksCell_get (k : Int) (n i : Nat) (h : i < n) : (marksCell k n)[i]'(by rw [marksCell_len]; exact h) = ⟨markL (k + i * 2), k + i * 2 + 1⟩ := by simp [marksCell]
set_option maxRecDepth 100000 in
set_option maxHeartbeats 1600000 in
theorem markCellS_any (B : Nat) (v : Value) (x : List CellD) (k : Int) (w : World) (hO : OwnsF cCell 146 2 w B v x) (hm : x.length ≤ 2097152) (h0 : 1 ≤ k) (h1 : k ≤ 16777216) :
    Calls Try.prog 69 #[v, .int .i64 k] w fun e w' => e = .returned (.int .i64 (k + x.length * 2)) ∧ OwnsF cCell 146 2 w' B v (marksCell k x.length) ∧ w.grownBy w' v.ownBlock := by
  unfold OwnsF at hO
  rcases hO.2 with ⟨rfl, hn⟩ | ⟨g, cap, cur, rfl, _⟩
  · have hx : x = [] := List.eq_nil_of_length_eq_zero hn
    subst hx
    go_enter Try.func69, Try.ntmps69
    go_wp2_with fail
    refine wp_loop_rounds 1 ?_
    rw [rounds_succ]
    go_wp2_with fail
    go_ret
    exact ⟨ret_int (by simp), by simpa [OwnsF, marksCell] using hO, grownBy_refl _ _⟩
  · have HO := Lib.hid (show ∃ xs, w.ownsRow B 146 2 (.slice (some ⟨g, 0, none⟩) x.length cap) x.length xs ∧ xs.take (0 * 2) = ((marksCell k x.length).flatMap cCell).take (0 * 2) from ⟨_, hO, by simp⟩)
    have hgw : g < w.heap.size := (hO.lt g rfl).2
    clear hO
    go_enter Try.func69, Try.ntmps69
    go_wp2_with fail
    go_loopw [1, 5] (fun kv i wr => ∃ j : Nat, j ≤ x.length ∧ i = .int .i64 j ∧ kv = .int .i64 (k + j * 2) ∧ (∃ xs, wr.ownsRow B 146 2 (.slice (some ⟨g, 0, none⟩) x.length cap) x.length xs ∧ xs.take (j * 2) = ((marksCell k x.length).flatMap cCell).take (j * 2)) ∧ w.grownBy wr (some g)) (fun _ i _ => x.length - (intOf i).toNat)
    case atStart => exact ⟨0, Nat.zero_le _, rfl, by simp, HO.out, grownBy_refl _ _⟩
    case round =>
      obtain ⟨j, hj, rfl, rfl, ⟨xs, hown, htake⟩, hg⟩ := hrel
      have HG := Lib.hid hg
      have HOw := Lib.hid hown
      have HT := Lib.hid htake
      have HXL := Lib.hid (show xs.length = x.length * 2 from hown.1)
      clear hg hown htake
      by_cases hlt : j < x.length
      · have G0 := Lib.hid (flat_get cCell 2 cCell_len (marksCell k x.length) j (by rw [marksCell_len]; exact hlt) 0 (by decide))
        have G1 := Lib.hid (flat_get cCell 2 cCell_len (marksCell k x.length) j (by rw [marksCell_len]; exact hlt) 1 (by decide))
        rw [marksCell_get k _ j hlt] at G0 G1
        simp only [cCell, List.getElem?_cons_zero, List.getElem?_cons_succ, Nat.add_zero] at G0 G1
        go_wp2_with fail
        refine (markText_any (k + j * 2) _ (by omega) (by omega)).mono ?_
        rintro e w1 ⟨rfl, hb⟩
        have HO1 := Lib.hid (ownsRow_below HOw.out hb (Nat.le_refl _))
        have HG1 := Lib.hid (grownBy_below (HG.out) hb (HG.out).size)
        clear hb
        obtain ⟨u0, c0⟩ : ∃ u, w1.cell? ⟨g, j * 2, none⟩ = some u := by
          rw [World.ownsRow.cellAt HO1.out (j * 2) (by omega), List.getElem?_eq_getElem (by have := HXL.out; (try simp only [List.length_set]); omega)]
          exact ⟨_, rfl⟩
        have f0 := World.ownsRow.frozenAt HO1.out (j * 2)
        obtain ⟨u1, c1⟩ : ∃ u, w1.cell? ⟨g, j * 2 + 1, none⟩ = some u := by
          rw [World.ownsRow.cellAt HO1.out (j * 2 + 1) (by omega), List.getElem?_eq_getElem (by have := HXL.out; (try simp only [List.length_set]); omega)]
          exact ⟨_, rfl⟩
        have f1 := World.ownsRow.frozenAt HO1.out (j * 2 + 1)
        have HS0 := Lib.hid (World.ownsRow.stored HO1.out (j * 2) (.string ⟨(markL (k + j * 2)).toArray⟩))
        have HT0 := Lib.hid (take_set_get _ _ (j * 2) _ (by have := HXL.out; (try simp only [List.length_set]); omega) G0.out HT.out)
        have HS1 := Lib.hid (World.ownsRow.stored HS0.out.1 (j * 2 + 1) (.int .i64 (k + j * 2 + 1)))
        have HT1 := Lib.hid (take_set_get _ _ (j * 2 + 1) _ (by have := HXL.out; (try simp only [List.length_set]); omega) G1.out HT0.out)
        go_wp2_with fail
        refine ⟨⟨j + 1, by omega, by go_num, ?_, ⟨_, HS1.out.1, by rw [show (j + 1) * 2 = j * 2 + 1 + 1 by omega]; exact HT1.out⟩, ?_⟩, by simp [intOf]; omega⟩
        · congr 1; push_cast; omega
        · exact (grownBy_trans (grownBy_trans HG1.out HS0.out.2) HS1.out.2)
      · have HN := Lib.hid (show xs = (marksCell k x.length).flatMap cCell from by
          have h := HT.out
          rw [List.take_of_length_le (by have := HXL.out; omega), List.take_of_length_le (by rw [flat_len cCell 2 cCell_len, marksCell_len]; omega)] at h
          exact h)
        go_wp2_with fail
        go_ret
        exact ⟨ret_int (by rw [show j = x.length by omega]), by have h := HOw.out; rw [HN.out] at h; unfold OwnsF; rw [marksCell_len]; exact h, HG.out⟩
set_option maxRecDepth 100000 in
set_option maxHeartbeats 1600000 in
theorem heldCellS_any (v : Value) (n : Nat) (k : Int) (w : World) (hR : FlatAt cCell 2 w v (marksCell k n)) (hm : n ≤ 2097152) (h0 : 1 ≤ k) (h1 : k ≤ 16777216) :
    Calls Try.prog 70 #[v, .int .i64 k] w fun e w' => e = .returned (.int .i64 (k + n * 2)) ∧ Below w.heap.size w w' := by
  obtain ⟨a, c, rfl, hl⟩ := flatAt_len hR
  rw [marksCell_len] at *
  have HR := Lib.hid hR
  clear hR
  unfold maxLen at hl
  go_enter Try.func70, Try.ntmps70
  go_wp2_with fail
  go_loopw [1, 5] (fun kv i wr => ∃ j : Nat, j ≤ n ∧ i = .int .i64 j ∧ kv = .int .i64 (k + j * 2) ∧ Below w.heap.size w wr) (fun _ i _ => n - (intOf i).toNat)
  case atStart => exact ⟨0, Nat.zero_le _, rfl, by simp, Below.refl _ _⟩
  case round =>
    obtain ⟨j, hj, rfl, rfl, hb⟩ := hrel
    have HB := Lib.hid hb
    have HRr := Lib.hid (FlatAt.below HR.out hb (Nat.le_refl _))
    clear hb
    by_cases hlt : j < n
    · obtain ⟨b, o, rfl, hbw, hd⟩ := flatAt_cell cCell_len HRr.out j (by rw [marksCell_len]; exact hlt) (by decide)
      rw [marksCell_get k n j hlt] at hd
      have d0 := hd 0 (by decide)
      have d1 := hd 1 (by decide)
      clear hd
      simp only [cCell, List.getElem?_cons_zero, List.getElem?_cons_succ, Nat.add_zero] at d0 d1
      have hj0 : (0 : Int) ≤ (j : Int) := Int.natCast_nonneg _
      have hj1 : (j : Int) < (n : Int) := by omega
      have D0 := Lib.hid d0
      have D1 := Lib.hid d1
      clear d0 d1
      have HBL := Lib.hid hbw
      have d0 := D0.out
      have hbeq0 : (markL (k + j * 2) == markL (k + j * 2)) = true := by simp
      go_wp2_with fail
      go_region_held3 (fun w' => w'.cell? ⟨b, o + j * 2, none⟩ = some (.string ⟨(markL (k + j * 2)).toArray⟩))
        (first
          | go_keep
          | (rw [hb1.cell (p := ⟨b, o + j * 2, none⟩) (by simpa using hbw)]; assumption))
        ((go_at_call 58; refine (markText_any (k + j * 2) _ (by omega) (by omega)).mono ?_; rintro e w1 ⟨rfl, hb1⟩))
      have hB1 : Below wr.heap.size wr w1 := ⟨hb1.os, hb1.tape, hb1.output, hb1.size, hb1.block⟩
      have HB1 := Lib.hid (HB.out.trans (hB1.mono HB.out.size))
      have E1_1 := Lib.hid (show w1.cell? ⟨b, o + j * 2 + 1, none⟩ = some (.int .i64 (k + j * 2 + 1)) by rw [hB1.cell (p := ⟨b, o + j * 2 + 1, none⟩) hbw]; exact D1.out)
      have hbw1 : b < w1.heap.size := Nat.lt_of_lt_of_le hbw hB1.size
      clear hb1 hB1
      have hbw := hbw1
      have d1 := E1_1.out
      go_wp2_with fail
      exact ⟨⟨j + 1, by omega, by go_num, by congr 1; push_cast; omega, HB1.out⟩, by simp [intOf]; omega⟩
    · go_wp2_with fail
      go_ret
      exact ⟨ret_int (by rw [show j = n by omega]), HB.out⟩
end Go.Proofs.Ytlkpinlkbikokaa
/- Cores: what the laws' own helpers do with them. -/
namespace Go.Proofs.Ytlkpinlkbikokaa
set_option linter.unusedVariables false
open Go.RowKit
structure CoreD where
  fKind : List UInt8
  fOn : Bool
  fBroken : Bool
  fCells : List CellD
  fCount : Int
deriving DecidableEq
def okCore (d : CoreD) : Prop := d.fKind.length ≤ maxLen ∧ (∀ c ∈ d.fCells, okCell c) ∧ -9223372036854775808 ≤ d.fCount ∧ d.fCount ≤ 9223372036854775807
def vCore (d : CoreD) (cv : Value) : Value := .agg #[.string ⟨d.fKind.toArray⟩, .bool d.fOn, .bool d.fBroken, cv, .int .i64 d.fCount]
def CoreAt (w : World) (v : Value) (d : CoreD) : Prop := ∃ cv, v = vCore d cv ∧ FlatAt cCell 2 w cv d.fCells
def OwnsCore (w : World) (B : Nat) (v : Value) (d : CoreD) : Prop := ∃ cv, v = vCore d cv ∧ OwnsF cCell 146 2 w B cv d.fCells
def GivesCore (d : CoreD) (w : World) (e : Ending) (w' : World) : Prop := ∃ v, e = .returned v ∧ OwnsCore w' w.heap.size v d ∧ Below w.heap.size w w'
theorem CoreAt.below {w w' : World} {v : Value} {d : CoreD} {B : Nat} (h : CoreAt w v d) (hb : Below B w w') (hB : w.heap.size ≤ B) : CoreAt w' v d := by
  obtain ⟨cv, rfl, h⟩ := h; exact ⟨cv, rfl, h.below hb hB⟩
theorem ownsCore_below {w w' : World} {B B' : Nat} {v : Value} {d : CoreD} (h : OwnsCore w B v d) (hb : Below B' w w') (hB : w.heap.size ≤ B') : OwnsCore w' B v d := by
  obtain ⟨cv, rfl, h⟩ := h; exact ⟨cv, rfl, ownsF_below h hb hB⟩
theorem ownsCore_at {w : World} {B : Nat} {v : Value} {d : CoreD} (h : OwnsCore w B v d) (hm : d.fCells.length ≤ 4194304) : CoreAt w v d := by
  obtain ⟨cv, rfl, h⟩ := h; exact ⟨cv, rfl, ownsF_at h hm⟩
theorem bcell {W w1 : World} (hb : Below W.heap.size W w1) : (∀ b o, b < W.heap.size → w1.cell? ⟨b, o, none⟩ = W.cell? ⟨b, o, none⟩) ∧ (∀ b o, b < W.heap.size → w1.frozen? ⟨b, o, none⟩ = W.frozen? ⟨b, o, none⟩) :=
  ⟨fun b o h => hb.cell (p := ⟨b, o, none⟩) h, fun b o h => hb.frozen (p := ⟨b, o, none⟩) h⟩
theorem coreD_ext (x y : CoreD) : x = y ↔ x.fKind = y.fKind ∧ x.fOn = y.fOn ∧ x.fBroken = y.fBroken ∧ x.fCells = y.fCells ∧ x.fCount = y.fCount := by
  cases x; cases y; simp
set_option maxRecDepth 100000 in
set_option maxHeartbeats 1600000 in
theorem toCore_any (v : Value) (x : CoreD) (w : World) (hx : CoreAt w v x) (hm : x.fCells.length ≤ 2097152) :
    Calls Try.prog 41 #[v] w fun e w' => GivesCore x w e w' := by
  obtain ⟨cv, rfl, hx⟩ := hx
  obtain ⟨a0, a1, a2, a3, a4⟩ := x
  unfold vCore
  simp only at *
  have HX := Lib.hid hx
  clear hx
  have B3 := Lib.hid (show ∀ o1 o2 o3, Below w.heap.size w (((w.alloc o1).alloc o2).alloc o3) from fun o1 o2 o3 => (((Below.refl _ _).alloc (Nat.le_refl _) _).alloc (by simp) _).alloc (by simp; omega) _)
  have HC := Lib.hid (fun o1 o2 o3 => toCellS_any cv a3 (((w.alloc o1).alloc o2).alloc o3) (HX.out.below (B3.out o1 o2 o3) (Nat.le_refl _)) hm)
  go_enter Try.func41, Try.ntmps41
  go_wp2_with fail
  refine (HC.out _ _ _).mono ?_
  rintro e w1 ⟨rfl, ho, hb⟩
  have HO := Lib.hid (show OwnsF cCell 146 2 w1 (w.heap.size + 1 + 1 + 1) (.slice (some ⟨w.heap.size + 1 + 1 + 1, 0, none⟩) a3.length a3.length) a3 from by simpa using ho)
  have HB := Lib.hid ((B3.out _ _ _).trans (hb.mono (B3.out _ _ _).size))
  obtain ⟨hcc, hff⟩ := bcell hb
  have hsz := hb.size
  simp at hsz
  clear ho hb
  go_wp2_with fail
  refine bodyPost_ret (v := .agg #[.string ⟨a0.toArray⟩, .bool a1, .bool a2, _, .int .i64 a4]) (by simp [results, Try.results41, go_sem, hcc]; rfl) rfl ⟨_, rfl, ⟨_, rfl, ?_⟩, ?_⟩
  · refine ownsF_base (B := w.heap.size + 1 + 1 + 1) ?_ (by omega)
    repeat (refine ownsF_set ?_ (by simp; try omega))
    exact HO.out
  · repeat (refine Below.setCell ?_ (by simp; try omega) _)
    exact HB.out
def zCore (d : CoreD) : Nat := d.fKind.length + (d.fCells.length + sumF zCell d.fCells)
set_option maxRecDepth 100000 in
set_option maxHeartbeats 1600000 in
theorem szCore_any (v : Value) (x : CoreD) (left : Int) (w : World) (hx : CoreAt w v x) (h0 : 0 ≤ left) (h1 : left ≤ 1099511627776) (hk : x.fKind.length ≤ maxLen) (hs : ∀ d ∈ x.fCells, okCell d) :
    Calls Try.prog 34 #[v, .int .i64 left] w fun e w' => SzF (zCore x) left w e w' := by
  obtain ⟨cv, rfl, hx⟩ := hx
  obtain ⟨a0, a1, a2, a3, a4⟩ := x
  unfold vCore zCore
  simp only at *
  have HX := Lib.hid hx
  have HS := Lib.hid hs
  have HZ := Lib.hid (size_strB a0)
  unfold maxLen at hk
  clear hx hs
  have B1 := Lib.hid (show ∀ o1, Below w.heap.size w (w.alloc o1) from fun o1 => (Below.refl _ _).alloc (Nat.le_refl _) _)
  by_cases hn : left - (a0.length : Int) < 0
  · go_enter Try.func34, Try.ntmps34
    go_wp2_with fail
    go_ret
    exact ⟨-1, rfl, by omega, by omega, B1.out _⟩
  · go_enter Try.func34, Try.ntmps34
    go_wp2_with fail
    refine (szCellS_any cv a3 _ _ (HX.out.below (B1.out _) (Nat.le_refl _)) HS.out (by omega) (by omega)).mono ?_
    rintro e w1 ⟨r, rfl, hr0, hr1, hb⟩
    have HB := Lib.hid ((B1.out _).trans (hb.mono (B1.out _).size))
    have HR := Lib.hid hr1
    clear hb hr1
    by_cases hr : r < 0
    · go_wp2_with fail
      go_ret
      exact ⟨-1, rfl, by omega, by omega, HB.out⟩
    · have hr2 := HR.out (by omega)
      go_wp2_with fail
      go_ret
      exact ⟨_, rfl, by omega, by intro _; push_cast; omega, HB.out⟩
set_option maxRecDepth 100000 in
set_option maxHeartbeats 800000 in
theorem markCore_c (B : Nat) (cv : Value) (x : CoreD) (k : Int) (w : World) (hO : OwnsF cCell 146 2 w B cv x.fCells) (hm : x.fCells.length ≤ 2097152) (h0 : 1 ≤ k) (h1 : k ≤ 16777216) :
    Calls Try.prog 51 #[vCore x cv, .int .i64 k] w fun e w' => e = .returned (.int .i64 (k + x.fCells.length * 2)) ∧ OwnsF cCell 146 2 w' B cv (marksCell k x.fCells.length) ∧ w.grownBy w' cv.ownBlock := by
  obtain ⟨a0, a1, a2, a3, a4⟩ := x
  unfold vCore
  simp only at *
  have HO := Lib.hid hO
  clear hO
  go_enter Try.func51, Try.ntmps51
  go_wp2_with fail
  refine (markCellS_any B cv a3 k _ (ownsF_alloc HO.out _) hm h0 h1).mono ?_
  rintro e w1 ⟨rfl, ho, hg⟩
  have HO1 := Lib.hid ho
  have HG := Lib.hid hg
  clear ho hg
  go_wp2_with fail
  go_ret
  refine ⟨rfl, HO1.out, ?_⟩
  have g := HG.out
  exact ⟨g.os, g.tape, g.output, by have := g.size; simp at this; omega, fun i hi hne => by rw [g.block i (by simp; omega) hne]; exact ((Below.refl w.heap.size w).alloc (Nat.le_refl _) _).block i hi⟩
set_option maxRecDepth 100000 in
set_option maxHeartbeats 800000 in
theorem heldCore_any (v : Value) (x : CoreD) (n : Nat) (k : Int) (w : World) (hx : CoreAt w v { x with fCells := marksCell k n }) (hm : n ≤ 2097152) (h0 : 1 ≤ k) (h1 : k ≤ 16777216) :
    Calls Try.prog 53 #[v, .int .i64 k] w fun e w' => e = .returned (.int .i64 (k + n * 2)) ∧ Below w.heap.size w w' := by
  obtain ⟨cv, rfl, hx⟩ := hx
  obtain ⟨a0, a1, a2, a3, a4⟩ := x
  unfold vCore
  simp only at *
  have HX := Lib.hid hx
  clear hx
  have B1 := Lib.hid (show ∀ o1, Below w.heap.size w (w.alloc o1) from fun o1 => (Below.refl _ _).alloc (Nat.le_refl _) _)
  go_enter Try.func53, Try.ntmps53
  go_wp2_with fail
  refine (heldCellS_any cv n k _ (HX.out.below (B1.out _) (Nat.le_refl _)) hm h0 h1).mono ?_
  rintro e w1 ⟨rfl, hb⟩
  have HB := Lib.hid ((B1.out _).trans (hb.mono (B1.out _).size))
  clear hb
  go_wp2_with fail
  go_ret
  exact ⟨rfl, HB.out⟩
end Go.Proofs.Ytlkpinlkbikokaa
/- Cores: when two are equal. -/
namespace Go.Proofs.Ytlkpinlkbikokaa
set_option linter.unusedVariables false
open Go.RowKit
set_option maxRecDepth 100000 in
set_option maxHeartbeats 1600000 in
theorem eqCore_b (v u : Value) (x y : CoreD) (q : Bool) (hq : decide (x = y) = q) (w : World) (hx : CoreAt w v x) (hy : CoreAt w u y) :
    Calls Try.prog 49 #[v, u] w fun e w' => e = .returned (.bool q) ∧ Below w.heap.size w w' := by
  obtain ⟨cv, rfl, hx⟩ := hx
  obtain ⟨cu, rfl, hy⟩ := hy
  have hex := coreD_ext x y
  obtain ⟨a0, a1, a2, a3, a4⟩ := x
  obtain ⟨b0, b1, b2, b3, b4⟩ := y
  unfold vCore
  simp only at *
  have B2 := Lib.hid (show ∀ o1 o2, Below w.heap.size w ((w.alloc o1).alloc o2) from fun o1 o2 => ((Below.refl _ _).alloc (Nat.le_refl _) _).alloc (by simp) _)
  have HX := Lib.hid hx
  have HY := Lib.hid hy
  have HN := Lib.hid (show ¬ (a0 = b0 ∧ a1 = b1 ∧ a2 = b2 ∧ a3 = b3 ∧ a4 = b4) → false = q from fun h => by rw [← hq]; symm; rw [decide_eq_false_iff_not, hex]; exact h)
  have HQ := Lib.hid (show (a0 = b0 ∧ a1 = b1 ∧ a2 = b2 ∧ a3 = b3 ∧ a4 = b4) → true = q from fun h => by rw [← hq]; symm; rw [decide_eq_true_iff, hex]; exact h)
  have HC := Lib.hid (fun o1 o2 => eqCellS_any cv cu a3 b3 ((w.alloc o1).alloc o2) (HX.out.below (B2.out o1 o2) (Nat.le_refl _)) (HY.out.below (B2.out o1 o2) (Nat.le_refl _)))
  clear hx hy hq hex
  by_cases h0 : a0 = b0
  case neg =>
    have HF := Lib.hid (HN.out fun e => h0 e.1)
    have hne : (a0 == b0) = false := by simpa using h0
    have hnf : (a0 != b0) = true := by simpa using h0
    clear h0
    go_enter Try.func49, Try.ntmps49
    go_wp2_with fail
    go_ret
    exact ⟨ret_bool HF.out, B2.out _ _⟩
  case pos =>
    by_cases h1 : a1 = b1
    case neg =>
      have HF := Lib.hid (HN.out fun e => h1 e.2.1)
      subst h0
      cases a1 <;> cases b1
      all_goals first
        | exact absurd rfl h1
        | (clear h1
           go_enter Try.func49, Try.ntmps49
           go_wp2_with fail
           go_ret
           exact ⟨ret_bool HF.out, B2.out _ _⟩)
    case pos =>
      by_cases h2 : a2 = b2
      case neg =>
        have HF := Lib.hid (HN.out fun e => h2 e.2.2.1)
        subst h0 h1
        cases a1 <;> cases a2 <;> cases b2
        all_goals first
          | exact absurd rfl h2
          | (clear h2
             go_enter Try.func49, Try.ntmps49
             go_wp2_with fail
             go_ret
             exact ⟨ret_bool HF.out, B2.out _ _⟩)
      case pos =>
        subst h0 h1 h2
        cases hd : decide (a3 = b3)
        case false =>
          have HF := Lib.hid (HN.out fun e => by rw [decide_eq_false_iff_not] at hd; exact hd e.2.2.2.1)
          rw [hd] at HC
          clear hd
          cases a1 <;> cases a2
          all_goals
            go_enter Try.func49, Try.ntmps49
            go_wp2_with fail
            refine (HC.out _ _).mono ?_
            rintro e w1 ⟨rfl, hb⟩
            have HB := Lib.hid ((B2.out _ _).trans (hb.mono (B2.out _ _).size))
            clear hb
            go_wp2_with fail
            go_ret
            exact ⟨ret_bool HF.out, HB.out⟩
        case true =>
          rw [hd] at HC
          by_cases h4 : a4 = b4
          case neg =>
            have HF := Lib.hid (HN.out fun e => h4 e.2.2.2.2)
            have hne : (a4 == b4) = false := by simpa using h4
            have hnf : (a4 != b4) = true := by simpa using h4
            clear hd h4
            cases a1 <;> cases a2
            all_goals
              go_enter Try.func49, Try.ntmps49
              go_wp2_with fail
              refine (HC.out _ _).mono ?_
              rintro e w1 ⟨rfl, hb⟩
              have HB := Lib.hid ((B2.out _ _).trans (hb.mono (B2.out _ _).size))
              obtain ⟨hcc, hff⟩ := bcell hb
              clear hb
              go_wp2_with fail
              go_ret
              exact ⟨ret_bool HF.out, HB.out⟩
          case pos =>
            have HF := Lib.hid (HQ.out ⟨rfl, rfl, rfl, by rw [decide_eq_true_iff] at hd; exact hd, h4⟩)
            subst h4
            clear hd
            cases a1 <;> cases a2
            all_goals
              go_enter Try.func49, Try.ntmps49
              go_wp2_with fail
              refine (HC.out _ _).mono ?_
              rintro e w1 ⟨rfl, hb⟩
              have HB := Lib.hid ((B2.out _ _).trans (hb.mono (B2.out _ _).size))
              obtain ⟨hcc, hff⟩ := bcell hb
              clear hb
              go_wp2_with fail
              go_ret
              exact ⟨ret_bool HF.out, HB.out⟩
theorem eqCore_any (v u : Value) (x y : CoreD) (w : World) (hx : CoreAt w v x) (hy : CoreAt w u y) :
    Calls Try.prog 49 #[v, u] w fun e w' => e = .returned (.bool (decide (x = y))) ∧ Below w.heap.size w w' := eqCore_b v u x y _ rfl w hx hy
end Go.Proofs.Ytlkpinlkbikokaa
/- Core: how it reads, and what the laws' own helpers do with it. Written by gen/deep.py. -/
namespace Go.Proofs.Ytlkpinlkbikokaa
set_option linter.unusedVariables false
set_option linter.unusedSimpArgs false
open Go.RowKit
def rCore : Nat → World → List Value → CoreD → Prop := fun F w cs x => ∃ v3, cs = [.string ⟨x.fKind.toArray⟩, .bool x.fOn, .bool x.fBroken, v3, .int .i64 x.fCount] ∧ SliceAt (rFlat cCell) 2 F w v3 x.fCells
theorem goodCore : Good rCore 5 := by
  refine ⟨?_, ?_, ?_⟩
  · rintro F w cs x ⟨v3, rfl, h3⟩; rfl
  · rintro F w w' cs x ⟨v3, rfl, h3⟩ hk; exact ⟨v3, rfl, h3.keep (good_flat cCell_len) hk⟩
  · rintro F F' w cs x ⟨v3, rfl, h3⟩ hF; exact ⟨v3, rfl, h3.mono (good_flat cCell_len) hF⟩
theorem coreAt_of {F : Nat} {w : World} {cs : List Value} {x : CoreD} (h : rCore F w cs x) : CoreAt w (.agg cs.toArray) x := by
  obtain ⟨v0, rfl, h0⟩ := h
  exact ⟨v0, rfl, flatAt_of_slice cCell_len (by decide) h0⟩
theorem ofCoreAt {w : World} {v : Value} {x : CoreD} (h : CoreAt w v x) : ValAt rCore 0 w v x := by
  obtain ⟨cv, rfl, h⟩ := h
  exact ⟨_, rfl, cv, rfl, sliceAt_of_flat cCell_len h⟩
theorem toCore_d (v : Value) (x : CoreD) (w : World) (hx : ValAt rCore 0 w v x) (hm : zCore x ≤ 2097152) : Calls Try.prog 41 #[v] w fun e w' => GivesV rCore x w e w' := by
  obtain ⟨cs, rfl, h⟩ := hx
  refine (toCore_any _ x w (coreAt_of h) (by unfold zCore at hm; omega)).mono ?_
  rintro e w' ⟨v, rfl, ⟨cv, rfl, ho⟩, hb⟩
  exact ⟨_, rfl, ⟨cv, rfl, sliceAt_of_owns cCell_len ho (by unfold zCore at hm; omega)⟩, hb⟩
theorem szCore_d (v : Value) (x : CoreD) (left : Int) (w : World) (hx : ValAt rCore 0 w v x) (hk : okCore x) (h0 : 0 ≤ left) (h1 : left ≤ 1099511627776) : Calls Try.prog 34 #[v, .int .i64 left] w fun e w' => SzF (zCore x) left w e w' := by
  obtain ⟨cs, rfl, h⟩ := hx
  exact szCore_any _ x left w (coreAt_of h) h0 h1 hk.1 hk.2.1
theorem eqCore_d (v u : Value) (x y : CoreD) (w : World) (hx : ValAt rCore 0 w v x) (hy : ValAt rCore 0 w u y) : Calls Try.prog 49 #[v, u] w fun e w' => e = .returned (.bool (decide (x = y))) ∧ Below w.heap.size w w' := by
  obtain ⟨cs, rfl, h⟩ := hx
  obtain ⟨cs2, rfl, h2⟩ := hy
  exact eqCore_any _ _ x y w (coreAt_of h) (coreAt_of h2)
end Go.Proofs.Ytlkpinlkbikokaa
/- Layer: what the laws' own helpers do with it. Written by gen/flat.py. -/
namespace Go.Proofs.Ytlkpinlkbikokaa
set_option linter.unusedVariables false
open Go.RowKit
structure LayerD where
  fName : List UInt8
  fCount : Int
deriving DecidableEq
def okLayer (d : LayerD) : Prop := (d.fName.length ≤ maxLen) ∧ (-9223372036854775808 ≤ d.fCount ∧ d.fCount ≤ 9223372036854775807)
def vLayer (d : LayerD) : Value := .agg #[.string ⟨d.fName.toArray⟩, .int .i64 d.fCount]
def cLayer (d : LayerD) : List Value := [.string ⟨d.fName.toArray⟩, .int .i64 d.fCount]
theorem cLayer_len (d : LayerD) : (cLayer d).length = 2 := rfl
theorem cLayer_one (d : LayerD) : ∀ u ∈ cLayer d, u.oneCell' = true := by intro u hu; simp only [cLayer, List.mem_cons, List.not_mem_nil, or_false] at hu; rcases hu with rfl | rfl <;> rfl
set_option maxHeartbeats 800000 in
theorem eqLayer_any (x y : LayerD) (w : World) :
    Calls Try.prog 92 #[vLayer x, vLayer y] w fun e w' => e = .returned (.bool (decide (x = y))) ∧ Below w.heap.size w w' := by
  obtain ⟨a0, a1⟩ := x
  obtain ⟨b0, b1⟩ := y
  unfold vLayer
  by_cases h0 : a0 = b0
  · by_cases h1 : a1 = b1
    · have HN := Lib.hid (show decide ((⟨a0, a1⟩ : LayerD) = (⟨b0, b1⟩ : LayerD)) = true by rw [h0, h1]; simp)
      subst h0 h1
      go_enter Try.func92, Try.ntmps92
      go_wp2
      go_ret
      exact ⟨ret_bool HN.out.symm, ((Below.refl _ _).alloc (Nat.le_refl _) _).alloc (by simp) _⟩
    · have HN := Lib.hid (show decide ((⟨a0, a1⟩ : LayerD) = (⟨b0, b1⟩ : LayerD)) = false by rw [decide_eq_false_iff_not]; exact fun e => h1 (by injection e))
      have hne1 : (a1 == b1) = false := by simpa using h1
      have hnf1 : (a1 != b1) = true := by simpa using h1
      subst h0
      clear h1
      go_enter Try.func92, Try.ntmps92
      go_wp2
      go_ret
      exact ⟨ret_bool HN.out.symm, ((Below.refl _ _).alloc (Nat.le_refl _) _).alloc (by simp) _⟩
  · have HN := Lib.hid (show decide ((⟨a0, a1⟩ : LayerD) = (⟨b0, b1⟩ : LayerD)) = false by rw [decide_eq_false_iff_not]; exact fun e => h0 (by injection e))
    have hne0 : (a0 == b0) = false := by simpa using h0
    have hnf0 : (a0 != b0) = true := by simpa using h0
    clear h0
    go_enter Try.func92, Try.ntmps92
    go_wp2
    go_ret
    exact ⟨ret_bool HN.out.symm, ((Below.refl _ _).alloc (Nat.le_refl _) _).alloc (by simp) _⟩
set_option maxHeartbeats 800000 in
theorem toLayer_any (x : LayerD) (w : World) :
    Calls Try.prog 80 #[vLayer x] w fun e w' => e = .returned (vLayer x) ∧ Below w.heap.size w w' := by
  obtain ⟨a0, a1⟩ := x
  unfold vLayer
  go_enter Try.func80, Try.ntmps80
  go_wp2
  exact bodyPost_ret (v := .agg #[.string ⟨a0.toArray⟩, .int .i64 a1]) (by simp [results, Try.results80, go_sem]) rfl ⟨rfl, ((((Below.refl _ _).alloc (Nat.le_refl _) _).alloc (by simp) _).alloc (by simp; try omega) _)⟩
set_option maxRecDepth 100000 in
set_option maxHeartbeats 1600000 in
theorem eqLayerS_any (v u : Value) (x y : List LayerD) (w : World) (hx : FlatAt cLayer 2 w v x) (hy : FlatAt cLayer 2 w u y) :
    Calls Try.prog 50 #[v, u] w fun e w' => e = .returned (.bool (decide (x = y))) ∧ Below w.heap.size w w' := by
  obtain ⟨a, c, rfl, hl⟩ := flatAt_len hx
  obtain ⟨a2, c2, rfl, hl2⟩ := flatAt_len hy
  have HX := Lib.hid hx
  have HY := Lib.hid hy
  clear hx hy
  unfold maxLen at hl hl2
  by_cases he : x.length = y.length
  · have hb : ((x.length : Int) == y.length) = true := beq_iff_eq.2 (by omega)
    have hbn : ((x.length : Int) != y.length) = false := by rw [bne_eq_false_iff_eq]; omega
    have HE := Lib.hid he
    clear he
    go_enter Try.func50, Try.ntmps50
    go_wp2
    go_loopw [5] (fun i wr => ∃ k : Nat, k ≤ x.length ∧ i = .int .i64 k ∧ x.take k = y.take k ∧ Below w.heap.size w wr) (fun i _ => x.length - (intOf i).toNat)
    case atStart => exact ⟨0, Nat.zero_le _, rfl, rfl, Below.refl _ _⟩
    case round =>
      obtain ⟨k, hk, rfl, ht, hbr⟩ := hrel
      have HT := Lib.hid ht
      have HB := Lib.hid hbr
      have HXr := Lib.hid (FlatAt.below HX.out hbr (Nat.le_refl _))
      have HYr := Lib.hid (FlatAt.below HY.out hbr (Nat.le_refl _))
      clear ht hbr
      by_cases hlt : k < x.length
      · have hky : k < y.length := by have := HE.out; omega
        obtain ⟨b, o, rfl, _, hd⟩ := flatAt_cell cLayer_len HXr.out k hlt (by decide)
        obtain ⟨b2, o2, rfl, _, hd2⟩ := flatAt_cell cLayer_len HYr.out k hky (by decide)
        have d0 := hd 0 (by decide)
        have d1 := hd 1 (by decide)
        have q0 := hd2 0 (by decide)
        have q1 := hd2 1 (by decide)
        clear hd hd2
        have HS := Lib.hid (take_eq_step x y HE.out k hlt HT.out)
        have HD := Lib.hid (show x[k] ≠ y[k] → ¬ x = y from fun h e => h (by subst e; rfl))
        have HC := Lib.hid (eqLayer_any x[k] y[k])
        generalize x[k] = p at *
        generalize y[k] = q at *
        obtain ⟨a0, a1⟩ := p
        obtain ⟨b0, b1⟩ := q
        simp only [cLayer, vLayer, List.getElem?_cons_zero, List.getElem?_cons_succ, Nat.add_zero] at d0 q0 d1 q1 HC
        go_wp2
        go_still_tail 8, (by kernel_rfl)
        have HB1 := Lib.hid (show Below w.heap.size w wr.drew from ⟨HB.out.os, HB.out.tape, HB.out.output, HB.out.size, HB.out.block⟩)
        change wpList _ _ _ _ _ wr.drew
        generalize wr.drew = w1 at *
        go_wp2_with fail
        refine (HC.out _).mono ?_
        rintro e w2 ⟨rfl, hb0⟩
        have HB2 := Lib.hid (HB1.out.trans (hb0.mono HB1.out.size))
        clear hb0
        by_cases heq : (⟨a0, a1⟩ : LayerD) = (⟨b0, b1⟩ : LayerD)
        · have HN := Lib.hid (HS.out heq)
          rw [show decide ((⟨a0, a1⟩ : LayerD) = (⟨b0, b1⟩ : LayerD)) = true by simpa using heq]
          clear heq
          go_wp2_with fail
          exact ⟨⟨k + 1, by omega, by go_num, HN.out, HB2.out⟩, by simp [intOf]; omega⟩
        · have HN := Lib.hid (HD.out heq)
          rw [show decide ((⟨a0, a1⟩ : LayerD) = (⟨b0, b1⟩ : LayerD)) = false by rw [decide_eq_false_iff_not]; exact heq]
          clear heq
          go_wp2_with fail
          go_ret
          exact ⟨ret_bool (by simp [HN.out]), HB2.out⟩
      · have HN := Lib.hid (show x = y from by
          have h := HT.out
          rw [List.take_of_length_le (by omega), List.take_of_length_le (by have := HE.out; omega)] at h
          exact h)
        go_wp2
        go_ret
        exact ⟨ret_bool (by simp [HN.out]), HB.out⟩
  · have hb : ((x.length : Int) == y.length) = false := beq_eq_false_iff_ne.2 (by omega)
    have hbn : ((x.length : Int) != y.length) = true := by rw [bne_iff_ne]; omega
    have HN := Lib.hid (show ¬ x = y from fun e => he (by rw [e]))
    clear he
    go_enter Try.func50, Try.ntmps50
    go_wp2
    go_ret
    exact ⟨ret_bool (by simp [HN.out]), Below.refl _ _⟩
def zLayer (d : LayerD) : Nat := d.fName.length
set_option maxHeartbeats 800000 in
theorem szLayer_any (x : LayerD) (left : Int) (w : World) (h0 : 0 ≤ left) (h1 : left ≤ 1099511627776) (hs : okLayer x) :
    Calls Try.prog 72 #[vLayer x, .int .i64 left] w fun e w' => SzF (zLayer x) left w e w' := by
  obtain ⟨a0, a1⟩ := x
  obtain ⟨hs0, hs1⟩ := hs
  simp only [vLayer, zLayer] at *
  unfold maxLen at *
  have HZ0 := Lib.hid (size_strB a0)
  by_cases hn0 : left - (a0.length : Int) < 0
  · go_enter Try.func72, Try.ntmps72
    go_wp2
    go_ret
    exact ⟨-1, rfl, by omega, by omega, (Below.refl _ _).alloc (Nat.le_refl _) _⟩
  · go_enter Try.func72, Try.ntmps72
    go_wp2
    go_ret
    exact ⟨_, rfl, by omega, by push_cast; omega, (Below.refl _ _).alloc (Nat.le_refl _) _⟩
set_option maxRecDepth 100000 in
set_option maxHeartbeats 800000 in
theorem szLayerS_any (v : Value) (x : List LayerD) (left : Int) (w : World) (hx : FlatAt cLayer 2 w v x) (hs : ∀ d ∈ x, okLayer d) (h0 : 0 ≤ left) (h1 : left ≤ 1099511627776) :
    Calls Try.prog 35 #[v, .int .i64 left] w fun e w' => SzF (x.length + sumF zLayer x) left w e w' := by
  obtain ⟨a, c, rfl, hl⟩ := flatAt_len hx
  have HX := Lib.hid hx
  have HS := Lib.hid hs
  clear hx hs
  unfold maxLen at hl
  by_cases hneg : left - (x.length : Int) < 0
  · go_enter Try.func35, Try.ntmps35
    go_wp2
    go_ret
    exact ⟨-1, rfl, by omega, by omega, Below.refl _ _⟩
  · go_enter Try.func35, Try.ntmps35
    go_wp2
    go_loopw [1, 5] (fun r i wr => ∃ k : Nat, ∃ z : Int, k ≤ x.length ∧ i = .int .i64 k ∧ r = .int .i64 z ∧ 0 ≤ z ∧ z ≤ left ∧ (x.length : Int) + sumF zLayer (x.take k) + z = left ∧ Below w.heap.size w wr) (fun _ i _ => x.length - (intOf i).toNat)
    case atStart => exact ⟨0, _, Nat.zero_le _, rfl, rfl, by omega, by omega, by simp [sumF]; omega, Below.refl _ _⟩
    case round =>
      obtain ⟨k, z, hk, rfl, rfl, hz0, hz1, ht, hbr⟩ := hrel
      have HT := Lib.hid ht
      have HB := Lib.hid hbr
      have HXr := Lib.hid (FlatAt.below HX.out hbr (Nat.le_refl _))
      clear ht hbr
      by_cases hlt : k < x.length
      · obtain ⟨b, o, rfl, _, hd⟩ := flatAt_cell cLayer_len HXr.out k hlt (by decide)
        have d0 := hd 0 (by decide)
        have d1 := hd 1 (by decide)
        clear hd
        have HC := Lib.hid (szLayer_any x[k] z wr hz0 (by omega) (HS.out _ (List.getElem_mem hlt)))
        have HK := Lib.hid (sumF_take_succ zLayer x k hlt)
        generalize x[k] = p at *
        have HP := Lib.hid (rfl : zLayer p = zLayer p)
        obtain ⟨a0, a1⟩ := p
        simp only [cLayer, vLayer, List.getElem?_cons_zero, List.getElem?_cons_succ, Nat.add_zero] at d0 d1 HC
        go_wp2_with fail
        refine HC.out.mono ?_
        rintro e w2 ⟨r, rfl, hr0, hr1, hb0⟩
        have HB2 := Lib.hid (HB.out.trans (hb0.mono HB.out.size))
        have HR := Lib.hid hr1
        clear hb0 hr1
        by_cases hn2 : r < 0
        · go_wp2_with fail
          go_ret
          exact ⟨-1, rfl, by omega, by omega, HB2.out⟩
        · have hr := HR.out (by omega)
          go_wp2_with fail
          exact ⟨⟨k + 1, _, by omega, by go_num, rfl, by omega, by omega, by rw [HK.out]; have := HT.out; push_cast; omega, HB2.out⟩, by simp [intOf]; omega⟩
      · have HN := Lib.hid (show x.take k = x from List.take_of_length_le (by omega))
        go_wp2
        go_ret
        exact ⟨z, rfl, by omega, fun _ => by have := HT.out; rw [HN.out] at this; omega, HB.out⟩
theorem infoLayer : (Try.prog.info? 80).map (fun i => (i.zero, i.size, i.bytes)) = some (some (.agg #[.string ⟨#[]⟩, .int .i64 0]), 2, 24) := by kernel_rfl
set_option maxRecDepth 100000 in
set_option maxHeartbeats 1600000 in
theorem toLayerS_any (v : Value) (x : List LayerD) (w : World) (hx : FlatAt cLayer 2 w v x) (hm : x.length ≤ 2097152) :
    Calls Try.prog 42 #[v] w fun e w' => e = .returned (.slice (some ⟨w.heap.size, 0, none⟩) x.length x.length) ∧ OwnsF cLayer 80 2 w' w.heap.size (.slice (some ⟨w.heap.size, 0, none⟩) x.length x.length) x ∧ Below w.heap.size w w' := by
  obtain ⟨a, c, rfl, hl⟩ := flatAt_len hx
  obtain ⟨i0, hi, hz0, hz1, hz2⟩ := info_parts infoLayer
  have HX := Lib.hid hx
  clear hx
  unfold maxLen at hl
  go_enter Try.func42, Try.ntmps42
  have hb2 : i0.bytes * x.length ≤ 281474976710656 := by rw [hz2]; omega
  have HB2 := Lib.hid hb2
  have HM := Lib.hid (show x.length ≤ maxLen from by unfold maxLen; omega)
  clear hb2
  go_wp2_with (refine wpList_make_full _ rfl (.tmp 6) (.tmp 6) 32 rfl w.heap.size 80 i0 _ 2 Try.underlying32 hi hz0 hz1 .i64 .i64 _ _ x.length rfl rfl rfl rfl HB2.out HM.out (Nat.le_refl _) ?_; intro w1 hown1 hgrow1)
  have HO := Lib.hid (show ∃ xs, w1.ownsRow w.heap.size 80 2 (.slice (some ⟨w.heap.size, 0, none⟩) x.length x.length) x.length xs ∧ xs.take (0 * 2) = (x.flatMap cLayer).take (0 * 2) from ⟨_, hown1, by simp⟩)
  have HB := Lib.hid (show Below w.heap.size w w1 from ⟨hgrow1.os, hgrow1.tape, hgrow1.output, hgrow1.size, fun i hi => hgrow1.block i hi (by simp)⟩)
  have hsz := hgrow1.size
  clear hown1 hgrow1 hz0 hz1 hz2 HB2 hi
  go_loopw [4] (fun i wr => ∃ k : Nat, k ≤ x.length ∧ i = .int .i64 k ∧ (∃ xs, wr.ownsRow w.heap.size 80 2 (.slice (some ⟨w.heap.size, 0, none⟩) x.length x.length) x.length xs ∧ xs.take (k * 2) = (x.flatMap cLayer).take (k * 2)) ∧ Below w.heap.size w wr) (fun i _ => x.length - (intOf i).toNat)
  case atStart => exact ⟨0, Nat.zero_le _, rfl, HO.out, HB.out⟩
  case round =>
    obtain ⟨k, hk, rfl, ⟨xs, hown, htake⟩, hb⟩ := hrel
    have HR := Lib.hid (FlatAt.below HX.out hb (Nat.le_refl _))
    have HBr := Lib.hid hb
    have HOw := Lib.hid hown
    have HT := Lib.hid htake
    have HXL := Lib.hid (show xs.length = x.length * 2 from hown.1)
    clear hb hown htake
    by_cases hlt : k < x.length
    · obtain ⟨b, o, rfl, _, hd⟩ := flatAt_cell cLayer_len HR.out k hlt (by decide)
      have d0 := hd 0 (by decide)
      have d1 := hd 1 (by decide)
      have g0 := flat_get cLayer 2 cLayer_len x k hlt 0 (by decide)
      have g1 := flat_get cLayer 2 cLayer_len x k hlt 1 (by decide)
      clear hd
      have HC := Lib.hid (toLayer_any x[k] wr)
      generalize x[k] = p at *
      obtain ⟨a0, a1⟩ := p
      simp only [cLayer, vLayer, List.getElem?_cons_zero, List.getElem?_cons_succ, Nat.add_zero] at d0 d1 HC g0 g1
      have G0 := Lib.hid g0
      have G1 := Lib.hid g1
      clear g0 g1
      go_wp2_with fail
      refine HC.out.mono ?_
      rintro e w2 ⟨rfl, hb0⟩
      have HB3 := Lib.hid (HBr.out.trans (hb0.mono HBr.out.size))
      have HO3 := Lib.hid (ownsRow_below HOw.out hb0 (Nat.le_refl _))
      clear hb0
      obtain ⟨u0, c0⟩ : ∃ u, w2.cell? ⟨w.heap.size, k * 2, none⟩ = some u := by
        rw [World.ownsRow.cellAt HO3.out (k * 2) (by omega), List.getElem?_eq_getElem (by have := HXL.out; omega)]
        exact ⟨_, rfl⟩
      have f0 := World.ownsRow.frozenAt HO3.out (k * 2)
      obtain ⟨u1, c1⟩ : ∃ u, w2.cell? ⟨w.heap.size, k * 2 + 1, none⟩ = some u := by
        rw [World.ownsRow.cellAt HO3.out (k * 2 + 1) (by omega), List.getElem?_eq_getElem (by have := HXL.out; omega)]
        exact ⟨_, rfl⟩
      have f1 := World.ownsRow.frozenAt HO3.out (k * 2 + 1)
      have HS0 := Lib.hid (World.ownsRow.stored HO3.out (k * 2) (.string ⟨a0.toArray⟩))
      have HT0 := Lib.hid (take_set_get _ (x.flatMap cLayer) (k * 2) _ (by have := HXL.out; (try simp only [List.length_set]); omega) G0.out HT.out)
      have HS1 := Lib.hid (World.ownsRow.stored HS0.out.1 (k * 2 + 1) (.int .i64 a1))
      have HT1 := Lib.hid (take_set_get _ (x.flatMap cLayer) (k * 2 + 1) _ (by have := HXL.out; (try simp only [List.length_set]); omega) G1.out HT0.out)
      go_wp2_with fail
      refine ⟨⟨k + 1, by omega, by go_num, ⟨_, HS1.out.1, by rw [show (k + 1) * 2 = k * 2 + 1 + 1 by omega]; exact HT1.out⟩, ?_⟩, by simp [intOf]; omega⟩
      exact ((HB3.out.setCell (Nat.le_refl _) _).setCell (Nat.le_refl _) _)
    · have HN := Lib.hid (show xs = x.flatMap cLayer from by
        have h := HT.out
        rw [List.take_of_length_le (by have := HXL.out; omega), List.take_of_length_le (by rw [flat_len cLayer 2 cLayer_len]; omega)] at h
        exact h)
      go_wp2
      go_ret
      exact ⟨rfl, by have h := HOw.out; rw [HN.out] at h; exact h, HBr.out⟩
def marksLayer (k : Int) (n : Nat) : List LayerD := (List.range n).map fun i : Nat => ⟨markL (k + i * 2), k + i * 2 + 1⟩
theorem marksLayer_len (k : Int) (n : Nat) : (marksLayer k n).length = n := by simp [marksLayer]
theorem marksLayer_get (k : Int) (n i : Nat) (h : i < n) : (marksLayer k n)[i]'(by rw [marksLayer_len]; exact h) = ⟨markL (k + i * 2), k + i * 2 + 1⟩ := by simp [marksLayer]
set_option maxRecDepth 100000 in
set_option maxHeartbeats 1600000 in
theorem markLayerS_any (B : Nat) (v : Value) (x : List LayerD) (k : Int) (w : World) (hO : OwnsF cLayer 80 2 w B v x) (hm : x.length ≤ 2097152) (h0 : 1 ≤ k) (h1 : k ≤ 16777216) :
    Calls Try.prog 52 #[v, .int .i64 k] w fun e w' => e = .returned (.int .i64 (k + x.length * 2)) ∧ OwnsF cLayer 80 2 w' B v (marksLayer k x.length) ∧ w.grownBy w' v.ownBlock := by
  unfold OwnsF at hO
  rcases hO.2 with ⟨rfl, hn⟩ | ⟨g, cap, cur, rfl, _⟩
  · have hx : x = [] := List.eq_nil_of_length_eq_zero hn
    subst hx
    go_enter Try.func52, Try.ntmps52
    go_wp2_with fail
    refine wp_loop_rounds 1 ?_
    rw [rounds_succ]
    go_wp2_with fail
    go_ret
    exact ⟨ret_int (by simp), by simpa [OwnsF, marksLayer] using hO, grownBy_refl _ _⟩
  · have HO := Lib.hid (show ∃ xs, w.ownsRow B 80 2 (.slice (some ⟨g, 0, none⟩) x.length cap) x.length xs ∧ xs.take (0 * 2) = ((marksLayer k x.length).flatMap cLayer).take (0 * 2) from ⟨_, hO, by simp⟩)
    have hgw : g < w.heap.size := (hO.lt g rfl).2
    clear hO
    go_enter Try.func52, Try.ntmps52
    go_wp2_with fail
    go_loopw [1, 5] (fun kv i wr => ∃ j : Nat, j ≤ x.length ∧ i = .int .i64 j ∧ kv = .int .i64 (k + j * 2) ∧ (∃ xs, wr.ownsRow B 80 2 (.slice (some ⟨g, 0, none⟩) x.length cap) x.length xs ∧ xs.take (j * 2) = ((marksLayer k x.length).flatMap cLayer).take (j * 2)) ∧ w.grownBy wr (some g)) (fun _ i _ => x.length - (intOf i).toNat)
    case atStart => exact ⟨0, Nat.zero_le _, rfl, by simp, HO.out, grownBy_refl _ _⟩
    case round =>
      obtain ⟨j, hj, rfl, rfl, ⟨xs, hown, htake⟩, hg⟩ := hrel
      have HG := Lib.hid hg
      have HOw := Lib.hid hown
      have HT := Lib.hid htake
      have HXL := Lib.hid (show xs.length = x.length * 2 from hown.1)
      clear hg hown htake
      by_cases hlt : j < x.length
      · have G0 := Lib.hid (flat_get cLayer 2 cLayer_len (marksLayer k x.length) j (by rw [marksLayer_len]; exact hlt) 0 (by decide))
        have G1 := Lib.hid (flat_get cLayer 2 cLayer_len (marksLayer k x.length) j (by rw [marksLayer_len]; exact hlt) 1 (by decide))
        rw [marksLayer_get k _ j hlt] at G0 G1
        simp only [cLayer, List.getElem?_cons_zero, List.getElem?_cons_succ, Nat.add_zero] at G0 G1
        go_wp2_with fail
        refine (markText_any (k + j * 2) _ (by omega) (by omega)).mono ?_
        rintro e w1 ⟨rfl, hb⟩
        have HO1 := Lib.hid (ownsRow_below HOw.out hb (Nat.le_refl _))
        have HG1 := Lib.hid (grownBy_below (HG.out) hb (HG.out).size)
        clear hb
        obtain ⟨u0, c0⟩ : ∃ u, w1.cell? ⟨g, j * 2, none⟩ = some u := by
          rw [World.ownsRow.cellAt HO1.out (j * 2) (by omega), List.getElem?_eq_getElem (by have := HXL.out; (try simp only [List.length_set]); omega)]
          exact ⟨_, rfl⟩
        have f0 := World.ownsRow.frozenAt HO1.out (j * 2)
        obtain ⟨u1, c1⟩ : ∃ u, w1.cell? ⟨g, j * 2 + 1, none⟩ = some u := by
          rw [World.ownsRow.cellAt HO1.out (j * 2 + 1) (by omega), List.getElem?_eq_getElem (by have := HXL.out; (try simp only [List.length_set]); omega)]
          exact ⟨_, rfl⟩
        have f1 := World.ownsRow.frozenAt HO1.out (j * 2 + 1)
        have HS0 := Lib.hid (World.ownsRow.stored HO1.out (j * 2) (.string ⟨(markL (k + j * 2)).toArray⟩))
        have HT0 := Lib.hid (take_set_get _ _ (j * 2) _ (by have := HXL.out; (try simp only [List.length_set]); omega) G0.out HT.out)
        have HS1 := Lib.hid (World.ownsRow.stored HS0.out.1 (j * 2 + 1) (.int .i64 (k + j * 2 + 1)))
        have HT1 := Lib.hid (take_set_get _ _ (j * 2 + 1) _ (by have := HXL.out; (try simp only [List.length_set]); omega) G1.out HT0.out)
        go_wp2_with fail
        refine ⟨⟨j + 1, by omega, by go_num, ?_, ⟨_, HS1.out.1, by rw [show (j + 1) * 2 = j * 2 + 1 + 1 by omega]; exact HT1.out⟩, ?_⟩, by simp [intOf]; omega⟩
        · congr 1; push_cast; omega
        · exact (grownBy_trans (grownBy_trans HG1.out HS0.out.2) HS1.out.2)
      · have HN := Lib.hid (show xs = (marksLayer k x.length).flatMap cLayer from by
          have h := HT.out
          rw [List.take_of_length_le (by have := HXL.out; omega), List.take_of_length_le (by rw [flat_len cLayer 2 cLayer_len, marksLayer_len]; omega)] at h
          exact h)
        go_wp2_with fail
        go_ret
        exact ⟨ret_int (by rw [show j = x.length by omega]), by have h := HOw.out; rw [HN.out] at h; unfold OwnsF; rw [marksLayer_len]; exact h, HG.out⟩
set_option maxRecDepth 100000 in
set_option maxHeartbeats 1600000 in
theorem heldLayerS_any (v : Value) (n : Nat) (k : Int) (w : World) (hR : FlatAt cLayer 2 w v (marksLayer k n)) (hm : n ≤ 2097152) (h0 : 1 ≤ k) (h1 : k ≤ 16777216) :
    Calls Try.prog 54 #[v, .int .i64 k] w fun e w' => e = .returned (.int .i64 (k + n * 2)) ∧ Below w.heap.size w w' := by
  obtain ⟨a, c, rfl, hl⟩ := flatAt_len hR
  rw [marksLayer_len] at *
  have HR := Lib.hid hR
  clear hR
  unfold maxLen at hl
  go_enter Try.func54, Try.ntmps54
  go_wp2_with fail
  go_loopw [1, 5] (fun kv i wr => ∃ j : Nat, j ≤ n ∧ i = .int .i64 j ∧ kv = .int .i64 (k + j * 2) ∧ Below w.heap.size w wr) (fun _ i _ => n - (intOf i).toNat)
  case atStart => exact ⟨0, Nat.zero_le _, rfl, by simp, Below.refl _ _⟩
  case round =>
    obtain ⟨j, hj, rfl, rfl, hb⟩ := hrel
    have HB := Lib.hid hb
    have HRr := Lib.hid (FlatAt.below HR.out hb (Nat.le_refl _))
    clear hb
    by_cases hlt : j < n
    · obtain ⟨b, o, rfl, hbw, hd⟩ := flatAt_cell cLayer_len HRr.out j (by rw [marksLayer_len]; exact hlt) (by decide)
      rw [marksLayer_get k n j hlt] at hd
      have d0 := hd 0 (by decide)
      have d1 := hd 1 (by decide)
      clear hd
      simp only [cLayer, List.getElem?_cons_zero, List.getElem?_cons_succ, Nat.add_zero] at d0 d1
      have hj0 : (0 : Int) ≤ (j : Int) := Int.natCast_nonneg _
      have hj1 : (j : Int) < (n : Int) := by omega
      have D0 := Lib.hid d0
      have D1 := Lib.hid d1
      clear d0 d1
      have HBL := Lib.hid hbw
      have d0 := D0.out
      have hbeq0 : (markL (k + j * 2) == markL (k + j * 2)) = true := by simp
      go_wp2_with fail
      go_region_held3 (fun w' => w'.cell? ⟨b, o + j * 2, none⟩ = some (.string ⟨(markL (k + j * 2)).toArray⟩))
        (first
          | go_keep
          | (rw [hb1.cell (p := ⟨b, o + j * 2, none⟩) (by simpa using hbw)]; assumption))
        ((go_at_call 58; refine (markText_any (k + j * 2) _ (by omega) (by omega)).mono ?_; rintro e w1 ⟨rfl, hb1⟩))
      have hB1 : Below wr.heap.size wr w1 := ⟨hb1.os, hb1.tape, hb1.output, hb1.size, hb1.block⟩
      have HB1 := Lib.hid (HB.out.trans (hB1.mono HB.out.size))
      have E1_1 := Lib.hid (show w1.cell? ⟨b, o + j * 2 + 1, none⟩ = some (.int .i64 (k + j * 2 + 1)) by rw [hB1.cell (p := ⟨b, o + j * 2 + 1, none⟩) hbw]; exact D1.out)
      have hbw1 : b < w1.heap.size := Nat.lt_of_lt_of_le hbw hB1.size
      clear hb1 hB1
      have hbw := hbw1
      have d1 := E1_1.out
      go_wp2_with fail
      exact ⟨⟨j + 1, by omega, by go_num, by congr 1; push_cast; omega, HB1.out⟩, by simp [intOf]; omega⟩
    · go_wp2_with fail
      go_ret
      exact ⟨ret_int (by rw [show j = n by omega]), HB.out⟩
end Go.Proofs.Ytlkpinlkbikokaa
/- Layer: how it reads, and what the laws' own helpers do with it. Written by gen/deep.py. -/
namespace Go.Proofs.Ytlkpinlkbikokaa
set_option linter.unusedVariables false
set_option linter.unusedSimpArgs false
open Go.RowKit
theorem toLayerS_d (v : Value) (x : List LayerD) (w : World) (hx : SliceAt (rFlat cLayer) 2 0 w v x) (hm : x.length + sumF zLayer x ≤ 2097152) : Calls Try.prog 42 #[v] w fun e w' => GivesS (rFlat cLayer) 2 x w e w' :=
  (toLayerS_any v x w (flatAt_of_slice cLayer_len (by decide) hx) (by omega)).mono fun e w' ⟨h1, h2, h3⟩ => ⟨_, h1, sliceAt_of_owns cLayer_len h2 (by omega), h3⟩
theorem szLayerS_d (v : Value) (x : List LayerD) (left : Int) (w : World) (hx : SliceAt (rFlat cLayer) 2 0 w v x) (hs : ∀ d ∈ x, okLayer d) (h0 : 0 ≤ left) (h1 : left ≤ 1099511627776) : Calls Try.prog 35 #[v, .int .i64 left] w fun e w' => SzF (x.length + sumF zLayer x) left w e w' :=
  szLayerS_any v x left w (flatAt_of_slice cLayer_len (by decide) hx) hs h0 h1
theorem eqLayerS_d (v u : Value) (x y : List LayerD) (w : World) (hx : SliceAt (rFlat cLayer) 2 0 w v x) (hy : SliceAt (rFlat cLayer) 2 0 w u y) : Calls Try.prog 50 #[v, u] w fun e w' => e = .returned (.bool (decide (x = y))) ∧ Below w.heap.size w w' :=
  eqLayerS_any v u x y w (flatAt_of_slice cLayer_len (by decide) hx) (flatAt_of_slice cLayer_len (by decide) hy)
end Go.Proofs.Ytlkpinlkbikokaa
/- Part: how it reads, and what the laws' own helpers do with it. Written by gen/deep.py. -/
namespace Go.Proofs.Ytlkpinlkbikokaa
set_option linter.unusedVariables false
set_option linter.unusedSimpArgs false
open Go.RowKit
structure PartD where
  fCore : CoreD
  fLayers : List LayerD
deriving DecidableEq
def okPart (x : PartD) : Prop := (okCore x.fCore) ∧ (∀ c ∈ x.fLayers, okLayer c)
def rPart : Nat → World → List Value → PartD → Prop := fun F w cs x => ∃ v3 v5, cs = [.string ⟨x.fCore.fKind.toArray⟩, .bool x.fCore.fOn, .bool x.fCore.fBroken, v3, .int .i64 x.fCore.fCount, v5] ∧ SliceAt (rFlat cCell) 2 F w v3 x.fCore.fCells ∧ SliceAt (rFlat cLayer) 2 F w v5 x.fLayers
theorem goodPart : Good rPart 6 := by
  refine ⟨?_, ?_, ?_⟩
  · rintro F w cs x ⟨v3, v5, rfl, h3, h5⟩; rfl
  · rintro F w w' cs x ⟨v3, v5, rfl, h3, h5⟩ hk; exact ⟨v3, v5, rfl, h3.keep (good_flat cCell_len) hk, h5.keep (good_flat cLayer_len) hk⟩
  · rintro F F' w cs x ⟨v3, v5, rfl, h3, h5⟩ hF; exact ⟨v3, v5, rfl, h3.mono (good_flat cCell_len) hF, h5.mono (good_flat cLayer_len) hF⟩
def zPart (x : PartD) : Nat := zCore x.fCore + (x.fLayers.length + sumF zLayer x.fLayers)
set_option maxRecDepth 100000 in
set_option maxHeartbeats 1600000 in
theorem toPart_d (v : Value) (x : PartD) (w : World) (hx : ValAt rPart 0 w v x) (hm : zPart x ≤ 2097152) : Calls Try.prog 10 #[v] w fun e w' => GivesV rPart x w e w' := by
  obtain ⟨_, rfl, hx⟩ := hx
  obtain ⟨⟨a0_0, a0_1, a0_2, a0_3, a0_4⟩, a1⟩ := x
  obtain ⟨v3, v5, rfl, h3, h5⟩ := hx
  simp only at h3 h5
  simp only [zPart, zCore] at hm
  have HM := Lib.hid hm
  obtain ⟨ra3, rc3, rfl, _⟩ := sliceAt_len h3
  obtain ⟨ra5, rc5, rfl, _⟩ := sliceAt_len h5
  have H3 := Lib.hid h3
  have H5 := Lib.hid h5
  clear hm h3 h5
  have HS := Lib.hid (bx_start3 w [.string ⟨a0_0.toArray⟩, .bool a0_1, .bool a0_2, .slice ra3 a0_3.length rc3, .int .i64 a0_4, .slice ra5 a1.length rc5] [.string ⟨#[]⟩, .bool false, .bool false, .slice none 0 0, .int .i64 0, .slice none 0 0] [.string ⟨#[]⟩, .bool false, .bool false, .slice none 0 0, .int .i64 0, .slice none 0 0] 27 34 34)
  have BA := Lib.hid HS.out.1
  have BB := Lib.hid HS.out.2.1
  have BC := Lib.hid HS.out.2.2.1
  have HB := Lib.hid HS.out.2.2.2
  clear HS
  go_enter Try.func10, Try.ntmps10
  go_wp2_with fail
  generalize ((w.alloc (.cells #[.string ⟨a0_0.toArray⟩, .bool a0_1, .bool a0_2, .slice ra3 a0_3.length rc3, .int .i64 a0_4, .slice ra5 a1.length rc5] 27)).alloc (.cells #[.string ⟨#[]⟩, .bool false, .bool false, .slice none 0 0, .int .i64 0, .slice none 0 0] 34)).alloc (.cells #[.string ⟨#[]⟩, .bool false, .bool false, .slice none 0 0, .int .i64 0, .slice none 0 0] 34) = X1 at *
  refine (toCore_d _ (⟨a0_0, a0_1, a0_2, a0_3, a0_4⟩ : CoreD) _ ⟨_, rfl, _, rfl, (H3.out.below (good_flat cCell_len) HB.out (Nat.le_refl _))⟩ (by simp only [zCore]; have := HM.out; omega)).mono ?_
  rintro e w1 ⟨_, rfl, ⟨u3, rfl, hr3⟩, hb⟩
  have hX : w.heap.size + 3 ≤ X1.heap.size := by have := BC.out.lt; omega
  simp only at hr3
  have R3 := Lib.hid (hr3.mono (good_flat cCell_len) hX)
  obtain ⟨p3, q3, rfl, _⟩ := sliceAt_len hr3
  clear hr3
  have BA := Lib.hid (BA.out.below hb)
  have BB := Lib.hid (BB.out.below hb)
  have BC := Lib.hid (BC.out.below hb)
  have HB := Lib.hid (belS (w := w) HB.out hb)
  clear hb hX
  have eA0 := BA.out.cell 0 (by simp)
  have eA1 := BA.out.cell 1 (by simp)
  have eA2 := BA.out.cell 2 (by simp)
  have eA3 := BA.out.cell 3 (by simp)
  have eA4 := BA.out.cell 4 (by simp)
  have eA5 := BA.out.cell 5 (by simp)
  simp only [List.getElem_cons_zero, List.getElem_cons_succ, List.set_cons_zero, List.set_cons_succ] at eA0 eA1 eA2 eA3 eA4 eA5
  have eC0 := BC.out.cell 0 (by simp)
  have fC0 := BC.out.froz 0 (by simp)
  have eC1 := BC.out.cell 1 (by simp)
  have fC1 := BC.out.froz 1 (by simp)
  have eC2 := BC.out.cell 2 (by simp)
  have fC2 := BC.out.froz 2 (by simp)
  have eC3 := BC.out.cell 3 (by simp)
  have fC3 := BC.out.froz 3 (by simp)
  have eC4 := BC.out.cell 4 (by simp)
  have fC4 := BC.out.froz 4 (by simp)
  have eC5 := BC.out.cell 5 (by simp)
  have fC5 := BC.out.froz 5 (by simp)
  simp only [List.getElem_cons_zero, List.getElem_cons_succ, List.set_cons_zero, List.set_cons_succ] at eC0 eC1 eC2 eC3 eC4 eC5
  go_wp2_with fail
  clear eA0 eA1 eA2 eA3 eA4 eA5
  clear eC0 fC0 eC1 fC1 eC2 fC2 eC3 fC3 eC4 fC4 eC5 fC5
  have BC := Lib.hid (BC.out.set 0 (by simp) (.string ⟨a0_0.toArray⟩))
  have BA := Lib.hid (BA.out.other (c := w.heap.size + 1 + 1) (by omega) 0 (.string ⟨a0_0.toArray⟩))
  have BB := Lib.hid (BB.out.other (c := w.heap.size + 1 + 1) (by omega) 0 (.string ⟨a0_0.toArray⟩))
  have HB := Lib.hid (HB.out.setCell (p := ⟨w.heap.size + 1 + 1, 0, none⟩) (by simp; try omega) (.string ⟨a0_0.toArray⟩))
  have BC := Lib.hid (BC.out.set 1 (by simp) (.bool a0_1))
  have BA := Lib.hid (BA.out.other (c := w.heap.size + 1 + 1) (by omega) 1 (.bool a0_1))
  have BB := Lib.hid (BB.out.other (c := w.heap.size + 1 + 1) (by omega) 1 (.bool a0_1))
  have HB := Lib.hid (HB.out.setCell (p := ⟨w.heap.size + 1 + 1, 1, none⟩) (by simp; try omega) (.bool a0_1))
  have BC := Lib.hid (BC.out.set 2 (by simp) (.bool a0_2))
  have BA := Lib.hid (BA.out.other (c := w.heap.size + 1 + 1) (by omega) 2 (.bool a0_2))
  have BB := Lib.hid (BB.out.other (c := w.heap.size + 1 + 1) (by omega) 2 (.bool a0_2))
  have HB := Lib.hid (HB.out.setCell (p := ⟨w.heap.size + 1 + 1, 2, none⟩) (by simp; try omega) (.bool a0_2))
  have BC := Lib.hid (BC.out.set 3 (by simp) (.slice p3 a0_3.length q3))
  have BA := Lib.hid (BA.out.other (c := w.heap.size + 1 + 1) (by omega) 3 (.slice p3 a0_3.length q3))
  have BB := Lib.hid (BB.out.other (c := w.heap.size + 1 + 1) (by omega) 3 (.slice p3 a0_3.length q3))
  have HB := Lib.hid (HB.out.setCell (p := ⟨w.heap.size + 1 + 1, 3, none⟩) (by simp; try omega) (.slice p3 a0_3.length q3))
  have BC := Lib.hid (BC.out.set 4 (by simp) (.int .i64 a0_4))
  have BA := Lib.hid (BA.out.other (c := w.heap.size + 1 + 1) (by omega) 4 (.int .i64 a0_4))
  have BB := Lib.hid (BB.out.other (c := w.heap.size + 1 + 1) (by omega) 4 (.int .i64 a0_4))
  have HB := Lib.hid (HB.out.setCell (p := ⟨w.heap.size + 1 + 1, 4, none⟩) (by simp; try omega) (.int .i64 a0_4))
  have R3 := Lib.hid (R3.out.keep (good_flat cCell_len) ((((((Kept.refl _ _).setCell (p := ⟨w.heap.size + 1 + 1, 0, none⟩) (by simp) (.string ⟨a0_0.toArray⟩)).setCell (p := ⟨w.heap.size + 1 + 1, 1, none⟩) (by simp) (.bool a0_1)).setCell (p := ⟨w.heap.size + 1 + 1, 2, none⟩) (by simp) (.bool a0_2)).setCell (p := ⟨w.heap.size + 1 + 1, 3, none⟩) (by simp) (.slice p3 a0_3.length q3)).setCell (p := ⟨w.heap.size + 1 + 1, 4, none⟩) (by simp) (.int .i64 a0_4)))
  simp only [List.set_cons_zero, List.set_cons_succ] at BC
  generalize (((((w1).setCell ⟨w.heap.size + 1 + 1, 0, none⟩ (.string ⟨a0_0.toArray⟩)).setCell ⟨w.heap.size + 1 + 1, 1, none⟩ (.bool a0_1)).setCell ⟨w.heap.size + 1 + 1, 2, none⟩ (.bool a0_2)).setCell ⟨w.heap.size + 1 + 1, 3, none⟩ (.slice p3 a0_3.length q3)).setCell ⟨w.heap.size + 1 + 1, 4, none⟩ (.int .i64 a0_4) = X2 at *
  refine (toLayerS_d _ a1 _ (H5.out.below (good_flat cLayer_len) HB.out (Nat.le_refl _)) (by have := HM.out; omega)).mono ?_
  rintro e w2 ⟨u5, rfl, hr5, hb⟩
  have hX : w.heap.size + 3 ≤ X2.heap.size := by have := BC.out.lt; omega
  have R3 := Lib.hid (R3.out.keep (good_flat cCell_len) (kept_below hb (Nat.le_refl _)))
  have R5 := Lib.hid (hr5.mono (good_flat cLayer_len) hX)
  obtain ⟨p5, q5, rfl, _⟩ := sliceAt_len hr5
  clear hr5
  have BA := Lib.hid (BA.out.below hb)
  have BB := Lib.hid (BB.out.below hb)
  have BC := Lib.hid (BC.out.below hb)
  have HB := Lib.hid (belS (w := w) HB.out hb)
  clear hb hX
  have eA0 := BA.out.cell 0 (by simp)
  have eA1 := BA.out.cell 1 (by simp)
  have eA2 := BA.out.cell 2 (by simp)
  have eA3 := BA.out.cell 3 (by simp)
  have eA4 := BA.out.cell 4 (by simp)
  have eA5 := BA.out.cell 5 (by simp)
  simp only [List.getElem_cons_zero, List.getElem_cons_succ, List.set_cons_zero, List.set_cons_succ] at eA0 eA1 eA2 eA3 eA4 eA5
  have eC0 := BC.out.cell 0 (by simp)
  have fC0 := BC.out.froz 0 (by simp)
  have eC1 := BC.out.cell 1 (by simp)
  have fC1 := BC.out.froz 1 (by simp)
  have eC2 := BC.out.cell 2 (by simp)
  have fC2 := BC.out.froz 2 (by simp)
  have eC3 := BC.out.cell 3 (by simp)
  have fC3 := BC.out.froz 3 (by simp)
  have eC4 := BC.out.cell 4 (by simp)
  have fC4 := BC.out.froz 4 (by simp)
  have eC5 := BC.out.cell 5 (by simp)
  have fC5 := BC.out.froz 5 (by simp)
  simp only [List.getElem_cons_zero, List.getElem_cons_succ, List.set_cons_zero, List.set_cons_succ] at eC0 eC1 eC2 eC3 eC4 eC5
  have eB0 := BB.out.cell 0 (by simp)
  have fB0 := BB.out.froz 0 (by simp)
  have eB1 := BB.out.cell 1 (by simp)
  have fB1 := BB.out.froz 1 (by simp)
  have eB2 := BB.out.cell 2 (by simp)
  have fB2 := BB.out.froz 2 (by simp)
  have eB3 := BB.out.cell 3 (by simp)
  have fB3 := BB.out.froz 3 (by simp)
  have eB4 := BB.out.cell 4 (by simp)
  have fB4 := BB.out.froz 4 (by simp)
  have eB5 := BB.out.cell 5 (by simp)
  have fB5 := BB.out.froz 5 (by simp)
  simp only [List.getElem_cons_zero, List.getElem_cons_succ, List.set_cons_zero, List.set_cons_succ] at eB0 eB1 eB2 eB3 eB4 eB5
  go_wp2_with fail
  clear eA0 eA1 eA2 eA3 eA4 eA5
  clear eC0 fC0 eC1 fC1 eC2 fC2 eC3 fC3 eC4 fC4 eC5 fC5
  clear eB0 fB0 eB1 fB1 eB2 fB2 eB3 fB3 eB4 fB4 eB5 fB5
  have BC := Lib.hid (BC.out.set 5 (by simp) (.slice p5 a1.length q5))
  have BA := Lib.hid (BA.out.other (c := w.heap.size + 1 + 1) (by omega) 5 (.slice p5 a1.length q5))
  have BB := Lib.hid (BB.out.other (c := w.heap.size + 1 + 1) (by omega) 5 (.slice p5 a1.length q5))
  have HB := Lib.hid (HB.out.setCell (p := ⟨w.heap.size + 1 + 1, 5, none⟩) (by simp; try omega) (.slice p5 a1.length q5))
  have R3 := Lib.hid (R3.out.keep (good_flat cCell_len) ((Kept.refl _ _).setCell (p := ⟨w.heap.size + 1 + 1, 5, none⟩) (by simp) (.slice p5 a1.length q5)))
  have R5 := Lib.hid (R5.out.keep (good_flat cLayer_len) ((Kept.refl _ _).setCell (p := ⟨w.heap.size + 1 + 1, 5, none⟩) (by simp) (.slice p5 a1.length q5)))
  simp only [List.set_cons_zero, List.set_cons_succ] at BC
  have BB := Lib.hid (BB.out.set 0 (by simp) (.string ⟨a0_0.toArray⟩))
  have HB := Lib.hid (HB.out.setCell (p := ⟨w.heap.size + 1, 0, none⟩) (by simp; try omega) (.string ⟨a0_0.toArray⟩))
  have BB := Lib.hid (BB.out.set 1 (by simp) (.bool a0_1))
  have HB := Lib.hid (HB.out.setCell (p := ⟨w.heap.size + 1, 1, none⟩) (by simp; try omega) (.bool a0_1))
  have BB := Lib.hid (BB.out.set 2 (by simp) (.bool a0_2))
  have HB := Lib.hid (HB.out.setCell (p := ⟨w.heap.size + 1, 2, none⟩) (by simp; try omega) (.bool a0_2))
  have BB := Lib.hid (BB.out.set 3 (by simp) (.slice p3 a0_3.length q3))
  have HB := Lib.hid (HB.out.setCell (p := ⟨w.heap.size + 1, 3, none⟩) (by simp; try omega) (.slice p3 a0_3.length q3))
  have BB := Lib.hid (BB.out.set 4 (by simp) (.int .i64 a0_4))
  have HB := Lib.hid (HB.out.setCell (p := ⟨w.heap.size + 1, 4, none⟩) (by simp; try omega) (.int .i64 a0_4))
  have BB := Lib.hid (BB.out.set 5 (by simp) (.slice p5 a1.length q5))
  have HB := Lib.hid (HB.out.setCell (p := ⟨w.heap.size + 1, 5, none⟩) (by simp; try omega) (.slice p5 a1.length q5))
  have R3 := Lib.hid ((R3.out.keep (good_flat cCell_len) (((((((Kept.refl _ _).setCell (p := ⟨w.heap.size + 1, 0, none⟩) (by simp) (.string ⟨a0_0.toArray⟩)).setCell (p := ⟨w.heap.size + 1, 1, none⟩) (by simp) (.bool a0_1)).setCell (p := ⟨w.heap.size + 1, 2, none⟩) (by simp) (.bool a0_2)).setCell (p := ⟨w.heap.size + 1, 3, none⟩) (by simp) (.slice p3 a0_3.length q3)).setCell (p := ⟨w.heap.size + 1, 4, none⟩) (by simp) (.int .i64 a0_4)).setCell (p := ⟨w.heap.size + 1, 5, none⟩) (by simp) (.slice p5 a1.length q5))).mono (good_flat cCell_len) (show w.heap.size ≤ w.heap.size + 3 by omega))
  have R5 := Lib.hid ((R5.out.keep (good_flat cLayer_len) (((((((Kept.refl _ _).setCell (p := ⟨w.heap.size + 1, 0, none⟩) (by simp) (.string ⟨a0_0.toArray⟩)).setCell (p := ⟨w.heap.size + 1, 1, none⟩) (by simp) (.bool a0_1)).setCell (p := ⟨w.heap.size + 1, 2, none⟩) (by simp) (.bool a0_2)).setCell (p := ⟨w.heap.size + 1, 3, none⟩) (by simp) (.slice p3 a0_3.length q3)).setCell (p := ⟨w.heap.size + 1, 4, none⟩) (by simp) (.int .i64 a0_4)).setCell (p := ⟨w.heap.size + 1, 5, none⟩) (by simp) (.slice p5 a1.length q5))).mono (good_flat cLayer_len) (show w.heap.size ≤ w.heap.size + 3 by omega))
  simp only [List.set_cons_zero, List.set_cons_succ] at BB
  generalize (((((((w2).setCell ⟨w.heap.size + 1 + 1, 5, none⟩ (.slice p5 a1.length q5)).setCell ⟨w.heap.size + 1, 0, none⟩ (.string ⟨a0_0.toArray⟩)).setCell ⟨w.heap.size + 1, 1, none⟩ (.bool a0_1)).setCell ⟨w.heap.size + 1, 2, none⟩ (.bool a0_2)).setCell ⟨w.heap.size + 1, 3, none⟩ (.slice p3 a0_3.length q3)).setCell ⟨w.heap.size + 1, 4, none⟩ (.int .i64 a0_4)).setCell ⟨w.heap.size + 1, 5, none⟩ (.slice p5 a1.length q5) = WE at *
  have eB0 := BB.out.cell 0 (by simp)
  have eB1 := BB.out.cell 1 (by simp)
  have eB2 := BB.out.cell 2 (by simp)
  have eB3 := BB.out.cell 3 (by simp)
  have eB4 := BB.out.cell 4 (by simp)
  have eB5 := BB.out.cell 5 (by simp)
  simp only [List.getElem_cons_zero, List.getElem_cons_succ, List.set_cons_zero, List.set_cons_succ] at eB0 eB1 eB2 eB3 eB4 eB5
  exact bodyPost_ret (v := .agg #[.string ⟨a0_0.toArray⟩, .bool a0_1, .bool a0_2, .slice p3 a0_3.length q3, .int .i64 a0_4, .slice p5 a1.length q5]) (by simp [results, Try.results10, go_sem, eB0, eB1, eB2, eB3, eB4, eB5]) rfl ⟨_, rfl, ⟨_, _, rfl, R3.out, R5.out⟩, HB.out⟩
set_option maxRecDepth 100000 in
set_option maxHeartbeats 1600000 in
theorem szPart_d (v : Value) (x : PartD) (left : Int) (w : World) (hx : ValAt rPart 0 w v x) (hk : okPart x) (h0 : 0 ≤ left) (h1 : left ≤ 1099511627776) : Calls Try.prog 8 #[v, .int .i64 left] w fun e w' => SzF (zPart x) left w e w' := by
  obtain ⟨_, rfl, hx⟩ := hx
  obtain ⟨⟨a0_0, a0_1, a0_2, a0_3, a0_4⟩, a1⟩ := x
  obtain ⟨v3, v5, rfl, hr3, hr5⟩ := hx
  simp only at hr3 hr5
  unfold okPart at hk
  simp only at hk
  simp only [zPart, zCore]
  have HK := Lib.hid hk
  obtain ⟨ra3, rc3, rfl, _⟩ := sliceAt_len hr3
  obtain ⟨ra5, rc5, rfl, _⟩ := sliceAt_len hr5
  have H3 := Lib.hid hr3
  have H5 := Lib.hid hr5
  clear hk hr3 hr5
  have HS := Lib.hid (bx_start1 w [.string ⟨a0_0.toArray⟩, .bool a0_1, .bool a0_2, .slice ra3 a0_3.length rc3, .int .i64 a0_4, .slice ra5 a1.length rc5] 27)
  have BA := Lib.hid HS.out.1
  have HB := Lib.hid HS.out.2
  clear HS
  go_enter Try.func8, Try.ntmps8
  go_wp2_with fail
  generalize w.alloc (.cells #[.string ⟨a0_0.toArray⟩, .bool a0_1, .bool a0_2, .slice ra3 a0_3.length rc3, .int .i64 a0_4, .slice ra5 a1.length rc5] 27) = X1 at *
  refine (szCore_d _ (⟨a0_0, a0_1, a0_2, a0_3, a0_4⟩ : CoreD) _ _ ⟨_, rfl, _, rfl, (H3.out.below (good_flat cCell_len) HB.out (Nat.le_refl _))⟩ HK.out.1 (by omega) (by omega)).mono ?_
  rintro e w1 ⟨r0, rfl, hra0, hrb0, hb⟩
  have HR0 := Lib.hid hrb0
  have HB := Lib.hid (belS (w := w) HB.out hb)
  have BA := Lib.hid (BA.out.below hb)
  clear hb hrb0
  have eA0 := BA.out.cell 0 (by simp)
  have eA1 := BA.out.cell 1 (by simp)
  have eA2 := BA.out.cell 2 (by simp)
  have eA3 := BA.out.cell 3 (by simp)
  have eA4 := BA.out.cell 4 (by simp)
  have eA5 := BA.out.cell 5 (by simp)
  simp only [List.getElem_cons_zero, List.getElem_cons_succ, List.set_cons_zero, List.set_cons_succ] at eA0 eA1 eA2 eA3 eA4 eA5
  by_cases hn0 : r0 < 0
  · go_wp2_with fail
    go_ret
    exact ⟨-1, rfl, by omega, by omega, HB.out⟩
  · have hs0 := HR0.out (by omega)
    simp only [zCore] at hs0
    go_wp2_with fail
    clear eA0 eA1 eA2 eA3 eA4 eA5
    refine (szLayerS_d _ a1 _ _ (H5.out.below (good_flat cLayer_len) HB.out (Nat.le_refl _)) HK.out.2 (by omega) (by omega)).mono ?_
    rintro e w2 ⟨r1, rfl, hra1, hrb1, hb⟩
    have HR1 := Lib.hid hrb1
    have HB := Lib.hid (belS (w := w) HB.out hb)
    have BA := Lib.hid (BA.out.below hb)
    clear hb hrb1
    have eA0 := BA.out.cell 0 (by simp)
    have eA1 := BA.out.cell 1 (by simp)
    have eA2 := BA.out.cell 2 (by simp)
    have eA3 := BA.out.cell 3 (by simp)
    have eA4 := BA.out.cell 4 (by simp)
    have eA5 := BA.out.cell 5 (by simp)
    simp only [List.getElem_cons_zero, List.getElem_cons_succ, List.set_cons_zero, List.set_cons_succ] at eA0 eA1 eA2 eA3 eA4 eA5
    by_cases hn1 : r1 < 0
    · go_wp2_with fail
      go_ret
      exact ⟨-1, rfl, by omega, by omega, HB.out⟩
    · have hs1 := HR1.out (by omega)
      go_wp2_with fail
      go_ret
      exact ⟨_, rfl, by omega, by intro _; push_cast; omega, HB.out⟩
set_option maxRecDepth 100000 in
set_option maxHeartbeats 1600000 in
theorem eqPart_d (v u : Value) (x y : PartD) (w : World) (hx : ValAt rPart 0 w v x) (hy : ValAt rPart 0 w u y) : Calls Try.prog 12 #[v, u] w fun e w' => e = .returned (.bool (decide (x = y))) ∧ Below w.heap.size w w' := by
  have HQ := Lib.hid (show decide (x = y) = (decide (x.fCore = y.fCore) && decide (x.fLayers = y.fLayers)) by rw [Bool.eq_iff_iff]; cases x; cases y; simp [and_assoc])
  obtain ⟨_, rfl, hx⟩ := hx
  obtain ⟨⟨a0_0, a0_1, a0_2, a0_3, a0_4⟩, a1⟩ := x
  obtain ⟨v3, v5, rfl, hv3, hv5⟩ := hx
  simp only at hv3 hv5
  obtain ⟨_, rfl, hy⟩ := hy
  obtain ⟨⟨b0_0, b0_1, b0_2, b0_3, b0_4⟩, b1⟩ := y
  obtain ⟨u3, u5, rfl, hu3, hu5⟩ := hy
  simp only at hu3 hu5
  simp only at HQ
  obtain ⟨ra3, rc3, rfl, _⟩ := sliceAt_len hv3
  obtain ⟨ra5, rc5, rfl, _⟩ := sliceAt_len hv5
  obtain ⟨sa3, sc3, rfl, _⟩ := sliceAt_len hu3
  obtain ⟨sa5, sc5, rfl, _⟩ := sliceAt_len hu5
  have HV3 := Lib.hid hv3
  have HU3 := Lib.hid hu3
  have HV5 := Lib.hid hv5
  have HU5 := Lib.hid hu5
  clear hv3 hu3 hv5 hu5
  have HC0 := Lib.hid (fun w0 (hw : Below w.heap.size w w0) => eqCore_d _ _ (⟨a0_0, a0_1, a0_2, a0_3, a0_4⟩ : CoreD) (⟨b0_0, b0_1, b0_2, b0_3, b0_4⟩ : CoreD) w0 ⟨_, rfl, _, rfl, HV3.out.below (good_flat cCell_len) hw (Nat.le_refl _)⟩ ⟨_, rfl, _, rfl, HU3.out.below (good_flat cCell_len) hw (Nat.le_refl _)⟩)
  generalize decide ((⟨a0_0, a0_1, a0_2, a0_3, a0_4⟩ : CoreD) = (⟨b0_0, b0_1, b0_2, b0_3, b0_4⟩ : CoreD)) = p0 at *
  have HC1 := Lib.hid (fun w0 (hw : Below w.heap.size w w0) => eqLayerS_d _ _ a1 b1 w0 (HV5.out.below (good_flat cLayer_len) hw (Nat.le_refl _)) (HU5.out.below (good_flat cLayer_len) hw (Nat.le_refl _)))
  generalize decide (a1 = b1) = p1 at *
  generalize hq : decide ((⟨⟨a0_0, a0_1, a0_2, a0_3, a0_4⟩, a1⟩ : PartD) = (⟨⟨b0_0, b0_1, b0_2, b0_3, b0_4⟩, b1⟩ : PartD)) = q at *
  clear hq
  have HS := Lib.hid (bx_start2 w [.string ⟨a0_0.toArray⟩, .bool a0_1, .bool a0_2, .slice ra3 a0_3.length rc3, .int .i64 a0_4, .slice ra5 a1.length rc5] [.string ⟨b0_0.toArray⟩, .bool b0_1, .bool b0_2, .slice sa3 b0_3.length sc3, .int .i64 b0_4, .slice sa5 b1.length sc5] 34 34)
  cases p0 with
  | true =>
    cases p1 with
    | true =>
      have HF := Lib.hid (show q = true from by rw [HQ.out]; simp)
      go_enter Try.func12, Try.ntmps12
      have BA := Lib.hid HS.out.1
      have BB := Lib.hid HS.out.2.1
      have HB := Lib.hid HS.out.2.2
      go_wp2_with fail
      refine (HC0.out _ HB.out).mono ?_
      rintro e w1 ⟨rfl, hb⟩
      have HB := Lib.hid (belS (w := w) HB.out hb)
      have BA := Lib.hid (BA.out.below hb)
      have BB := Lib.hid (BB.out.below hb)
      clear hb
      have eA0 := BA.out.cell 0 (by simp)
      have eB0 := BB.out.cell 0 (by simp)
      have eA1 := BA.out.cell 1 (by simp)
      have eB1 := BB.out.cell 1 (by simp)
      have eA2 := BA.out.cell 2 (by simp)
      have eB2 := BB.out.cell 2 (by simp)
      have eA3 := BA.out.cell 3 (by simp)
      have eB3 := BB.out.cell 3 (by simp)
      have eA4 := BA.out.cell 4 (by simp)
      have eB4 := BB.out.cell 4 (by simp)
      have eA5 := BA.out.cell 5 (by simp)
      have eB5 := BB.out.cell 5 (by simp)
      simp only [List.getElem_cons_zero, List.getElem_cons_succ, List.set_cons_zero, List.set_cons_succ] at eA0 eB0 eA1 eB1 eA2 eB2 eA3 eB3 eA4 eB4 eA5 eB5
      go_wp2_with fail
      clear eA0 eB0 eA1 eB1 eA2 eB2 eA3 eB3 eA4 eB4 eA5 eB5
      refine (HC1.out _ HB.out).mono ?_
      rintro e w2 ⟨rfl, hb⟩
      have HB := Lib.hid (belS (w := w) HB.out hb)
      have BA := Lib.hid (BA.out.below hb)
      have BB := Lib.hid (BB.out.below hb)
      clear hb
      have eA0 := BA.out.cell 0 (by simp)
      have eB0 := BB.out.cell 0 (by simp)
      have eA1 := BA.out.cell 1 (by simp)
      have eB1 := BB.out.cell 1 (by simp)
      have eA2 := BA.out.cell 2 (by simp)
      have eB2 := BB.out.cell 2 (by simp)
      have eA3 := BA.out.cell 3 (by simp)
      have eB3 := BB.out.cell 3 (by simp)
      have eA4 := BA.out.cell 4 (by simp)
      have eB4 := BB.out.cell 4 (by simp)
      have eA5 := BA.out.cell 5 (by simp)
      have eB5 := BB.out.cell 5 (by simp)
      simp only [List.getElem_cons_zero, List.getElem_cons_succ, List.set_cons_zero, List.set_cons_succ] at eA0 eB0 eA1 eB1 eA2 eB2 eA3 eB3 eA4 eB4 eA5 eB5
      go_wp2_with fail
      go_ret
      exact ⟨ret_bool HF.out.symm, HB.out⟩
    | false =>
      have HF := Lib.hid (show q = false from by rw [HQ.out]; simp)
      go_enter Try.func12, Try.ntmps12
      have BA := Lib.hid HS.out.1
      have BB := Lib.hid HS.out.2.1
      have HB := Lib.hid HS.out.2.2
      go_wp2_with fail
      refine (HC0.out _ HB.out).mono ?_
      rintro e w1 ⟨rfl, hb⟩
      have HB := Lib.hid (belS (w := w) HB.out hb)
      have BA := Lib.hid (BA.out.below hb)
      have BB := Lib.hid (BB.out.below hb)
      clear hb
      have eA0 := BA.out.cell 0 (by simp)
      have eB0 := BB.out.cell 0 (by simp)
      have eA1 := BA.out.cell 1 (by simp)
      have eB1 := BB.out.cell 1 (by simp)
      have eA2 := BA.out.cell 2 (by simp)
      have eB2 := BB.out.cell 2 (by simp)
      have eA3 := BA.out.cell 3 (by simp)
      have eB3 := BB.out.cell 3 (by simp)
      have eA4 := BA.out.cell 4 (by simp)
      have eB4 := BB.out.cell 4 (by simp)
      have eA5 := BA.out.cell 5 (by simp)
      have eB5 := BB.out.cell 5 (by simp)
      simp only [List.getElem_cons_zero, List.getElem_cons_succ, List.set_cons_zero, List.set_cons_succ] at eA0 eB0 eA1 eB1 eA2 eB2 eA3 eB3 eA4 eB4 eA5 eB5
      go_wp2_with fail
      clear eA0 eB0 eA1 eB1 eA2 eB2 eA3 eB3 eA4 eB4 eA5 eB5
      refine (HC1.out _ HB.out).mono ?_
      rintro e w2 ⟨rfl, hb⟩
      have HB := Lib.hid (belS (w := w) HB.out hb)
      have BA := Lib.hid (BA.out.below hb)
      have BB := Lib.hid (BB.out.below hb)
      clear hb
      have eA0 := BA.out.cell 0 (by simp)
      have eB0 := BB.out.cell 0 (by simp)
      have eA1 := BA.out.cell 1 (by simp)
      have eB1 := BB.out.cell 1 (by simp)
      have eA2 := BA.out.cell 2 (by simp)
      have eB2 := BB.out.cell 2 (by simp)
      have eA3 := BA.out.cell 3 (by simp)
      have eB3 := BB.out.cell 3 (by simp)
      have eA4 := BA.out.cell 4 (by simp)
      have eB4 := BB.out.cell 4 (by simp)
      have eA5 := BA.out.cell 5 (by simp)
      have eB5 := BB.out.cell 5 (by simp)
      simp only [List.getElem_cons_zero, List.getElem_cons_succ, List.set_cons_zero, List.set_cons_succ] at eA0 eB0 eA1 eB1 eA2 eB2 eA3 eB3 eA4 eB4 eA5 eB5
      go_wp2_with fail
      go_ret
      exact ⟨ret_bool HF.out.symm, HB.out⟩
  | false =>
    have HF := Lib.hid (show q = false from by rw [HQ.out]; simp)
    go_enter Try.func12, Try.ntmps12
    have BA := Lib.hid HS.out.1
    have BB := Lib.hid HS.out.2.1
    have HB := Lib.hid HS.out.2.2
    go_wp2_with fail
    refine (HC0.out _ HB.out).mono ?_
    rintro e w1 ⟨rfl, hb⟩
    have HB := Lib.hid (belS (w := w) HB.out hb)
    have BA := Lib.hid (BA.out.below hb)
    have BB := Lib.hid (BB.out.below hb)
    clear hb
    have eA0 := BA.out.cell 0 (by simp)
    have eB0 := BB.out.cell 0 (by simp)
    have eA1 := BA.out.cell 1 (by simp)
    have eB1 := BB.out.cell 1 (by simp)
    have eA2 := BA.out.cell 2 (by simp)
    have eB2 := BB.out.cell 2 (by simp)
    have eA3 := BA.out.cell 3 (by simp)
    have eB3 := BB.out.cell 3 (by simp)
    have eA4 := BA.out.cell 4 (by simp)
    have eB4 := BB.out.cell 4 (by simp)
    have eA5 := BA.out.cell 5 (by simp)
    have eB5 := BB.out.cell 5 (by simp)
    simp only [List.getElem_cons_zero, List.getElem_cons_succ, List.set_cons_zero, List.set_cons_succ] at eA0 eB0 eA1 eB1 eA2 eB2 eA3 eB3 eA4 eB4 eA5 eB5
    go_wp2_with fail
    go_ret
    exact ⟨ret_bool HF.out.symm, HB.out⟩
end Go.Proofs.Ytlkpinlkbikokaa
/- Contracts of chapter 2: names of abilities, methods of abilities. -/
namespace Go.Proofs.Ytlkpinlkbikokaa
set_option linter.unusedVariables false
open Go.RowKit
theorem abNI_nat (k : Nat) : abNI (k : Int) = abN k := by unfold abNI; rw [if_neg (by omega)]; simp
/-- the model's list of names -/
def namesV : List Value := [strV (abN 0), strV (abN 1), strV (abN 2), strV (abN 3), strV (abN 4), strV (abN 5)]
def GivesNames (w : World) (e : Ending) (w' : World) : Prop := e = .returned (.slice (some ⟨w.heap.size, 0, none⟩) 6 6) ∧ w' = w.alloc (.cells namesV.toArray 9)
theorem names_cell (w : World) (k : Nat) (hk : k < 6) : (w.alloc (.cells namesV.toArray 9)).cell? ⟨w.heap.size, k, none⟩ = some (strV (abN k)) := by
  rw [cell_of_row _ _ k _ 9 (0, 0) (heap_alloc_new w _)]
  rcases (show k = 0 ∨ k = 1 ∨ k = 2 ∨ k = 3 ∨ k = 4 ∨ k = 5 by omega) with rfl | rfl | rfl | rfl | rfl | rfl <;> rfl
end Go.Proofs.Ytlkpinlkbikokaa
namespace Go.Proofs.Ytlkpinlkbikokaa
set_option linter.unusedVariables false
open Go.RowKit
def intsN (l : List Nat) : List Int := l.map fun k => ((k : Nat) : Int)
theorem intsN_len (l : List Nat) : (intsN l).length = l.length := by simp [intsN]
theorem intsN_snoc (l : List Nat) (k : Nat) : intsN (l ++ [k]) = intsN l ++ [(k : Int)] := by simp [intsN]
/-- rows of integers and rows of texts are not the same -/
theorem owns_apart {w : World} {B B' : Nat} {v u : Value} {xs : List Int} {ys : List (List UInt8)} (h : OwnsI w B v xs) (k : Owns w B' u ys) : v.ownBlock = none ∨ v.ownBlock ≠ u.ownBlock := by
  rcases h.2 with ⟨rfl, _⟩ | ⟨g, cap, cur, rfl, _, hg, _⟩
  · exact Or.inl rfl
  · right
    rcases k.2 with ⟨rfl, _⟩ | ⟨g2, cap2, cur2, rfl, _, hg2, _⟩
    · simp [Value.ownBlock]
    · intro e
      simp [Value.ownBlock] at e
      subst e
      rw [hg] at hg2
      injection hg2 with hg2
      injection hg2 with _ h2 _
      exact absurd h2 (by decide)
theorem ownsI_kept {w w' : World} {B B' : Nat} {v u : Value} {xs : List Int} {ys : List (List UInt8)} (h : OwnsI w B v xs) (k : Owns w B' u ys) (hg : w.grownBy w' u.ownBlock) : OwnsI w' B v xs :=
  World.ownsRow.kept h hg (owns_apart h k)
theorem bit_walk {f : Int} (hf : isF f = true) (k : Nat) (hk : k < 6) (b : Bool) (h : hasI f k = b) : (bits .and .i64 f (wrap64 (2 ^ k)) != 0) = b := by
  rw [pow_of k hk, bit_eq hf k hk]; exact h
theorem abilK_yes {f : Int} {k : Nat} (h : hasI f k = true) : intsN (abilK f (k + 1)) = intsN (abilK f k) ++ [(k : Int)] := by rw [abilK_succ, if_pos h, intsN_snoc]
theorem abilK_no {f : Int} {k : Nat} (h : hasI f k = false) : abilK f (k + 1) = abilK f k := by rw [abilK_succ, if_neg (by simp [h]), List.append_nil]
theorem abilL_yes {f : Int} (h : isF f = true) : abilL f = abilK f 6 := if_pos h
theorem abilL_no {f : Int} (h : isF f = false) : abilL f = [] := if_neg (by simp [h])
/-- the methods of an ability, in memory that was just made -/
def GivesMth (k : Nat) (w : World) (e : Ending) (w' : World) : Prop := e = .returned (.slice (some ⟨w.heap.size, 0, none⟩) (mthN k).length (mthN k).length) ∧ w' = w.alloc (.cells ((mthN k).map strV).toArray 9)
theorem mth_row (w : World) (k : Nat) (c : Nat) (hc : (mthN k).length ≤ c := by exact Nat.le_refl _) : RowAt (w.alloc (.cells ((mthN k).map strV).toArray 9)) (.slice (some ⟨w.heap.size, 0, none⟩) (mthN k).length c) ((mthN k).map strV) := by
  refine ⟨_, c - (mthN k).length, by rw [List.length_map, Nat.add_sub_of_le hc], by rw [List.length_map]; have := mthN_len k; unfold maxLen; omega, Or.inr ⟨w.heap.size, 0, rfl, by simp, fun i _ => ?_⟩⟩
  rw [cell_of_row _ _ _ _ 9 (0, 0) (heap_alloc_new w _)]
  simp
def IdxOf (x : List (List UInt8)) (t : List UInt8) (w : World) (e : Ending) (w' : World) : Prop := ∃ i : Int, e = .returned (.int .i64 i) ∧ -1 ≤ i ∧ i ≤ 9223372036854775807 ∧ decide (0 ≤ i) = decide (t ∈ x) ∧ w = w'
end Go.Proofs.Ytlkpinlkbikokaa
