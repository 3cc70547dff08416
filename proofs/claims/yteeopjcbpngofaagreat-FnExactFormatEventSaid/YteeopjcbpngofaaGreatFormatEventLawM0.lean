import Derived.Test.YteeopjcbpngofaaGreatLinksOfLawM0
import Derived.StillTailTactics
import Derived.Test.YteeopjcbpngofaaGreatLinksOfLawM1
import Derived.Test.YteeopjcbpngofaaGreatLinksOfLawM2
import Derived.Test.YteeopjcbpngofaaGreatShelf
import Derived.Lib.IndexMore
import Derived.Lib.IndexLaws
import Derived.Deep.AppendLies
import Derived.Deep.RegionHeld3
namespace Go.Proofs.YteeopjcbpngofaaGreat
set_option linter.unusedVariables false
open Go.RowKit
structure CallD where
 fMethod : List UInt8
 fKey : List UInt8
 fValue : Int
 fText : List UInt8
deriving DecidableEq
def okCall (d : CallD) : Prop := (d.fMethod.length ≤ maxLen) ∧ (d.fKey.length ≤ maxLen) ∧ (-9223372036854775808 ≤ d.fValue ∧ d.fValue ≤ 9223372036854775807) ∧ (d.fText.length ≤ maxLen)
def vCall (d : CallD) : Value := .agg #[.string ⟨d.fMethod.toArray⟩, .string ⟨d.fKey.toArray⟩, .int .i64 d.fValue, .string ⟨d.fText.toArray⟩]
def cCall (d : CallD) : List Value := [.string ⟨d.fMethod.toArray⟩, .string ⟨d.fKey.toArray⟩, .int .i64 d.fValue, .string ⟨d.fText.toArray⟩]
set_option maxHeartbeats 800000 in
theorem eqCall_any (x y : CallD) (w : World) :
  Calls Tryz.prog 58 #[vCall x, vCall y] w fun e w' => e = .returned (.bool (decide (x = y))) ∧ Below w.heap.size w w' := by
 obtain ⟨a0, a1, a2, a3⟩ := x
 obtain ⟨b0, b1, b2, b3⟩ := y
 unfold vCall
 by_cases h0 : a0 = b0
 ·by_cases h1 : a1 = b1
  ·by_cases h2 : a2 = b2
   ·by_cases h3 : a3 = b3
    ·have HN := Lib.hid (show decide ((⟨a0, a1, a2, a3⟩ : CallD) = (⟨b0, b1, b2, b3⟩ : CallD)) = true by rw [h0, h1, h2, h3]; simp)
     subst h0 h1 h2 h3
     go_enter Tryz.func58, Tryz.ntmps58
     go_wp2
     go_ret
     exact ⟨ret_bool HN.out.symm, ((Below.refl _ _).alloc (Nat.le_refl _) _).alloc (by simp) _⟩
    ·have HN := Lib.hid (show decide ((⟨a0, a1, a2, a3⟩ : CallD) = (⟨b0, b1, b2, b3⟩ : CallD)) = false by rw [decide_eq_false_iff_not]; exact fun e => h3 (by injection e))
     have hne3 : (a3 == b3) = false := by simpa using h3
     have hnf3 : (a3 != b3) = true := by simpa using h3
     subst h0 h1 h2
     clear h3
     go_enter Tryz.func58, Tryz.ntmps58
     go_wp2
     go_ret
     exact ⟨ret_bool HN.out.symm, ((Below.refl _ _).alloc (Nat.le_refl _) _).alloc (by simp) _⟩
   ·have HN := Lib.hid (show decide ((⟨a0, a1, a2, a3⟩ : CallD) = (⟨b0, b1, b2, b3⟩ : CallD)) = false by rw [decide_eq_false_iff_not]; exact fun e => h2 (by injection e))
    have hne2 : (a2 == b2) = false := by simpa using h2
    have hnf2 : (a2 != b2) = true := by simpa using h2
    subst h0 h1
    clear h2
    go_enter Tryz.func58, Tryz.ntmps58
    go_wp2
    go_ret
    exact ⟨ret_bool HN.out.symm, ((Below.refl _ _).alloc (Nat.le_refl _) _).alloc (by simp) _⟩
  ·have HN := Lib.hid (show decide ((⟨a0, a1, a2, a3⟩ : CallD) = (⟨b0, b1, b2, b3⟩ : CallD)) = false by rw [decide_eq_false_iff_not]; exact fun e => h1 (by injection e))
   have hne1 : (a1 == b1) = false := by simpa using h1
   have hnf1 : (a1 != b1) = true := by simpa using h1
   subst h0
   clear h1
   go_enter Tryz.func58, Tryz.ntmps58
   go_wp2
   go_ret
   exact ⟨ret_bool HN.out.symm, ((Below.refl _ _).alloc (Nat.le_refl _) _).alloc (by simp) _⟩
 ·have HN := Lib.hid (show decide ((⟨a0, a1, a2, a3⟩ : CallD) = (⟨b0, b1, b2, b3⟩ : CallD)) = false by rw [decide_eq_false_iff_not]; exact fun e => h0 (by injection e))
  have hne0 : (a0 == b0) = false := by simpa using h0
  have hnf0 : (a0 != b0) = true := by simpa using h0
  clear h0
  go_enter Tryz.func58, Tryz.ntmps58
  go_wp2
  go_ret
  exact ⟨ret_bool HN.out.symm, ((Below.refl _ _).alloc (Nat.le_refl _) _).alloc (by simp) _⟩
set_option maxHeartbeats 800000 in
theorem toCall_any (x : CallD) (w : World) :
  Calls Tryz.prog 52 #[vCall x] w fun e w' => e = .returned (vCall x) ∧ Below w.heap.size w w' := by
 obtain ⟨a0, a1, a2, a3⟩ := x
 unfold vCall
 go_enter Tryz.func52, Tryz.ntmps52
 go_wp2
 exact bodyPost_ret (v := .agg #[.string ⟨a0.toArray⟩, .string ⟨a1.toArray⟩, .int .i64 a2, .string ⟨a3.toArray⟩]) (by simp [results, Tryz.results52, go_sem]) rfl ⟨rfl, ((((Below.refl _ _).alloc (Nat.le_refl _) _).alloc (by simp) _).alloc (by simp; try omega) _)⟩
def zCall (d : CallD) : Nat := d.fMethod.length + d.fKey.length + d.fText.length
set_option maxHeartbeats 800000 in
theorem szCall_any (x : CallD) (left : Int) (w : World) (h0 : 0 ≤ left) (h1 : left ≤ 1099511627776) (hs : okCall x) :
  Calls Tryz.prog 47 #[vCall x, .int .i64 left] w fun e w' => SzF (zCall x) left w e w' := by
 obtain ⟨a0, a1, a2, a3⟩ := x
 obtain ⟨hs0, hs1, hs2, hs3⟩ := hs
 simp only [vCall, zCall] at *
 unfold maxLen at *
 have HZ0 := Lib.hid (size_strB a0)
 have HZ1 := Lib.hid (size_strB a1)
 have HZ3 := Lib.hid (size_strB a3)
 by_cases hn0 : left - (a0.length : Int) < 0
 ·go_enter Tryz.func47, Tryz.ntmps47
  go_wp2
  go_ret
  exact ⟨-1, rfl, by omega, by omega, (Below.refl _ _).alloc (Nat.le_refl _) _⟩
 ·by_cases hn1 : left - (a0.length : Int) - (a1.length : Int) < 0
  ·go_enter Tryz.func47, Tryz.ntmps47
   go_wp2
   go_ret
   exact ⟨-1, rfl, by omega, by omega, (Below.refl _ _).alloc (Nat.le_refl _) _⟩
  ·by_cases hn2 : left - (a0.length : Int) - (a1.length : Int) - (a3.length : Int) < 0
   ·go_enter Tryz.func47, Tryz.ntmps47
    go_wp2
    go_ret
    exact ⟨-1, rfl, by omega, by omega, (Below.refl _ _).alloc (Nat.le_refl _) _⟩
   ·go_enter Tryz.func47, Tryz.ntmps47
    go_wp2
    go_ret
    exact ⟨_, rfl, by omega, by push_cast; omega, (Below.refl _ _).alloc (Nat.le_refl _) _⟩
end Go.Proofs.YteeopjcbpngofaaGreat
namespace Go.Proofs.YteeopjcbpngofaaGreat
set_option linter.unusedVariables false
set_option linter.unusedSimpArgs false
open Go.RowKit
structure EventD where
 fKind : Int
 fName : List UInt8
 fCall : CallD
 fRecipe : List (List UInt8)
deriving DecidableEq
def okEvent (x : EventD) : Prop := (-9223372036854775808 ≤ x.fKind ∧ x.fKind ≤ 9223372036854775807) ∧ (x.fName.length ≤ maxLen) ∧ (okCall x.fCall) ∧ (∀ s ∈ x.fRecipe, s.length ≤ maxLen)
def rEvent : Nat → World → List Value → EventD → Prop := fun F w cs x => ∃ v6, cs = [.int .i64 x.fKind, .string ⟨x.fName.toArray⟩, .string ⟨x.fCall.fMethod.toArray⟩, .string ⟨x.fCall.fKey.toArray⟩, .int .i64 x.fCall.fValue, .string ⟨x.fCall.fText.toArray⟩, v6] ∧ SliceAt rStr 1 F w v6 x.fRecipe
theorem goodEvent : Good rEvent 7 := by
 refine ⟨?_, ?_, ?_⟩
 ·rintro F w cs x ⟨v6, rfl, h6⟩; rfl
 ·rintro F w w' cs x ⟨v6, rfl, h6⟩ hk; exact ⟨v6, rfl, h6.keep good_str hk⟩
 ·rintro F F' w cs x ⟨v6, rfl, h6⟩ hF; exact ⟨v6, rfl, h6.mono good_str hF⟩
def zEvent (x : EventD) : Nat := x.fName.length + zCall x.fCall + (x.fRecipe.length + sumF List.length x.fRecipe)
set_option maxRecDepth 100000 in
set_option maxHeartbeats 1600000 in
theorem toEvent_d (v : Value) (x : EventD) (w : World) (hx : ValAt rEvent 0 w v x) (hm : zEvent x ≤ 2097152) : Calls Tryz.prog 13 #[v] w fun e w' => GivesV rEvent x w e w' := by
 obtain ⟨_, rfl, hx⟩ := hx
 obtain ⟨a0, a1, ⟨a2_0, a2_1, a2_2, a2_3⟩, a3⟩ := x
 obtain ⟨v6, rfl, h6⟩ := hx
 simp only at h6
 simp only [zEvent, zCall] at hm
 have HM := Lib.hid hm
 obtain ⟨ra6, rc6, rfl, _⟩ := sliceAt_len h6
 have H6 := Lib.hid h6
 clear hm h6
 have HS := Lib.hid (bx_start3 w [.int .i64 a0, .string ⟨a1.toArray⟩, .string ⟨a2_0.toArray⟩, .string ⟨a2_1.toArray⟩, .int .i64 a2_2, .string ⟨a2_3.toArray⟩, .slice ra6 a3.length rc6] [.int .i64 0, .string ⟨#[]⟩, .string ⟨#[]⟩, .string ⟨#[]⟩, .int .i64 0, .string ⟨#[]⟩, .slice none 0 0] [.int .i64 a0, .string ⟨a1.toArray⟩, .string ⟨#[]⟩, .string ⟨#[]⟩, .int .i64 0, .string ⟨#[]⟩, .slice none 0 0] 26 31 31)
 have BA := Lib.hid HS.out.1
 have BB := Lib.hid HS.out.2.1
 have BC := Lib.hid HS.out.2.2.1
 have HB := Lib.hid HS.out.2.2.2
 clear HS
 go_enter Tryz.func13, Tryz.ntmps13
 go_wp2_with fail
 generalize ((w.alloc (.cells #[.int .i64 a0, .string ⟨a1.toArray⟩, .string ⟨a2_0.toArray⟩, .string ⟨a2_1.toArray⟩, .int .i64 a2_2, .string ⟨a2_3.toArray⟩, .slice ra6 a3.length rc6] 26)).alloc (.cells #[.int .i64 0, .string ⟨#[]⟩, .string ⟨#[]⟩, .string ⟨#[]⟩, .int .i64 0, .string ⟨#[]⟩, .slice none 0 0] 31)).alloc (.cells #[.int .i64 a0, .string ⟨a1.toArray⟩, .string ⟨#[]⟩, .string ⟨#[]⟩, .int .i64 0, .string ⟨#[]⟩, .slice none 0 0] 31) = X1 at *
 have HF2 := Lib.hid (fun w0 => toCall_any (⟨a2_0, a2_1, a2_2, a2_3⟩ : CallD) w0)
 simp only [vCall] at HF2
 refine (HF2.out _).mono ?_
 rintro e w1 ⟨rfl, hb⟩
 have hX : w.heap.size + 3 ≤ X1.heap.size := by have := BC.out.lt; omega
 have BA := Lib.hid (BA.out.below hb)
 have BB := Lib.hid (BB.out.below hb)
 have BC := Lib.hid (BC.out.below hb)
 have HB := Lib.hid (belS (w := w) HB.out hb)
 clear hb hX
 have eA0 := BA.out.cell 0 (by simp)
 have eA1 := BA.out.cell 1 (by simp)
 have eA2 := BA.out.cell 2 (by simp)
 have eA3 := BA.out.cell 3 (by simp)
 have eA4 := BA.out.cell 4 (by simp)
 have eA5 := BA.out.cell 5 (by simp)
 have eA6 := BA.out.cell 6 (by simp)
 simp only [List.getElem_cons_zero, List.getElem_cons_succ, List.set_cons_zero, List.set_cons_succ] at eA0 eA1 eA2 eA3 eA4 eA5 eA6
 have eC0 := BC.out.cell 0 (by simp)
 have fC0 := BC.out.froz 0 (by simp)
 have eC1 := BC.out.cell 1 (by simp)
 have fC1 := BC.out.froz 1 (by simp)
 have eC2 := BC.out.cell 2 (by simp)
 have fC2 := BC.out.froz 2 (by simp)
 have eC3 := BC.out.cell 3 (by simp)
 have fC3 := BC.out.froz 3 (by simp)
 have eC4 := BC.out.cell 4 (by simp)
 have fC4 := BC.out.froz 4 (by simp)
 have eC5 := BC.out.cell 5 (by simp)
 have fC5 := BC.out.froz 5 (by simp)
 have eC6 := BC.out.cell 6 (by simp)
 have fC6 := BC.out.froz 6 (by simp)
 simp only [List.getElem_cons_zero, List.getElem_cons_succ, List.set_cons_zero, List.set_cons_succ] at eC0 eC1 eC2 eC3 eC4 eC5 eC6
 go_wp2_with fail
 clear eA0 eA1 eA2 eA3 eA4 eA5 eA6
 clear eC0 fC0 eC1 fC1 eC2 fC2 eC3 fC3 eC4 fC4 eC5 fC5 eC6 fC6
 have BC := Lib.hid (BC.out.set 2 (by simp) (.string ⟨a2_0.toArray⟩))
 have BA := Lib.hid (BA.out.other (c := w.heap.size + 1 + 1) (by omega) 2 (.string ⟨a2_0.toArray⟩))
 have BB := Lib.hid (BB.out.other (c := w.heap.size + 1 + 1) (by omega) 2 (.string ⟨a2_0.toArray⟩))
 have HB := Lib.hid (HB.out.setCell (p := ⟨w.heap.size + 1 + 1, 2, none⟩) (by simp; try omega) (.string ⟨a2_0.toArray⟩))
 have BC := Lib.hid (BC.out.set 3 (by simp) (.string ⟨a2_1.toArray⟩))
 have BA := Lib.hid (BA.out.other (c := w.heap.size + 1 + 1) (by omega) 3 (.string ⟨a2_1.toArray⟩))
 have BB := Lib.hid (BB.out.other (c := w.heap.size + 1 + 1) (by omega) 3 (.string ⟨a2_1.toArray⟩))
 have HB := Lib.hid (HB.out.setCell (p := ⟨w.heap.size + 1 + 1, 3, none⟩) (by simp; try omega) (.string ⟨a2_1.toArray⟩))
 have BC := Lib.hid (BC.out.set 4 (by simp) (.int .i64 a2_2))
 have BA := Lib.hid (BA.out.other (c := w.heap.size + 1 + 1) (by omega) 4 (.int .i64 a2_2))
 have BB := Lib.hid (BB.out.other (c := w.heap.size + 1 + 1) (by omega) 4 (.int .i64 a2_2))
 have HB := Lib.hid (HB.out.setCell (p := ⟨w.heap.size + 1 + 1, 4, none⟩) (by simp; try omega) (.int .i64 a2_2))
 have BC := Lib.hid (BC.out.set 5 (by simp) (.string ⟨a2_3.toArray⟩))
 have BA := Lib.hid (BA.out.other (c := w.heap.size + 1 + 1) (by omega) 5 (.string ⟨a2_3.toArray⟩))
 have BB := Lib.hid (BB.out.other (c := w.heap.size + 1 + 1) (by omega) 5 (.string ⟨a2_3.toArray⟩))
 have HB := Lib.hid (HB.out.setCell (p := ⟨w.heap.size + 1 + 1, 5, none⟩) (by simp; try omega) (.string ⟨a2_3.toArray⟩))
 simp only [List.set_cons_zero, List.set_cons_succ] at BC
 generalize ((((w1).setCell ⟨w.heap.size + 1 + 1, 2, none⟩ (.string ⟨a2_0.toArray⟩)).setCell ⟨w.heap.size + 1 + 1, 3, none⟩ (.string ⟨a2_1.toArray⟩)).setCell ⟨w.heap.size + 1 + 1, 4, none⟩ (.int .i64 a2_2)).setCell ⟨w.heap.size + 1 + 1, 5, none⟩ (.string ⟨a2_3.toArray⟩) = X2 at *
 refine (toStringS_d _ a3 _ (H6.out.below good_str HB.out (Nat.le_refl _)) (by have := HM.out; omega)).mono ?_
 rintro e w2 ⟨u6, rfl, hr6, hb⟩
 have hX : w.heap.size + 3 ≤ X2.heap.size := by have := BC.out.lt; omega
 have R6 := Lib.hid (hr6.mono good_str hX)
 obtain ⟨p6, q6, rfl, _⟩ := sliceAt_len hr6
 clear hr6
 have BA := Lib.hid (BA.out.below hb)
 have BB := Lib.hid (BB.out.below hb)
 have BC := Lib.hid (BC.out.below hb)
 have HB := Lib.hid (belS (w := w) HB.out hb)
 clear hb hX
 have eA0 := BA.out.cell 0 (by simp)
 have eA1 := BA.out.cell 1 (by simp)
 have eA2 := BA.out.cell 2 (by simp)
 have eA3 := BA.out.cell 3 (by simp)
 have eA4 := BA.out.cell 4 (by simp)
 have eA5 := BA.out.cell 5 (by simp)
 have eA6 := BA.out.cell 6 (by simp)
 simp only [List.getElem_cons_zero, List.getElem_cons_succ, List.set_cons_zero, List.set_cons_succ] at eA0 eA1 eA2 eA3 eA4 eA5 eA6
 have eC0 := BC.out.cell 0 (by simp)
 have fC0 := BC.out.froz 0 (by simp)
 have eC1 := BC.out.cell 1 (by simp)
 have fC1 := BC.out.froz 1 (by simp)
 have eC2 := BC.out.cell 2 (by simp)
 have fC2 := BC.out.froz 2 (by simp)
 have eC3 := BC.out.cell 3 (by simp)
 have fC3 := BC.out.froz 3 (by simp)
 have eC4 := BC.out.cell 4 (by simp)
 have fC4 := BC.out.froz 4 (by simp)
 have eC5 := BC.out.cell 5 (by simp)
 have fC5 := BC.out.froz 5 (by simp)
 have eC6 := BC.out.cell 6 (by simp)
 have fC6 := BC.out.froz 6 (by simp)
 simp only [List.getElem_cons_zero, List.getElem_cons_succ, List.set_cons_zero, List.set_cons_succ] at eC0 eC1 eC2 eC3 eC4 eC5 eC6
 have eB0 := BB.out.cell 0 (by simp)
 have fB0 := BB.out.froz 0 (by simp)
 have eB1 := BB.out.cell 1 (by simp)
 have fB1 := BB.out.froz 1 (by simp)
 have eB2 := BB.out.cell 2 (by simp)
 have fB2 := BB.out.froz 2 (by simp)
 have eB3 := BB.out.cell 3 (by simp)
 have fB3 := BB.out.froz 3 (by simp)
 have eB4 := BB.out.cell 4 (by simp)
 have fB4 := BB.out.froz 4 (by simp)
 have eB5 := BB.out.cell 5 (by simp)
 have fB5 := BB.out.froz 5 (by simp)
 have eB6 := BB.out.cell 6 (by simp)
 have fB6 := BB.out.froz 6 (by simp)
 simp only [List.getElem_cons_zero, List.getElem_cons_succ, List.set_cons_zero, List.set_cons_succ] at eB0 eB1 eB2 eB3 eB4 eB5 eB6
 go_wp2_with fail
 clear eA0 eA1 eA2 eA3 eA4 eA5 eA6
 clear eC0 fC0 eC1 fC1 eC2 fC2 eC3 fC3 eC4 fC4 eC5 fC5 eC6 fC6
 clear eB0 fB0 eB1 fB1 eB2 fB2 eB3 fB3 eB4 fB4 eB5 fB5 eB6 fB6
 have BC := Lib.hid (BC.out.set 6 (by simp) (.slice p6 a3.length q6))
 have BA := Lib.hid (BA.out.other (c := w.heap.size + 1 + 1) (by omega) 6 (.slice p6 a3.length q6))
 have BB := Lib.hid (BB.out.other (c := w.heap.size + 1 + 1) (by omega) 6 (.slice p6 a3.length q6))
 have HB := Lib.hid (HB.out.setCell (p := ⟨w.heap.size + 1 + 1, 6, none⟩) (by simp; try omega) (.slice p6 a3.length q6))
 have R6 := Lib.hid (R6.out.keep good_str ((Kept.refl _ _).setCell (p := ⟨w.heap.size + 1 + 1, 6, none⟩) (by simp) (.slice p6 a3.length q6)))
 simp only [List.set_cons_zero, List.set_cons_succ] at BC
 have BB := Lib.hid (BB.out.set 0 (by simp) (.int .i64 a0))
 have HB := Lib.hid (HB.out.setCell (p := ⟨w.heap.size + 1, 0, none⟩) (by simp; try omega) (.int .i64 a0))
 have BB := Lib.hid (BB.out.set 1 (by simp) (.string ⟨a1.toArray⟩))
 have HB := Lib.hid (HB.out.setCell (p := ⟨w.heap.size + 1, 1, none⟩) (by simp; try omega) (.string ⟨a1.toArray⟩))
 have BB := Lib.hid (BB.out.set 2 (by simp) (.string ⟨a2_0.toArray⟩))
 have HB := Lib.hid (HB.out.setCell (p := ⟨w.heap.size + 1, 2, none⟩) (by simp; try omega) (.string ⟨a2_0.toArray⟩))
 have BB := Lib.hid (BB.out.set 3 (by simp) (.string ⟨a2_1.toArray⟩))
 have HB := Lib.hid (HB.out.setCell (p := ⟨w.heap.size + 1, 3, none⟩) (by simp; try omega) (.string ⟨a2_1.toArray⟩))
 have BB := Lib.hid (BB.out.set 4 (by simp) (.int .i64 a2_2))
 have HB := Lib.hid (HB.out.setCell (p := ⟨w.heap.size + 1, 4, none⟩) (by simp; try omega) (.int .i64 a2_2))
 have BB := Lib.hid (BB.out.set 5 (by simp) (.string ⟨a2_3.toArray⟩))
 have HB := Lib.hid (HB.out.setCell (p := ⟨w.heap.size + 1, 5, none⟩) (by simp; try omega) (.string ⟨a2_3.toArray⟩))
 have BB := Lib.hid (BB.out.set 6 (by simp) (.slice p6 a3.length q6))
 have HB := Lib.hid (HB.out.setCell (p := ⟨w.heap.size + 1, 6, none⟩) (by simp; try omega) (.slice p6 a3.length q6))
 have R6 := Lib.hid ((R6.out.keep good_str ((((((((Kept.refl _ _).setCell (p := ⟨w.heap.size + 1, 0, none⟩) (by simp) (.int .i64 a0)).setCell (p := ⟨w.heap.size + 1, 1, none⟩) (by simp) (.string ⟨a1.toArray⟩)).setCell (p := ⟨w.heap.size + 1, 2, none⟩) (by simp) (.string ⟨a2_0.toArray⟩)).setCell (p := ⟨w.heap.size + 1, 3, none⟩) (by simp) (.string ⟨a2_1.toArray⟩)).setCell (p := ⟨w.heap.size + 1, 4, none⟩) (by simp) (.int .i64 a2_2)).setCell (p := ⟨w.heap.size + 1, 5, none⟩) (by simp) (.string ⟨a2_3.toArray⟩)).setCell (p := ⟨w.heap.size + 1, 6, none⟩) (by simp) (.slice p6 a3.length q6))).mono good_str (show w.heap.size ≤ w.heap.size + 3 by omega))
 simp only [List.set_cons_zero, List.set_cons_succ] at BB
 generalize ((((((((w2).setCell ⟨w.heap.size + 1 + 1, 6, none⟩ (.slice p6 a3.length q6)).setCell ⟨w.heap.size + 1, 0, none⟩ (.int .i64 a0)).setCell ⟨w.heap.size + 1, 1, none⟩ (.string ⟨a1.toArray⟩)).setCell ⟨w.heap.size + 1, 2, none⟩ (.string ⟨a2_0.toArray⟩)).setCell ⟨w.heap.size + 1, 3, none⟩ (.string ⟨a2_1.toArray⟩)).setCell ⟨w.heap.size + 1, 4, none⟩ (.int .i64 a2_2)).setCell ⟨w.heap.size + 1, 5, none⟩ (.string ⟨a2_3.toArray⟩)).setCell ⟨w.heap.size + 1, 6, none⟩ (.slice p6 a3.length q6) = WE at *
 have eB0 := BB.out.cell 0 (by simp)
 have eB1 := BB.out.cell 1 (by simp)
 have eB2 := BB.out.cell 2 (by simp)
 have eB3 := BB.out.cell 3 (by simp)
 have eB4 := BB.out.cell 4 (by simp)
 have eB5 := BB.out.cell 5 (by simp)
 have eB6 := BB.out.cell 6 (by simp)
 simp only [List.getElem_cons_zero, List.getElem_cons_succ, List.set_cons_zero, List.set_cons_succ] at eB0 eB1 eB2 eB3 eB4 eB5 eB6
 exact bodyPost_ret (v := .agg #[.int .i64 a0, .string ⟨a1.toArray⟩, .string ⟨a2_0.toArray⟩, .string ⟨a2_1.toArray⟩, .int .i64 a2_2, .string ⟨a2_3.toArray⟩, .slice p6 a3.length q6]) (by simp [results, Tryz.results13, go_sem, eB0, eB1, eB2, eB3, eB4, eB5, eB6]) rfl ⟨_, rfl, ⟨_, rfl, R6.out⟩, HB.out⟩
set_option maxRecDepth 100000 in
set_option maxHeartbeats 1600000 in
theorem szEvent_d (v : Value) (x : EventD) (left : Int) (w : World) (hx : ValAt rEvent 0 w v x) (hk : okEvent x) (h0 : 0 ≤ left) (h1 : left ≤ 1099511627776) : Calls Tryz.prog 11 #[v, .int .i64 left] w fun e w' => SzF (zEvent x) left w e w' := by
 obtain ⟨_, rfl, hx⟩ := hx
 obtain ⟨a0, a1, ⟨a2_0, a2_1, a2_2, a2_3⟩, a3⟩ := x
 obtain ⟨v6, rfl, hr6⟩ := hx
 simp only at hr6
 unfold okEvent at hk
 simp only at hk
 simp only [zEvent, zCall]
 have HK := Lib.hid hk
 obtain ⟨ra6, rc6, rfl, _⟩ := sliceAt_len hr6
 have H6 := Lib.hid hr6
 clear hk hr6
 have HS := Lib.hid (bx_start1 w [.int .i64 a0, .string ⟨a1.toArray⟩, .string ⟨a2_0.toArray⟩, .string ⟨a2_1.toArray⟩, .int .i64 a2_2, .string ⟨a2_3.toArray⟩, .slice ra6 a3.length rc6] 26)
 have BA := Lib.hid HS.out.1
 have HB := Lib.hid HS.out.2
 clear HS
 go_enter Tryz.func11, Tryz.ntmps11
 have HZ1 := Lib.hid (size_strB a1)
 have hl1 : a1.length ≤ 9223372036854775807 := by have h := HK.out.2.1; unfold maxLen at h; exact h
 by_cases hn1 : left - (a1.length : Int) < 0
 ·go_wp2_with fail
  go_ret
  exact ⟨-1, rfl, by omega, by omega, HB.out⟩
 ·skip
  have HF2 := Lib.hid (fun w0 l0 h0 h1 => szCall_any (⟨a2_0, a2_1, a2_2, a2_3⟩ : CallD) l0 w0 h0 h1 (HK.out.2.2.1))
  simp only [vCall] at HF2
  go_wp2_with fail
  generalize w.alloc (.cells #[.int .i64 a0, .string ⟨a1.toArray⟩, .string ⟨a2_0.toArray⟩, .string ⟨a2_1.toArray⟩, .int .i64 a2_2, .string ⟨a2_3.toArray⟩, .slice ra6 a3.length rc6] 26) = X1 at *
  refine (HF2.out _ _ (by omega) (by omega)).mono ?_
  rintro e w1 ⟨r2, rfl, hra2, hrb2, hb⟩
  have HR2 := Lib.hid hrb2
  have HB := Lib.hid (belS (w := w) HB.out hb)
  have BA := Lib.hid (BA.out.below hb)
  clear hb hrb2
  have eA0 := BA.out.cell 0 (by simp)
  have eA1 := BA.out.cell 1 (by simp)
  have eA2 := BA.out.cell 2 (by simp)
  have eA3 := BA.out.cell 3 (by simp)
  have eA4 := BA.out.cell 4 (by simp)
  have eA5 := BA.out.cell 5 (by simp)
  have eA6 := BA.out.cell 6 (by simp)
  simp only [List.getElem_cons_zero, List.getElem_cons_succ, List.set_cons_zero, List.set_cons_succ] at eA0 eA1 eA2 eA3 eA4 eA5 eA6
  by_cases hn2 : r2 < 0
  ·go_wp2_with fail
   go_ret
   exact ⟨-1, rfl, by omega, by omega, HB.out⟩
  ·have hs2 := HR2.out (by omega)
   go_wp2_with fail
   clear eA0 eA1 eA2 eA3 eA4 eA5 eA6
   refine (szStringS_d _ a3 _ _ (H6.out.below good_str HB.out (Nat.le_refl _)) HK.out.2.2.2 (by omega) (by omega)).mono ?_
   rintro e w2 ⟨r3, rfl, hra3, hrb3, hb⟩
   have HR3 := Lib.hid hrb3
   have HB := Lib.hid (belS (w := w) HB.out hb)
   have BA := Lib.hid (BA.out.below hb)
   clear hb hrb3
   have eA0 := BA.out.cell 0 (by simp)
   have eA1 := BA.out.cell 1 (by simp)
   have eA2 := BA.out.cell 2 (by simp)
   have eA3 := BA.out.cell 3 (by simp)
   have eA4 := BA.out.cell 4 (by simp)
   have eA5 := BA.out.cell 5 (by simp)
   have eA6 := BA.out.cell 6 (by simp)
   simp only [List.getElem_cons_zero, List.getElem_cons_succ, List.set_cons_zero, List.set_cons_succ] at eA0 eA1 eA2 eA3 eA4 eA5 eA6
   by_cases hn3 : r3 < 0
   ·go_wp2_with fail
    go_ret
    exact ⟨-1, rfl, by omega, by omega, HB.out⟩
   ·have hs3 := HR3.out (by omega)
    go_wp2_with fail
    go_ret
    exact ⟨_, rfl, by omega, by intro _; (try simp only [zCall] at *); push_cast; omega, HB.out⟩
set_option maxRecDepth 100000 in
set_option maxHeartbeats 1600000 in
theorem eqEvent_d (v u : Value) (x y : EventD) (w : World) (hx : ValAt rEvent 0 w v x) (hy : ValAt rEvent 0 w u y) : Calls Tryz.prog 15 #[v, u] w fun e w' => e = .returned (.bool (decide (x = y))) ∧ Below w.heap.size w w' := by
 have HQ := Lib.hid (show decide (x = y) = (decide (x.fKind = y.fKind) && decide (x.fName = y.fName) && decide (x.fCall = y.fCall) && decide (x.fRecipe = y.fRecipe)) by rw [Bool.eq_iff_iff]; cases x; cases y; simp [and_assoc])
 obtain ⟨_, rfl, hx⟩ := hx
 obtain ⟨a0, a1, ⟨a2_0, a2_1, a2_2, a2_3⟩, a3⟩ := x
 obtain ⟨v6, rfl, hv6⟩ := hx
 simp only at hv6
 obtain ⟨_, rfl, hy⟩ := hy
 obtain ⟨b0, b1, ⟨b2_0, b2_1, b2_2, b2_3⟩, b3⟩ := y
 obtain ⟨u6, rfl, hu6⟩ := hy
 simp only at hu6
 simp only at HQ
 obtain ⟨ra6, rc6, rfl, _⟩ := sliceAt_len hv6
 obtain ⟨sa6, sc6, rfl, _⟩ := sliceAt_len hu6
 have HV6 := Lib.hid hv6
 have HU6 := Lib.hid hu6
 clear hv6 hu6
 have HC2 := Lib.hid (fun w0 (hw : Below w.heap.size w w0) => eqCall_any (⟨a2_0, a2_1, a2_2, a2_3⟩ : CallD) (⟨b2_0, b2_1, b2_2, b2_3⟩ : CallD) w0)
 simp only [vCall] at HC2
 generalize decide ((⟨a2_0, a2_1, a2_2, a2_3⟩ : CallD) = (⟨b2_0, b2_1, b2_2, b2_3⟩ : CallD)) = p2 at *
 have HC3 := Lib.hid (fun w0 (hw : Below w.heap.size w w0) => eqStringS_d _ _ a3 b3 w0 (HV6.out.below good_str hw (Nat.le_refl _)) (HU6.out.below good_str hw (Nat.le_refl _)))
 generalize decide (a3 = b3) = p3 at *
 generalize hq : decide ((⟨a0, a1, ⟨a2_0, a2_1, a2_2, a2_3⟩, a3⟩ : EventD) = (⟨b0, b1, ⟨b2_0, b2_1, b2_2, b2_3⟩, b3⟩ : EventD)) = q at *
 clear hq
 have HS := Lib.hid (bx_start2 w [.int .i64 a0, .string ⟨a1.toArray⟩, .string ⟨a2_0.toArray⟩, .string ⟨a2_1.toArray⟩, .int .i64 a2_2, .string ⟨a2_3.toArray⟩, .slice ra6 a3.length rc6] [.int .i64 b0, .string ⟨b1.toArray⟩, .string ⟨b2_0.toArray⟩, .string ⟨b2_1.toArray⟩, .int .i64 b2_2, .string ⟨b2_3.toArray⟩, .slice sa6 b3.length sc6] 31 31)
 by_cases h0 : a0 = b0
 ·subst h0
  by_cases h1 : a1 = b1
  ·subst h1
   cases p2 with
   | true =>
    cases p3 with
    | true =>
     have HF := Lib.hid (show q = true from by rw [HQ.out]; simp)
     go_enter Tryz.func15, Tryz.ntmps15
     have BA := Lib.hid HS.out.1
     have BB := Lib.hid HS.out.2.1
     have HB := Lib.hid HS.out.2.2
     go_wp2_with fail
     refine (HC2.out _ HB.out).mono ?_
     rintro e w1 ⟨rfl, hb⟩
     have HB := Lib.hid (belS (w := w) HB.out hb)
     have BA := Lib.hid (BA.out.below hb)
     have BB := Lib.hid (BB.out.below hb)
     clear hb
     have eA0 := BA.out.cell 0 (by simp)
     have eB0 := BB.out.cell 0 (by simp)
     have eA1 := BA.out.cell 1 (by simp)
     have eB1 := BB.out.cell 1 (by simp)
     have eA2 := BA.out.cell 2 (by simp)
     have eB2 := BB.out.cell 2 (by simp)
     have eA3 := BA.out.cell 3 (by simp)
     have eB3 := BB.out.cell 3 (by simp)
     have eA4 := BA.out.cell 4 (by simp)
     have eB4 := BB.out.cell 4 (by simp)
     have eA5 := BA.out.cell 5 (by simp)
     have eB5 := BB.out.cell 5 (by simp)
     have eA6 := BA.out.cell 6 (by simp)
     have eB6 := BB.out.cell 6 (by simp)
     simp only [List.getElem_cons_zero, List.getElem_cons_succ, List.set_cons_zero, List.set_cons_succ] at eA0 eB0 eA1 eB1 eA2 eB2 eA3 eB3 eA4 eB4 eA5 eB5 eA6 eB6
     go_wp2_with fail
     clear eA0 eB0 eA1 eB1 eA2 eB2 eA3 eB3 eA4 eB4 eA5 eB5 eA6 eB6
     refine (HC3.out _ HB.out).mono ?_
     rintro e w2 ⟨rfl, hb⟩
     have HB := Lib.hid (belS (w := w) HB.out hb)
     have BA := Lib.hid (BA.out.below hb)
     have BB := Lib.hid (BB.out.below hb)
     clear hb
     have eA0 := BA.out.cell 0 (by simp)
     have eB0 := BB.out.cell 0 (by simp)
     have eA1 := BA.out.cell 1 (by simp)
     have eB1 := BB.out.cell 1 (by simp)
     have eA2 := BA.out.cell 2 (by simp)
     have eB2 := BB.out.cell 2 (by simp)
     have eA3 := BA.out.cell 3 (by simp)
     have eB3 := BB.out.cell 3 (by simp)
     have eA4 := BA.out.cell 4 (by simp)
     have eB4 := BB.out.cell 4 (by simp)
     have eA5 := BA.out.cell 5 (by simp)
     have eB5 := BB.out.cell 5 (by simp)
     have eA6 := BA.out.cell 6 (by simp)
     have eB6 := BB.out.cell 6 (by simp)
     simp only [List.getElem_cons_zero, List.getElem_cons_succ, List.set_cons_zero, List.set_cons_succ] at eA0 eB0 eA1 eB1 eA2 eB2 eA3 eB3 eA4 eB4 eA5 eB5 eA6 eB6
     go_wp2_with fail
     go_ret
     exact ⟨ret_bool HF.out.symm, HB.out⟩
    | false =>
     have HF := Lib.hid (show q = false from by rw [HQ.out]; simp)
     go_enter Tryz.func15, Tryz.ntmps15
     have BA := Lib.hid HS.out.1
     have BB := Lib.hid HS.out.2.1
     have HB := Lib.hid HS.out.2.2
     go_wp2_with fail
     refine (HC2.out _ HB.out).mono ?_
     rintro e w1 ⟨rfl, hb⟩
     have HB := Lib.hid (belS (w := w) HB.out hb)
     have BA := Lib.hid (BA.out.below hb)
     have BB := Lib.hid (BB.out.below hb)
     clear hb
     have eA0 := BA.out.cell 0 (by simp)
     have eB0 := BB.out.cell 0 (by simp)
     have eA1 := BA.out.cell 1 (by simp)
     have eB1 := BB.out.cell 1 (by simp)
     have eA2 := BA.out.cell 2 (by simp)
     have eB2 := BB.out.cell 2 (by simp)
     have eA3 := BA.out.cell 3 (by simp)
     have eB3 := BB.out.cell 3 (by simp)
     have eA4 := BA.out.cell 4 (by simp)
     have eB4 := BB.out.cell 4 (by simp)
     have eA5 := BA.out.cell 5 (by simp)
     have eB5 := BB.out.cell 5 (by simp)
     have eA6 := BA.out.cell 6 (by simp)
     have eB6 := BB.out.cell 6 (by simp)
     simp only [List.getElem_cons_zero, List.getElem_cons_succ, List.set_cons_zero, List.set_cons_succ] at eA0 eB0 eA1 eB1 eA2 eB2 eA3 eB3 eA4 eB4 eA5 eB5 eA6 eB6
     go_wp2_with fail
     clear eA0 eB0 eA1 eB1 eA2 eB2 eA3 eB3 eA4 eB4 eA5 eB5 eA6 eB6
     refine (HC3.out _ HB.out).mono ?_
     rintro e w2 ⟨rfl, hb⟩
     have HB := Lib.hid (belS (w := w) HB.out hb)
     have BA := Lib.hid (BA.out.below hb)
     have BB := Lib.hid (BB.out.below hb)
     clear hb
     have eA0 := BA.out.cell 0 (by simp)
     have eB0 := BB.out.cell 0 (by simp)
     have eA1 := BA.out.cell 1 (by simp)
     have eB1 := BB.out.cell 1 (by simp)
     have eA2 := BA.out.cell 2 (by simp)
     have eB2 := BB.out.cell 2 (by simp)
     have eA3 := BA.out.cell 3 (by simp)
     have eB3 := BB.out.cell 3 (by simp)
     have eA4 := BA.out.cell 4 (by simp)
     have eB4 := BB.out.cell 4 (by simp)
     have eA5 := BA.out.cell 5 (by simp)
     have eB5 := BB.out.cell 5 (by simp)
     have eA6 := BA.out.cell 6 (by simp)
     have eB6 := BB.out.cell 6 (by simp)
     simp only [List.getElem_cons_zero, List.getElem_cons_succ, List.set_cons_zero, List.set_cons_succ] at eA0 eB0 eA1 eB1 eA2 eB2 eA3 eB3 eA4 eB4 eA5 eB5 eA6 eB6
     go_wp2_with fail
     go_ret
     exact ⟨ret_bool HF.out.symm, HB.out⟩
   | false =>
    have HF := Lib.hid (show q = false from by rw [HQ.out]; simp)
    go_enter Tryz.func15, Tryz.ntmps15
    have BA := Lib.hid HS.out.1
    have BB := Lib.hid HS.out.2.1
    have HB := Lib.hid HS.out.2.2
    go_wp2_with fail
    refine (HC2.out _ HB.out).mono ?_
    rintro e w1 ⟨rfl, hb⟩
    have HB := Lib.hid (belS (w := w) HB.out hb)
    have BA := Lib.hid (BA.out.below hb)
    have BB := Lib.hid (BB.out.below hb)
    clear hb
    have eA0 := BA.out.cell 0 (by simp)
    have eB0 := BB.out.cell 0 (by simp)
    have eA1 := BA.out.cell 1 (by simp)
    have eB1 := BB.out.cell 1 (by simp)
    have eA2 := BA.out.cell 2 (by simp)
    have eB2 := BB.out.cell 2 (by simp)
    have eA3 := BA.out.cell 3 (by simp)
    have eB3 := BB.out.cell 3 (by simp)
    have eA4 := BA.out.cell 4 (by simp)
    have eB4 := BB.out.cell 4 (by simp)
    have eA5 := BA.out.cell 5 (by simp)
    have eB5 := BB.out.cell 5 (by simp)
    have eA6 := BA.out.cell 6 (by simp)
    have eB6 := BB.out.cell 6 (by simp)
    simp only [List.getElem_cons_zero, List.getElem_cons_succ, List.set_cons_zero, List.set_cons_succ] at eA0 eB0 eA1 eB1 eA2 eB2 eA3 eB3 eA4 eB4 eA5 eB5 eA6 eB6
    go_wp2_with fail
    go_ret
    exact ⟨ret_bool HF.out.symm, HB.out⟩
  ·have HF := Lib.hid (show q = false from by rw [HQ.out]; simp [h1])
   have hne1 : (a1 == b1) = false := by simpa using h1
   have hnf1 : (a1 != b1) = true := by simpa using h1
   clear h1
   go_enter Tryz.func15, Tryz.ntmps15
   have BA := Lib.hid HS.out.1
   have BB := Lib.hid HS.out.2.1
   have HB := Lib.hid HS.out.2.2
   go_wp2_with fail
   go_ret
   exact ⟨ret_bool HF.out.symm, HB.out⟩
 ·have HF := Lib.hid (show q = false from by rw [HQ.out]; simp [h0])
  have hne0 : (a0 == b0) = false := by simpa using h0
  have hnf0 : (a0 != b0) = true := by simpa using h0
  clear h0
  go_enter Tryz.func15, Tryz.ntmps15
  have BA := Lib.hid HS.out.1
  have BB := Lib.hid HS.out.2.1
  have HB := Lib.hid HS.out.2.2
  go_wp2_with fail
  go_ret
  exact ⟨ret_bool HF.out.symm, HB.out⟩
end Go.Proofs.YteeopjcbpngofaaGreat
namespace Go.Proofs.YteeopjcbpngofaaGreat
set_option linter.unusedVariables false
open Go.RowKit
abbrev mStart : List UInt8 := [83, 116, 97, 114, 116]
abbrev mStop : List UInt8 := [83, 116, 111, 112]
abbrev mGet : List UInt8 := [71, 101, 116]
abbrev mPut : List UInt8 := [80, 117, 116]
abbrev mTell : List UInt8 := [84, 101, 108, 108]
abbrev mHear : List UInt8 := [72, 101, 97, 114]
abbrev mLoad : List UInt8 := [76, 111, 97, 100]
abbrev mSave : List UInt8 := [83, 97, 118, 101]
abbrev mHeal : List UInt8 := [72, 101, 97, 108]
def takesK (m : List UInt8) : Bool := m == mGet || m == mPut
def takesV (m : List UInt8) : Bool := m == mPut || m == mHear
def takesT (m : List UInt8) : Bool := m == mLoad
def callB (d : CallD) : Bool := (wantF d.fMethod != 0) && (if takesK d.fMethod then nameB d.fKey else d.fKey.isEmpty) && (if takesV d.fMethod then numB d.fValue else d.fValue == 0) && (d.fText.isEmpty || takesT d.fMethod)
theorem meth_cases (m : List UInt8) : m = mStart ∨ m = mStop ∨ m = mGet ∨ m = mPut ∨ m = mTell ∨ m = mHear ∨ m = mLoad ∨ m = mSave ∨ m = mHeal ∨ (wantF m = 0 ∧ m ≠ mStart ∧ m ≠ mStop ∧ m ≠ mGet ∧ m ≠ mPut ∧ m ≠ mTell ∧ m ≠ mHear ∧ m ≠ mLoad ∧ m ≠ mSave ∧ m ≠ mHeal) := by
 by_cases h : wantF m = 0
 ·iterate 9 right
  refine ⟨h, ?_, ?_, ?_, ?_, ?_, ?_, ?_, ?_, ?_⟩ <;> (rintro rfl; exact absurd h (by decide))
 ·unfold wantF at h
  rcases findK_bd (fun k => decide (m ∈ mthN k)) 6 0 with e | ⟨j, e, hj, hm⟩
  ·exact absurd (show wantI (abOfM m) = 0 by unfold abOfM; rw [e]; rfl) h
  ·have hm := of_decide_eq_true hm
   rcases (show j = 0 ∨ j = 1 ∨ j = 2 ∨ j = 3 ∨ j = 4 ∨ j = 5 by omega) with rfl | rfl | rfl | rfl | rfl | rfl <;> simp [mthN] at hm <;> (first | (rcases hm with hm | hm <;> subst hm <;> decide) | (subst hm; decide))
set_option maxHeartbeats 800000 in
theorem takesKey_any (m : List UInt8) (w : World) : Calls Tryz.prog 99 #[.string ⟨m.toArray⟩] w fun e w' => e = .returned (.bool (takesK m)) ∧ w = w' := by
 by_cases hGet : m = mGet
 ·subst hGet
  go_enter Tryz.func99, Tryz.ntmps99
  go_wp2
  go_ret
  exact ⟨rfl, rfl⟩
 by_cases hPut : m = mPut
 ·subst hPut
  go_enter Tryz.func99, Tryz.ntmps99
  go_wp2
  go_ret
  exact ⟨rfl, rfl⟩
 have bGet : (m == [71, 101, 116]) = false := by simpa using hGet
 have bPut : (m == [80, 117, 116]) = false := by simpa using hPut
 have HR := Lib.hid (show takesK m = false by simp only [takesK, bGet, bPut] <;> rfl)
 clear hGet hPut
 go_enter Tryz.func99, Tryz.ntmps99
 go_wp2
 go_ret
 exact ⟨ret_bool HR.out.symm, rfl⟩
theorem takesKey_b (m : List UInt8) (x : Bool) (h : takesK m = x) (w : World) : Calls Tryz.prog 99 #[.string ⟨m.toArray⟩] w fun e w' => e = .returned (.bool x) ∧ w = w' := by subst h; exact takesKey_any m w
set_option maxHeartbeats 800000 in
theorem takesValue_any (m : List UInt8) (w : World) : Calls Tryz.prog 100 #[.string ⟨m.toArray⟩] w fun e w' => e = .returned (.bool (takesV m)) ∧ w = w' := by
 by_cases hPut : m = mPut
 ·subst hPut
  go_enter Tryz.func100, Tryz.ntmps100
  go_wp2
  go_ret
  exact ⟨rfl, rfl⟩
 by_cases hHear : m = mHear
 ·subst hHear
  go_enter Tryz.func100, Tryz.ntmps100
  go_wp2
  go_ret
  exact ⟨rfl, rfl⟩
 have bPut : (m == [80, 117, 116]) = false := by simpa using hPut
 have bHear : (m == [72, 101, 97, 114]) = false := by simpa using hHear
 have HR := Lib.hid (show takesV m = false by simp only [takesV, bPut, bHear] <;> rfl)
 clear hPut hHear
 go_enter Tryz.func100, Tryz.ntmps100
 go_wp2
 go_ret
 exact ⟨ret_bool HR.out.symm, rfl⟩
theorem takesValue_b (m : List UInt8) (x : Bool) (h : takesV m = x) (w : World) : Calls Tryz.prog 100 #[.string ⟨m.toArray⟩] w fun e w' => e = .returned (.bool x) ∧ w = w' := by subst h; exact takesValue_any m w
set_option maxHeartbeats 800000 in
theorem takesText_any (m : List UInt8) (w : World) : Calls Tryz.prog 102 #[.string ⟨m.toArray⟩] w fun e w' => e = .returned (.bool (takesT m)) ∧ w = w' := by
 by_cases hLoad : m = mLoad
 ·subst hLoad
  go_enter Tryz.func102, Tryz.ntmps102
  go_wp2
  go_ret
  exact ⟨rfl, rfl⟩
 have bLoad : (m == [76, 111, 97, 100]) = false := by simpa using hLoad
 have HR := Lib.hid (show takesT m = false by simp only [takesT, bLoad] <;> rfl)
 clear hLoad
 go_enter Tryz.func102, Tryz.ntmps102
 go_wp2
 go_ret
 exact ⟨ret_bool HR.out.symm, rfl⟩
theorem takesText_b (m : List UInt8) (x : Bool) (h : takesT m = x) (w : World) : Calls Tryz.prog 102 #[.string ⟨m.toArray⟩] w fun e w' => e = .returned (.bool x) ∧ w = w' := by subst h; exact takesText_any m w
set_option maxHeartbeats 800000 in
theorem implWant_any (s : ByteArray) (w : World) :
  Calls Tryz.prog 131 #[.string s] w fun e w' => e = .returned (.int .i64 (wantF s.data.toList)) ∧ Below w.heap.size w w' := by
 have HA := Lib.hid (implAbilityOfMethod_any s)
 have hb := abOfM_bd s.data.toList
 unfold wantF
 generalize abOfM s.data.toList = k at *
 rcases hb with rfl | ⟨j, rfl, hj⟩
 ·go_enter Tryz.func131, Tryz.ntmps131
  go_wp2_with fail
  refine (HA.out w).mono ?_
  rintro e w1 ⟨rfl, hb⟩
  go_wp2_with fail
  go_ret
  exact ⟨rfl, hb⟩
 ·have HP := Lib.hid (show wrap64 (2 ^ j) = wantI (j : Nat) by unfold wantI; rw [if_neg (by omega), pow_of j hj]; simp)
  go_enter Tryz.func131, Tryz.ntmps131
  go_wp2_with fail
  refine (HA.out w).mono ?_
  rintro e w1 ⟨rfl, hb⟩
  go_wp2_with fail
  go_ret
  exact ⟨ret_int HP.out, hb⟩
theorem implWant_b (m : List UInt8) (x : Int) (h : wantF m = x) (w : World) : Calls Tryz.prog 131 #[.string ⟨m.toArray⟩] w fun e w' => e = .returned (.int .i64 x) ∧ Below w.heap.size w w' := by
 subst h; exact implWant_any ⟨m.toArray⟩ w
theorem specWant_b (m : List UInt8) (x : Int) (h : wantF m = x) (w : World) : Calls Tryz.prog 127 #[.string ⟨m.toArray⟩] w fun e w' => e = .returned (.int .i64 x) ∧ Below w.heap.size w w' := by
 subst h; exact specWant_any ⟨m.toArray⟩ w
end Go.Proofs.YteeopjcbpngofaaGreat
namespace Go.Proofs.YteeopjcbpngofaaGreat
set_option linter.unusedVariables false
open Go.RowKit
set_option maxRecDepth 100000 in
set_option maxHeartbeats 3200000 in
theorem implIsCall_Start (key : List UInt8) (v : Int) (text : List UInt8) (w : World) (hk : key.length ≤ maxLen) :
  Calls Tryz.prog 97 #[.agg #[.string ⟨#[83, 116, 97, 114, 116]⟩, .string ⟨key.toArray⟩, .int .i64 v, .string ⟨text.toArray⟩]] w fun e w' => e = .returned (.bool (callB ⟨mStart, key, v, text⟩)) ∧ Below w.heap.size w w' := by
 have HR := Lib.hid (show callB ⟨mStart, key, v, text⟩ = (key.isEmpty && (v == 0) && (text.isEmpty || false)) from rfl)
 have HW := Lib.hid (show ∀ w0, Calls Tryz.prog 131 #[.string ⟨#[83, 116, 97, 114, 116]⟩] w0 fun e w' => e = .returned (.int .i64 1) ∧ Below w0.heap.size w0 w' from fun w0 => implWant_b mStart 1 rfl w0)
 have HTK := Lib.hid (show ∀ w0, Calls Tryz.prog 99 #[.string ⟨#[83, 116, 97, 114, 116]⟩] w0 fun e w' => e = .returned (.bool false) ∧ w0 = w' from takesKey_b mStart _ rfl)
 have HTV := Lib.hid (show ∀ w0, Calls Tryz.prog 100 #[.string ⟨#[83, 116, 97, 114, 116]⟩] w0 fun e w' => e = .returned (.bool false) ∧ w0 = w' from takesValue_b mStart _ rfl)
 have HTT := Lib.hid (show ∀ w0, Calls Tryz.prog 102 #[.string ⟨#[83, 116, 97, 114, 116]⟩] w0 fun e w' => e = .returned (.bool false) ∧ w0 = w' from takesText_b mStart _ rfl)
 generalize callB ⟨mStart, key, v, text⟩ = res at *
 clear hk
 have HB0 := Lib.hid (show ∀ o, Below w.heap.size w (w.alloc o) from fun o => (Below.refl w.heap.size w).alloc (Nat.le_refl _) o)
 go_enter Tryz.func97, Tryz.ntmps97
 go_wp2_with fail
 refine (HW.out _).mono ?_
 rintro e w1 ⟨rfl, hb⟩
 have HB := Lib.hid ((HB0.out _).trans (hb.mono (HB0.out _).size))
 obtain ⟨hcc, _⟩ := bcell hb
 simp at hcc
 have c0 := hcc w.heap.size 0 (by omega)
 have c1 := hcc w.heap.size 1 (by omega)
 have c2 := hcc w.heap.size 2 (by omega)
 have c3 := hcc w.heap.size 3 (by omega)
 simp at c0 c1 c2 c3
 clear hb hcc
 cases key <;> cases text
 all_goals
  by_cases h0 : v = 0
  ·subst h0
   go_wp2_with (first | (go_at_call 99; (with_reducible refine (HTK.out _).mono ?_); rintro e w' ⟨rfl, rfl⟩) | (go_at_call 100; (with_reducible refine (HTV.out _).mono ?_); rintro e w' ⟨rfl, rfl⟩) | (go_at_call 102; (with_reducible refine (HTT.out _).mono ?_); rintro e w' ⟨rfl, rfl⟩))
   go_ret
   exact ⟨ret_bool (by rw [HR.out]; rfl), HB.out⟩
  ·have hv0 : (v == 0) = false := by simpa using h0
   rw [hv0] at HR
   clear h0
   go_wp2_with (first | (go_at_call 99; (with_reducible refine (HTK.out _).mono ?_); rintro e w' ⟨rfl, rfl⟩) | (go_at_call 100; (with_reducible refine (HTV.out _).mono ?_); rintro e w' ⟨rfl, rfl⟩) | (go_at_call 102; (with_reducible refine (HTT.out _).mono ?_); rintro e w' ⟨rfl, rfl⟩))
   go_ret
   exact ⟨ret_bool (by rw [HR.out]; rfl), HB.out⟩
set_option maxRecDepth 100000 in
set_option maxHeartbeats 3200000 in
theorem implIsCall_Stop (key : List UInt8) (v : Int) (text : List UInt8) (w : World) (hk : key.length ≤ maxLen) :
  Calls Tryz.prog 97 #[.agg #[.string ⟨#[83, 116, 111, 112]⟩, .string ⟨key.toArray⟩, .int .i64 v, .string ⟨text.toArray⟩]] w fun e w' => e = .returned (.bool (callB ⟨mStop, key, v, text⟩)) ∧ Below w.heap.size w w' := by
 have HR := Lib.hid (show callB ⟨mStop, key, v, text⟩ = (key.isEmpty && (v == 0) && (text.isEmpty || false)) from rfl)
 have HW := Lib.hid (show ∀ w0, Calls Tryz.prog 131 #[.string ⟨#[83, 116, 111, 112]⟩] w0 fun e w' => e = .returned (.int .i64 1) ∧ Below w0.heap.size w0 w' from fun w0 => implWant_b mStop 1 rfl w0)
 have HTK := Lib.hid (show ∀ w0, Calls Tryz.prog 99 #[.string ⟨#[83, 116, 111, 112]⟩] w0 fun e w' => e = .returned (.bool false) ∧ w0 = w' from takesKey_b mStop _ rfl)
 have HTV := Lib.hid (show ∀ w0, Calls Tryz.prog 100 #[.string ⟨#[83, 116, 111, 112]⟩] w0 fun e w' => e = .returned (.bool false) ∧ w0 = w' from takesValue_b mStop _ rfl)
 have HTT := Lib.hid (show ∀ w0, Calls Tryz.prog 102 #[.string ⟨#[83, 116, 111, 112]⟩] w0 fun e w' => e = .returned (.bool false) ∧ w0 = w' from takesText_b mStop _ rfl)
 generalize callB ⟨mStop, key, v, text⟩ = res at *
 clear hk
 have HB0 := Lib.hid (show ∀ o, Below w.heap.size w (w.alloc o) from fun o => (Below.refl w.heap.size w).alloc (Nat.le_refl _) o)
 go_enter Tryz.func97, Tryz.ntmps97
 go_wp2_with fail
 refine (HW.out _).mono ?_
 rintro e w1 ⟨rfl, hb⟩
 have HB := Lib.hid ((HB0.out _).trans (hb.mono (HB0.out _).size))
 obtain ⟨hcc, _⟩ := bcell hb
 simp at hcc
 have c0 := hcc w.heap.size 0 (by omega)
 have c1 := hcc w.heap.size 1 (by omega)
 have c2 := hcc w.heap.size 2 (by omega)
 have c3 := hcc w.heap.size 3 (by omega)
 simp at c0 c1 c2 c3
 clear hb hcc
 cases key <;> cases text
 all_goals
  by_cases h0 : v = 0
  ·subst h0
   go_wp2_with (first | (go_at_call 99; (with_reducible refine (HTK.out _).mono ?_); rintro e w' ⟨rfl, rfl⟩) | (go_at_call 100; (with_reducible refine (HTV.out _).mono ?_); rintro e w' ⟨rfl, rfl⟩) | (go_at_call 102; (with_reducible refine (HTT.out _).mono ?_); rintro e w' ⟨rfl, rfl⟩))
   go_ret
   exact ⟨ret_bool (by rw [HR.out]; rfl), HB.out⟩
  ·have hv0 : (v == 0) = false := by simpa using h0
   rw [hv0] at HR
   clear h0
   go_wp2_with (first | (go_at_call 99; (with_reducible refine (HTK.out _).mono ?_); rintro e w' ⟨rfl, rfl⟩) | (go_at_call 100; (with_reducible refine (HTV.out _).mono ?_); rintro e w' ⟨rfl, rfl⟩) | (go_at_call 102; (with_reducible refine (HTT.out _).mono ?_); rintro e w' ⟨rfl, rfl⟩))
   go_ret
   exact ⟨ret_bool (by rw [HR.out]; rfl), HB.out⟩
set_option maxRecDepth 100000 in
set_option maxHeartbeats 3200000 in
theorem implIsCall_Get (key : List UInt8) (v : Int) (text : List UInt8) (w : World) (hk : key.length ≤ maxLen) :
  Calls Tryz.prog 97 #[.agg #[.string ⟨#[71, 101, 116]⟩, .string ⟨key.toArray⟩, .int .i64 v, .string ⟨text.toArray⟩]] w fun e w' => e = .returned (.bool (callB ⟨mGet, key, v, text⟩)) ∧ Below w.heap.size w w' := by
 have HR := Lib.hid (show callB ⟨mGet, key, v, text⟩ = (nameB key && (v == 0) && (text.isEmpty || false)) from rfl)
 have HW := Lib.hid (show ∀ w0, Calls Tryz.prog 131 #[.string ⟨#[71, 101, 116]⟩] w0 fun e w' => e = .returned (.int .i64 2) ∧ Below w0.heap.size w0 w' from fun w0 => implWant_b mGet 2 rfl w0)
 have HN := Lib.hid (implIsName_b key _ rfl hk)
 have HTK := Lib.hid (show ∀ w0, Calls Tryz.prog 99 #[.string ⟨#[71, 101, 116]⟩] w0 fun e w' => e = .returned (.bool true) ∧ w0 = w' from takesKey_b mGet _ rfl)
 have HTV := Lib.hid (show ∀ w0, Calls Tryz.prog 100 #[.string ⟨#[71, 101, 116]⟩] w0 fun e w' => e = .returned (.bool false) ∧ w0 = w' from takesValue_b mGet _ rfl)
 have HTT := Lib.hid (show ∀ w0, Calls Tryz.prog 102 #[.string ⟨#[71, 101, 116]⟩] w0 fun e w' => e = .returned (.bool false) ∧ w0 = w' from takesText_b mGet _ rfl)
 generalize callB ⟨mGet, key, v, text⟩ = res at *
 generalize nameB key = kn at *
 clear hk
 have HB0 := Lib.hid (show ∀ o, Below w.heap.size w (w.alloc o) from fun o => (Below.refl w.heap.size w).alloc (Nat.le_refl _) o)
 go_enter Tryz.func97, Tryz.ntmps97
 go_wp2_with fail
 refine (HW.out _).mono ?_
 rintro e w1 ⟨rfl, hb⟩
 have HB := Lib.hid ((HB0.out _).trans (hb.mono (HB0.out _).size))
 obtain ⟨hcc, _⟩ := bcell hb
 simp at hcc
 have c0 := hcc w.heap.size 0 (by omega)
 have c1 := hcc w.heap.size 1 (by omega)
 have c2 := hcc w.heap.size 2 (by omega)
 have c3 := hcc w.heap.size 3 (by omega)
 simp at c0 c1 c2 c3
 clear hb hcc
 cases kn <;> cases text
 all_goals
  by_cases h0 : v = 0
  ·subst h0
   go_wp2_with (first | (go_at_call 96; (with_reducible refine (HN.out _).mono ?_); rintro e w' ⟨rfl, rfl⟩) | (go_at_call 99; (with_reducible refine (HTK.out _).mono ?_); rintro e w' ⟨rfl, rfl⟩) | (go_at_call 100; (with_reducible refine (HTV.out _).mono ?_); rintro e w' ⟨rfl, rfl⟩) | (go_at_call 102; (with_reducible refine (HTT.out _).mono ?_); rintro e w' ⟨rfl, rfl⟩))
   go_ret
   exact ⟨ret_bool (by rw [HR.out]; rfl), HB.out⟩
  ·have hv0 : (v == 0) = false := by simpa using h0
   rw [hv0] at HR
   clear h0
   go_wp2_with (first | (go_at_call 96; (with_reducible refine (HN.out _).mono ?_); rintro e w' ⟨rfl, rfl⟩) | (go_at_call 99; (with_reducible refine (HTK.out _).mono ?_); rintro e w' ⟨rfl, rfl⟩) | (go_at_call 100; (with_reducible refine (HTV.out _).mono ?_); rintro e w' ⟨rfl, rfl⟩) | (go_at_call 102; (with_reducible refine (HTT.out _).mono ?_); rintro e w' ⟨rfl, rfl⟩))
   go_ret
   exact ⟨ret_bool (by rw [HR.out]; rfl), HB.out⟩
end Go.Proofs.YteeopjcbpngofaaGreat
namespace Go.Proofs.YteeopjcbpngofaaGreat
set_option linter.unusedVariables false
open Go.RowKit
set_option maxRecDepth 100000 in
set_option maxHeartbeats 3200000 in
theorem implIsCall_Put (key : List UInt8) (v : Int) (text : List UInt8) (w : World) (hk : key.length ≤ maxLen) :
  Calls Tryz.prog 97 #[.agg #[.string ⟨#[80, 117, 116]⟩, .string ⟨key.toArray⟩, .int .i64 v, .string ⟨text.toArray⟩]] w fun e w' => e = .returned (.bool (callB ⟨mPut, key, v, text⟩)) ∧ Below w.heap.size w w' := by
 have HR := Lib.hid (show callB ⟨mPut, key, v, text⟩ = (nameB key && numB v && (text.isEmpty || false)) from rfl)
 have HW := Lib.hid (show ∀ w0, Calls Tryz.prog 131 #[.string ⟨#[80, 117, 116]⟩] w0 fun e w' => e = .returned (.int .i64 2) ∧ Below w0.heap.size w0 w' from fun w0 => implWant_b mPut 2 rfl w0)
 have HN := Lib.hid (implIsName_b key _ rfl hk)
 have HTK := Lib.hid (show ∀ w0, Calls Tryz.prog 99 #[.string ⟨#[80, 117, 116]⟩] w0 fun e w' => e = .returned (.bool true) ∧ w0 = w' from takesKey_b mPut _ rfl)
 have HTV := Lib.hid (show ∀ w0, Calls Tryz.prog 100 #[.string ⟨#[80, 117, 116]⟩] w0 fun e w' => e = .returned (.bool true) ∧ w0 = w' from takesValue_b mPut _ rfl)
 have HTT := Lib.hid (show ∀ w0, Calls Tryz.prog 102 #[.string ⟨#[80, 117, 116]⟩] w0 fun e w' => e = .returned (.bool false) ∧ w0 = w' from takesText_b mPut _ rfl)
 have HNU := Lib.hid (isNumber_b v _ rfl)
 generalize callB ⟨mPut, key, v, text⟩ = res at *
 generalize nameB key = kn at *
 generalize numB v = vn at *
 clear hk
 have HB0 := Lib.hid (show ∀ o, Below w.heap.size w (w.alloc o) from fun o => (Below.refl w.heap.size w).alloc (Nat.le_refl _) o)
 go_enter Tryz.func97, Tryz.ntmps97
 go_wp2_with fail
 refine (HW.out _).mono ?_
 rintro e w1 ⟨rfl, hb⟩
 have HB := Lib.hid ((HB0.out _).trans (hb.mono (HB0.out _).size))
 obtain ⟨hcc, _⟩ := bcell hb
 simp at hcc
 have c0 := hcc w.heap.size 0 (by omega)
 have c1 := hcc w.heap.size 1 (by omega)
 have c2 := hcc w.heap.size 2 (by omega)
 have c3 := hcc w.heap.size 3 (by omega)
 simp at c0 c1 c2 c3
 clear hb hcc
 cases kn <;> cases text <;> cases vn
 all_goals
  go_wp2_with (first | (go_at_call 96; (with_reducible refine (HN.out _).mono ?_); rintro e w' ⟨rfl, rfl⟩) | (go_at_call 99; (with_reducible refine (HTK.out _).mono ?_); rintro e w' ⟨rfl, rfl⟩) | (go_at_call 100; (with_reducible refine (HTV.out _).mono ?_); rintro e w' ⟨rfl, rfl⟩) | (go_at_call 102; (with_reducible refine (HTT.out _).mono ?_); rintro e w' ⟨rfl, rfl⟩) | (go_at_call 132; (with_reducible refine (HNU.out _).mono ?_); rintro e w' ⟨rfl, rfl⟩))
  go_ret
  exact ⟨ret_bool (by rw [HR.out]; rfl), HB.out⟩
set_option maxRecDepth 100000 in
set_option maxHeartbeats 3200000 in
theorem implIsCall_Tell (key : List UInt8) (v : Int) (text : List UInt8) (w : World) (hk : key.length ≤ maxLen) :
  Calls Tryz.prog 97 #[.agg #[.string ⟨#[84, 101, 108, 108]⟩, .string ⟨key.toArray⟩, .int .i64 v, .string ⟨text.toArray⟩]] w fun e w' => e = .returned (.bool (callB ⟨mTell, key, v, text⟩)) ∧ Below w.heap.size w w' := by
 have HR := Lib.hid (show callB ⟨mTell, key, v, text⟩ = (key.isEmpty && (v == 0) && (text.isEmpty || false)) from rfl)
 have HW := Lib.hid (show ∀ w0, Calls Tryz.prog 131 #[.string ⟨#[84, 101, 108, 108]⟩] w0 fun e w' => e = .returned (.int .i64 4) ∧ Below w0.heap.size w0 w' from fun w0 => implWant_b mTell 4 rfl w0)
 have HTK := Lib.hid (show ∀ w0, Calls Tryz.prog 99 #[.string ⟨#[84, 101, 108, 108]⟩] w0 fun e w' => e = .returned (.bool false) ∧ w0 = w' from takesKey_b mTell _ rfl)
 have HTV := Lib.hid (show ∀ w0, Calls Tryz.prog 100 #[.string ⟨#[84, 101, 108, 108]⟩] w0 fun e w' => e = .returned (.bool false) ∧ w0 = w' from takesValue_b mTell _ rfl)
 have HTT := Lib.hid (show ∀ w0, Calls Tryz.prog 102 #[.string ⟨#[84, 101, 108, 108]⟩] w0 fun e w' => e = .returned (.bool false) ∧ w0 = w' from takesText_b mTell _ rfl)
 generalize callB ⟨mTell, key, v, text⟩ = res at *
 clear hk
 have HB0 := Lib.hid (show ∀ o, Below w.heap.size w (w.alloc o) from fun o => (Below.refl w.heap.size w).alloc (Nat.le_refl _) o)
 go_enter Tryz.func97, Tryz.ntmps97
 go_wp2_with fail
 refine (HW.out _).mono ?_
 rintro e w1 ⟨rfl, hb⟩
 have HB := Lib.hid ((HB0.out _).trans (hb.mono (HB0.out _).size))
 obtain ⟨hcc, _⟩ := bcell hb
 simp at hcc
 have c0 := hcc w.heap.size 0 (by omega)
 have c1 := hcc w.heap.size 1 (by omega)
 have c2 := hcc w.heap.size 2 (by omega)
 have c3 := hcc w.heap.size 3 (by omega)
 simp at c0 c1 c2 c3
 clear hb hcc
 cases key <;> cases text
 all_goals
  by_cases h0 : v = 0
  ·subst h0
   go_wp2_with (first | (go_at_call 99; (with_reducible refine (HTK.out _).mono ?_); rintro e w' ⟨rfl, rfl⟩) | (go_at_call 100; (with_reducible refine (HTV.out _).mono ?_); rintro e w' ⟨rfl, rfl⟩) | (go_at_call 102; (with_reducible refine (HTT.out _).mono ?_); rintro e w' ⟨rfl, rfl⟩))
   go_ret
   exact ⟨ret_bool (by rw [HR.out]; rfl), HB.out⟩
  ·have hv0 : (v == 0) = false := by simpa using h0
   rw [hv0] at HR
   clear h0
   go_wp2_with (first | (go_at_call 99; (with_reducible refine (HTK.out _).mono ?_); rintro e w' ⟨rfl, rfl⟩) | (go_at_call 100; (with_reducible refine (HTV.out _).mono ?_); rintro e w' ⟨rfl, rfl⟩) | (go_at_call 102; (with_reducible refine (HTT.out _).mono ?_); rintro e w' ⟨rfl, rfl⟩))
   go_ret
   exact ⟨ret_bool (by rw [HR.out]; rfl), HB.out⟩
set_option maxRecDepth 100000 in
set_option maxHeartbeats 3200000 in
theorem implIsCall_Hear (key : List UInt8) (v : Int) (text : List UInt8) (w : World) (hk : key.length ≤ maxLen) :
  Calls Tryz.prog 97 #[.agg #[.string ⟨#[72, 101, 97, 114]⟩, .string ⟨key.toArray⟩, .int .i64 v, .string ⟨text.toArray⟩]] w fun e w' => e = .returned (.bool (callB ⟨mHear, key, v, text⟩)) ∧ Below w.heap.size w w' := by
 have HR := Lib.hid (show callB ⟨mHear, key, v, text⟩ = (key.isEmpty && numB v && (text.isEmpty || false)) from rfl)
 have HW := Lib.hid (show ∀ w0, Calls Tryz.prog 131 #[.string ⟨#[72, 101, 97, 114]⟩] w0 fun e w' => e = .returned (.int .i64 8) ∧ Below w0.heap.size w0 w' from fun w0 => implWant_b mHear 8 rfl w0)
 have HTK := Lib.hid (show ∀ w0, Calls Tryz.prog 99 #[.string ⟨#[72, 101, 97, 114]⟩] w0 fun e w' => e = .returned (.bool false) ∧ w0 = w' from takesKey_b mHear _ rfl)
 have HTV := Lib.hid (show ∀ w0, Calls Tryz.prog 100 #[.string ⟨#[72, 101, 97, 114]⟩] w0 fun e w' => e = .returned (.bool true) ∧ w0 = w' from takesValue_b mHear _ rfl)
 have HTT := Lib.hid (show ∀ w0, Calls Tryz.prog 102 #[.string ⟨#[72, 101, 97, 114]⟩] w0 fun e w' => e = .returned (.bool false) ∧ w0 = w' from takesText_b mHear _ rfl)
 have HNU := Lib.hid (isNumber_b v _ rfl)
 generalize callB ⟨mHear, key, v, text⟩ = res at *
 generalize numB v = vn at *
 clear hk
 have HB0 := Lib.hid (show ∀ o, Below w.heap.size w (w.alloc o) from fun o => (Below.refl w.heap.size w).alloc (Nat.le_refl _) o)
 go_enter Tryz.func97, Tryz.ntmps97
 go_wp2_with fail
 refine (HW.out _).mono ?_
 rintro e w1 ⟨rfl, hb⟩
 have HB := Lib.hid ((HB0.out _).trans (hb.mono (HB0.out _).size))
 obtain ⟨hcc, _⟩ := bcell hb
 simp at hcc
 have c0 := hcc w.heap.size 0 (by omega)
 have c1 := hcc w.heap.size 1 (by omega)
 have c2 := hcc w.heap.size 2 (by omega)
 have c3 := hcc w.heap.size 3 (by omega)
 simp at c0 c1 c2 c3
 clear hb hcc
 cases key <;> cases text <;> cases vn
 all_goals
  go_wp2_with (first | (go_at_call 99; (with_reducible refine (HTK.out _).mono ?_); rintro e w' ⟨rfl, rfl⟩) | (go_at_call 100; (with_reducible refine (HTV.out _).mono ?_); rintro e w' ⟨rfl, rfl⟩) | (go_at_call 102; (with_reducible refine (HTT.out _).mono ?_); rintro e w' ⟨rfl, rfl⟩) | (go_at_call 132; (with_reducible refine (HNU.out _).mono ?_); rintro e w' ⟨rfl, rfl⟩))
  go_ret
  exact ⟨ret_bool (by rw [HR.out]; rfl), HB.out⟩
end Go.Proofs.YteeopjcbpngofaaGreat
namespace Go.Proofs.YteeopjcbpngofaaGreat
set_option linter.unusedVariables false
open Go.RowKit
set_option maxRecDepth 100000 in
set_option maxHeartbeats 3200000 in
theorem implIsCall_Load (key : List UInt8) (v : Int) (text : List UInt8) (w : World) (hk : key.length ≤ maxLen) :
  Calls Tryz.prog 97 #[.agg #[.string ⟨#[76, 111, 97, 100]⟩, .string ⟨key.toArray⟩, .int .i64 v, .string ⟨text.toArray⟩]] w fun e w' => e = .returned (.bool (callB ⟨mLoad, key, v, text⟩)) ∧ Below w.heap.size w w' := by
 have HR := Lib.hid (show callB ⟨mLoad, key, v, text⟩ = (key.isEmpty && (v == 0) && (text.isEmpty || true)) from rfl)
 have HW := Lib.hid (show ∀ w0, Calls Tryz.prog 131 #[.string ⟨#[76, 111, 97, 100]⟩] w0 fun e w' => e = .returned (.int .i64 16) ∧ Below w0.heap.size w0 w' from fun w0 => implWant_b mLoad 16 rfl w0)
 have HTK := Lib.hid (show ∀ w0, Calls Tryz.prog 99 #[.string ⟨#[76, 111, 97, 100]⟩] w0 fun e w' => e = .returned (.bool false) ∧ w0 = w' from takesKey_b mLoad _ rfl)
 have HTV := Lib.hid (show ∀ w0, Calls Tryz.prog 100 #[.string ⟨#[76, 111, 97, 100]⟩] w0 fun e w' => e = .returned (.bool false) ∧ w0 = w' from takesValue_b mLoad _ rfl)
 have HTT := Lib.hid (show ∀ w0, Calls Tryz.prog 102 #[.string ⟨#[76, 111, 97, 100]⟩] w0 fun e w' => e = .returned (.bool true) ∧ w0 = w' from takesText_b mLoad _ rfl)
 generalize callB ⟨mLoad, key, v, text⟩ = res at *
 clear hk
 have HB0 := Lib.hid (show ∀ o, Below w.heap.size w (w.alloc o) from fun o => (Below.refl w.heap.size w).alloc (Nat.le_refl _) o)
 go_enter Tryz.func97, Tryz.ntmps97
 go_wp2_with fail
 refine (HW.out _).mono ?_
 rintro e w1 ⟨rfl, hb⟩
 have HB := Lib.hid ((HB0.out _).trans (hb.mono (HB0.out _).size))
 obtain ⟨hcc, _⟩ := bcell hb
 simp at hcc
 have c0 := hcc w.heap.size 0 (by omega)
 have c1 := hcc w.heap.size 1 (by omega)
 have c2 := hcc w.heap.size 2 (by omega)
 have c3 := hcc w.heap.size 3 (by omega)
 simp at c0 c1 c2 c3
 clear hb hcc
 cases key <;> cases text
 all_goals
  by_cases h0 : v = 0
  ·subst h0
   go_wp2_with (first | (go_at_call 99; (with_reducible refine (HTK.out _).mono ?_); rintro e w' ⟨rfl, rfl⟩) | (go_at_call 100; (with_reducible refine (HTV.out _).mono ?_); rintro e w' ⟨rfl, rfl⟩) | (go_at_call 102; (with_reducible refine (HTT.out _).mono ?_); rintro e w' ⟨rfl, rfl⟩))
   go_ret
   exact ⟨ret_bool (by rw [HR.out]; rfl), HB.out⟩
  ·have hv0 : (v == 0) = false := by simpa using h0
   rw [hv0] at HR
   clear h0
   go_wp2_with (first | (go_at_call 99; (with_reducible refine (HTK.out _).mono ?_); rintro e w' ⟨rfl, rfl⟩) | (go_at_call 100; (with_reducible refine (HTV.out _).mono ?_); rintro e w' ⟨rfl, rfl⟩) | (go_at_call 102; (with_reducible refine (HTT.out _).mono ?_); rintro e w' ⟨rfl, rfl⟩))
   go_ret
   exact ⟨ret_bool (by rw [HR.out]; rfl), HB.out⟩
set_option maxRecDepth 100000 in
set_option maxHeartbeats 3200000 in
theorem implIsCall_Save (key : List UInt8) (v : Int) (text : List UInt8) (w : World) (hk : key.length ≤ maxLen) :
  Calls Tryz.prog 97 #[.agg #[.string ⟨#[83, 97, 118, 101]⟩, .string ⟨key.toArray⟩, .int .i64 v, .string ⟨text.toArray⟩]] w fun e w' => e = .returned (.bool (callB ⟨mSave, key, v, text⟩)) ∧ Below w.heap.size w w' := by
 have HR := Lib.hid (show callB ⟨mSave, key, v, text⟩ = (key.isEmpty && (v == 0) && (text.isEmpty || false)) from rfl)
 have HW := Lib.hid (show ∀ w0, Calls Tryz.prog 131 #[.string ⟨#[83, 97, 118, 101]⟩] w0 fun e w' => e = .returned (.int .i64 16) ∧ Below w0.heap.size w0 w' from fun w0 => implWant_b mSave 16 rfl w0)
 have HTK := Lib.hid (show ∀ w0, Calls Tryz.prog 99 #[.string ⟨#[83, 97, 118, 101]⟩] w0 fun e w' => e = .returned (.bool false) ∧ w0 = w' from takesKey_b mSave _ rfl)
 have HTV := Lib.hid (show ∀ w0, Calls Tryz.prog 100 #[.string ⟨#[83, 97, 118, 101]⟩] w0 fun e w' => e = .returned (.bool false) ∧ w0 = w' from takesValue_b mSave _ rfl)
 have HTT := Lib.hid (show ∀ w0, Calls Tryz.prog 102 #[.string ⟨#[83, 97, 118, 101]⟩] w0 fun e w' => e = .returned (.bool false) ∧ w0 = w' from takesText_b mSave _ rfl)
 generalize callB ⟨mSave, key, v, text⟩ = res at *
 clear hk
 have HB0 := Lib.hid (show ∀ o, Below w.heap.size w (w.alloc o) from fun o => (Below.refl w.heap.size w).alloc (Nat.le_refl _) o)
 go_enter Tryz.func97, Tryz.ntmps97
 go_wp2_with fail
 refine (HW.out _).mono ?_
 rintro e w1 ⟨rfl, hb⟩
 have HB := Lib.hid ((HB0.out _).trans (hb.mono (HB0.out _).size))
 obtain ⟨hcc, _⟩ := bcell hb
 simp at hcc
 have c0 := hcc w.heap.size 0 (by omega)
 have c1 := hcc w.heap.size 1 (by omega)
 have c2 := hcc w.heap.size 2 (by omega)
 have c3 := hcc w.heap.size 3 (by omega)
 simp at c0 c1 c2 c3
 clear hb hcc
 cases key <;> cases text
 all_goals
  by_cases h0 : v = 0
  ·subst h0
   go_wp2_with (first | (go_at_call 99; (with_reducible refine (HTK.out _).mono ?_); rintro e w' ⟨rfl, rfl⟩) | (go_at_call 100; (with_reducible refine (HTV.out _).mono ?_); rintro e w' ⟨rfl, rfl⟩) | (go_at_call 102; (with_reducible refine (HTT.out _).mono ?_); rintro e w' ⟨rfl, rfl⟩))
   go_ret
   exact ⟨ret_bool (by rw [HR.out]; rfl), HB.out⟩
  ·have hv0 : (v == 0) = false := by simpa using h0
   rw [hv0] at HR
   clear h0
   go_wp2_with (first | (go_at_call 99; (with_reducible refine (HTK.out _).mono ?_); rintro e w' ⟨rfl, rfl⟩) | (go_at_call 100; (with_reducible refine (HTV.out _).mono ?_); rintro e w' ⟨rfl, rfl⟩) | (go_at_call 102; (with_reducible refine (HTT.out _).mono ?_); rintro e w' ⟨rfl, rfl⟩))
   go_ret
   exact ⟨ret_bool (by rw [HR.out]; rfl), HB.out⟩
set_option maxRecDepth 100000 in
set_option maxHeartbeats 3200000 in
theorem implIsCall_Heal (key : List UInt8) (v : Int) (text : List UInt8) (w : World) (hk : key.length ≤ maxLen) :
  Calls Tryz.prog 97 #[.agg #[.string ⟨#[72, 101, 97, 108]⟩, .string ⟨key.toArray⟩, .int .i64 v, .string ⟨text.toArray⟩]] w fun e w' => e = .returned (.bool (callB ⟨mHeal, key, v, text⟩)) ∧ Below w.heap.size w w' := by
 have HR := Lib.hid (show callB ⟨mHeal, key, v, text⟩ = (key.isEmpty && (v == 0) && (text.isEmpty || false)) from rfl)
 have HW := Lib.hid (show ∀ w0, Calls Tryz.prog 131 #[.string ⟨#[72, 101, 97, 108]⟩] w0 fun e w' => e = .returned (.int .i64 32) ∧ Below w0.heap.size w0 w' from fun w0 => implWant_b mHeal 32 rfl w0)
 have HTK := Lib.hid (show ∀ w0, Calls Tryz.prog 99 #[.string ⟨#[72, 101, 97, 108]⟩] w0 fun e w' => e = .returned (.bool false) ∧ w0 = w' from takesKey_b mHeal _ rfl)
 have HTV := Lib.hid (show ∀ w0, Calls Tryz.prog 100 #[.string ⟨#[72, 101, 97, 108]⟩] w0 fun e w' => e = .returned (.bool false) ∧ w0 = w' from takesValue_b mHeal _ rfl)
 have HTT := Lib.hid (show ∀ w0, Calls Tryz.prog 102 #[.string ⟨#[72, 101, 97, 108]⟩] w0 fun e w' => e = .returned (.bool false) ∧ w0 = w' from takesText_b mHeal _ rfl)
 generalize callB ⟨mHeal, key, v, text⟩ = res at *
 clear hk
 have HB0 := Lib.hid (show ∀ o, Below w.heap.size w (w.alloc o) from fun o => (Below.refl w.heap.size w).alloc (Nat.le_refl _) o)
 go_enter Tryz.func97, Tryz.ntmps97
 go_wp2_with fail
 refine (HW.out _).mono ?_
 rintro e w1 ⟨rfl, hb⟩
 have HB := Lib.hid ((HB0.out _).trans (hb.mono (HB0.out _).size))
 obtain ⟨hcc, _⟩ := bcell hb
 simp at hcc
 have c0 := hcc w.heap.size 0 (by omega)
 have c1 := hcc w.heap.size 1 (by omega)
 have c2 := hcc w.heap.size 2 (by omega)
 have c3 := hcc w.heap.size 3 (by omega)
 simp at c0 c1 c2 c3
 clear hb hcc
 cases key <;> cases text
 all_goals
  by_cases h0 : v = 0
  ·subst h0
   go_wp2_with (first | (go_at_call 99; (with_reducible refine (HTK.out _).mono ?_); rintro e w' ⟨rfl, rfl⟩) | (go_at_call 100; (with_reducible refine (HTV.out _).mono ?_); rintro e w' ⟨rfl, rfl⟩) | (go_at_call 102; (with_reducible refine (HTT.out _).mono ?_); rintro e w' ⟨rfl, rfl⟩))
   go_ret
   exact ⟨ret_bool (by rw [HR.out]; rfl), HB.out⟩
  ·have hv0 : (v == 0) = false := by simpa using h0
   rw [hv0] at HR
   clear h0
   go_wp2_with (first | (go_at_call 99; (with_reducible refine (HTK.out _).mono ?_); rintro e w' ⟨rfl, rfl⟩) | (go_at_call 100; (with_reducible refine (HTV.out _).mono ?_); rintro e w' ⟨rfl, rfl⟩) | (go_at_call 102; (with_reducible refine (HTT.out _).mono ?_); rintro e w' ⟨rfl, rfl⟩))
   go_ret
   exact ⟨ret_bool (by rw [HR.out]; rfl), HB.out⟩
set_option maxRecDepth 100000 in
set_option maxHeartbeats 1600000 in
theorem implIsCall_any (d : CallD) (w : World) (hk : d.fKey.length ≤ maxLen) :
  Calls Tryz.prog 97 #[vCall d] w fun e w' => e = .returned (.bool (callB d)) ∧ Below w.heap.size w w' := by
 obtain ⟨m, key, v, text⟩ := d
 unfold vCall
 simp only at *
 rcases meth_cases m with rfl | rfl | rfl | rfl | rfl | rfl | rfl | rfl | rfl | ⟨hw, hStart, hStop, hGet, hPut, hTell, hHear, hLoad, hSave, hHeal⟩
 ·exact implIsCall_Start key v text w hk
 ·exact implIsCall_Stop key v text w hk
 ·exact implIsCall_Get key v text w hk
 ·exact implIsCall_Put key v text w hk
 ·exact implIsCall_Tell key v text w hk
 ·exact implIsCall_Hear key v text w hk
 ·exact implIsCall_Load key v text w hk
 ·exact implIsCall_Save key v text w hk
 ·exact implIsCall_Heal key v text w hk
 ·have HR := Lib.hid (show callB ⟨m, key, v, text⟩ = false by unfold callB; simp only; rw [hw]; rfl)
  have bGet : (m == [71, 101, 116]) = false := by simpa using hGet
  have bPut : (m == [80, 117, 116]) = false := by simpa using hPut
  have bHear : (m == [72, 101, 97, 114]) = false := by simpa using hHear
  have bLoad : (m == [76, 111, 97, 100]) = false := by simpa using hLoad
  have HW := Lib.hid (implWant_b m 0 hw)
  have HB0 := Lib.hid (show ∀ o, Below w.heap.size w (w.alloc o) from fun o => (Below.refl w.heap.size w).alloc (Nat.le_refl _) o)
  generalize callB ⟨m, key, v, text⟩ = res at *
  clear hw hk hStart hStop hGet hPut hTell hHear hLoad hSave hHeal
  go_enter Tryz.func97, Tryz.ntmps97
  go_wp2_with fail
  refine (HW.out _).mono ?_
  rintro e w1 ⟨rfl, hb⟩
  have HB := Lib.hid ((HB0.out _).trans (hb.mono (HB0.out _).size))
  clear hb
  go_wp2_with fail
  go_ret
  exact ⟨ret_bool HR.out.symm, HB.out⟩
end Go.Proofs.YteeopjcbpngofaaGreat
namespace Go.Proofs.YteeopjcbpngofaaGreat
set_option linter.unusedVariables false
set_option linter.unusedSimpArgs false
open Go.RowKit
def zCallD : CallD := ⟨[], [], 0, []⟩
def evB (x : EventD) : Bool := if 1 ≤ x.fKind ∧ x.fKind ≤ 5 ∧ nameB x.fName = true then (if x.fKind = 3 then callB x.fCall else decide (x.fCall = zCallD)) && (if x.fKind = 5 then recB x.fRecipe else decide (x.fRecipe.length = 0)) else false
theorem evB_out {x : EventD} (h : ¬ (1 ≤ x.fKind ∧ x.fKind ≤ 5 ∧ nameB x.fName = true)) : evB x = false := if_neg h
theorem evB_in {x : EventD} (h : 1 ≤ x.fKind ∧ x.fKind ≤ 5 ∧ nameB x.fName = true) : evB x = ((if x.fKind = 3 then callB x.fCall else decide (x.fCall = zCallD)) && (if x.fKind = 5 then recB x.fRecipe else decide (x.fRecipe.length = 0))) := if_pos h
end Go.Proofs.YteeopjcbpngofaaGreat
namespace Go.Proofs.YteeopjcbpngofaaGreat
set_option linter.unusedVariables false
open Go.RowKit
theorem owns_one (w : World) (B : Nat) (s : ByteArray) (h : B ≤ w.heap.size) : Owns (w.alloc (.cells #[.string s] 9)) B (.slice (some ⟨w.heap.size, 0, none⟩) 1 1) [s.data.toList] :=
 ⟨rfl, .inr ⟨w.heap.size, 1, #[.string s], rfl, h, heap_alloc_new w _, Nat.le_refl _, by decide, rfl, by simp [strV]⟩⟩
end Go.Proofs.YteeopjcbpngofaaGreat
namespace Go.Proofs.YteeopjcbpngofaaGreat
set_option linter.unusedVariables false
open Go.RowKit
theorem joinL_cons (a : List UInt8) (x : List (List UInt8)) (sep : List UInt8) (hx : x ≠ []) : joinL (a :: x) sep = a ++ sep ++ joinL x sep := by
 have key : ∀ k, k < x.length → joinK (a :: x) sep (k + 2) = a ++ sep ++ joinK x sep (k + 1) := by
  intro k
  induction k with
  | zero => intro _; simp [joinK]
  | succ k ih =>
   intro hk
   have h := ih (by omega)
   have e1 : joinK (a :: x) sep (k + 1 + 2) = joinK (a :: x) sep (k + 2) ++ sep ++ x.getD (k + 1) [] := by simp [joinK]
   have e2 : joinK x sep (k + 1 + 1) = joinK x sep (k + 1) ++ sep ++ x.getD (k + 1) [] := by simp [joinK]
   rw [e1, h, e2]; simp
 cases x with
 | nil => exact absurd rfl hx
 | cons b r =>
  have := key r.length (by simp)
  unfold joinL
  simpa using this
theorem joinL_one (a sep : List UInt8) : joinL [a] sep = a := by simp [joinL, joinK]
theorem joinL_two (a b : List UInt8) (c : UInt8) : joinL [a, b] [c] = a ++ c :: b := by rw [joinL_cons a [b] [c] (by simp), joinL_one]; simp
end Go.Proofs.YteeopjcbpngofaaGreat
namespace Go.Proofs.YteeopjcbpngofaaGreat
set_option linter.unusedVariables false
open Go.RowKit
def wordsC (d : CallD) : List (List UInt8) := [d.fMethod] ++ (if takesK d.fMethod then [d.fKey] else []) ++ (if takesV d.fMethod then [numL d.fValue] else []) ++ (if takesT d.fMethod then [d.fText] else [])
def fmtCall (d : CallD) : List UInt8 := if callB d = true then joinL (wordsC d) [32] else []
theorem fmtCall_no {d : CallD} (h : callB d = false) : fmtCall d = [] := if_neg (by simp [h])
theorem fmtCall_yes {d : CallD} (h : callB d = true) : fmtCall d = joinL (wordsC d) [32] := if_pos h
theorem join3_len (a b c : List UInt8) : (joinL [a, b, c] [32]).length = a.length + b.length + c.length + 2 := by
 rw [joinL_cons a [b, c] [32] (by simp), joinL_two]; simp; omega
theorem join2_len (a b : List UInt8) : (joinL [a, b] [32]).length = a.length + b.length + 1 := by rw [joinL_two]; simp; omega
theorem callB_parts {d : CallD} (h : callB d = true) : (takesK d.fMethod = true → nameB d.fKey = true) ∧ (takesK d.fMethod = false → d.fKey = []) ∧ (takesV d.fMethod = true → numB d.fValue = true) ∧ (takesV d.fMethod = false → d.fValue = 0) ∧ (takesT d.fMethod = false → d.fText = []) := by
 simp only [callB, Bool.and_eq_true] at h
 obtain ⟨⟨⟨h1, h2⟩, h3⟩, h4⟩ := h
 refine ⟨fun e => ?_, fun e => ?_, fun e => ?_, fun e => ?_, fun e => ?_⟩
 ·rw [e] at h2; exact h2
 ·rw [e] at h2; exact List.isEmpty_iff.1 h2
 ·rw [e] at h3; exact h3
 ·rw [e] at h3; exact beq_iff_eq.1 h3
 ·rw [e] at h4; simpa using h4
end Go.Proofs.YteeopjcbpngofaaGreat
namespace Go.Proofs.YteeopjcbpngofaaGreat
set_option linter.unusedVariables false
set_option linter.unusedSimpArgs false
open Go.RowKit
def kWord (k : Int) : List UInt8 := if k = 1 then [115, 116, 97, 114, 116] else if k = 2 then [115, 116, 111, 112] else if k = 3 then [99, 97, 108, 108] else if k = 4 then [104, 101, 97, 108] else [115, 119, 97, 112]
def evTail (x : EventD) : List (List UInt8) := if x.fKind = 3 then [fmtCall x.fCall] else if x.fKind = 5 then x.fRecipe else []
def fmtEv (x : EventD) : List UInt8 := if evB x = true then joinL ([kWord x.fKind, x.fName] ++ evTail x) [32] else []
theorem fmtEv_no {x : EventD} (h : evB x = false) : fmtEv x = [] := if_neg (by simp [h])
theorem fmtEv_yes {x : EventD} (h : evB x = true) : fmtEv x = joinL ([kWord x.fKind, x.fName] ++ evTail x) [32] := if_pos h
theorem recB_nil : recB [] = false := by decide
theorem evB_kind {x : EventD} (h : evB x = true) : x.fKind = 1 ∨ x.fKind = 2 ∨ x.fKind = 3 ∨ x.fKind = 4 ∨ x.fKind = 5 := by
 by_cases hc : 1 ≤ x.fKind ∧ x.fKind ≤ 5 ∧ nameB x.fName = true
 ·omega
 ·rw [evB_out hc] at h; cases h
theorem evB_five {x : EventD} (h : evB x = true) (h5 : x.fKind = 5) : x.fRecipe ≠ [] := by
 by_cases hc : 1 ≤ x.fKind ∧ x.fKind ≤ 5 ∧ nameB x.fName = true
 ·rw [evB_in hc] at h
  simp only [h5, if_true, Bool.and_eq_true] at h
  intro e
  rw [e, recB_nil] at h
  exact absurd h.2 (by decide)
 ·rw [evB_out hc] at h; cases h
theorem wordsC_len (d : CallD) : (wordsC d).length ≤ 4 := by unfold wordsC; split <;> split <;> split <;> simp
theorem numL_shortV (n : Int) : (numL n).length ≤ 21 := by
 unfold numL
 split
 ·have := digs_len 20 n.natAbs; simp; omega
 ·have := digs_len 20 n.natAbs; omega
theorem wordsC_tot (d : CallD) : total (wordsC d) ≤ zCall d + 21 := by
 have h := numL_shortV d.fValue
 unfold wordsC zCall
 split <;> split <;> split <;> simp [total] <;> omega
theorem fmtCall_lenZ (d : CallD) : (fmtCall d).length ≤ zCall d + 30 := by
 unfold fmtCall
 split
 ·have h1 := joinK_len (wordsC d) [32] _ (Nat.le_refl _)
  rw [List.take_length] at h1
  have h2 := wordsC_len d
  have h3 := wordsC_tot d
  unfold joinL
  simp only [List.length_cons, List.length_nil] at h1; omega
 ·simp
theorem evTail_len {x : EventD} (h : zEvent x ≤ 1048576) : (evTail x).length ≤ 1048577 := by
 unfold evTail zEvent at *
 split
 ·simp
 ·split
  ·omega
  ·simp
theorem evTail_tot {x : EventD} (h : zEvent x ≤ 1048576) : total (evTail x) ≤ 1048606 := by
 unfold evTail zEvent at *
 split
 ·have := fmtCall_lenZ x.fCall
  simp [total]; omega
 ·split
  ·rw [total_sum]; omega
  ·simp [total]
theorem kWord_len (k : Int) : (kWord k).length ≤ 5 := by unfold kWord; split <;> (try split) <;> (try split) <;> (try split) <;> simp
theorem evJoin_len {x : EventD} (h : zEvent x ≤ 1048576) : (joinL ([kWord x.fKind, x.fName] ++ evTail x) [32]).length ≤ 8388608 := by
 have h1 := joinK_len ([kWord x.fKind, x.fName] ++ evTail x) [32] _ (Nat.le_refl _)
 rw [List.take_length] at h1
 have h2 := evTail_len h
 have h3 := evTail_tot h
 have h4 := kWord_len x.fKind
 have h5 : x.fName.length ≤ 1048576 := by unfold zEvent at h; omega
 unfold joinL
 simp only [total, List.cons_append, List.nil_append, List.length_cons, List.length_nil] at h1 ⊢
 omega
theorem recJoin_len {x : EventD} (h : zEvent x ≤ 1048576) : (joinL x.fRecipe [32]).length ≤ 8388608 := by
 have h1 := joinK_len x.fRecipe [32] _ (Nat.le_refl _)
 rw [List.take_length, total_sum] at h1
 unfold joinL
 unfold zEvent at h
 simp only [List.length_cons, List.length_nil] at h1 ⊢
 omega
theorem bel_drV {B : Nat} {a w : World} (h : Below B a w) : Below B a w.drew := ⟨h.os, h.tape, h.output, h.size, h.block⟩
theorem sizeV (l : List UInt8) : (⟨l.toArray⟩ : ByteArray).size = l.length := by simp [ByteArray.size]
theorem addV {P : Program} (a b l : List UInt8) (s t : ByteArray) (hl : l = a ++ b) (hs : s = ⟨a.toArray⟩) (ht : t = ⟨b.toArray⟩) (h : a.length + b.length ≤ 9223372036854775807) (w0 : World) : (Op.stringOp .add s t).run P w0 = .ok (.string ⟨l.toArray⟩) w0 := by
 subst hl hs ht
 rw [run_string_add_sum w0 _ _ (by rw [sizeV, sizeV]; exact h)]
 congr 2
theorem owns_twoV (w : World) (B : Nat) (a b : List UInt8) (h : B ≤ w.heap.size) : Owns (w.alloc (.cells #[.string ⟨a.toArray⟩, .string ⟨b.toArray⟩] 9)) B (.slice (some ⟨w.heap.size, 0, none⟩) 2 2) [a, b] :=
 ⟨rfl, .inr ⟨w.heap.size, 2, #[.string ⟨a.toArray⟩, .string ⟨b.toArray⟩], rfl, h, heap_alloc_new w _, Nat.le_refl _, by decide, rfl, by simp [strV]⟩⟩
theorem zeroStrV : ZeroApp 24 := by
 intro ty g n cp ad c w h
 cases ad <;> simp [Builtin.append_, go_sem, h]
end Go.Proofs.YteeopjcbpngofaaGreat
namespace Go.Proofs.YteeopjcbpngofaaGreat
set_option linter.unusedVariables false
set_option linter.unusedSimpArgs false
open Go.RowKit
set_option maxRecDepth 100000 in
set_option maxHeartbeats 3200000 in
theorem implIsEvent_any (v : Value) (x : EventD) (w : World) (hx : ValAt rEvent 0 w v x) (hn : x.fName.length ≤ maxLen) (hk : x.fCall.fKey.length ≤ maxLen) (hr : ∀ s ∈ x.fRecipe, s.length ≤ 1048576) :
  Calls Tryz.prog 54 #[v] w fun e w' => e = .returned (.bool (evB x)) ∧ Below w.heap.size w w' := by
 have HRF := Lib.hid (fun v W (h : RowAt W v (x.fRecipe.map strV)) => implRecipeFace_any v x.fRecipe W h hr)
 have HNM := Lib.hid (fun W => implIsName_any ⟨x.fName.toArray⟩ W (by simpa [ByteArray.size] using hn))
 have HIC := Lib.hid (fun W => implIsCall_any x.fCall W hk)
 have HO := Lib.hid (@evB_out x)
 have HI := Lib.hid (@evB_in x)
 generalize evB x = ev at *
 generalize callB x.fCall = cb at *
 generalize recB x.fRecipe = rb at *
 generalize recI x.fRecipe = ri at *
 obtain ⟨_, rfl, hx⟩ := hx
 obtain ⟨k, a, ⟨m, ky, n, t⟩, l⟩ := x
 obtain ⟨v6, rfl, h6⟩ := hx
 simp only [List.toList_toArray, vCall] at *
 obtain ⟨ra, rc, rfl, hl⟩ := sliceAt_len h6
 have H6 := Lib.hid h6
 unfold maxLen at hl
 have BS := Lib.hid (bx_start1 w [.int .i64 k, .string ⟨a.toArray⟩, .string ⟨m.toArray⟩, .string ⟨ky.toArray⟩, .int .i64 n, .string ⟨t.toArray⟩, .slice ra l.length rc] 31)
 generalize nameB a = nb at *
 have BX0 := Lib.hid BS.out.1
 have HB0 := Lib.hid BS.out.2
 clear h6 hn hk hr BS
 by_cases h1 : k < 1
 ·obtain rfl : ev = false := HO.out (fun h => by omega)
  clear HO HI
  go_enter Tryz.func54, Tryz.ntmps54
  have x0 := BX0.out.cell 0 (by simp)
  have x1 := BX0.out.cell 1 (by simp)
  have x2 := BX0.out.cell 2 (by simp)
  have x3 := BX0.out.cell 3 (by simp)
  have x4 := BX0.out.cell 4 (by simp)
  have x5 := BX0.out.cell 5 (by simp)
  have x6 := BX0.out.cell 6 (by simp)
  simp only [List.getElem_cons_zero, List.getElem_cons_succ] at x0 x1 x2 x3 x4 x5 x6
  go_wp2_with (first | (go_at_call 96; (with_reducible refine (HNM.out _).mono ?_); rintro e w' ⟨rfl, rfl⟩))
  go_ret
  exact ⟨by first | rfl | exact ret_bool hbq, HB0.out⟩
 by_cases h5 : 5 < k
 ·obtain rfl : ev = false := HO.out (fun h => by omega)
  clear HO HI
  go_enter Tryz.func54, Tryz.ntmps54
  have x0 := BX0.out.cell 0 (by simp)
  have x1 := BX0.out.cell 1 (by simp)
  have x2 := BX0.out.cell 2 (by simp)
  have x3 := BX0.out.cell 3 (by simp)
  have x4 := BX0.out.cell 4 (by simp)
  have x5 := BX0.out.cell 5 (by simp)
  have x6 := BX0.out.cell 6 (by simp)
  simp only [List.getElem_cons_zero, List.getElem_cons_succ] at x0 x1 x2 x3 x4 x5 x6
  go_wp2_with (first | (go_at_call 96; (with_reducible refine (HNM.out _).mono ?_); rintro e w' ⟨rfl, rfl⟩))
  go_ret
  exact ⟨by first | rfl | exact ret_bool hbq, HB0.out⟩
 cases nb
 ·obtain rfl : ev = false := HO.out (fun h => by simp at h)
  clear HO HI
  go_enter Tryz.func54, Tryz.ntmps54
  have x0 := BX0.out.cell 0 (by simp)
  have x1 := BX0.out.cell 1 (by simp)
  have x2 := BX0.out.cell 2 (by simp)
  have x3 := BX0.out.cell 3 (by simp)
  have x4 := BX0.out.cell 4 (by simp)
  have x5 := BX0.out.cell 5 (by simp)
  have x6 := BX0.out.cell 6 (by simp)
  simp only [List.getElem_cons_zero, List.getElem_cons_succ] at x0 x1 x2 x3 x4 x5 x6
  go_wp2_with (first | (go_at_call 96; (with_reducible refine (HNM.out _).mono ?_); rintro e w' ⟨rfl, rfl⟩))
  go_ret
  exact ⟨by first | rfl | exact ret_bool hbq, HB0.out⟩
 replace HI := Lib.hid (HI.out ⟨by omega, by omega, rfl⟩)
 clear HO
 by_cases h3 : k = 3
 ·subst h3
  replace HI := Lib.hid (show ev = (cb && decide (l.length = 0)) by rw [HI.out, if_pos rfl, if_neg (by decide)])
  clear h1 h5
  cases m with
  | cons c r =>
   cases cb
   ·obtain rfl : ev = false := by rw [HI.out]; rfl
    clear HI
    go_enter Tryz.func54, Tryz.ntmps54
    have x0 := BX0.out.cell 0 (by simp)
    have x1 := BX0.out.cell 1 (by simp)
    have x2 := BX0.out.cell 2 (by simp)
    have x3 := BX0.out.cell 3 (by simp)
    have x4 := BX0.out.cell 4 (by simp)
    have x5 := BX0.out.cell 5 (by simp)
    have x6 := BX0.out.cell 6 (by simp)
    simp only [List.getElem_cons_zero, List.getElem_cons_succ] at x0 x1 x2 x3 x4 x5 x6
    go_wp2_with (first | (go_at_call 96; (with_reducible refine (HNM.out _).mono ?_); rintro e w' ⟨rfl, rfl⟩))
    refine (HIC.out _).mono ?_
    rintro e w1 ⟨rfl, hb⟩
    have HB1 := Lib.hid (belS HB0.out hb)
    have BX1 := Lib.hid (BX0.out.below hb)
    clear hb x0 x1 x2 x3 x4 x5 x6
    have x0 := BX1.out.cell 0 (by simp)
    have x1 := BX1.out.cell 1 (by simp)
    have x2 := BX1.out.cell 2 (by simp)
    have x3 := BX1.out.cell 3 (by simp)
    have x4 := BX1.out.cell 4 (by simp)
    have x5 := BX1.out.cell 5 (by simp)
    have x6 := BX1.out.cell 6 (by simp)
    simp only [List.getElem_cons_zero, List.getElem_cons_succ] at x0 x1 x2 x3 x4 x5 x6
    go_wp2_with fail
    go_ret
    exact ⟨by first | rfl | exact ret_bool hbq, HB1.out⟩
   ·by_cases h0 : l.length = 0
    ·obtain rfl : l = [] := List.eq_nil_of_length_eq_zero h0
     simp only [List.length_nil] at *
     clear h0
     obtain rfl : ev = true := by rw [HI.out]; rfl
     clear HI
     go_enter Tryz.func54, Tryz.ntmps54
     have x0 := BX0.out.cell 0 (by simp)
     have x1 := BX0.out.cell 1 (by simp)
     have x2 := BX0.out.cell 2 (by simp)
     have x3 := BX0.out.cell 3 (by simp)
     have x4 := BX0.out.cell 4 (by simp)
     have x5 := BX0.out.cell 5 (by simp)
     have x6 := BX0.out.cell 6 (by simp)
     simp only [List.getElem_cons_zero, List.getElem_cons_succ] at x0 x1 x2 x3 x4 x5 x6
     go_wp2_with (first | (go_at_call 96; (with_reducible refine (HNM.out _).mono ?_); rintro e w' ⟨rfl, rfl⟩))
     refine (HIC.out _).mono ?_
     rintro e w1 ⟨rfl, hb⟩
     have HB1 := Lib.hid (belS HB0.out hb)
     have BX1 := Lib.hid (BX0.out.below hb)
     clear hb x0 x1 x2 x3 x4 x5 x6
     have x0 := BX1.out.cell 0 (by simp)
     have x1 := BX1.out.cell 1 (by simp)
     have x2 := BX1.out.cell 2 (by simp)
     have x3 := BX1.out.cell 3 (by simp)
     have x4 := BX1.out.cell 4 (by simp)
     have x5 := BX1.out.cell 5 (by simp)
     have x6 := BX1.out.cell 6 (by simp)
     simp only [List.getElem_cons_zero, List.getElem_cons_succ] at x0 x1 x2 x3 x4 x5 x6
     go_wp2_with fail
     go_ret
     exact ⟨by first | rfl | exact ret_bool hbq, HB1.out⟩
    ·have hne : ¬ (l.length : Int) = 0 := by omega
     have hnd : decide (l.length = 0) = false := decide_eq_false h0
     have hbq : ((l.length : Int) == 0) = false := beq_eq_false_iff_ne.2 hne
     obtain rfl : ev = false := by rw [HI.out, hnd, Bool.and_false]
     clear HI
     clear hnd h0
     go_enter Tryz.func54, Tryz.ntmps54
     have x0 := BX0.out.cell 0 (by simp)
     have x1 := BX0.out.cell 1 (by simp)
     have x2 := BX0.out.cell 2 (by simp)
     have x3 := BX0.out.cell 3 (by simp)
     have x4 := BX0.out.cell 4 (by simp)
     have x5 := BX0.out.cell 5 (by simp)
     have x6 := BX0.out.cell 6 (by simp)
     simp only [List.getElem_cons_zero, List.getElem_cons_succ] at x0 x1 x2 x3 x4 x5 x6
     go_wp2_with (first | (go_at_call 96; (with_reducible refine (HNM.out _).mono ?_); rintro e w' ⟨rfl, rfl⟩))
     refine (HIC.out _).mono ?_
     rintro e w1 ⟨rfl, hb⟩
     have HB1 := Lib.hid (belS HB0.out hb)
     have BX1 := Lib.hid (BX0.out.below hb)
     clear hb x0 x1 x2 x3 x4 x5 x6
     have x0 := BX1.out.cell 0 (by simp)
     have x1 := BX1.out.cell 1 (by simp)
     have x2 := BX1.out.cell 2 (by simp)
     have x3 := BX1.out.cell 3 (by simp)
     have x4 := BX1.out.cell 4 (by simp)
     have x5 := BX1.out.cell 5 (by simp)
     have x6 := BX1.out.cell 6 (by simp)
     simp only [List.getElem_cons_zero, List.getElem_cons_succ] at x0 x1 x2 x3 x4 x5 x6
     go_wp2_with fail
     go_ret
     exact ⟨by first | rfl | exact ret_bool hbq, HB1.out⟩
  | nil =>
   cases ky with
   | cons c r =>
    cases cb
    ·obtain rfl : ev = false := by rw [HI.out]; rfl
     clear HI
     go_enter Tryz.func54, Tryz.ntmps54
     have x0 := BX0.out.cell 0 (by simp)
     have x1 := BX0.out.cell 1 (by simp)
     have x2 := BX0.out.cell 2 (by simp)
     have x3 := BX0.out.cell 3 (by simp)
     have x4 := BX0.out.cell 4 (by simp)
     have x5 := BX0.out.cell 5 (by simp)
     have x6 := BX0.out.cell 6 (by simp)
     simp only [List.getElem_cons_zero, List.getElem_cons_succ] at x0 x1 x2 x3 x4 x5 x6
     go_wp2_with (first | (go_at_call 96; (with_reducible refine (HNM.out _).mono ?_); rintro e w' ⟨rfl, rfl⟩))
     refine (HIC.out _).mono ?_
     rintro e w1 ⟨rfl, hb⟩
     have HB1 := Lib.hid (belS HB0.out hb)
     have BX1 := Lib.hid (BX0.out.below hb)
     clear hb x0 x1 x2 x3 x4 x5 x6
     have x0 := BX1.out.cell 0 (by simp)
     have x1 := BX1.out.cell 1 (by simp)
     have x2 := BX1.out.cell 2 (by simp)
     have x3 := BX1.out.cell 3 (by simp)
     have x4 := BX1.out.cell 4 (by simp)
     have x5 := BX1.out.cell 5 (by simp)
     have x6 := BX1.out.cell 6 (by simp)
     simp only [List.getElem_cons_zero, List.getElem_cons_succ] at x0 x1 x2 x3 x4 x5 x6
     go_wp2_with fail
     go_ret
     exact ⟨by first | rfl | exact ret_bool hbq, HB1.out⟩
    ·by_cases h0 : l.length = 0
     ·obtain rfl : l = [] := List.eq_nil_of_length_eq_zero h0
      simp only [List.length_nil] at *
      clear h0
      obtain rfl : ev = true := by rw [HI.out]; rfl
      clear HI
      go_enter Tryz.func54, Tryz.ntmps54
      have x0 := BX0.out.cell 0 (by simp)
      have x1 := BX0.out.cell 1 (by simp)
      have x2 := BX0.out.cell 2 (by simp)
      have x3 := BX0.out.cell 3 (by simp)
      have x4 := BX0.out.cell 4 (by simp)
      have x5 := BX0.out.cell 5 (by simp)
      have x6 := BX0.out.cell 6 (by simp)
      simp only [List.getElem_cons_zero, List.getElem_cons_succ] at x0 x1 x2 x3 x4 x5 x6
      go_wp2_with (first | (go_at_call 96; (with_reducible refine (HNM.out _).mono ?_); rintro e w' ⟨rfl, rfl⟩))
      refine (HIC.out _).mono ?_
      rintro e w1 ⟨rfl, hb⟩
      have HB1 := Lib.hid (belS HB0.out hb)
      have BX1 := Lib.hid (BX0.out.below hb)
      clear hb x0 x1 x2 x3 x4 x5 x6
      have x0 := BX1.out.cell 0 (by simp)
      have x1 := BX1.out.cell 1 (by simp)
      have x2 := BX1.out.cell 2 (by simp)
      have x3 := BX1.out.cell 3 (by simp)
      have x4 := BX1.out.cell 4 (by simp)
      have x5 := BX1.out.cell 5 (by simp)
      have x6 := BX1.out.cell 6 (by simp)
      simp only [List.getElem_cons_zero, List.getElem_cons_succ] at x0 x1 x2 x3 x4 x5 x6
      go_wp2_with fail
      go_ret
      exact ⟨by first | rfl | exact ret_bool hbq, HB1.out⟩
     ·have hne : ¬ (l.length : Int) = 0 := by omega
      have hnd : decide (l.length = 0) = false := decide_eq_false h0
      have hbq : ((l.length : Int) == 0) = false := beq_eq_false_iff_ne.2 hne
      obtain rfl : ev = false := by rw [HI.out, hnd, Bool.and_false]
      clear HI
      clear hnd h0
      go_enter Tryz.func54, Tryz.ntmps54
      have x0 := BX0.out.cell 0 (by simp)
      have x1 := BX0.out.cell 1 (by simp)
      have x2 := BX0.out.cell 2 (by simp)
      have x3 := BX0.out.cell 3 (by simp)
      have x4 := BX0.out.cell 4 (by simp)
      have x5 := BX0.out.cell 5 (by simp)
      have x6 := BX0.out.cell 6 (by simp)
      simp only [List.getElem_cons_zero, List.getElem_cons_succ] at x0 x1 x2 x3 x4 x5 x6
      go_wp2_with (first | (go_at_call 96; (with_reducible refine (HNM.out _).mono ?_); rintro e w' ⟨rfl, rfl⟩))
      refine (HIC.out _).mono ?_
      rintro e w1 ⟨rfl, hb⟩
      have HB1 := Lib.hid (belS HB0.out hb)
      have BX1 := Lib.hid (BX0.out.below hb)
      clear hb x0 x1 x2 x3 x4 x5 x6
      have x0 := BX1.out.cell 0 (by simp)
      have x1 := BX1.out.cell 1 (by simp)
      have x2 := BX1.out.cell 2 (by simp)
      have x3 := BX1.out.cell 3 (by simp)
      have x4 := BX1.out.cell 4 (by simp)
      have x5 := BX1.out.cell 5 (by simp)
      have x6 := BX1.out.cell 6 (by simp)
      simp only [List.getElem_cons_zero, List.getElem_cons_succ] at x0 x1 x2 x3 x4 x5 x6
      go_wp2_with fail
      go_ret
      exact ⟨by first | rfl | exact ret_bool hbq, HB1.out⟩
   | nil =>
    by_cases hn0 : n = 0
    ·subst hn0
     cases t with
     | cons c r =>
      cases cb
      ·obtain rfl : ev = false := by rw [HI.out]; rfl
       clear HI
       go_enter Tryz.func54, Tryz.ntmps54
       have x0 := BX0.out.cell 0 (by simp)
       have x1 := BX0.out.cell 1 (by simp)
       have x2 := BX0.out.cell 2 (by simp)
       have x3 := BX0.out.cell 3 (by simp)
       have x4 := BX0.out.cell 4 (by simp)
       have x5 := BX0.out.cell 5 (by simp)
       have x6 := BX0.out.cell 6 (by simp)
       simp only [List.getElem_cons_zero, List.getElem_cons_succ] at x0 x1 x2 x3 x4 x5 x6
       go_wp2_with (first | (go_at_call 96; (with_reducible refine (HNM.out _).mono ?_); rintro e w' ⟨rfl, rfl⟩))
       refine (HIC.out _).mono ?_
       rintro e w1 ⟨rfl, hb⟩
       have HB1 := Lib.hid (belS HB0.out hb)
       have BX1 := Lib.hid (BX0.out.below hb)
       clear hb x0 x1 x2 x3 x4 x5 x6
       have x0 := BX1.out.cell 0 (by simp)
       have x1 := BX1.out.cell 1 (by simp)
       have x2 := BX1.out.cell 2 (by simp)
       have x3 := BX1.out.cell 3 (by simp)
       have x4 := BX1.out.cell 4 (by simp)
       have x5 := BX1.out.cell 5 (by simp)
       have x6 := BX1.out.cell 6 (by simp)
       simp only [List.getElem_cons_zero, List.getElem_cons_succ] at x0 x1 x2 x3 x4 x5 x6
       go_wp2_with fail
       go_ret
       exact ⟨by first | rfl | exact ret_bool hbq, HB1.out⟩
      ·by_cases h0 : l.length = 0
       ·obtain rfl : l = [] := List.eq_nil_of_length_eq_zero h0
        simp only [List.length_nil] at *
        clear h0
        obtain rfl : ev = true := by rw [HI.out]; rfl
        clear HI
        go_enter Tryz.func54, Tryz.ntmps54
        have x0 := BX0.out.cell 0 (by simp)
        have x1 := BX0.out.cell 1 (by simp)
        have x2 := BX0.out.cell 2 (by simp)
        have x3 := BX0.out.cell 3 (by simp)
        have x4 := BX0.out.cell 4 (by simp)
        have x5 := BX0.out.cell 5 (by simp)
        have x6 := BX0.out.cell 6 (by simp)
        simp only [List.getElem_cons_zero, List.getElem_cons_succ] at x0 x1 x2 x3 x4 x5 x6
        go_wp2_with (first | (go_at_call 96; (with_reducible refine (HNM.out _).mono ?_); rintro e w' ⟨rfl, rfl⟩))
        refine (HIC.out _).mono ?_
        rintro e w1 ⟨rfl, hb⟩
        have HB1 := Lib.hid (belS HB0.out hb)
        have BX1 := Lib.hid (BX0.out.below hb)
        clear hb x0 x1 x2 x3 x4 x5 x6
        have x0 := BX1.out.cell 0 (by simp)
        have x1 := BX1.out.cell 1 (by simp)
        have x2 := BX1.out.cell 2 (by simp)
        have x3 := BX1.out.cell 3 (by simp)
        have x4 := BX1.out.cell 4 (by simp)
        have x5 := BX1.out.cell 5 (by simp)
        have x6 := BX1.out.cell 6 (by simp)
        simp only [List.getElem_cons_zero, List.getElem_cons_succ] at x0 x1 x2 x3 x4 x5 x6
        go_wp2_with fail
        go_ret
        exact ⟨by first | rfl | exact ret_bool hbq, HB1.out⟩
       ·have hne : ¬ (l.length : Int) = 0 := by omega
        have hnd : decide (l.length = 0) = false := decide_eq_false h0
        have hbq : ((l.length : Int) == 0) = false := beq_eq_false_iff_ne.2 hne
        obtain rfl : ev = false := by rw [HI.out, hnd, Bool.and_false]
        clear HI
        clear hnd h0
        go_enter Tryz.func54, Tryz.ntmps54
        have x0 := BX0.out.cell 0 (by simp)
        have x1 := BX0.out.cell 1 (by simp)
        have x2 := BX0.out.cell 2 (by simp)
        have x3 := BX0.out.cell 3 (by simp)
        have x4 := BX0.out.cell 4 (by simp)
        have x5 := BX0.out.cell 5 (by simp)
        have x6 := BX0.out.cell 6 (by simp)
        simp only [List.getElem_cons_zero, List.getElem_cons_succ] at x0 x1 x2 x3 x4 x5 x6
        go_wp2_with (first | (go_at_call 96; (with_reducible refine (HNM.out _).mono ?_); rintro e w' ⟨rfl, rfl⟩))
        refine (HIC.out _).mono ?_
        rintro e w1 ⟨rfl, hb⟩
        have HB1 := Lib.hid (belS HB0.out hb)
        have BX1 := Lib.hid (BX0.out.below hb)
        clear hb x0 x1 x2 x3 x4 x5 x6
        have x0 := BX1.out.cell 0 (by simp)
        have x1 := BX1.out.cell 1 (by simp)
        have x2 := BX1.out.cell 2 (by simp)
        have x3 := BX1.out.cell 3 (by simp)
        have x4 := BX1.out.cell 4 (by simp)
        have x5 := BX1.out.cell 5 (by simp)
        have x6 := BX1.out.cell 6 (by simp)
        simp only [List.getElem_cons_zero, List.getElem_cons_succ] at x0 x1 x2 x3 x4 x5 x6
        go_wp2_with fail
        go_ret
        exact ⟨by first | rfl | exact ret_bool hbq, HB1.out⟩
     | nil =>
      cases cb
      ·obtain rfl : ev = false := by rw [HI.out]; rfl
       clear HI
       go_enter Tryz.func54, Tryz.ntmps54
       have x0 := BX0.out.cell 0 (by simp)
       have x1 := BX0.out.cell 1 (by simp)
       have x2 := BX0.out.cell 2 (by simp)
       have x3 := BX0.out.cell 3 (by simp)
       have x4 := BX0.out.cell 4 (by simp)
       have x5 := BX0.out.cell 5 (by simp)
       have x6 := BX0.out.cell 6 (by simp)
       simp only [List.getElem_cons_zero, List.getElem_cons_succ] at x0 x1 x2 x3 x4 x5 x6
       go_wp2_with (first | (go_at_call 96; (with_reducible refine (HNM.out _).mono ?_); rintro e w' ⟨rfl, rfl⟩))
       refine (HIC.out _).mono ?_
       rintro e w1 ⟨rfl, hb⟩
       have HB1 := Lib.hid (belS HB0.out hb)
       have BX1 := Lib.hid (BX0.out.below hb)
       clear hb x0 x1 x2 x3 x4 x5 x6
       have x0 := BX1.out.cell 0 (by simp)
       have x1 := BX1.out.cell 1 (by simp)
       have x2 := BX1.out.cell 2 (by simp)
       have x3 := BX1.out.cell 3 (by simp)
       have x4 := BX1.out.cell 4 (by simp)
       have x5 := BX1.out.cell 5 (by simp)
       have x6 := BX1.out.cell 6 (by simp)
       simp only [List.getElem_cons_zero, List.getElem_cons_succ] at x0 x1 x2 x3 x4 x5 x6
       go_wp2_with fail
       go_ret
       exact ⟨by first | rfl | exact ret_bool hbq, HB1.out⟩
      ·by_cases h0 : l.length = 0
       ·obtain rfl : l = [] := List.eq_nil_of_length_eq_zero h0
        simp only [List.length_nil] at *
        clear h0
        obtain rfl : ev = true := by rw [HI.out]; rfl
        clear HI
        go_enter Tryz.func54, Tryz.ntmps54
        have x0 := BX0.out.cell 0 (by simp)
        have x1 := BX0.out.cell 1 (by simp)
        have x2 := BX0.out.cell 2 (by simp)
        have x3 := BX0.out.cell 3 (by simp)
        have x4 := BX0.out.cell 4 (by simp)
        have x5 := BX0.out.cell 5 (by simp)
        have x6 := BX0.out.cell 6 (by simp)
        simp only [List.getElem_cons_zero, List.getElem_cons_succ] at x0 x1 x2 x3 x4 x5 x6
        go_wp2_with (first | (go_at_call 96; (with_reducible refine (HNM.out _).mono ?_); rintro e w' ⟨rfl, rfl⟩))
        refine (HIC.out _).mono ?_
        rintro e w1 ⟨rfl, hb⟩
        have HB1 := Lib.hid (belS HB0.out hb)
        have BX1 := Lib.hid (BX0.out.below hb)
        clear hb x0 x1 x2 x3 x4 x5 x6
        have x0 := BX1.out.cell 0 (by simp)
        have x1 := BX1.out.cell 1 (by simp)
        have x2 := BX1.out.cell 2 (by simp)
        have x3 := BX1.out.cell 3 (by simp)
        have x4 := BX1.out.cell 4 (by simp)
        have x5 := BX1.out.cell 5 (by simp)
        have x6 := BX1.out.cell 6 (by simp)
        simp only [List.getElem_cons_zero, List.getElem_cons_succ] at x0 x1 x2 x3 x4 x5 x6
        go_wp2_with fail
        go_ret
        exact ⟨by first | rfl | exact ret_bool hbq, HB1.out⟩
       ·have hne : ¬ (l.length : Int) = 0 := by omega
        have hnd : decide (l.length = 0) = false := decide_eq_false h0
        have hbq : ((l.length : Int) == 0) = false := beq_eq_false_iff_ne.2 hne
        obtain rfl : ev = false := by rw [HI.out, hnd, Bool.and_false]
        clear HI
        clear hnd h0
        go_enter Tryz.func54, Tryz.ntmps54
        have x0 := BX0.out.cell 0 (by simp)
        have x1 := BX0.out.cell 1 (by simp)
        have x2 := BX0.out.cell 2 (by simp)
        have x3 := BX0.out.cell 3 (by simp)
        have x4 := BX0.out.cell 4 (by simp)
        have x5 := BX0.out.cell 5 (by simp)
        have x6 := BX0.out.cell 6 (by simp)
        simp only [List.getElem_cons_zero, List.getElem_cons_succ] at x0 x1 x2 x3 x4 x5 x6
        go_wp2_with (first | (go_at_call 96; (with_reducible refine (HNM.out _).mono ?_); rintro e w' ⟨rfl, rfl⟩))
        refine (HIC.out _).mono ?_
        rintro e w1 ⟨rfl, hb⟩
        have HB1 := Lib.hid (belS HB0.out hb)
        have BX1 := Lib.hid (BX0.out.below hb)
        clear hb x0 x1 x2 x3 x4 x5 x6
        have x0 := BX1.out.cell 0 (by simp)
        have x1 := BX1.out.cell 1 (by simp)
        have x2 := BX1.out.cell 2 (by simp)
        have x3 := BX1.out.cell 3 (by simp)
        have x4 := BX1.out.cell 4 (by simp)
        have x5 := BX1.out.cell 5 (by simp)
        have x6 := BX1.out.cell 6 (by simp)
        simp only [List.getElem_cons_zero, List.getElem_cons_succ] at x0 x1 x2 x3 x4 x5 x6
        go_wp2_with fail
        go_ret
        exact ⟨by first | rfl | exact ret_bool hbq, HB1.out⟩
    ·have hnb : (n == 0) = false := by simp [hn0]
     cases cb
     ·obtain rfl : ev = false := by rw [HI.out]; rfl
      clear HI
      go_enter Tryz.func54, Tryz.ntmps54
      have x0 := BX0.out.cell 0 (by simp)
      have x1 := BX0.out.cell 1 (by simp)
      have x2 := BX0.out.cell 2 (by simp)
      have x3 := BX0.out.cell 3 (by simp)
      have x4 := BX0.out.cell 4 (by simp)
      have x5 := BX0.out.cell 5 (by simp)
      have x6 := BX0.out.cell 6 (by simp)
      simp only [List.getElem_cons_zero, List.getElem_cons_succ] at x0 x1 x2 x3 x4 x5 x6
      go_wp2_with (first | (go_at_call 96; (with_reducible refine (HNM.out _).mono ?_); rintro e w' ⟨rfl, rfl⟩))
      refine (HIC.out _).mono ?_
      rintro e w1 ⟨rfl, hb⟩
      have HB1 := Lib.hid (belS HB0.out hb)
      have BX1 := Lib.hid (BX0.out.below hb)
      clear hb x0 x1 x2 x3 x4 x5 x6
      have x0 := BX1.out.cell 0 (by simp)
      have x1 := BX1.out.cell 1 (by simp)
      have x2 := BX1.out.cell 2 (by simp)
      have x3 := BX1.out.cell 3 (by simp)
      have x4 := BX1.out.cell 4 (by simp)
      have x5 := BX1.out.cell 5 (by simp)
      have x6 := BX1.out.cell 6 (by simp)
      simp only [List.getElem_cons_zero, List.getElem_cons_succ] at x0 x1 x2 x3 x4 x5 x6
      go_wp2_with fail
      go_ret
      exact ⟨by first | rfl | exact ret_bool hbq, HB1.out⟩
     ·by_cases h0 : l.length = 0
      ·obtain rfl : l = [] := List.eq_nil_of_length_eq_zero h0
       simp only [List.length_nil] at *
       clear h0
       obtain rfl : ev = true := by rw [HI.out]; rfl
       clear HI
       go_enter Tryz.func54, Tryz.ntmps54
       have x0 := BX0.out.cell 0 (by simp)
       have x1 := BX0.out.cell 1 (by simp)
       have x2 := BX0.out.cell 2 (by simp)
       have x3 := BX0.out.cell 3 (by simp)
       have x4 := BX0.out.cell 4 (by simp)
       have x5 := BX0.out.cell 5 (by simp)
       have x6 := BX0.out.cell 6 (by simp)
       simp only [List.getElem_cons_zero, List.getElem_cons_succ] at x0 x1 x2 x3 x4 x5 x6
       go_wp2_with (first | (go_at_call 96; (with_reducible refine (HNM.out _).mono ?_); rintro e w' ⟨rfl, rfl⟩))
       refine (HIC.out _).mono ?_
       rintro e w1 ⟨rfl, hb⟩
       have HB1 := Lib.hid (belS HB0.out hb)
       have BX1 := Lib.hid (BX0.out.below hb)
       clear hb x0 x1 x2 x3 x4 x5 x6
       have x0 := BX1.out.cell 0 (by simp)
       have x1 := BX1.out.cell 1 (by simp)
       have x2 := BX1.out.cell 2 (by simp)
       have x3 := BX1.out.cell 3 (by simp)
       have x4 := BX1.out.cell 4 (by simp)
       have x5 := BX1.out.cell 5 (by simp)
       have x6 := BX1.out.cell 6 (by simp)
       simp only [List.getElem_cons_zero, List.getElem_cons_succ] at x0 x1 x2 x3 x4 x5 x6
       go_wp2_with fail
       go_ret
       exact ⟨by first | rfl | exact ret_bool hbq, HB1.out⟩
      ·have hne : ¬ (l.length : Int) = 0 := by omega
       have hnd : decide (l.length = 0) = false := decide_eq_false h0
       have hbq : ((l.length : Int) == 0) = false := beq_eq_false_iff_ne.2 hne
       obtain rfl : ev = false := by rw [HI.out, hnd, Bool.and_false]
       clear HI
       clear hnd h0
       go_enter Tryz.func54, Tryz.ntmps54
       have x0 := BX0.out.cell 0 (by simp)
       have x1 := BX0.out.cell 1 (by simp)
       have x2 := BX0.out.cell 2 (by simp)
       have x3 := BX0.out.cell 3 (by simp)
       have x4 := BX0.out.cell 4 (by simp)
       have x5 := BX0.out.cell 5 (by simp)
       have x6 := BX0.out.cell 6 (by simp)
       simp only [List.getElem_cons_zero, List.getElem_cons_succ] at x0 x1 x2 x3 x4 x5 x6
       go_wp2_with (first | (go_at_call 96; (with_reducible refine (HNM.out _).mono ?_); rintro e w' ⟨rfl, rfl⟩))
       refine (HIC.out _).mono ?_
       rintro e w1 ⟨rfl, hb⟩
       have HB1 := Lib.hid (belS HB0.out hb)
       have BX1 := Lib.hid (BX0.out.below hb)
       clear hb x0 x1 x2 x3 x4 x5 x6
       have x0 := BX1.out.cell 0 (by simp)
       have x1 := BX1.out.cell 1 (by simp)
       have x2 := BX1.out.cell 2 (by simp)
       have x3 := BX1.out.cell 3 (by simp)
       have x4 := BX1.out.cell 4 (by simp)
       have x5 := BX1.out.cell 5 (by simp)
       have x6 := BX1.out.cell 6 (by simp)
       simp only [List.getElem_cons_zero, List.getElem_cons_succ] at x0 x1 x2 x3 x4 x5 x6
       go_wp2_with fail
       go_ret
       exact ⟨by first | rfl | exact ret_bool hbq, HB1.out⟩
 replace HI := Lib.hid (show ev = (decide ((⟨m, ky, n, t⟩ : CallD) = zCallD) && (if k = 5 then rb else decide (l.length = 0))) by rw [HI.out, if_neg h3])
 by_cases h55 : k = 5
 ·subst h55
  clear h3 h1 h5
  replace HI := Lib.hid (show ev = (decide ((⟨m, ky, n, t⟩ : CallD) = zCallD) && rb) by rw [HI.out, if_pos rfl])
  cases m with
  | cons c r =>
   obtain rfl : ev = false := by rw [HI.out]; simp [zCallD, *]
   clear HI
   go_enter Tryz.func54, Tryz.ntmps54
   have x0 := BX0.out.cell 0 (by simp)
   have x1 := BX0.out.cell 1 (by simp)
   have x2 := BX0.out.cell 2 (by simp)
   have x3 := BX0.out.cell 3 (by simp)
   have x4 := BX0.out.cell 4 (by simp)
   have x5 := BX0.out.cell 5 (by simp)
   have x6 := BX0.out.cell 6 (by simp)
   simp only [List.getElem_cons_zero, List.getElem_cons_succ] at x0 x1 x2 x3 x4 x5 x6
   go_wp2_with (first | (go_at_call 96; (with_reducible refine (HNM.out _).mono ?_); rintro e w' ⟨rfl, rfl⟩))
   refine (HRF.out _ _ (row_of_slice (SliceAt.below H6.out good_str HB0.out (Nat.le_refl _)))).mono ?_
   rintro e w1 ⟨rfl, hb⟩
   have HB1 := Lib.hid (belS HB0.out hb)
   have BX1 := Lib.hid (BX0.out.below hb)
   clear hb x0 x1 x2 x3 x4 x5 x6
   have x0 := BX1.out.cell 0 (by simp)
   have x1 := BX1.out.cell 1 (by simp)
   have x2 := BX1.out.cell 2 (by simp)
   have x3 := BX1.out.cell 3 (by simp)
   have x4 := BX1.out.cell 4 (by simp)
   have x5 := BX1.out.cell 5 (by simp)
   have x6 := BX1.out.cell 6 (by simp)
   simp only [List.getElem_cons_zero, List.getElem_cons_succ] at x0 x1 x2 x3 x4 x5 x6
   go_wp2_with fail
   go_ret
   exact ⟨by first | rfl | exact ret_bool hbq, HB1.out⟩
  | nil =>
   cases ky with
   | cons c r =>
    obtain rfl : ev = false := by rw [HI.out]; simp [zCallD, *]
    clear HI
    go_enter Tryz.func54, Tryz.ntmps54
    have x0 := BX0.out.cell 0 (by simp)
    have x1 := BX0.out.cell 1 (by simp)
    have x2 := BX0.out.cell 2 (by simp)
    have x3 := BX0.out.cell 3 (by simp)
    have x4 := BX0.out.cell 4 (by simp)
    have x5 := BX0.out.cell 5 (by simp)
    have x6 := BX0.out.cell 6 (by simp)
    simp only [List.getElem_cons_zero, List.getElem_cons_succ] at x0 x1 x2 x3 x4 x5 x6
    go_wp2_with (first | (go_at_call 96; (with_reducible refine (HNM.out _).mono ?_); rintro e w' ⟨rfl, rfl⟩))
    refine (HRF.out _ _ (row_of_slice (SliceAt.below H6.out good_str HB0.out (Nat.le_refl _)))).mono ?_
    rintro e w1 ⟨rfl, hb⟩
    have HB1 := Lib.hid (belS HB0.out hb)
    have BX1 := Lib.hid (BX0.out.below hb)
    clear hb x0 x1 x2 x3 x4 x5 x6
    have x0 := BX1.out.cell 0 (by simp)
    have x1 := BX1.out.cell 1 (by simp)
    have x2 := BX1.out.cell 2 (by simp)
    have x3 := BX1.out.cell 3 (by simp)
    have x4 := BX1.out.cell 4 (by simp)
    have x5 := BX1.out.cell 5 (by simp)
    have x6 := BX1.out.cell 6 (by simp)
    simp only [List.getElem_cons_zero, List.getElem_cons_succ] at x0 x1 x2 x3 x4 x5 x6
    go_wp2_with fail
    go_ret
    exact ⟨by first | rfl | exact ret_bool hbq, HB1.out⟩
   | nil =>
    by_cases hn0 : n = 0
    ·subst hn0
     cases t with
     | cons c r =>
      obtain rfl : ev = false := by rw [HI.out]; simp [zCallD, *]
      clear HI
      go_enter Tryz.func54, Tryz.ntmps54
      have x0 := BX0.out.cell 0 (by simp)
      have x1 := BX0.out.cell 1 (by simp)
      have x2 := BX0.out.cell 2 (by simp)
      have x3 := BX0.out.cell 3 (by simp)
      have x4 := BX0.out.cell 4 (by simp)
      have x5 := BX0.out.cell 5 (by simp)
      have x6 := BX0.out.cell 6 (by simp)
      simp only [List.getElem_cons_zero, List.getElem_cons_succ] at x0 x1 x2 x3 x4 x5 x6
      go_wp2_with (first | (go_at_call 96; (with_reducible refine (HNM.out _).mono ?_); rintro e w' ⟨rfl, rfl⟩))
      refine (HRF.out _ _ (row_of_slice (SliceAt.below H6.out good_str HB0.out (Nat.le_refl _)))).mono ?_
      rintro e w1 ⟨rfl, hb⟩
      have HB1 := Lib.hid (belS HB0.out hb)
      have BX1 := Lib.hid (BX0.out.below hb)
      clear hb x0 x1 x2 x3 x4 x5 x6
      have x0 := BX1.out.cell 0 (by simp)
      have x1 := BX1.out.cell 1 (by simp)
      have x2 := BX1.out.cell 2 (by simp)
      have x3 := BX1.out.cell 3 (by simp)
      have x4 := BX1.out.cell 4 (by simp)
      have x5 := BX1.out.cell 5 (by simp)
      have x6 := BX1.out.cell 6 (by simp)
      simp only [List.getElem_cons_zero, List.getElem_cons_succ] at x0 x1 x2 x3 x4 x5 x6
      go_wp2_with fail
      go_ret
      exact ⟨by first | rfl | exact ret_bool hbq, HB1.out⟩
     | nil =>
      cases rb
      ·obtain rfl : ev = false := by rw [HI.out]; simp [zCallD]
       clear HI
       go_enter Tryz.func54, Tryz.ntmps54
       have x0 := BX0.out.cell 0 (by simp)
       have x1 := BX0.out.cell 1 (by simp)
       have x2 := BX0.out.cell 2 (by simp)
       have x3 := BX0.out.cell 3 (by simp)
       have x4 := BX0.out.cell 4 (by simp)
       have x5 := BX0.out.cell 5 (by simp)
       have x6 := BX0.out.cell 6 (by simp)
       simp only [List.getElem_cons_zero, List.getElem_cons_succ] at x0 x1 x2 x3 x4 x5 x6
       go_wp2_with (first | (go_at_call 96; (with_reducible refine (HNM.out _).mono ?_); rintro e w' ⟨rfl, rfl⟩))
       refine (HRF.out _ _ (row_of_slice (SliceAt.below H6.out good_str HB0.out (Nat.le_refl _)))).mono ?_
       rintro e w1 ⟨rfl, hb⟩
       have HB1 := Lib.hid (belS HB0.out hb)
       have BX1 := Lib.hid (BX0.out.below hb)
       clear hb x0 x1 x2 x3 x4 x5 x6
       have x0 := BX1.out.cell 0 (by simp)
       have x1 := BX1.out.cell 1 (by simp)
       have x2 := BX1.out.cell 2 (by simp)
       have x3 := BX1.out.cell 3 (by simp)
       have x4 := BX1.out.cell 4 (by simp)
       have x5 := BX1.out.cell 5 (by simp)
       have x6 := BX1.out.cell 6 (by simp)
       simp only [List.getElem_cons_zero, List.getElem_cons_succ] at x0 x1 x2 x3 x4 x5 x6
       go_wp2_with fail
       go_ret
       exact ⟨by first | rfl | exact ret_bool hbq, HB1.out⟩
      ·obtain rfl : ev = true := by rw [HI.out]; simp [zCallD]
       clear HI
       go_enter Tryz.func54, Tryz.ntmps54
       have x0 := BX0.out.cell 0 (by simp)
       have x1 := BX0.out.cell 1 (by simp)
       have x2 := BX0.out.cell 2 (by simp)
       have x3 := BX0.out.cell 3 (by simp)
       have x4 := BX0.out.cell 4 (by simp)
       have x5 := BX0.out.cell 5 (by simp)
       have x6 := BX0.out.cell 6 (by simp)
       simp only [List.getElem_cons_zero, List.getElem_cons_succ] at x0 x1 x2 x3 x4 x5 x6
       go_wp2_with (first | (go_at_call 96; (with_reducible refine (HNM.out _).mono ?_); rintro e w' ⟨rfl, rfl⟩))
       refine (HRF.out _ _ (row_of_slice (SliceAt.below H6.out good_str HB0.out (Nat.le_refl _)))).mono ?_
       rintro e w1 ⟨rfl, hb⟩
       have HB1 := Lib.hid (belS HB0.out hb)
       have BX1 := Lib.hid (BX0.out.below hb)
       clear hb x0 x1 x2 x3 x4 x5 x6
       have x0 := BX1.out.cell 0 (by simp)
       have x1 := BX1.out.cell 1 (by simp)
       have x2 := BX1.out.cell 2 (by simp)
       have x3 := BX1.out.cell 3 (by simp)
       have x4 := BX1.out.cell 4 (by simp)
       have x5 := BX1.out.cell 5 (by simp)
       have x6 := BX1.out.cell 6 (by simp)
       simp only [List.getElem_cons_zero, List.getElem_cons_succ] at x0 x1 x2 x3 x4 x5 x6
       go_wp2_with fail
       go_ret
       exact ⟨by first | rfl | exact ret_bool hbq, HB1.out⟩
    ·have hnb : (n == 0) = false := by simp [hn0]
     obtain rfl : ev = false := by rw [HI.out]; simp [zCallD, *]
     clear HI
     go_enter Tryz.func54, Tryz.ntmps54
     have x0 := BX0.out.cell 0 (by simp)
     have x1 := BX0.out.cell 1 (by simp)
     have x2 := BX0.out.cell 2 (by simp)
     have x3 := BX0.out.cell 3 (by simp)
     have x4 := BX0.out.cell 4 (by simp)
     have x5 := BX0.out.cell 5 (by simp)
     have x6 := BX0.out.cell 6 (by simp)
     simp only [List.getElem_cons_zero, List.getElem_cons_succ] at x0 x1 x2 x3 x4 x5 x6
     go_wp2_with (first | (go_at_call 96; (with_reducible refine (HNM.out _).mono ?_); rintro e w' ⟨rfl, rfl⟩))
     refine (HRF.out _ _ (row_of_slice (SliceAt.below H6.out good_str HB0.out (Nat.le_refl _)))).mono ?_
     rintro e w1 ⟨rfl, hb⟩
     have HB1 := Lib.hid (belS HB0.out hb)
     have BX1 := Lib.hid (BX0.out.below hb)
     clear hb x0 x1 x2 x3 x4 x5 x6
     have x0 := BX1.out.cell 0 (by simp)
     have x1 := BX1.out.cell 1 (by simp)
     have x2 := BX1.out.cell 2 (by simp)
     have x3 := BX1.out.cell 3 (by simp)
     have x4 := BX1.out.cell 4 (by simp)
     have x5 := BX1.out.cell 5 (by simp)
     have x6 := BX1.out.cell 6 (by simp)
     simp only [List.getElem_cons_zero, List.getElem_cons_succ] at x0 x1 x2 x3 x4 x5 x6
     go_wp2_with fail
     go_ret
     exact ⟨by first | rfl | exact ret_bool hbq, HB1.out⟩
 replace HI := Lib.hid (show ev = (decide ((⟨m, ky, n, t⟩ : CallD) = zCallD) && decide (l.length = 0)) by rw [HI.out, if_neg h55])
 have hb3 : (k == 3) = false := by simp [h3]
 have hc3 : (k != 3) = true := by simp [h3]
 have hb5 : (k == 5) = false := by simp [h55]
 have hc5 : (k != 5) = true := by simp [h55]
 clear h3 h55
 cases m with
 | cons c r =>
  by_cases h0 : l.length = 0
  ·obtain rfl : l = [] := List.eq_nil_of_length_eq_zero h0
   simp only [List.length_nil] at *
   clear h0
   obtain rfl : ev = false := by rw [HI.out]; simp [zCallD, *]
   clear HI
   go_enter Tryz.func54, Tryz.ntmps54
   have x0 := BX0.out.cell 0 (by simp)
   have x1 := BX0.out.cell 1 (by simp)
   have x2 := BX0.out.cell 2 (by simp)
   have x3 := BX0.out.cell 3 (by simp)
   have x4 := BX0.out.cell 4 (by simp)
   have x5 := BX0.out.cell 5 (by simp)
   have x6 := BX0.out.cell 6 (by simp)
   simp only [List.getElem_cons_zero, List.getElem_cons_succ] at x0 x1 x2 x3 x4 x5 x6
   go_wp2_with (first | (go_at_call 96; (with_reducible refine (HNM.out _).mono ?_); rintro e w' ⟨rfl, rfl⟩))
   go_ret
   exact ⟨by first | rfl | exact ret_bool hbq, HB0.out⟩
  ·have hne : ¬ (l.length : Int) = 0 := by omega
   have hnd : decide (l.length = 0) = false := decide_eq_false h0
   have hbq : ((l.length : Int) == 0) = false := beq_eq_false_iff_ne.2 hne
   obtain rfl : ev = false := by rw [HI.out]; simp [zCallD, *]
   clear HI
   clear hnd h0
   go_enter Tryz.func54, Tryz.ntmps54
   have x0 := BX0.out.cell 0 (by simp)
   have x1 := BX0.out.cell 1 (by simp)
   have x2 := BX0.out.cell 2 (by simp)
   have x3 := BX0.out.cell 3 (by simp)
   have x4 := BX0.out.cell 4 (by simp)
   have x5 := BX0.out.cell 5 (by simp)
   have x6 := BX0.out.cell 6 (by simp)
   simp only [List.getElem_cons_zero, List.getElem_cons_succ] at x0 x1 x2 x3 x4 x5 x6
   go_wp2_with (first | (go_at_call 96; (with_reducible refine (HNM.out _).mono ?_); rintro e w' ⟨rfl, rfl⟩))
   go_ret
   exact ⟨by first | rfl | exact ret_bool hbq, HB0.out⟩
 | nil =>
  cases ky with
  | cons c r =>
   by_cases h0 : l.length = 0
   ·obtain rfl : l = [] := List.eq_nil_of_length_eq_zero h0
    simp only [List.length_nil] at *
    clear h0
    obtain rfl : ev = false := by rw [HI.out]; simp [zCallD, *]
    clear HI
    go_enter Tryz.func54, Tryz.ntmps54
    have x0 := BX0.out.cell 0 (by simp)
    have x1 := BX0.out.cell 1 (by simp)
    have x2 := BX0.out.cell 2 (by simp)
    have x3 := BX0.out.cell 3 (by simp)
    have x4 := BX0.out.cell 4 (by simp)
    have x5 := BX0.out.cell 5 (by simp)
    have x6 := BX0.out.cell 6 (by simp)
    simp only [List.getElem_cons_zero, List.getElem_cons_succ] at x0 x1 x2 x3 x4 x5 x6
    go_wp2_with (first | (go_at_call 96; (with_reducible refine (HNM.out _).mono ?_); rintro e w' ⟨rfl, rfl⟩))
    go_ret
    exact ⟨by first | rfl | exact ret_bool hbq, HB0.out⟩
   ·have hne : ¬ (l.length : Int) = 0 := by omega
    have hnd : decide (l.length = 0) = false := decide_eq_false h0
    have hbq : ((l.length : Int) == 0) = false := beq_eq_false_iff_ne.2 hne
    obtain rfl : ev = false := by rw [HI.out]; simp [zCallD, *]
    clear HI
    clear hnd h0
    go_enter Tryz.func54, Tryz.ntmps54
    have x0 := BX0.out.cell 0 (by simp)
    have x1 := BX0.out.cell 1 (by simp)
    have x2 := BX0.out.cell 2 (by simp)
    have x3 := BX0.out.cell 3 (by simp)
    have x4 := BX0.out.cell 4 (by simp)
    have x5 := BX0.out.cell 5 (by simp)
    have x6 := BX0.out.cell 6 (by simp)
    simp only [List.getElem_cons_zero, List.getElem_cons_succ] at x0 x1 x2 x3 x4 x5 x6
    go_wp2_with (first | (go_at_call 96; (with_reducible refine (HNM.out _).mono ?_); rintro e w' ⟨rfl, rfl⟩))
    go_ret
    exact ⟨by first | rfl | exact ret_bool hbq, HB0.out⟩
  | nil =>
   by_cases hn0 : n = 0
   ·subst hn0
    cases t with
    | cons c r =>
     by_cases h0 : l.length = 0
     ·obtain rfl : l = [] := List.eq_nil_of_length_eq_zero h0
      simp only [List.length_nil] at *
      clear h0
      obtain rfl : ev = false := by rw [HI.out]; simp [zCallD, *]
      clear HI
      go_enter Tryz.func54, Tryz.ntmps54
      have x0 := BX0.out.cell 0 (by simp)
      have x1 := BX0.out.cell 1 (by simp)
      have x2 := BX0.out.cell 2 (by simp)
      have x3 := BX0.out.cell 3 (by simp)
      have x4 := BX0.out.cell 4 (by simp)
      have x5 := BX0.out.cell 5 (by simp)
      have x6 := BX0.out.cell 6 (by simp)
      simp only [List.getElem_cons_zero, List.getElem_cons_succ] at x0 x1 x2 x3 x4 x5 x6
      go_wp2_with (first | (go_at_call 96; (with_reducible refine (HNM.out _).mono ?_); rintro e w' ⟨rfl, rfl⟩))
      go_ret
      exact ⟨by first | rfl | exact ret_bool hbq, HB0.out⟩
     ·have hne : ¬ (l.length : Int) = 0 := by omega
      have hnd : decide (l.length = 0) = false := decide_eq_false h0
      have hbq : ((l.length : Int) == 0) = false := beq_eq_false_iff_ne.2 hne
      obtain rfl : ev = false := by rw [HI.out]; simp [zCallD, *]
      clear HI
      clear hnd h0
      go_enter Tryz.func54, Tryz.ntmps54
      have x0 := BX0.out.cell 0 (by simp)
      have x1 := BX0.out.cell 1 (by simp)
      have x2 := BX0.out.cell 2 (by simp)
      have x3 := BX0.out.cell 3 (by simp)
      have x4 := BX0.out.cell 4 (by simp)
      have x5 := BX0.out.cell 5 (by simp)
      have x6 := BX0.out.cell 6 (by simp)
      simp only [List.getElem_cons_zero, List.getElem_cons_succ] at x0 x1 x2 x3 x4 x5 x6
      go_wp2_with (first | (go_at_call 96; (with_reducible refine (HNM.out _).mono ?_); rintro e w' ⟨rfl, rfl⟩))
      go_ret
      exact ⟨by first | rfl | exact ret_bool hbq, HB0.out⟩
    | nil =>
     by_cases h0 : l.length = 0
     ·obtain rfl : l = [] := List.eq_nil_of_length_eq_zero h0
      simp only [List.length_nil] at *
      clear h0
      obtain rfl : ev = true := by rw [HI.out]; simp [zCallD]
      clear HI
      go_enter Tryz.func54, Tryz.ntmps54
      have x0 := BX0.out.cell 0 (by simp)
      have x1 := BX0.out.cell 1 (by simp)
      have x2 := BX0.out.cell 2 (by simp)
      have x3 := BX0.out.cell 3 (by simp)
      have x4 := BX0.out.cell 4 (by simp)
      have x5 := BX0.out.cell 5 (by simp)
      have x6 := BX0.out.cell 6 (by simp)
      simp only [List.getElem_cons_zero, List.getElem_cons_succ] at x0 x1 x2 x3 x4 x5 x6
      go_wp2_with (first | (go_at_call 96; (with_reducible refine (HNM.out _).mono ?_); rintro e w' ⟨rfl, rfl⟩))
      go_ret
      exact ⟨by first | rfl | exact ret_bool hbq, HB0.out⟩
     ·have hne : ¬ (l.length : Int) = 0 := by omega
      have hnd : decide (l.length = 0) = false := decide_eq_false h0
      have hbq : ((l.length : Int) == 0) = false := beq_eq_false_iff_ne.2 hne
      obtain rfl : ev = false := by rw [HI.out, hnd, Bool.and_false]
      clear HI
      clear hnd h0
      go_enter Tryz.func54, Tryz.ntmps54
      have x0 := BX0.out.cell 0 (by simp)
      have x1 := BX0.out.cell 1 (by simp)
      have x2 := BX0.out.cell 2 (by simp)
      have x3 := BX0.out.cell 3 (by simp)
      have x4 := BX0.out.cell 4 (by simp)
      have x5 := BX0.out.cell 5 (by simp)
      have x6 := BX0.out.cell 6 (by simp)
      simp only [List.getElem_cons_zero, List.getElem_cons_succ] at x0 x1 x2 x3 x4 x5 x6
      go_wp2_with (first | (go_at_call 96; (with_reducible refine (HNM.out _).mono ?_); rintro e w' ⟨rfl, rfl⟩))
      go_ret
      exact ⟨by first | rfl | exact ret_bool hbq, HB0.out⟩
   ·have hnb : (n == 0) = false := by simp [hn0]
    by_cases h0 : l.length = 0
    ·obtain rfl : l = [] := List.eq_nil_of_length_eq_zero h0
     simp only [List.length_nil] at *
     clear h0
     obtain rfl : ev = false := by rw [HI.out]; simp [zCallD, *]
     clear HI
     go_enter Tryz.func54, Tryz.ntmps54
     have x0 := BX0.out.cell 0 (by simp)
     have x1 := BX0.out.cell 1 (by simp)
     have x2 := BX0.out.cell 2 (by simp)
     have x3 := BX0.out.cell 3 (by simp)
     have x4 := BX0.out.cell 4 (by simp)
     have x5 := BX0.out.cell 5 (by simp)
     have x6 := BX0.out.cell 6 (by simp)
     simp only [List.getElem_cons_zero, List.getElem_cons_succ] at x0 x1 x2 x3 x4 x5 x6
     go_wp2_with (first | (go_at_call 96; (with_reducible refine (HNM.out _).mono ?_); rintro e w' ⟨rfl, rfl⟩))
     go_ret
     exact ⟨by first | rfl | exact ret_bool hbq, HB0.out⟩
    ·have hne : ¬ (l.length : Int) = 0 := by omega
     have hnd : decide (l.length = 0) = false := decide_eq_false h0
     have hbq : ((l.length : Int) == 0) = false := beq_eq_false_iff_ne.2 hne
     obtain rfl : ev = false := by rw [HI.out]; simp [zCallD, *]
     clear HI
     clear hnd h0
     go_enter Tryz.func54, Tryz.ntmps54
     have x0 := BX0.out.cell 0 (by simp)
     have x1 := BX0.out.cell 1 (by simp)
     have x2 := BX0.out.cell 2 (by simp)
     have x3 := BX0.out.cell 3 (by simp)
     have x4 := BX0.out.cell 4 (by simp)
     have x5 := BX0.out.cell 5 (by simp)
     have x6 := BX0.out.cell 6 (by simp)
     simp only [List.getElem_cons_zero, List.getElem_cons_succ] at x0 x1 x2 x3 x4 x5 x6
     go_wp2_with (first | (go_at_call 96; (with_reducible refine (HNM.out _).mono ?_); rintro e w' ⟨rfl, rfl⟩))
     go_ret
     exact ⟨by first | rfl | exact ret_bool hbq, HB0.out⟩
end Go.Proofs.YteeopjcbpngofaaGreat
namespace Go.Proofs.YteeopjcbpngofaaGreat
set_option linter.unusedVariables false
open Go.RowKit
end Go.Proofs.YteeopjcbpngofaaGreat
namespace Go.Proofs.YteeopjcbpngofaaGreat
set_option linter.unusedVariables false
open Go.RowKit
theorem numB_nat {n : Int} (h : numB n = true) : ∃ k : Nat, n = k ∧ k ≤ 999 := by
 simp only [numB, Bool.and_eq_true, decide_eq_true_iff] at h
 exact ⟨n.toNat, by omega, by omega⟩
end Go.Proofs.YteeopjcbpngofaaGreat
namespace Go.Proofs.YteeopjcbpngofaaGreat
set_option linter.unusedVariables false
open Go.RowKit
theorem nameB_len8 {l : List UInt8} (h : nameB l = true) : l.length ≤ 8 := by simp only [nameB, Bool.and_eq_true, decide_eq_true_iff] at h; exact h.1.1.2
end Go.Proofs.YteeopjcbpngofaaGreat
namespace Go.Proofs.YteeopjcbpngofaaGreat
set_option linter.unusedVariables false
open Go.RowKit
set_option maxRecDepth 100000 in
set_option maxHeartbeats 1600000 in
theorem implFormatCall_Start (key : List UInt8) (v : Int) (text : List UInt8) (w : World) (hk : key.length ≤ maxLen) (ht : text.length ≤ 1048576) (hc : callB ⟨mStart, key, v, text⟩ = true) :
  Calls Tryz.prog 56 #[.agg #[.string ⟨#[83, 116, 97, 114, 116]⟩, .string ⟨key.toArray⟩, .int .i64 v, .string ⟨text.toArray⟩]] w fun e w' => e = .returned (.string ⟨(fmtCall ⟨mStart, key, v, text⟩).toArray⟩) ∧ Below w.heap.size w w' := by
 have HIC := Lib.hid (fun w0 => implIsCall_any ⟨mStart, key, v, text⟩ w0 hk)
 rw [hc] at HIC
 unfold vCall at HIC
 simp only at HIC
 obtain ⟨p1, p2, p3, p4, p5⟩ := callB_parts hc
 have HF := Lib.hid (fmtCall_yes hc)
 clear hc
 obtain rfl : key = [] := p2 rfl
 obtain rfl : v = 0 := p4 rfl
 obtain rfl : text = [] := p5 rfl
 have HW := Lib.hid (show joinL [mStart] [32] = joinL (wordsC ⟨mStart, [], 0, []⟩) [32] from rfl)
 have HTK := Lib.hid (show ∀ w0, Calls Tryz.prog 99 #[.string ⟨#[83, 116, 97, 114, 116]⟩] w0 fun e w' => e = .returned (.bool false) ∧ w0 = w' from takesKey_b mStart _ rfl)
 have HTV := Lib.hid (show ∀ w0, Calls Tryz.prog 100 #[.string ⟨#[83, 116, 97, 114, 116]⟩] w0 fun e w' => e = .returned (.bool false) ∧ w0 = w' from takesValue_b mStart _ rfl)
 have HTT := Lib.hid (show ∀ w0, Calls Tryz.prog 102 #[.string ⟨#[83, 116, 97, 114, 116]⟩] w0 fun e w' => e = .returned (.bool false) ∧ w0 = w' from takesText_b mStart _ rfl)
 clear p1 p2 p3 p4 p5
 have HB0 := Lib.hid (show ∀ o, Below w.heap.size w (w.alloc o) from fun o => (Below.refl w.heap.size w).alloc (Nat.le_refl _) o)
 go_enter Tryz.func56, Tryz.ntmps56
 go_wp2_with fail
 refine (HIC.out _).mono ?_
 rintro e w1 ⟨rfl, hb⟩
 have HB := Lib.hid ((HB0.out _).trans (hb.mono (HB0.out _).size))
 obtain ⟨hcc, _⟩ := bcell hb
 simp at hcc
 have c0 := hcc w.heap.size 0 (by omega)
 have c1 := hcc w.heap.size 1 (by omega)
 have c2 := hcc w.heap.size 2 (by omega)
 have c3 := hcc w.heap.size 3 (by omega)
 simp at c0 c1 c2 c3
 have hlt : w.heap.size < w1.heap.size := by have h := hb.size; simp at h; omega
 have HLT := Lib.hid hlt
 clear hb hcc
 have HO0 := Lib.hid (owns_one w1 w1.heap.size ⟨#[83, 116, 97, 114, 116]⟩ (Nat.le_refl _))
 have HA0 := Lib.hid (show ∀ o, Below w1.heap.size w1 (w1.alloc o) from fun o => (Below.refl w1.heap.size w1).alloc (Nat.le_refl _) o)
 go_wp2_with (first | (go_at_call 99; refine (HTK.out _).mono ?_; rintro e w8 ⟨rfl, rfl⟩) | (go_at_call 100; refine (HTV.out _).mono ?_; rintro e w8 ⟨rfl, rfl⟩) | (go_at_call 102; refine (HTT.out _).mono ?_; rintro e w8 ⟨rfl, rfl⟩))
 refine (implJoin_any _ [mStart] ⟨#[32]⟩ _ (owns_row HO0.out (by simp)) (by rw [joinL_one]; decide) (by decide)).mono ?_
 rintro e w9 ⟨rfl, hb9⟩
 go_wp2_with fail
 go_ret
 exact ⟨ret_str (by rw [HF.out]; exact HW.out), HB.out.trans (((HA0.out (.cells #[.string ⟨#[83, 116, 97, 114, 116]⟩] 9)).trans (hb9.mono (HA0.out (.cells #[.string ⟨#[83, 116, 97, 114, 116]⟩] 9)).size)).mono HB.out.size)⟩
set_option maxRecDepth 100000 in
set_option maxHeartbeats 1600000 in
theorem implFormatCall_Stop (key : List UInt8) (v : Int) (text : List UInt8) (w : World) (hk : key.length ≤ maxLen) (ht : text.length ≤ 1048576) (hc : callB ⟨mStop, key, v, text⟩ = true) :
  Calls Tryz.prog 56 #[.agg #[.string ⟨#[83, 116, 111, 112]⟩, .string ⟨key.toArray⟩, .int .i64 v, .string ⟨text.toArray⟩]] w fun e w' => e = .returned (.string ⟨(fmtCall ⟨mStop, key, v, text⟩).toArray⟩) ∧ Below w.heap.size w w' := by
 have HIC := Lib.hid (fun w0 => implIsCall_any ⟨mStop, key, v, text⟩ w0 hk)
 rw [hc] at HIC
 unfold vCall at HIC
 simp only at HIC
 obtain ⟨p1, p2, p3, p4, p5⟩ := callB_parts hc
 have HF := Lib.hid (fmtCall_yes hc)
 clear hc
 obtain rfl : key = [] := p2 rfl
 obtain rfl : v = 0 := p4 rfl
 obtain rfl : text = [] := p5 rfl
 have HW := Lib.hid (show joinL [mStop] [32] = joinL (wordsC ⟨mStop, [], 0, []⟩) [32] from rfl)
 have HTK := Lib.hid (show ∀ w0, Calls Tryz.prog 99 #[.string ⟨#[83, 116, 111, 112]⟩] w0 fun e w' => e = .returned (.bool false) ∧ w0 = w' from takesKey_b mStop _ rfl)
 have HTV := Lib.hid (show ∀ w0, Calls Tryz.prog 100 #[.string ⟨#[83, 116, 111, 112]⟩] w0 fun e w' => e = .returned (.bool false) ∧ w0 = w' from takesValue_b mStop _ rfl)
 have HTT := Lib.hid (show ∀ w0, Calls Tryz.prog 102 #[.string ⟨#[83, 116, 111, 112]⟩] w0 fun e w' => e = .returned (.bool false) ∧ w0 = w' from takesText_b mStop _ rfl)
 clear p1 p2 p3 p4 p5
 have HB0 := Lib.hid (show ∀ o, Below w.heap.size w (w.alloc o) from fun o => (Below.refl w.heap.size w).alloc (Nat.le_refl _) o)
 go_enter Tryz.func56, Tryz.ntmps56
 go_wp2_with fail
 refine (HIC.out _).mono ?_
 rintro e w1 ⟨rfl, hb⟩
 have HB := Lib.hid ((HB0.out _).trans (hb.mono (HB0.out _).size))
 obtain ⟨hcc, _⟩ := bcell hb
 simp at hcc
 have c0 := hcc w.heap.size 0 (by omega)
 have c1 := hcc w.heap.size 1 (by omega)
 have c2 := hcc w.heap.size 2 (by omega)
 have c3 := hcc w.heap.size 3 (by omega)
 simp at c0 c1 c2 c3
 have hlt : w.heap.size < w1.heap.size := by have h := hb.size; simp at h; omega
 have HLT := Lib.hid hlt
 clear hb hcc
 have HO0 := Lib.hid (owns_one w1 w1.heap.size ⟨#[83, 116, 111, 112]⟩ (Nat.le_refl _))
 have HA0 := Lib.hid (show ∀ o, Below w1.heap.size w1 (w1.alloc o) from fun o => (Below.refl w1.heap.size w1).alloc (Nat.le_refl _) o)
 go_wp2_with (first | (go_at_call 99; refine (HTK.out _).mono ?_; rintro e w8 ⟨rfl, rfl⟩) | (go_at_call 100; refine (HTV.out _).mono ?_; rintro e w8 ⟨rfl, rfl⟩) | (go_at_call 102; refine (HTT.out _).mono ?_; rintro e w8 ⟨rfl, rfl⟩))
 refine (implJoin_any _ [mStop] ⟨#[32]⟩ _ (owns_row HO0.out (by simp)) (by rw [joinL_one]; decide) (by decide)).mono ?_
 rintro e w9 ⟨rfl, hb9⟩
 go_wp2_with fail
 go_ret
 exact ⟨ret_str (by rw [HF.out]; exact HW.out), HB.out.trans (((HA0.out (.cells #[.string ⟨#[83, 116, 111, 112]⟩] 9)).trans (hb9.mono (HA0.out (.cells #[.string ⟨#[83, 116, 111, 112]⟩] 9)).size)).mono HB.out.size)⟩
set_option maxRecDepth 100000 in
set_option maxHeartbeats 1600000 in
theorem implFormatCall_Get (key : List UInt8) (v : Int) (text : List UInt8) (w : World) (hk : key.length ≤ maxLen) (ht : text.length ≤ 1048576) (hc : callB ⟨mGet, key, v, text⟩ = true) :
  Calls Tryz.prog 56 #[.agg #[.string ⟨#[71, 101, 116]⟩, .string ⟨key.toArray⟩, .int .i64 v, .string ⟨text.toArray⟩]] w fun e w' => e = .returned (.string ⟨(fmtCall ⟨mGet, key, v, text⟩).toArray⟩) ∧ Below w.heap.size w w' := by
 have HIC := Lib.hid (fun w0 => implIsCall_any ⟨mGet, key, v, text⟩ w0 hk)
 rw [hc] at HIC
 unfold vCall at HIC
 simp only at HIC
 obtain ⟨p1, p2, p3, p4, p5⟩ := callB_parts hc
 have HF := Lib.hid (fmtCall_yes hc)
 clear hc
 have hn := nameB_len8 (p1 rfl)
 obtain rfl : v = 0 := p4 rfl
 obtain rfl : text = [] := p5 rfl
 have HW := Lib.hid (show joinL [mGet, key] [32] = joinL (wordsC ⟨mGet, key, 0, []⟩) [32] from rfl)
 have HTK := Lib.hid (show ∀ w0, Calls Tryz.prog 99 #[.string ⟨#[71, 101, 116]⟩] w0 fun e w' => e = .returned (.bool true) ∧ w0 = w' from takesKey_b mGet _ rfl)
 have HTV := Lib.hid (show ∀ w0, Calls Tryz.prog 100 #[.string ⟨#[71, 101, 116]⟩] w0 fun e w' => e = .returned (.bool false) ∧ w0 = w' from takesValue_b mGet _ rfl)
 have HTT := Lib.hid (show ∀ w0, Calls Tryz.prog 102 #[.string ⟨#[71, 101, 116]⟩] w0 fun e w' => e = .returned (.bool false) ∧ w0 = w' from takesText_b mGet _ rfl)
 clear p1 p2 p3 p4 p5
 have HB0 := Lib.hid (show ∀ o, Below w.heap.size w (w.alloc o) from fun o => (Below.refl w.heap.size w).alloc (Nat.le_refl _) o)
 go_enter Tryz.func56, Tryz.ntmps56
 go_wp2_with fail
 refine (HIC.out _).mono ?_
 rintro e w1 ⟨rfl, hb⟩
 have HB := Lib.hid ((HB0.out _).trans (hb.mono (HB0.out _).size))
 obtain ⟨hcc, _⟩ := bcell hb
 simp at hcc
 have c0 := hcc w.heap.size 0 (by omega)
 have c1 := hcc w.heap.size 1 (by omega)
 have c2 := hcc w.heap.size 2 (by omega)
 have c3 := hcc w.heap.size 3 (by omega)
 simp at c0 c1 c2 c3
 have hlt : w.heap.size < w1.heap.size := by have h := hb.size; simp at h; omega
 have HLT := Lib.hid hlt
 clear hb hcc
 have HO0 := Lib.hid (owns_one w1 w1.heap.size ⟨#[71, 101, 116]⟩ (Nat.le_refl _))
 have HA0 := Lib.hid (show ∀ o, Below w1.heap.size w1 (w1.alloc o) from fun o => (Below.refl w1.heap.size w1).alloc (Nat.le_refl _) o)
 go_wp2_with (first | (at_builtin; go_loud (refine append_strs rfl _ _ rfl w1.heap.size _ [mGet] (key) _ (w1.heap.size + 1) (by rfl) (owns_alloc HO0.out _) rfl (cell_newS _ _ ⟨(key).toArray⟩ _ (by simp)) (by simp) ?_ ?_; (have h1 := (HA0.out (.cells #[.string ⟨#[71, 101, 116]⟩] 9)).size; (try simp at h1); (try simp); omega)); intro va1 xa1 hOa1 hga1; have Ba1 := Lib.hid (below_append ((HA0.out (.cells #[.string ⟨#[71, 101, 116]⟩] 9)).alloc (HA0.out (.cells #[.string ⟨#[71, 101, 116]⟩] 9)).size _) (owns_alloc HO0.out _) hga1 ((HA0.out (.cells #[.string ⟨#[71, 101, 116]⟩] 9)).alloc (HA0.out (.cells #[.string ⟨#[71, 101, 116]⟩] 9)).size _).size); have Oa1 := Lib.hid hOa1; clear hOa1 hga1; have da1_0 := (Ba1.out.cell (p := ⟨w.heap.size, 0, none⟩) HLT.out).trans c0; have da1_1 := (Ba1.out.cell (p := ⟨w.heap.size, 1, none⟩) HLT.out).trans c1; have da1_2 := (Ba1.out.cell (p := ⟨w.heap.size, 2, none⟩) HLT.out).trans c2; have da1_3 := (Ba1.out.cell (p := ⟨w.heap.size, 3, none⟩) HLT.out).trans c3) | (go_at_call 99; refine (HTK.out _).mono ?_; rintro e w8 ⟨rfl, rfl⟩) | (go_at_call 100; refine (HTV.out _).mono ?_; rintro e w8 ⟨rfl, rfl⟩) | (go_at_call 102; refine (HTT.out _).mono ?_; rintro e w8 ⟨rfl, rfl⟩))
 refine (implJoin_any _ [mGet, key] ⟨#[32]⟩ _ (owns_row Oa1.out (by simp)) (by rw [join2_len]; simp; omega) (by decide)).mono ?_
 rintro e w9 ⟨rfl, hb9⟩
 go_wp2_with fail
 go_ret
 exact ⟨ret_str (by rw [HF.out]; exact HW.out), HB.out.trans ((Ba1.out.trans (hb9.mono Ba1.out.size)).mono HB.out.size)⟩
set_option maxRecDepth 100000 in
set_option maxHeartbeats 1600000 in
theorem implFormatCall_Put (key : List UInt8) (v : Int) (text : List UInt8) (w : World) (hk : key.length ≤ maxLen) (ht : text.length ≤ 1048576) (hc : callB ⟨mPut, key, v, text⟩ = true) :
  Calls Tryz.prog 56 #[.agg #[.string ⟨#[80, 117, 116]⟩, .string ⟨key.toArray⟩, .int .i64 v, .string ⟨text.toArray⟩]] w fun e w' => e = .returned (.string ⟨(fmtCall ⟨mPut, key, v, text⟩).toArray⟩) ∧ Below w.heap.size w w' := by
 have HIC := Lib.hid (fun w0 => implIsCall_any ⟨mPut, key, v, text⟩ w0 hk)
 rw [hc] at HIC
 unfold vCall at HIC
 simp only at HIC
 obtain ⟨p1, p2, p3, p4, p5⟩ := callB_parts hc
 have HF := Lib.hid (fmtCall_yes hc)
 clear hc
 have hn := nameB_len8 (p1 rfl)
 obtain ⟨z, hz, hz9⟩ := numB_nat (p3 rfl)
 simp only at hz
 subst hz
 have hl3 := numL_len hz9
 have HFN := Lib.hid (fun w0 => implFormat_any z w0 (by omega) (by omega))
 obtain rfl : text = [] := p5 rfl
 have HW := Lib.hid (show joinL [mPut, key, numL z] [32] = joinL (wordsC ⟨mPut, key, (z : Int), []⟩) [32] from rfl)
 have HTK := Lib.hid (show ∀ w0, Calls Tryz.prog 99 #[.string ⟨#[80, 117, 116]⟩] w0 fun e w' => e = .returned (.bool true) ∧ w0 = w' from takesKey_b mPut _ rfl)
 have HTV := Lib.hid (show ∀ w0, Calls Tryz.prog 100 #[.string ⟨#[80, 117, 116]⟩] w0 fun e w' => e = .returned (.bool true) ∧ w0 = w' from takesValue_b mPut _ rfl)
 have HTT := Lib.hid (show ∀ w0, Calls Tryz.prog 102 #[.string ⟨#[80, 117, 116]⟩] w0 fun e w' => e = .returned (.bool false) ∧ w0 = w' from takesText_b mPut _ rfl)
 clear p1 p2 p3 p4 p5
 have HB0 := Lib.hid (show ∀ o, Below w.heap.size w (w.alloc o) from fun o => (Below.refl w.heap.size w).alloc (Nat.le_refl _) o)
 go_enter Tryz.func56, Tryz.ntmps56
 go_wp2_with fail
 refine (HIC.out _).mono ?_
 rintro e w1 ⟨rfl, hb⟩
 have HB := Lib.hid ((HB0.out _).trans (hb.mono (HB0.out _).size))
 obtain ⟨hcc, _⟩ := bcell hb
 simp at hcc
 have c0 := hcc w.heap.size 0 (by omega)
 have c1 := hcc w.heap.size 1 (by omega)
 have c2 := hcc w.heap.size 2 (by omega)
 have c3 := hcc w.heap.size 3 (by omega)
 simp at c0 c1 c2 c3
 have hlt : w.heap.size < w1.heap.size := by have h := hb.size; simp at h; omega
 have HLT := Lib.hid hlt
 clear hb hcc
 have HO0 := Lib.hid (owns_one w1 w1.heap.size ⟨#[80, 117, 116]⟩ (Nat.le_refl _))
 have HA0 := Lib.hid (show ∀ o, Below w1.heap.size w1 (w1.alloc o) from fun o => (Below.refl w1.heap.size w1).alloc (Nat.le_refl _) o)
 go_wp2_with (first | (at_builtin; go_loud (refine append_strs rfl _ _ rfl w1.heap.size _ [mPut] (key) _ (w1.heap.size + 1) (by rfl) (owns_alloc HO0.out _) rfl (cell_newS _ _ ⟨(key).toArray⟩ _ (by simp)) (by simp) ?_ ?_; (have h1 := (HA0.out (.cells #[.string ⟨#[80, 117, 116]⟩] 9)).size; (try simp at h1); (try simp); omega)); intro va1 xa1 hOa1 hga1; have Ba1 := Lib.hid (below_append ((HA0.out (.cells #[.string ⟨#[80, 117, 116]⟩] 9)).alloc (HA0.out (.cells #[.string ⟨#[80, 117, 116]⟩] 9)).size _) (owns_alloc HO0.out _) hga1 ((HA0.out (.cells #[.string ⟨#[80, 117, 116]⟩] 9)).alloc (HA0.out (.cells #[.string ⟨#[80, 117, 116]⟩] 9)).size _).size); have Oa1 := Lib.hid hOa1; clear hOa1 hga1; have da1_0 := (Ba1.out.cell (p := ⟨w.heap.size, 0, none⟩) HLT.out).trans c0; have da1_1 := (Ba1.out.cell (p := ⟨w.heap.size, 1, none⟩) HLT.out).trans c1; have da1_2 := (Ba1.out.cell (p := ⟨w.heap.size, 2, none⟩) HLT.out).trans c2; have da1_3 := (Ba1.out.cell (p := ⟨w.heap.size, 3, none⟩) HLT.out).trans c3) | (go_at_call 99; refine (HTK.out _).mono ?_; rintro e w8 ⟨rfl, rfl⟩) | (go_at_call 100; refine (HTV.out _).mono ?_; rintro e w8 ⟨rfl, rfl⟩) | (go_at_call 102; refine (HTT.out _).mono ?_; rintro e w8 ⟨rfl, rfl⟩))
 go_wp2_with (first | (go_at_call 99; refine (HTK.out _).mono ?_; rintro e w8 ⟨rfl, rfl⟩) | (go_at_call 100; refine (HTV.out _).mono ?_; rintro e w8 ⟨rfl, rfl⟩) | (go_at_call 102; refine (HTT.out _).mono ?_; rintro e w8 ⟨rfl, rfl⟩))
 refine (HFN.out _).mono ?_
 rintro e wf ⟨rfl, hbf⟩
 have Bf := Lib.hid (Ba1.out.trans (hbf.mono Ba1.out.size))
 have Of := Lib.hid (owns_below Oa1.out hbf (Nat.le_refl _))
 clear hbf
 have f0 := (Bf.out.cell (p := ⟨w.heap.size, 0, none⟩) HLT.out).trans c0
 have f1 := (Bf.out.cell (p := ⟨w.heap.size, 1, none⟩) HLT.out).trans c1
 have f2 := (Bf.out.cell (p := ⟨w.heap.size, 2, none⟩) HLT.out).trans c2
 have f3 := (Bf.out.cell (p := ⟨w.heap.size, 3, none⟩) HLT.out).trans c3
 go_wp2_with (first | (at_builtin; go_loud (refine append_strs rfl _ _ rfl w1.heap.size _ [mPut, key] (numL z) _ (wf.heap.size) (by rfl) (owns_alloc Of.out _) rfl (cell_newS _ _ ⟨(numL z).toArray⟩ _ (by simp)) (by simp) ?_ ?_; (have h1 := Bf.out.size; (try simp at h1); (try simp); omega)); intro va2 xa2 hOa2 hga2; have Ba2 := Lib.hid (below_append (Bf.out.alloc Bf.out.size _) (owns_alloc Of.out _) hga2 (Bf.out.alloc Bf.out.size _).size); have Oa2 := Lib.hid hOa2; clear hOa2 hga2; have da2_0 := (Ba2.out.cell (p := ⟨w.heap.size, 0, none⟩) HLT.out).trans c0; have da2_1 := (Ba2.out.cell (p := ⟨w.heap.size, 1, none⟩) HLT.out).trans c1; have da2_2 := (Ba2.out.cell (p := ⟨w.heap.size, 2, none⟩) HLT.out).trans c2; have da2_3 := (Ba2.out.cell (p := ⟨w.heap.size, 3, none⟩) HLT.out).trans c3) | (go_at_call 99; refine (HTK.out _).mono ?_; rintro e w8 ⟨rfl, rfl⟩) | (go_at_call 100; refine (HTV.out _).mono ?_; rintro e w8 ⟨rfl, rfl⟩) | (go_at_call 102; refine (HTT.out _).mono ?_; rintro e w8 ⟨rfl, rfl⟩))
 refine (implJoin_any _ [mPut, key, numL z] ⟨#[32]⟩ _ (owns_row Oa2.out (by simp)) (by rw [join3_len]; simp; omega) (by decide)).mono ?_
 rintro e w9 ⟨rfl, hb9⟩
 go_wp2_with fail
 go_ret
 exact ⟨ret_str (by rw [HF.out]; exact HW.out), HB.out.trans ((Ba2.out.trans (hb9.mono Ba2.out.size)).mono HB.out.size)⟩
set_option maxRecDepth 100000 in
set_option maxHeartbeats 1600000 in
theorem implFormatCall_Tell (key : List UInt8) (v : Int) (text : List UInt8) (w : World) (hk : key.length ≤ maxLen) (ht : text.length ≤ 1048576) (hc : callB ⟨mTell, key, v, text⟩ = true) :
  Calls Tryz.prog 56 #[.agg #[.string ⟨#[84, 101, 108, 108]⟩, .string ⟨key.toArray⟩, .int .i64 v, .string ⟨text.toArray⟩]] w fun e w' => e = .returned (.string ⟨(fmtCall ⟨mTell, key, v, text⟩).toArray⟩) ∧ Below w.heap.size w w' := by
 have HIC := Lib.hid (fun w0 => implIsCall_any ⟨mTell, key, v, text⟩ w0 hk)
 rw [hc] at HIC
 unfold vCall at HIC
 simp only at HIC
 obtain ⟨p1, p2, p3, p4, p5⟩ := callB_parts hc
 have HF := Lib.hid (fmtCall_yes hc)
 clear hc
 obtain rfl : key = [] := p2 rfl
 obtain rfl : v = 0 := p4 rfl
 obtain rfl : text = [] := p5 rfl
 have HW := Lib.hid (show joinL [mTell] [32] = joinL (wordsC ⟨mTell, [], 0, []⟩) [32] from rfl)
 have HTK := Lib.hid (show ∀ w0, Calls Tryz.prog 99 #[.string ⟨#[84, 101, 108, 108]⟩] w0 fun e w' => e = .returned (.bool false) ∧ w0 = w' from takesKey_b mTell _ rfl)
 have HTV := Lib.hid (show ∀ w0, Calls Tryz.prog 100 #[.string ⟨#[84, 101, 108, 108]⟩] w0 fun e w' => e = .returned (.bool false) ∧ w0 = w' from takesValue_b mTell _ rfl)
 have HTT := Lib.hid (show ∀ w0, Calls Tryz.prog 102 #[.string ⟨#[84, 101, 108, 108]⟩] w0 fun e w' => e = .returned (.bool false) ∧ w0 = w' from takesText_b mTell _ rfl)
 clear p1 p2 p3 p4 p5
 have HB0 := Lib.hid (show ∀ o, Below w.heap.size w (w.alloc o) from fun o => (Below.refl w.heap.size w).alloc (Nat.le_refl _) o)
 go_enter Tryz.func56, Tryz.ntmps56
 go_wp2_with fail
 refine (HIC.out _).mono ?_
 rintro e w1 ⟨rfl, hb⟩
 have HB := Lib.hid ((HB0.out _).trans (hb.mono (HB0.out _).size))
 obtain ⟨hcc, _⟩ := bcell hb
 simp at hcc
 have c0 := hcc w.heap.size 0 (by omega)
 have c1 := hcc w.heap.size 1 (by omega)
 have c2 := hcc w.heap.size 2 (by omega)
 have c3 := hcc w.heap.size 3 (by omega)
 simp at c0 c1 c2 c3
 have hlt : w.heap.size < w1.heap.size := by have h := hb.size; simp at h; omega
 have HLT := Lib.hid hlt
 clear hb hcc
 have HO0 := Lib.hid (owns_one w1 w1.heap.size ⟨#[84, 101, 108, 108]⟩ (Nat.le_refl _))
 have HA0 := Lib.hid (show ∀ o, Below w1.heap.size w1 (w1.alloc o) from fun o => (Below.refl w1.heap.size w1).alloc (Nat.le_refl _) o)
 go_wp2_with (first | (go_at_call 99; refine (HTK.out _).mono ?_; rintro e w8 ⟨rfl, rfl⟩) | (go_at_call 100; refine (HTV.out _).mono ?_; rintro e w8 ⟨rfl, rfl⟩) | (go_at_call 102; refine (HTT.out _).mono ?_; rintro e w8 ⟨rfl, rfl⟩))
 refine (implJoin_any _ [mTell] ⟨#[32]⟩ _ (owns_row HO0.out (by simp)) (by rw [joinL_one]; decide) (by decide)).mono ?_
 rintro e w9 ⟨rfl, hb9⟩
 go_wp2_with fail
 go_ret
 exact ⟨ret_str (by rw [HF.out]; exact HW.out), HB.out.trans (((HA0.out (.cells #[.string ⟨#[84, 101, 108, 108]⟩] 9)).trans (hb9.mono (HA0.out (.cells #[.string ⟨#[84, 101, 108, 108]⟩] 9)).size)).mono HB.out.size)⟩
set_option maxRecDepth 100000 in
set_option maxHeartbeats 1600000 in
theorem implFormatCall_Hear (key : List UInt8) (v : Int) (text : List UInt8) (w : World) (hk : key.length ≤ maxLen) (ht : text.length ≤ 1048576) (hc : callB ⟨mHear, key, v, text⟩ = true) :
  Calls Tryz.prog 56 #[.agg #[.string ⟨#[72, 101, 97, 114]⟩, .string ⟨key.toArray⟩, .int .i64 v, .string ⟨text.toArray⟩]] w fun e w' => e = .returned (.string ⟨(fmtCall ⟨mHear, key, v, text⟩).toArray⟩) ∧ Below w.heap.size w w' := by
 have HIC := Lib.hid (fun w0 => implIsCall_any ⟨mHear, key, v, text⟩ w0 hk)
 rw [hc] at HIC
 unfold vCall at HIC
 simp only at HIC
 obtain ⟨p1, p2, p3, p4, p5⟩ := callB_parts hc
 have HF := Lib.hid (fmtCall_yes hc)
 clear hc
 obtain rfl : key = [] := p2 rfl
 obtain ⟨z, hz, hz9⟩ := numB_nat (p3 rfl)
 simp only at hz
 subst hz
 have hl3 := numL_len hz9
 have HFN := Lib.hid (fun w0 => implFormat_any z w0 (by omega) (by omega))
 obtain rfl : text = [] := p5 rfl
 have HW := Lib.hid (show joinL [mHear, numL z] [32] = joinL (wordsC ⟨mHear, [], (z : Int), []⟩) [32] from rfl)
 have HTK := Lib.hid (show ∀ w0, Calls Tryz.prog 99 #[.string ⟨#[72, 101, 97, 114]⟩] w0 fun e w' => e = .returned (.bool false) ∧ w0 = w' from takesKey_b mHear _ rfl)
 have HTV := Lib.hid (show ∀ w0, Calls Tryz.prog 100 #[.string ⟨#[72, 101, 97, 114]⟩] w0 fun e w' => e = .returned (.bool true) ∧ w0 = w' from takesValue_b mHear _ rfl)
 have HTT := Lib.hid (show ∀ w0, Calls Tryz.prog 102 #[.string ⟨#[72, 101, 97, 114]⟩] w0 fun e w' => e = .returned (.bool false) ∧ w0 = w' from takesText_b mHear _ rfl)
 clear p1 p2 p3 p4 p5
 have HB0 := Lib.hid (show ∀ o, Below w.heap.size w (w.alloc o) from fun o => (Below.refl w.heap.size w).alloc (Nat.le_refl _) o)
 go_enter Tryz.func56, Tryz.ntmps56
 go_wp2_with fail
 refine (HIC.out _).mono ?_
 rintro e w1 ⟨rfl, hb⟩
 have HB := Lib.hid ((HB0.out _).trans (hb.mono (HB0.out _).size))
 obtain ⟨hcc, _⟩ := bcell hb
 simp at hcc
 have c0 := hcc w.heap.size 0 (by omega)
 have c1 := hcc w.heap.size 1 (by omega)
 have c2 := hcc w.heap.size 2 (by omega)
 have c3 := hcc w.heap.size 3 (by omega)
 simp at c0 c1 c2 c3
 have hlt : w.heap.size < w1.heap.size := by have h := hb.size; simp at h; omega
 have HLT := Lib.hid hlt
 clear hb hcc
 have HO0 := Lib.hid (owns_one w1 w1.heap.size ⟨#[72, 101, 97, 114]⟩ (Nat.le_refl _))
 have HA0 := Lib.hid (show ∀ o, Below w1.heap.size w1 (w1.alloc o) from fun o => (Below.refl w1.heap.size w1).alloc (Nat.le_refl _) o)
 go_wp2_with (first | (go_at_call 99; refine (HTK.out _).mono ?_; rintro e w8 ⟨rfl, rfl⟩) | (go_at_call 100; refine (HTV.out _).mono ?_; rintro e w8 ⟨rfl, rfl⟩) | (go_at_call 102; refine (HTT.out _).mono ?_; rintro e w8 ⟨rfl, rfl⟩))
 refine (HFN.out _).mono ?_
 rintro e wf ⟨rfl, hbf⟩
 have Bf := Lib.hid ((HA0.out (.cells #[.string ⟨#[72, 101, 97, 114]⟩] 9)).trans (hbf.mono (HA0.out (.cells #[.string ⟨#[72, 101, 97, 114]⟩] 9)).size))
 have Of := Lib.hid (owns_below HO0.out hbf (Nat.le_refl _))
 clear hbf
 have f0 := (Bf.out.cell (p := ⟨w.heap.size, 0, none⟩) HLT.out).trans c0
 have f1 := (Bf.out.cell (p := ⟨w.heap.size, 1, none⟩) HLT.out).trans c1
 have f2 := (Bf.out.cell (p := ⟨w.heap.size, 2, none⟩) HLT.out).trans c2
 have f3 := (Bf.out.cell (p := ⟨w.heap.size, 3, none⟩) HLT.out).trans c3
 go_wp2_with (first | (at_builtin; go_loud (refine append_strs rfl _ _ rfl w1.heap.size _ [mHear] (numL z) _ (wf.heap.size) (by rfl) (owns_alloc Of.out _) rfl (cell_newS _ _ ⟨(numL z).toArray⟩ _ (by simp)) (by simp) ?_ ?_; (have h1 := Bf.out.size; (try simp at h1); (try simp); omega)); intro va1 xa1 hOa1 hga1; have Ba1 := Lib.hid (below_append (Bf.out.alloc Bf.out.size _) (owns_alloc Of.out _) hga1 (Bf.out.alloc Bf.out.size _).size); have Oa1 := Lib.hid hOa1; clear hOa1 hga1; have da1_0 := (Ba1.out.cell (p := ⟨w.heap.size, 0, none⟩) HLT.out).trans c0; have da1_1 := (Ba1.out.cell (p := ⟨w.heap.size, 1, none⟩) HLT.out).trans c1; have da1_2 := (Ba1.out.cell (p := ⟨w.heap.size, 2, none⟩) HLT.out).trans c2; have da1_3 := (Ba1.out.cell (p := ⟨w.heap.size, 3, none⟩) HLT.out).trans c3) | (go_at_call 99; refine (HTK.out _).mono ?_; rintro e w8 ⟨rfl, rfl⟩) | (go_at_call 100; refine (HTV.out _).mono ?_; rintro e w8 ⟨rfl, rfl⟩) | (go_at_call 102; refine (HTT.out _).mono ?_; rintro e w8 ⟨rfl, rfl⟩))
 refine (implJoin_any _ [mHear, numL z] ⟨#[32]⟩ _ (owns_row Oa1.out (by simp)) (by rw [join2_len]; simp; omega) (by decide)).mono ?_
 rintro e w9 ⟨rfl, hb9⟩
 go_wp2_with fail
 go_ret
 exact ⟨ret_str (by rw [HF.out]; exact HW.out), HB.out.trans ((Ba1.out.trans (hb9.mono Ba1.out.size)).mono HB.out.size)⟩
set_option maxRecDepth 100000 in
set_option maxHeartbeats 1600000 in
theorem implFormatCall_Load (key : List UInt8) (v : Int) (text : List UInt8) (w : World) (hk : key.length ≤ maxLen) (ht : text.length ≤ 1048576) (hc : callB ⟨mLoad, key, v, text⟩ = true) :
  Calls Tryz.prog 56 #[.agg #[.string ⟨#[76, 111, 97, 100]⟩, .string ⟨key.toArray⟩, .int .i64 v, .string ⟨text.toArray⟩]] w fun e w' => e = .returned (.string ⟨(fmtCall ⟨mLoad, key, v, text⟩).toArray⟩) ∧ Below w.heap.size w w' := by
 have HIC := Lib.hid (fun w0 => implIsCall_any ⟨mLoad, key, v, text⟩ w0 hk)
 rw [hc] at HIC
 unfold vCall at HIC
 simp only at HIC
 obtain ⟨p1, p2, p3, p4, p5⟩ := callB_parts hc
 have HF := Lib.hid (fmtCall_yes hc)
 clear hc
 obtain rfl : key = [] := p2 rfl
 obtain rfl : v = 0 := p4 rfl
 have HW := Lib.hid (show joinL [mLoad, text] [32] = joinL (wordsC ⟨mLoad, [], 0, text⟩) [32] from rfl)
 have HTK := Lib.hid (show ∀ w0, Calls Tryz.prog 99 #[.string ⟨#[76, 111, 97, 100]⟩] w0 fun e w' => e = .returned (.bool false) ∧ w0 = w' from takesKey_b mLoad _ rfl)
 have HTV := Lib.hid (show ∀ w0, Calls Tryz.prog 100 #[.string ⟨#[76, 111, 97, 100]⟩] w0 fun e w' => e = .returned (.bool false) ∧ w0 = w' from takesValue_b mLoad _ rfl)
 have HTT := Lib.hid (show ∀ w0, Calls Tryz.prog 102 #[.string ⟨#[76, 111, 97, 100]⟩] w0 fun e w' => e = .returned (.bool true) ∧ w0 = w' from takesText_b mLoad _ rfl)
 clear p1 p2 p3 p4 p5
 have HB0 := Lib.hid (show ∀ o, Below w.heap.size w (w.alloc o) from fun o => (Below.refl w.heap.size w).alloc (Nat.le_refl _) o)
 go_enter Tryz.func56, Tryz.ntmps56
 go_wp2_with fail
 refine (HIC.out _).mono ?_
 rintro e w1 ⟨rfl, hb⟩
 have HB := Lib.hid ((HB0.out _).trans (hb.mono (HB0.out _).size))
 obtain ⟨hcc, _⟩ := bcell hb
 simp at hcc
 have c0 := hcc w.heap.size 0 (by omega)
 have c1 := hcc w.heap.size 1 (by omega)
 have c2 := hcc w.heap.size 2 (by omega)
 have c3 := hcc w.heap.size 3 (by omega)
 simp at c0 c1 c2 c3
 have hlt : w.heap.size < w1.heap.size := by have h := hb.size; simp at h; omega
 have HLT := Lib.hid hlt
 clear hb hcc
 have HO0 := Lib.hid (owns_one w1 w1.heap.size ⟨#[76, 111, 97, 100]⟩ (Nat.le_refl _))
 have HA0 := Lib.hid (show ∀ o, Below w1.heap.size w1 (w1.alloc o) from fun o => (Below.refl w1.heap.size w1).alloc (Nat.le_refl _) o)
 go_wp2_with (first | (at_builtin; go_loud (refine append_strs rfl _ _ rfl w1.heap.size _ [mLoad] (text) _ (w1.heap.size + 1) (by rfl) (owns_alloc HO0.out _) rfl (cell_newS _ _ ⟨(text).toArray⟩ _ (by simp)) (by simp) ?_ ?_; (have h1 := (HA0.out (.cells #[.string ⟨#[76, 111, 97, 100]⟩] 9)).size; (try simp at h1); (try simp); omega)); intro va1 xa1 hOa1 hga1; have Ba1 := Lib.hid (below_append ((HA0.out (.cells #[.string ⟨#[76, 111, 97, 100]⟩] 9)).alloc (HA0.out (.cells #[.string ⟨#[76, 111, 97, 100]⟩] 9)).size _) (owns_alloc HO0.out _) hga1 ((HA0.out (.cells #[.string ⟨#[76, 111, 97, 100]⟩] 9)).alloc (HA0.out (.cells #[.string ⟨#[76, 111, 97, 100]⟩] 9)).size _).size); have Oa1 := Lib.hid hOa1; clear hOa1 hga1; have da1_0 := (Ba1.out.cell (p := ⟨w.heap.size, 0, none⟩) HLT.out).trans c0; have da1_1 := (Ba1.out.cell (p := ⟨w.heap.size, 1, none⟩) HLT.out).trans c1; have da1_2 := (Ba1.out.cell (p := ⟨w.heap.size, 2, none⟩) HLT.out).trans c2; have da1_3 := (Ba1.out.cell (p := ⟨w.heap.size, 3, none⟩) HLT.out).trans c3) | (go_at_call 99; refine (HTK.out _).mono ?_; rintro e w8 ⟨rfl, rfl⟩) | (go_at_call 100; refine (HTV.out _).mono ?_; rintro e w8 ⟨rfl, rfl⟩) | (go_at_call 102; refine (HTT.out _).mono ?_; rintro e w8 ⟨rfl, rfl⟩))
 refine (implJoin_any _ [mLoad, text] ⟨#[32]⟩ _ (owns_row Oa1.out (by simp)) (by rw [join2_len]; simp; omega) (by decide)).mono ?_
 rintro e w9 ⟨rfl, hb9⟩
 go_wp2_with fail
 go_ret
 exact ⟨ret_str (by rw [HF.out]; exact HW.out), HB.out.trans ((Ba1.out.trans (hb9.mono Ba1.out.size)).mono HB.out.size)⟩
set_option maxRecDepth 100000 in
set_option maxHeartbeats 1600000 in
theorem implFormatCall_Save (key : List UInt8) (v : Int) (text : List UInt8) (w : World) (hk : key.length ≤ maxLen) (ht : text.length ≤ 1048576) (hc : callB ⟨mSave, key, v, text⟩ = true) :
  Calls Tryz.prog 56 #[.agg #[.string ⟨#[83, 97, 118, 101]⟩, .string ⟨key.toArray⟩, .int .i64 v, .string ⟨text.toArray⟩]] w fun e w' => e = .returned (.string ⟨(fmtCall ⟨mSave, key, v, text⟩).toArray⟩) ∧ Below w.heap.size w w' := by
 have HIC := Lib.hid (fun w0 => implIsCall_any ⟨mSave, key, v, text⟩ w0 hk)
 rw [hc] at HIC
 unfold vCall at HIC
 simp only at HIC
 obtain ⟨p1, p2, p3, p4, p5⟩ := callB_parts hc
 have HF := Lib.hid (fmtCall_yes hc)
 clear hc
 obtain rfl : key = [] := p2 rfl
 obtain rfl : v = 0 := p4 rfl
 obtain rfl : text = [] := p5 rfl
 have HW := Lib.hid (show joinL [mSave] [32] = joinL (wordsC ⟨mSave, [], 0, []⟩) [32] from rfl)
 have HTK := Lib.hid (show ∀ w0, Calls Tryz.prog 99 #[.string ⟨#[83, 97, 118, 101]⟩] w0 fun e w' => e = .returned (.bool false) ∧ w0 = w' from takesKey_b mSave _ rfl)
 have HTV := Lib.hid (show ∀ w0, Calls Tryz.prog 100 #[.string ⟨#[83, 97, 118, 101]⟩] w0 fun e w' => e = .returned (.bool false) ∧ w0 = w' from takesValue_b mSave _ rfl)
 have HTT := Lib.hid (show ∀ w0, Calls Tryz.prog 102 #[.string ⟨#[83, 97, 118, 101]⟩] w0 fun e w' => e = .returned (.bool false) ∧ w0 = w' from takesText_b mSave _ rfl)
 clear p1 p2 p3 p4 p5
 have HB0 := Lib.hid (show ∀ o, Below w.heap.size w (w.alloc o) from fun o => (Below.refl w.heap.size w).alloc (Nat.le_refl _) o)
 go_enter Tryz.func56, Tryz.ntmps56
 go_wp2_with fail
 refine (HIC.out _).mono ?_
 rintro e w1 ⟨rfl, hb⟩
 have HB := Lib.hid ((HB0.out _).trans (hb.mono (HB0.out _).size))
 obtain ⟨hcc, _⟩ := bcell hb
 simp at hcc
 have c0 := hcc w.heap.size 0 (by omega)
 have c1 := hcc w.heap.size 1 (by omega)
 have c2 := hcc w.heap.size 2 (by omega)
 have c3 := hcc w.heap.size 3 (by omega)
 simp at c0 c1 c2 c3
 have hlt : w.heap.size < w1.heap.size := by have h := hb.size; simp at h; omega
 have HLT := Lib.hid hlt
 clear hb hcc
 have HO0 := Lib.hid (owns_one w1 w1.heap.size ⟨#[83, 97, 118, 101]⟩ (Nat.le_refl _))
 have HA0 := Lib.hid (show ∀ o, Below w1.heap.size w1 (w1.alloc o) from fun o => (Below.refl w1.heap.size w1).alloc (Nat.le_refl _) o)
 go_wp2_with (first | (go_at_call 99; refine (HTK.out _).mono ?_; rintro e w8 ⟨rfl, rfl⟩) | (go_at_call 100; refine (HTV.out _).mono ?_; rintro e w8 ⟨rfl, rfl⟩) | (go_at_call 102; refine (HTT.out _).mono ?_; rintro e w8 ⟨rfl, rfl⟩))
 refine (implJoin_any _ [mSave] ⟨#[32]⟩ _ (owns_row HO0.out (by simp)) (by rw [joinL_one]; decide) (by decide)).mono ?_
 rintro e w9 ⟨rfl, hb9⟩
 go_wp2_with fail
 go_ret
 exact ⟨ret_str (by rw [HF.out]; exact HW.out), HB.out.trans (((HA0.out (.cells #[.string ⟨#[83, 97, 118, 101]⟩] 9)).trans (hb9.mono (HA0.out (.cells #[.string ⟨#[83, 97, 118, 101]⟩] 9)).size)).mono HB.out.size)⟩
set_option maxRecDepth 100000 in
set_option maxHeartbeats 1600000 in
theorem implFormatCall_Heal (key : List UInt8) (v : Int) (text : List UInt8) (w : World) (hk : key.length ≤ maxLen) (ht : text.length ≤ 1048576) (hc : callB ⟨mHeal, key, v, text⟩ = true) :
  Calls Tryz.prog 56 #[.agg #[.string ⟨#[72, 101, 97, 108]⟩, .string ⟨key.toArray⟩, .int .i64 v, .string ⟨text.toArray⟩]] w fun e w' => e = .returned (.string ⟨(fmtCall ⟨mHeal, key, v, text⟩).toArray⟩) ∧ Below w.heap.size w w' := by
 have HIC := Lib.hid (fun w0 => implIsCall_any ⟨mHeal, key, v, text⟩ w0 hk)
 rw [hc] at HIC
 unfold vCall at HIC
 simp only at HIC
 obtain ⟨p1, p2, p3, p4, p5⟩ := callB_parts hc
 have HF := Lib.hid (fmtCall_yes hc)
 clear hc
 obtain rfl : key = [] := p2 rfl
 obtain rfl : v = 0 := p4 rfl
 obtain rfl : text = [] := p5 rfl
 have HW := Lib.hid (show joinL [mHeal] [32] = joinL (wordsC ⟨mHeal, [], 0, []⟩) [32] from rfl)
 have HTK := Lib.hid (show ∀ w0, Calls Tryz.prog 99 #[.string ⟨#[72, 101, 97, 108]⟩] w0 fun e w' => e = .returned (.bool false) ∧ w0 = w' from takesKey_b mHeal _ rfl)
 have HTV := Lib.hid (show ∀ w0, Calls Tryz.prog 100 #[.string ⟨#[72, 101, 97, 108]⟩] w0 fun e w' => e = .returned (.bool false) ∧ w0 = w' from takesValue_b mHeal _ rfl)
 have HTT := Lib.hid (show ∀ w0, Calls Tryz.prog 102 #[.string ⟨#[72, 101, 97, 108]⟩] w0 fun e w' => e = .returned (.bool false) ∧ w0 = w' from takesText_b mHeal _ rfl)
 clear p1 p2 p3 p4 p5
 have HB0 := Lib.hid (show ∀ o, Below w.heap.size w (w.alloc o) from fun o => (Below.refl w.heap.size w).alloc (Nat.le_refl _) o)
 go_enter Tryz.func56, Tryz.ntmps56
 go_wp2_with fail
 refine (HIC.out _).mono ?_
 rintro e w1 ⟨rfl, hb⟩
 have HB := Lib.hid ((HB0.out _).trans (hb.mono (HB0.out _).size))
 obtain ⟨hcc, _⟩ := bcell hb
 simp at hcc
 have c0 := hcc w.heap.size 0 (by omega)
 have c1 := hcc w.heap.size 1 (by omega)
 have c2 := hcc w.heap.size 2 (by omega)
 have c3 := hcc w.heap.size 3 (by omega)
 simp at c0 c1 c2 c3
 have hlt : w.heap.size < w1.heap.size := by have h := hb.size; simp at h; omega
 have HLT := Lib.hid hlt
 clear hb hcc
 have HO0 := Lib.hid (owns_one w1 w1.heap.size ⟨#[72, 101, 97, 108]⟩ (Nat.le_refl _))
 have HA0 := Lib.hid (show ∀ o, Below w1.heap.size w1 (w1.alloc o) from fun o => (Below.refl w1.heap.size w1).alloc (Nat.le_refl _) o)
 go_wp2_with (first | (go_at_call 99; refine (HTK.out _).mono ?_; rintro e w8 ⟨rfl, rfl⟩) | (go_at_call 100; refine (HTV.out _).mono ?_; rintro e w8 ⟨rfl, rfl⟩) | (go_at_call 102; refine (HTT.out _).mono ?_; rintro e w8 ⟨rfl, rfl⟩))
 refine (implJoin_any _ [mHeal] ⟨#[32]⟩ _ (owns_row HO0.out (by simp)) (by rw [joinL_one]; decide) (by decide)).mono ?_
 rintro e w9 ⟨rfl, hb9⟩
 go_wp2_with fail
 go_ret
 exact ⟨ret_str (by rw [HF.out]; exact HW.out), HB.out.trans (((HA0.out (.cells #[.string ⟨#[72, 101, 97, 108]⟩] 9)).trans (hb9.mono (HA0.out (.cells #[.string ⟨#[72, 101, 97, 108]⟩] 9)).size)).mono HB.out.size)⟩
set_option maxHeartbeats 1600000 in
theorem implFormatCall_any (d : CallD) (w : World) (hk : d.fKey.length ≤ maxLen) (ht : d.fText.length ≤ 1048576) :
  Calls Tryz.prog 56 #[vCall d] w fun e w' => e = .returned (.string ⟨(fmtCall d).toArray⟩) ∧ Below w.heap.size w w' := by
 cases hc : callB d with
 | false =>
  have HF := Lib.hid (fmtCall_no hc)
  have HIC := Lib.hid (fun w0 => implIsCall_any d w0 hk)
  rw [hc] at HIC
  clear hc
  obtain ⟨m, key, v, text⟩ := d
  unfold vCall at *
  simp only at *
  have HB0 := Lib.hid (show ∀ o, Below w.heap.size w (w.alloc o) from fun o => (Below.refl w.heap.size w).alloc (Nat.le_refl _) o)
  go_enter Tryz.func56, Tryz.ntmps56
  go_wp2_with fail
  refine (HIC.out _).mono ?_
  rintro e w1 ⟨rfl, hb⟩
  have HB := Lib.hid ((HB0.out _).trans (hb.mono (HB0.out _).size))
  clear hb
  go_wp2_with fail
  go_ret
  exact ⟨ret_str (by rw [HF.out]), HB.out⟩
 | true =>
  obtain ⟨m, key, v, text⟩ := d
  rcases meth_cases m with rfl | rfl | rfl | rfl | rfl | rfl | rfl | rfl | rfl | ⟨hw, _⟩
  ·exact implFormatCall_Start key v text w hk ht hc
  ·exact implFormatCall_Stop key v text w hk ht hc
  ·exact implFormatCall_Get key v text w hk ht hc
  ·exact implFormatCall_Put key v text w hk ht hc
  ·exact implFormatCall_Tell key v text w hk ht hc
  ·exact implFormatCall_Hear key v text w hk ht hc
  ·exact implFormatCall_Load key v text w hk ht hc
  ·exact implFormatCall_Save key v text w hk ht hc
  ·exact implFormatCall_Heal key v text w hk ht hc
  ·exfalso; unfold callB at hc; simp only at hc; rw [hw] at hc; simp at hc
end Go.Proofs.YteeopjcbpngofaaGreat
namespace Go.Proofs.YteeopjcbpngofaaGreat
set_option linter.unusedVariables false
set_option linter.unusedSimpArgs false
open Go.RowKit
theorem evWord1_any (w : World) : Calls Tryz.prog 55 #[.int .i64 1] w fun e w' => e = .returned (.string ⟨#[115, 116, 97, 114, 116]⟩) ∧ Below w.heap.size w w' := by
 go_enter Tryz.func55, Tryz.ntmps55
 go_wp2_with fail
 go_ret
 exact ⟨rfl, Below.refl _ _⟩
theorem evWord2_any (w : World) : Calls Tryz.prog 55 #[.int .i64 2] w fun e w' => e = .returned (.string ⟨#[115, 116, 111, 112]⟩) ∧ Below w.heap.size w w' := by
 go_enter Tryz.func55, Tryz.ntmps55
 go_wp2_with fail
 go_ret
 exact ⟨rfl, Below.refl _ _⟩
theorem evWord3_any (w : World) : Calls Tryz.prog 55 #[.int .i64 3] w fun e w' => e = .returned (.string ⟨#[99, 97, 108, 108]⟩) ∧ Below w.heap.size w w' := by
 go_enter Tryz.func55, Tryz.ntmps55
 go_wp2_with fail
 go_ret
 exact ⟨rfl, Below.refl _ _⟩
theorem evWord4_any (w : World) : Calls Tryz.prog 55 #[.int .i64 4] w fun e w' => e = .returned (.string ⟨#[104, 101, 97, 108]⟩) ∧ Below w.heap.size w w' := by
 go_enter Tryz.func55, Tryz.ntmps55
 go_wp2_with fail
 go_ret
 exact ⟨rfl, Below.refl _ _⟩
theorem evWord5_any (w : World) : Calls Tryz.prog 55 #[.int .i64 5] w fun e w' => e = .returned (.string ⟨#[115, 119, 97, 112]⟩) ∧ Below w.heap.size w w' := by
 go_enter Tryz.func55, Tryz.ntmps55
 go_wp2_with fail
 go_ret
 exact ⟨rfl, Below.refl _ _⟩
theorem implIsEv (k : Int) (a m ky : List UInt8) (n : Int) (t : List UInt8) (l : List (List UInt8)) (v6 : Value) (w : World) (h6 : SliceAt rStr 1 0 w v6 l) (hn : a.length ≤ maxLen) (hk : ky.length ≤ maxLen) (hr : ∀ s ∈ l, s.length ≤ 1048576) {b : Bool} (he : evB ⟨k, a, ⟨m, ky, n, t⟩, l⟩ = b) (W : World) (hb : Below w.heap.size w W) :
  Calls Tryz.prog 54 #[.agg #[.int .i64 k, .string ⟨a.toArray⟩, .string ⟨m.toArray⟩, .string ⟨ky.toArray⟩, .int .i64 n, .string ⟨t.toArray⟩, v6]] W fun e w' => e = .returned (.bool b) ∧ Below W.heap.size W w' := by
 subst he
 exact implIsEvent_any _ ⟨k, a, ⟨m, ky, n, t⟩, l⟩ W ⟨_, rfl, ⟨_, rfl, h6.below good_str hb (Nat.le_refl _)⟩⟩ hn hk hr
set_option maxRecDepth 100000 in
set_option maxHeartbeats 3200000 in
theorem implFev0 (k : Int) (a : List UInt8) (m ky : List UInt8) (n : Int) (t : List UInt8) (l : List (List UInt8)) (v6 : Value) (w : World) (h6 : SliceAt rStr 1 0 w v6 l) (hz : zEvent ⟨k, a, ⟨m, ky, n, t⟩, l⟩ ≤ 1048576) (hn : a.length ≤ maxLen) (hk : ky.length ≤ maxLen) (hr : ∀ s ∈ l, s.length ≤ 1048576) (he : evB ⟨k, a, ⟨m, ky, n, t⟩, l⟩ = false) :
  Calls Tryz.prog 14 #[.agg #[.int .i64 k, .string ⟨a.toArray⟩, .string ⟨m.toArray⟩, .string ⟨ky.toArray⟩, .int .i64 n, .string ⟨t.toArray⟩, v6]] w fun e w' => e = .returned (.string ⟨(fmtEv ⟨k, a, ⟨m, ky, n, t⟩, l⟩).toArray⟩) ∧ Below w.heap.size w w' := by
 obtain ⟨ra, rc, rfl, hl⟩ := sliceAt_len h6
 have HIE := Lib.hid (implIsEv _ a m ky n t l _ w h6 hn hk hr he)
 have BS := Lib.hid (bx_start1 w [.int .i64 k, .string ⟨a.toArray⟩, .string ⟨m.toArray⟩, .string ⟨ky.toArray⟩, .int .i64 n, .string ⟨t.toArray⟩, .slice ra l.length rc] 31)
 have BX := Lib.hid BS.out.1
 have HB := Lib.hid BS.out.2
 rw [fmtEv_no he]
 clear h6 hz hn hk hr he BS hl
 go_enter Tryz.func14, Tryz.ntmps14
 have x0 := BX.out.cell 0 (by simp)
 have x1 := BX.out.cell 1 (by simp)
 have x2 := BX.out.cell 2 (by simp)
 have x3 := BX.out.cell 3 (by simp)
 have x4 := BX.out.cell 4 (by simp)
 have x5 := BX.out.cell 5 (by simp)
 have x6 := BX.out.cell 6 (by simp)
 simp only [List.getElem_cons_zero, List.getElem_cons_succ] at x0 x1 x2 x3 x4 x5 x6
 go_wp2_with fail
 refine (HIE.out _ HB.out).mono ?_
 rintro e w1 ⟨rfl, hb⟩
 have HB1 := Lib.hid (belS HB.out hb)
 clear hb
 go_wp2_with fail
 go_ret
 exact ⟨rfl, HB1.out⟩
set_option maxRecDepth 100000 in
set_option maxHeartbeats 3200000 in
theorem implFevK (k : Int) (kw : List UInt8) (k3 : (k == 3) = false) (k5 : (k == 5) = false) (HEW : ∀ W, Calls Tryz.prog 55 #[.int .i64 k] W fun e w' => e = .returned (.string ⟨kw.toArray⟩) ∧ Below W.heap.size W w') (a : List UInt8) (m ky : List UInt8) (n : Int) (t : List UInt8) (l : List (List UInt8)) (v6 : Value) (w : World) (h6 : SliceAt rStr 1 0 w v6 l) (hz : zEvent ⟨k, a, ⟨m, ky, n, t⟩, l⟩ ≤ 1048576) (hn : a.length ≤ maxLen) (hk : ky.length ≤ maxLen) (hr : ∀ s ∈ l, s.length ≤ 1048576) (he : evB ⟨k, a, ⟨m, ky, n, t⟩, l⟩ = true) (hf : fmtEv ⟨k, a, ⟨m, ky, n, t⟩, l⟩ = joinL [kw, a] [32]) :
  Calls Tryz.prog 14 #[.agg #[.int .i64 k, .string ⟨a.toArray⟩, .string ⟨m.toArray⟩, .string ⟨ky.toArray⟩, .int .i64 n, .string ⟨t.toArray⟩, v6]] w fun e w' => e = .returned (.string ⟨(fmtEv ⟨k, a, ⟨m, ky, n, t⟩, l⟩).toArray⟩) ∧ Below w.heap.size w w' := by
 obtain ⟨ra, rc, rfl, hl⟩ := sliceAt_len h6
 have HIE := Lib.hid (implIsEv _ a m ky n t l _ w h6 hn hk hr he)
 have BS := Lib.hid (bx_start1 w [.int .i64 k, .string ⟨a.toArray⟩, .string ⟨m.toArray⟩, .string ⟨ky.toArray⟩, .int .i64 n, .string ⟨t.toArray⟩, .slice ra l.length rc] 31)
 have BX := Lib.hid BS.out.1
 have HB := Lib.hid BS.out.2
 have HJL := Lib.hid (evJoin_len hz)
 have HR := Lib.hid hf
 have HLL := Lib.hid (show (joinL ([kw, a]) [32]).length ≤ 8388608 by rw [← HR.out, fmtEv_yes he]; exact HJL.out)
 generalize fmtEv ⟨k, a, ⟨m, ky, n, t⟩, l⟩ = res at *
 have HJ := Lib.hid (fun v W (h : RowAt W v (([kw, a]).map strV)) => (show Calls Tryz.prog 57 #[v, .string ⟨#[32]⟩] W fun e w' => e = .returned (.string ⟨res.toArray⟩) ∧ Below W.heap.size W w' from by
  rw [HR.out]
  exact implJoin_any v ([kw, a]) ⟨#[32]⟩ W h (Nat.le_trans HLL.out (by decide)) (by decide)))
 clear hf h6 hz hn hk hr he BS HR HLL HJL hl
 go_enter Tryz.func14, Tryz.ntmps14
 have x0 := BX.out.cell 0 (by simp)
 have x1 := BX.out.cell 1 (by simp)
 have x2 := BX.out.cell 2 (by simp)
 have x3 := BX.out.cell 3 (by simp)
 have x4 := BX.out.cell 4 (by simp)
 have x5 := BX.out.cell 5 (by simp)
 have x6 := BX.out.cell 6 (by simp)
 simp only [List.getElem_cons_zero, List.getElem_cons_succ] at x0 x1 x2 x3 x4 x5 x6
 go_wp2_with fail
 refine (HIE.out _ HB.out).mono ?_
 rintro e w1 ⟨rfl, hb⟩
 have HB1 := Lib.hid (belS HB.out hb)
 have BX1 := Lib.hid (BX.out.below hb)
 have HS := Lib.hid (show w.heap.size < w1.heap.size by have := hb.size; simp at this; omega)
 clear hb x0 x1 x2 x3 x4 x5 x6 BX
 have x0 := BX1.out.cell 0 (by simp)
 have x1 := BX1.out.cell 1 (by simp)
 have x2 := BX1.out.cell 2 (by simp)
 have x3 := BX1.out.cell 3 (by simp)
 have x4 := BX1.out.cell 4 (by simp)
 have x5 := BX1.out.cell 5 (by simp)
 have x6 := BX1.out.cell 6 (by simp)
 simp only [List.getElem_cons_zero, List.getElem_cons_succ] at x0 x1 x2 x3 x4 x5 x6
 go_wp2_with fail
 go_region_held3 (fun w' => w'.cell? ⟨w.heap.size, 0, none⟩ = some (.int .i64 k) ∧ w'.cell? ⟨w.heap.size, 1, none⟩ = some (.string ⟨a.toArray⟩))
  (first
   | go_keep
   |(exact ⟨x0, x1⟩)
   |(refine ⟨(hb1.cell (p := ⟨w.heap.size, 0, none⟩) (by have := HS.out; simp; omega)).trans x0, (hb1.cell (p := ⟨w.heap.size, 1, none⟩) (by have := HS.out; simp; omega)).trans x1⟩))
  (first
   |(go_at_call 55; refine (HEW _).mono ?_; rintro e w2 ⟨rfl, hb1⟩))
 have HB2 := Lib.hid ((bel_drV HB1.out).trans (hb1.mono HB1.out.size))
 have BX2 := Lib.hid ((BX1.out.below (bel_drV (Below.refl _ w1))).below hb1)
 have HB3 := Lib.hid (HB2.out.alloc HB2.out.size (.cells #[.string ⟨kw.toArray⟩, .string ⟨a.toArray⟩] 9))
 have BX3 := Lib.hid (BX2.out.alloc (.cells #[.string ⟨kw.toArray⟩, .string ⟨a.toArray⟩] 9))
 have HO3 := Lib.hid (owns_twoV w2 w.heap.size kw a HB2.out.size)
 rename_i hheld
 clear hb1 hheld x0 x1 x2 x3 x4 x5 x6 HB BX1 HB1 HIE
 have x0 := BX3.out.cell 0 (by simp)
 have x1 := BX3.out.cell 1 (by simp)
 have x2 := BX3.out.cell 2 (by simp)
 have x3 := BX3.out.cell 3 (by simp)
 have x4 := BX3.out.cell 4 (by simp)
 have x5 := BX3.out.cell 5 (by simp)
 have x6 := BX3.out.cell 6 (by simp)
 simp only [List.getElem_cons_zero, List.getElem_cons_succ] at x0 x1 x2 x3 x4 x5 x6
 try simp at x0 x1 x2 x3 x4 x5 x6
 have HOR := Lib.hid (owns_row HO3.out (by first | decide | (simp; try omega)))
 go_wp2_with fail
 refine (HJ.out _ _ HOR.out).mono ?_
 rintro e w9 ⟨rfl, hb⟩
 have HB9 := Lib.hid (belS HB3.out hb)
 clear hb
 go_wp2_with fail
 go_ret
 exact ⟨rfl, HB9.out⟩
set_option maxRecDepth 100000 in
set_option maxHeartbeats 3200000 in
theorem implFev1  (a : List UInt8) (m ky : List UInt8) (n : Int) (t : List UInt8) (l : List (List UInt8)) (v6 : Value) (w : World) (h6 : SliceAt rStr 1 0 w v6 l) (hz : zEvent ⟨1, a, ⟨m, ky, n, t⟩, l⟩ ≤ 1048576) (hn : a.length ≤ maxLen) (hk : ky.length ≤ maxLen) (hr : ∀ s ∈ l, s.length ≤ 1048576) (he : evB ⟨1, a, ⟨m, ky, n, t⟩, l⟩ = true) :
  Calls Tryz.prog 14 #[.agg #[.int .i64 1, .string ⟨a.toArray⟩, .string ⟨m.toArray⟩, .string ⟨ky.toArray⟩, .int .i64 n, .string ⟨t.toArray⟩, v6]] w fun e w' => e = .returned (.string ⟨(fmtEv ⟨1, a, ⟨m, ky, n, t⟩, l⟩).toArray⟩) ∧ Below w.heap.size w w' := by
 exact implFevK 1 [115, 116, 97, 114, 116] rfl rfl evWord1_any a m ky n t l v6 w h6 hz hn hk hr he ((fmtEv_yes he).trans (by simp [kWord, evTail]))
set_option maxRecDepth 100000 in
set_option maxHeartbeats 3200000 in
theorem implFev2  (a : List UInt8) (m ky : List UInt8) (n : Int) (t : List UInt8) (l : List (List UInt8)) (v6 : Value) (w : World) (h6 : SliceAt rStr 1 0 w v6 l) (hz : zEvent ⟨2, a, ⟨m, ky, n, t⟩, l⟩ ≤ 1048576) (hn : a.length ≤ maxLen) (hk : ky.length ≤ maxLen) (hr : ∀ s ∈ l, s.length ≤ 1048576) (he : evB ⟨2, a, ⟨m, ky, n, t⟩, l⟩ = true) :
  Calls Tryz.prog 14 #[.agg #[.int .i64 2, .string ⟨a.toArray⟩, .string ⟨m.toArray⟩, .string ⟨ky.toArray⟩, .int .i64 n, .string ⟨t.toArray⟩, v6]] w fun e w' => e = .returned (.string ⟨(fmtEv ⟨2, a, ⟨m, ky, n, t⟩, l⟩).toArray⟩) ∧ Below w.heap.size w w' := by
 exact implFevK 2 [115, 116, 111, 112] rfl rfl evWord2_any a m ky n t l v6 w h6 hz hn hk hr he ((fmtEv_yes he).trans (by simp [kWord, evTail]))
set_option maxRecDepth 100000 in
set_option maxHeartbeats 3200000 in
theorem implFev3  (a : List UInt8) (m ky : List UInt8) (n : Int) (t : List UInt8) (l : List (List UInt8)) (v6 : Value) (w : World) (h6 : SliceAt rStr 1 0 w v6 l) (hz : zEvent ⟨3, a, ⟨m, ky, n, t⟩, l⟩ ≤ 1048576) (hn : a.length ≤ maxLen) (hk : ky.length ≤ maxLen) (hr : ∀ s ∈ l, s.length ≤ 1048576) (he : evB ⟨3, a, ⟨m, ky, n, t⟩, l⟩ = true) :
  Calls Tryz.prog 14 #[.agg #[.int .i64 3, .string ⟨a.toArray⟩, .string ⟨m.toArray⟩, .string ⟨ky.toArray⟩, .int .i64 n, .string ⟨t.toArray⟩, v6]] w fun e w' => e = .returned (.string ⟨(fmtEv ⟨3, a, ⟨m, ky, n, t⟩, l⟩).toArray⟩) ∧ Below w.heap.size w w' := by
 obtain ⟨ra, rc, rfl, hl⟩ := sliceAt_len h6
 have HIE := Lib.hid (implIsEv _ a m ky n t l _ w h6 hn hk hr he)
 have BS := Lib.hid (bx_start1 w [.int .i64 3, .string ⟨a.toArray⟩, .string ⟨m.toArray⟩, .string ⟨ky.toArray⟩, .int .i64 n, .string ⟨t.toArray⟩, .slice ra l.length rc] 31)
 have BX := Lib.hid BS.out.1
 have HB := Lib.hid BS.out.2
 have HJL := Lib.hid (evJoin_len hz)
 have HR := Lib.hid (show fmtEv ⟨3, a, ⟨m, ky, n, t⟩, l⟩ = joinL ([[99, 97, 108, 108], a] ++ [fmtCall ⟨m, ky, n, t⟩]) [32] from (fmtEv_yes he).trans (by simp [kWord, evTail]))
 have HLL := Lib.hid (show (joinL ([[99, 97, 108, 108], a] ++ [fmtCall ⟨m, ky, n, t⟩]) [32]).length ≤ 8388608 by rw [← HR.out, fmtEv_yes he]; exact evJoin_len hz)
 have HFC := Lib.hid (fun W => implFormatCall_any ⟨m, ky, n, t⟩ W hk (by unfold zEvent zCall at hz; simp only at hz ⊢; omega))
 simp only [vCall] at HFC
 generalize fmtEv ⟨3, a, ⟨m, ky, n, t⟩, l⟩ = res at *
 generalize fmtCall ⟨m, ky, n, t⟩ = fc at *
 have HJ := Lib.hid (fun v W (h : RowAt W v (([[99, 97, 108, 108], a] ++ [fc]).map strV)) => (show Calls Tryz.prog 57 #[v, .string ⟨#[32]⟩] W fun e w' => e = .returned (.string ⟨res.toArray⟩) ∧ Below W.heap.size W w' from by
  rw [HR.out]
  exact implJoin_any v ([[99, 97, 108, 108], a] ++ [fc]) ⟨#[32]⟩ W h (Nat.le_trans HLL.out (by decide)) (by decide)))
 clear h6 hz hn hk hr he BS HR HLL HJL hl
 go_enter Tryz.func14, Tryz.ntmps14
 have x0 := BX.out.cell 0 (by simp)
 have x1 := BX.out.cell 1 (by simp)
 have x2 := BX.out.cell 2 (by simp)
 have x3 := BX.out.cell 3 (by simp)
 have x4 := BX.out.cell 4 (by simp)
 have x5 := BX.out.cell 5 (by simp)
 have x6 := BX.out.cell 6 (by simp)
 simp only [List.getElem_cons_zero, List.getElem_cons_succ] at x0 x1 x2 x3 x4 x5 x6
 go_wp2_with fail
 refine (HIE.out _ HB.out).mono ?_
 rintro e w1 ⟨rfl, hb⟩
 have HB1 := Lib.hid (belS HB.out hb)
 have BX1 := Lib.hid (BX.out.below hb)
 have HS := Lib.hid (show w.heap.size < w1.heap.size by have := hb.size; simp at this; omega)
 clear hb x0 x1 x2 x3 x4 x5 x6 BX
 have x0 := BX1.out.cell 0 (by simp)
 have x1 := BX1.out.cell 1 (by simp)
 have x2 := BX1.out.cell 2 (by simp)
 have x3 := BX1.out.cell 3 (by simp)
 have x4 := BX1.out.cell 4 (by simp)
 have x5 := BX1.out.cell 5 (by simp)
 have x6 := BX1.out.cell 6 (by simp)
 simp only [List.getElem_cons_zero, List.getElem_cons_succ] at x0 x1 x2 x3 x4 x5 x6
 go_wp2_with fail
 go_region_held3 (fun w' => w'.cell? ⟨w.heap.size, 0, none⟩ = some (.int .i64 3) ∧ w'.cell? ⟨w.heap.size, 1, none⟩ = some (.string ⟨a.toArray⟩))
  (first
   | go_keep
   |(exact ⟨x0, x1⟩)
   |(refine ⟨(hb1.cell (p := ⟨w.heap.size, 0, none⟩) (by have := HS.out; simp; omega)).trans x0, (hb1.cell (p := ⟨w.heap.size, 1, none⟩) (by have := HS.out; simp; omega)).trans x1⟩))
  (first
   |(go_at_call 55; refine (evWord3_any _).mono ?_; rintro e w2 ⟨rfl, hb1⟩))
 have HB2 := Lib.hid ((bel_drV HB1.out).trans (hb1.mono HB1.out.size))
 have BX2 := Lib.hid ((BX1.out.below (bel_drV (Below.refl _ w1))).below hb1)
 have HB3 := Lib.hid (HB2.out.alloc HB2.out.size (.cells #[.string ⟨#[99, 97, 108, 108]⟩, .string ⟨a.toArray⟩] 9))
 have BX3 := Lib.hid (BX2.out.alloc (.cells #[.string ⟨#[99, 97, 108, 108]⟩, .string ⟨a.toArray⟩] 9))
 have HO3 := Lib.hid (owns_twoV w2 w.heap.size [99, 97, 108, 108] a HB2.out.size)
 rename_i hheld
 clear hb1 hheld x0 x1 x2 x3 x4 x5 x6 HB BX1 HB1 HIE
 have x0 := BX3.out.cell 0 (by simp)
 have x1 := BX3.out.cell 1 (by simp)
 have x2 := BX3.out.cell 2 (by simp)
 have x3 := BX3.out.cell 3 (by simp)
 have x4 := BX3.out.cell 4 (by simp)
 have x5 := BX3.out.cell 5 (by simp)
 have x6 := BX3.out.cell 6 (by simp)
 simp only [List.getElem_cons_zero, List.getElem_cons_succ] at x0 x1 x2 x3 x4 x5 x6
 try simp at x0 x1 x2 x3 x4 x5 x6
 go_wp2_with fail
 refine (HFC.out _).mono ?_
 rintro e w4 ⟨rfl, hb⟩
 have HB4 := Lib.hid (belS HB3.out hb)
 have HO4 := Lib.hid (owns_below HO3.out hb (Nat.le_refl _))
 clear hb x0 x1 x2 x3 x4 x5 x6
 go_wp2_with (at_builtin; (refine append_strs rfl _ _ rfl w.heap.size _ [[99, 97, 108, 108], a] fc _ w4.heap.size (by rfl) (owns_alloc HO4.out _) rfl (cell_new _ _ _) (by simp) (by have := HB4.out.size; simp; omega) ?_; intro v' w5 hO1 hg1; have HO5 := Lib.hid hO1; have HG5 := Lib.hid hg1; clear hO1 hg1))
 have HB5 := Lib.hid (below_append (HB4.out.alloc HB4.out.size _) (owns_alloc HO4.out _) HG5.out (by have := HB4.out.size; simp; omega))
 have HOR := Lib.hid (owns_row HO5.out (by first | decide | (simp; try omega)))
 refine (HJ.out _ _ HOR.out).mono ?_
 rintro e w9 ⟨rfl, hb⟩
 have HB9 := Lib.hid (belS HB5.out hb)
 clear hb
 go_wp2_with fail
 go_ret
 exact ⟨rfl, HB9.out⟩
set_option maxRecDepth 100000 in
set_option maxHeartbeats 3200000 in
theorem implFev4  (a : List UInt8) (m ky : List UInt8) (n : Int) (t : List UInt8) (l : List (List UInt8)) (v6 : Value) (w : World) (h6 : SliceAt rStr 1 0 w v6 l) (hz : zEvent ⟨4, a, ⟨m, ky, n, t⟩, l⟩ ≤ 1048576) (hn : a.length ≤ maxLen) (hk : ky.length ≤ maxLen) (hr : ∀ s ∈ l, s.length ≤ 1048576) (he : evB ⟨4, a, ⟨m, ky, n, t⟩, l⟩ = true) :
  Calls Tryz.prog 14 #[.agg #[.int .i64 4, .string ⟨a.toArray⟩, .string ⟨m.toArray⟩, .string ⟨ky.toArray⟩, .int .i64 n, .string ⟨t.toArray⟩, v6]] w fun e w' => e = .returned (.string ⟨(fmtEv ⟨4, a, ⟨m, ky, n, t⟩, l⟩).toArray⟩) ∧ Below w.heap.size w w' := by
 exact implFevK 4 [104, 101, 97, 108] rfl rfl evWord4_any a m ky n t l v6 w h6 hz hn hk hr he ((fmtEv_yes he).trans (by simp [kWord, evTail]))
set_option maxRecDepth 100000 in
set_option maxHeartbeats 3200000 in
theorem implFev5  (a : List UInt8) (m ky : List UInt8) (n : Int) (t : List UInt8) (l : List (List UInt8)) (v6 : Value) (w : World) (h6 : SliceAt rStr 1 0 w v6 l) (hz : zEvent ⟨5, a, ⟨m, ky, n, t⟩, l⟩ ≤ 1048576) (hn : a.length ≤ maxLen) (hk : ky.length ≤ maxLen) (hr : ∀ s ∈ l, s.length ≤ 1048576) (he : evB ⟨5, a, ⟨m, ky, n, t⟩, l⟩ = true) :
  Calls Tryz.prog 14 #[.agg #[.int .i64 5, .string ⟨a.toArray⟩, .string ⟨m.toArray⟩, .string ⟨ky.toArray⟩, .int .i64 n, .string ⟨t.toArray⟩, v6]] w fun e w' => e = .returned (.string ⟨(fmtEv ⟨5, a, ⟨m, ky, n, t⟩, l⟩).toArray⟩) ∧ Below w.heap.size w w' := by
 obtain ⟨ra, rc, rfl, hl⟩ := sliceAt_len h6
 have HIE := Lib.hid (implIsEv _ a m ky n t l _ w h6 hn hk hr he)
 have BS := Lib.hid (bx_start1 w [.int .i64 5, .string ⟨a.toArray⟩, .string ⟨m.toArray⟩, .string ⟨ky.toArray⟩, .int .i64 n, .string ⟨t.toArray⟩, .slice ra l.length rc] 31)
 have BX := Lib.hid BS.out.1
 have HB := Lib.hid BS.out.2
 have HJL := Lib.hid (evJoin_len hz)
 have HR := Lib.hid (show fmtEv ⟨5, a, ⟨m, ky, n, t⟩, l⟩ = joinL ([[115, 119, 97, 112], a] ++ l) [32] from (fmtEv_yes he).trans (by simp [kWord, evTail]))
 have HLL := Lib.hid (show (joinL ([[115, 119, 97, 112], a] ++ l) [32]).length ≤ 8388608 by rw [← HR.out, fmtEv_yes he]; exact evJoin_len hz)
 have HLN := Lib.hid (show l.length ≤ 1048576 by unfold zEvent at hz; simp only at hz; omega)
 have H6 := Lib.hid h6
 generalize fmtEv ⟨5, a, ⟨m, ky, n, t⟩, l⟩ = res at *
 have HJ := Lib.hid (fun v W (h : RowAt W v (([[115, 119, 97, 112], a] ++ l).map strV)) => (show Calls Tryz.prog 57 #[v, .string ⟨#[32]⟩] W fun e w' => e = .returned (.string ⟨res.toArray⟩) ∧ Below W.heap.size W w' from by
  rw [HR.out]
  exact implJoin_any v ([[115, 119, 97, 112], a] ++ l) ⟨#[32]⟩ W h (Nat.le_trans HLL.out (by decide)) (by decide)))
 clear h6 hz hn hk hr he BS HR HLL HJL hl
 go_enter Tryz.func14, Tryz.ntmps14
 have x0 := BX.out.cell 0 (by simp)
 have x1 := BX.out.cell 1 (by simp)
 have x2 := BX.out.cell 2 (by simp)
 have x3 := BX.out.cell 3 (by simp)
 have x4 := BX.out.cell 4 (by simp)
 have x5 := BX.out.cell 5 (by simp)
 have x6 := BX.out.cell 6 (by simp)
 simp only [List.getElem_cons_zero, List.getElem_cons_succ] at x0 x1 x2 x3 x4 x5 x6
 go_wp2_with fail
 refine (HIE.out _ HB.out).mono ?_
 rintro e w1 ⟨rfl, hb⟩
 have HB1 := Lib.hid (belS HB.out hb)
 have BX1 := Lib.hid (BX.out.below hb)
 have HS := Lib.hid (show w.heap.size < w1.heap.size by have := hb.size; simp at this; omega)
 clear hb x0 x1 x2 x3 x4 x5 x6 BX
 have x0 := BX1.out.cell 0 (by simp)
 have x1 := BX1.out.cell 1 (by simp)
 have x2 := BX1.out.cell 2 (by simp)
 have x3 := BX1.out.cell 3 (by simp)
 have x4 := BX1.out.cell 4 (by simp)
 have x5 := BX1.out.cell 5 (by simp)
 have x6 := BX1.out.cell 6 (by simp)
 simp only [List.getElem_cons_zero, List.getElem_cons_succ] at x0 x1 x2 x3 x4 x5 x6
 go_wp2_with fail
 go_region_held3 (fun w' => w'.cell? ⟨w.heap.size, 0, none⟩ = some (.int .i64 5) ∧ w'.cell? ⟨w.heap.size, 1, none⟩ = some (.string ⟨a.toArray⟩))
  (first
   | go_keep
   |(exact ⟨x0, x1⟩)
   |(refine ⟨(hb1.cell (p := ⟨w.heap.size, 0, none⟩) (by have := HS.out; simp; omega)).trans x0, (hb1.cell (p := ⟨w.heap.size, 1, none⟩) (by have := HS.out; simp; omega)).trans x1⟩))
  (first
   |(go_at_call 55; refine (evWord5_any _).mono ?_; rintro e w2 ⟨rfl, hb1⟩))
 have HB2 := Lib.hid ((bel_drV HB1.out).trans (hb1.mono HB1.out.size))
 have BX2 := Lib.hid ((BX1.out.below (bel_drV (Below.refl _ w1))).below hb1)
 have HB3 := Lib.hid (HB2.out.alloc HB2.out.size (.cells #[.string ⟨#[115, 119, 97, 112]⟩, .string ⟨a.toArray⟩] 9))
 have BX3 := Lib.hid (BX2.out.alloc (.cells #[.string ⟨#[115, 119, 97, 112]⟩, .string ⟨a.toArray⟩] 9))
 have HO3 := Lib.hid (owns_twoV w2 w.heap.size [115, 119, 97, 112] a HB2.out.size)
 rename_i hheld
 clear hb1 hheld x0 x1 x2 x3 x4 x5 x6 HB BX1 HB1 HIE
 have x0 := BX3.out.cell 0 (by simp)
 have x1 := BX3.out.cell 1 (by simp)
 have x2 := BX3.out.cell 2 (by simp)
 have x3 := BX3.out.cell 3 (by simp)
 have x4 := BX3.out.cell 4 (by simp)
 have x5 := BX3.out.cell 5 (by simp)
 have x6 := BX3.out.cell 6 (by simp)
 simp only [List.getElem_cons_zero, List.getElem_cons_succ] at x0 x1 x2 x3 x4 x5 x6
 try simp at x0 x1 x2 x3 x4 x5 x6
 have HL3 := Lib.hid (flatAt_of_slice cStr_len (by decide) (H6.out.below good_str HB3.out (Nat.le_refl _)))
 go_wp2_with (at_builtin; (refine append_flatS cStr_len cStr_one string_info rfl (by decide) (by decide) Tryz.underlying24 zeroStrV rfl _ _ rfl w.heap.size _ _ [[115, 119, 97, 112], a] l _ (by rfl) (ownsF_str HO3.out) (by simp) (by rfl) HL3.out (by simp; have := HLN.out; omega) HB3.out.size ?_; intro v' w5 hO1 hg1 hl1 hn1; have HO5 := Lib.hid (owns_strF hO1); have HG5 := Lib.hid hg1; clear hO1 hg1 hl1 hn1))
 have HB5 := Lib.hid (below_append HB3.out HO3.out HG5.out HB3.out.size)
 clear x0 x1 x2 x3 x4 x5 x6
 have HOR := Lib.hid (owns_row HO5.out (by first | decide | (simp; have := HLN.out; omega)))
 refine (HJ.out _ _ HOR.out).mono ?_
 rintro e w9 ⟨rfl, hb⟩
 have HB9 := Lib.hid (belS HB5.out hb)
 clear hb
 go_wp2_with fail
 go_ret
 exact ⟨rfl, HB9.out⟩
theorem implFormatEvent_any (v : Value) (x : EventD) (w : World) (hx : ValAt rEvent 0 w v x) (hz : zEvent x ≤ 1048576) (hn : x.fName.length ≤ maxLen) (hk : x.fCall.fKey.length ≤ maxLen) (hr : ∀ s ∈ x.fRecipe, s.length ≤ 1048576) :
  Calls Tryz.prog 14 #[v] w fun e w' => e = .returned (.string ⟨(fmtEv x).toArray⟩) ∧ Below w.heap.size w w' := by
 obtain ⟨_, rfl, hx⟩ := hx
 cases he : evB x with
 | false =>
  obtain ⟨k, a, ⟨m, ky, n, t⟩, l⟩ := x
  obtain ⟨v6, rfl, h6⟩ := hx
  exact implFev0 k a m ky n t l v6 w h6 hz hn hk hr he
 | true =>
  have hj := evB_kind he
  obtain ⟨k, a, ⟨m, ky, n, t⟩, l⟩ := x
  obtain ⟨v6, rfl, h6⟩ := hx
  simp only at hj
  rcases hj with rfl | rfl | rfl | rfl | rfl
  ·exact implFev1 a m ky n t l v6 w h6 hz hn hk hr he
  ·exact implFev2 a m ky n t l v6 w h6 hz hn hk hr he
  ·exact implFev3 a m ky n t l v6 w h6 hz hn hk hr he
  ·exact implFev4 a m ky n t l v6 w h6 hz hn hk hr he
  ·exact implFev5 a m ky n t l v6 w h6 hz hn hk hr he
end Go.Proofs.YteeopjcbpngofaaGreat
namespace Go.Proofs.YteeopjcbpngofaaGreat
set_option linter.unusedVariables false
open Go.RowKit
set_option maxRecDepth 100000 in
set_option maxHeartbeats 3200000 in
theorem specIsCall_Start (key : List UInt8) (v : Int) (text : List UInt8) (w : World) (hk : key.length ≤ maxLen) :
  Calls Tryz.prog 93 #[.agg #[.string ⟨#[83, 116, 97, 114, 116]⟩, .string ⟨key.toArray⟩, .int .i64 v, .string ⟨text.toArray⟩]] w fun e w' => e = .returned (.bool (callB ⟨mStart, key, v, text⟩)) ∧ Below w.heap.size w w' := by
 have HR := Lib.hid (show callB ⟨mStart, key, v, text⟩ = (key.isEmpty && (v == 0) && (text.isEmpty || false)) from rfl)
 have HW := Lib.hid (show ∀ w0, Calls Tryz.prog 127 #[.string ⟨#[83, 116, 97, 114, 116]⟩] w0 fun e w' => e = .returned (.int .i64 1) ∧ Below w0.heap.size w0 w' from fun w0 => specWant_b mStart 1 rfl w0)
 generalize callB ⟨mStart, key, v, text⟩ = res at *
 clear hk
 have HB0 := Lib.hid (show ∀ o, Below w.heap.size w (w.alloc o) from fun o => (Below.refl w.heap.size w).alloc (Nat.le_refl _) o)
 go_enter Tryz.func93, Tryz.ntmps93
 go_wp2_with fail
 refine (HW.out _).mono ?_
 rintro e w1 ⟨rfl, hb⟩
 have HB := Lib.hid ((HB0.out _).trans (hb.mono (HB0.out _).size))
 obtain ⟨hcc, _⟩ := bcell hb
 simp at hcc
 have c0 := hcc w.heap.size 0 (by omega)
 have c1 := hcc w.heap.size 1 (by omega)
 have c2 := hcc w.heap.size 2 (by omega)
 have c3 := hcc w.heap.size 3 (by omega)
 simp at c0 c1 c2 c3
 clear hb hcc
 cases key <;> cases text
 all_goals
  by_cases h0 : v = 0
  ·subst h0
   go_wp2_with fail
   go_ret
   exact ⟨ret_bool (by rw [HR.out]; rfl), HB.out⟩
  ·have hv0 : (v == 0) = false := by simpa using h0
   rw [hv0] at HR
   clear h0
   go_wp2_with fail
   go_ret
   exact ⟨ret_bool (by rw [HR.out]; rfl), HB.out⟩
set_option maxRecDepth 100000 in
set_option maxHeartbeats 3200000 in
theorem specIsCall_Stop (key : List UInt8) (v : Int) (text : List UInt8) (w : World) (hk : key.length ≤ maxLen) :
  Calls Tryz.prog 93 #[.agg #[.string ⟨#[83, 116, 111, 112]⟩, .string ⟨key.toArray⟩, .int .i64 v, .string ⟨text.toArray⟩]] w fun e w' => e = .returned (.bool (callB ⟨mStop, key, v, text⟩)) ∧ Below w.heap.size w w' := by
 have HR := Lib.hid (show callB ⟨mStop, key, v, text⟩ = (key.isEmpty && (v == 0) && (text.isEmpty || false)) from rfl)
 have HW := Lib.hid (show ∀ w0, Calls Tryz.prog 127 #[.string ⟨#[83, 116, 111, 112]⟩] w0 fun e w' => e = .returned (.int .i64 1) ∧ Below w0.heap.size w0 w' from fun w0 => specWant_b mStop 1 rfl w0)
 generalize callB ⟨mStop, key, v, text⟩ = res at *
 clear hk
 have HB0 := Lib.hid (show ∀ o, Below w.heap.size w (w.alloc o) from fun o => (Below.refl w.heap.size w).alloc (Nat.le_refl _) o)
 go_enter Tryz.func93, Tryz.ntmps93
 go_wp2_with fail
 refine (HW.out _).mono ?_
 rintro e w1 ⟨rfl, hb⟩
 have HB := Lib.hid ((HB0.out _).trans (hb.mono (HB0.out _).size))
 obtain ⟨hcc, _⟩ := bcell hb
 simp at hcc
 have c0 := hcc w.heap.size 0 (by omega)
 have c1 := hcc w.heap.size 1 (by omega)
 have c2 := hcc w.heap.size 2 (by omega)
 have c3 := hcc w.heap.size 3 (by omega)
 simp at c0 c1 c2 c3
 clear hb hcc
 cases key <;> cases text
 all_goals
  by_cases h0 : v = 0
  ·subst h0
   go_wp2_with fail
   go_ret
   exact ⟨ret_bool (by rw [HR.out]; rfl), HB.out⟩
  ·have hv0 : (v == 0) = false := by simpa using h0
   rw [hv0] at HR
   clear h0
   go_wp2_with fail
   go_ret
   exact ⟨ret_bool (by rw [HR.out]; rfl), HB.out⟩
set_option maxRecDepth 100000 in
set_option maxHeartbeats 3200000 in
theorem specIsCall_Get (key : List UInt8) (v : Int) (text : List UInt8) (w : World) (hk : key.length ≤ maxLen) :
  Calls Tryz.prog 93 #[.agg #[.string ⟨#[71, 101, 116]⟩, .string ⟨key.toArray⟩, .int .i64 v, .string ⟨text.toArray⟩]] w fun e w' => e = .returned (.bool (callB ⟨mGet, key, v, text⟩)) ∧ Below w.heap.size w w' := by
 have HR := Lib.hid (show callB ⟨mGet, key, v, text⟩ = (nameB key && (v == 0) && (text.isEmpty || false)) from rfl)
 have HW := Lib.hid (show ∀ w0, Calls Tryz.prog 127 #[.string ⟨#[71, 101, 116]⟩] w0 fun e w' => e = .returned (.int .i64 2) ∧ Below w0.heap.size w0 w' from fun w0 => specWant_b mGet 2 rfl w0)
 have HN := Lib.hid (specIsName_b key _ rfl hk)
 generalize callB ⟨mGet, key, v, text⟩ = res at *
 generalize nameB key = kn at *
 clear hk
 have HB0 := Lib.hid (show ∀ o, Below w.heap.size w (w.alloc o) from fun o => (Below.refl w.heap.size w).alloc (Nat.le_refl _) o)
 go_enter Tryz.func93, Tryz.ntmps93
 go_wp2_with fail
 refine (HW.out _).mono ?_
 rintro e w1 ⟨rfl, hb⟩
 have HB := Lib.hid ((HB0.out _).trans (hb.mono (HB0.out _).size))
 obtain ⟨hcc, _⟩ := bcell hb
 simp at hcc
 have c0 := hcc w.heap.size 0 (by omega)
 have c1 := hcc w.heap.size 1 (by omega)
 have c2 := hcc w.heap.size 2 (by omega)
 have c3 := hcc w.heap.size 3 (by omega)
 simp at c0 c1 c2 c3
 clear hb hcc
 cases kn <;> cases text
 all_goals
  by_cases h0 : v = 0
  ·subst h0
   go_wp2_with (first | (go_at_call 94; (with_reducible refine (HN.out _).mono ?_); rintro e w' ⟨rfl, rfl⟩))
   go_ret
   exact ⟨ret_bool (by rw [HR.out]; rfl), HB.out⟩
  ·have hv0 : (v == 0) = false := by simpa using h0
   rw [hv0] at HR
   clear h0
   go_wp2_with (first | (go_at_call 94; (with_reducible refine (HN.out _).mono ?_); rintro e w' ⟨rfl, rfl⟩))
   go_ret
   exact ⟨ret_bool (by rw [HR.out]; rfl), HB.out⟩
end Go.Proofs.YteeopjcbpngofaaGreat
namespace Go.Proofs.YteeopjcbpngofaaGreat
set_option linter.unusedVariables false
open Go.RowKit
set_option maxRecDepth 100000 in
set_option maxHeartbeats 3200000 in
theorem specIsCall_Put (key : List UInt8) (v : Int) (text : List UInt8) (w : World) (hk : key.length ≤ maxLen) :
  Calls Tryz.prog 93 #[.agg #[.string ⟨#[80, 117, 116]⟩, .string ⟨key.toArray⟩, .int .i64 v, .string ⟨text.toArray⟩]] w fun e w' => e = .returned (.bool (callB ⟨mPut, key, v, text⟩)) ∧ Below w.heap.size w w' := by
 have HR := Lib.hid (show callB ⟨mPut, key, v, text⟩ = (nameB key && numB v && (text.isEmpty || false)) from rfl)
 have HW := Lib.hid (show ∀ w0, Calls Tryz.prog 127 #[.string ⟨#[80, 117, 116]⟩] w0 fun e w' => e = .returned (.int .i64 2) ∧ Below w0.heap.size w0 w' from fun w0 => specWant_b mPut 2 rfl w0)
 have HN := Lib.hid (specIsName_b key _ rfl hk)
 generalize callB ⟨mPut, key, v, text⟩ = res at *
 generalize nameB key = kn at *
 clear hk
 have HB0 := Lib.hid (show ∀ o, Below w.heap.size w (w.alloc o) from fun o => (Below.refl w.heap.size w).alloc (Nat.le_refl _) o)
 go_enter Tryz.func93, Tryz.ntmps93
 go_wp2_with fail
 refine (HW.out _).mono ?_
 rintro e w1 ⟨rfl, hb⟩
 have HB := Lib.hid ((HB0.out _).trans (hb.mono (HB0.out _).size))
 obtain ⟨hcc, _⟩ := bcell hb
 simp at hcc
 have c0 := hcc w.heap.size 0 (by omega)
 have c1 := hcc w.heap.size 1 (by omega)
 have c2 := hcc w.heap.size 2 (by omega)
 have c3 := hcc w.heap.size 3 (by omega)
 simp at c0 c1 c2 c3
 clear hb hcc
 cases kn <;> cases text
 all_goals
  by_cases h0 : v = 0
  ·subst h0
   rw [show numB 0 = true from rfl] at HR
   go_wp2_with (first | (go_at_call 94; (with_reducible refine (HN.out _).mono ?_); rintro e w' ⟨rfl, rfl⟩))
   go_ret
   exact ⟨ret_bool (by rw [HR.out]; rfl), HB.out⟩
  ·have hv0 : (v == 0) = false := by simpa using h0
   by_cases h1 : v < 0
   ·rw [show numB v = false by simp [numB]; omega] at HR
    have hv1 : decide (0 < v) = false := decide_eq_false (by omega)
    clear h0
    go_wp2_with (first | (go_at_call 94; (with_reducible refine (HN.out _).mono ?_); rintro e w' ⟨rfl, rfl⟩))
    go_ret
    exact ⟨ret_bool (by rw [HR.out]; rfl), HB.out⟩
   ·by_cases h2 : 999 < v
    ·rw [show numB v = false by simp [numB]; omega] at HR
     have hv1 : decide (0 < v) = true := decide_eq_true (by omega)
     have hv2 : decide (v ≤ 999) = false := decide_eq_false (by omega)
     clear h0
     go_wp2_with (first | (go_at_call 94; (with_reducible refine (HN.out _).mono ?_); rintro e w' ⟨rfl, rfl⟩))
     go_ret
     exact ⟨ret_bool (by rw [HR.out]; rfl), HB.out⟩
    ·rw [show numB v = true by simp [numB]; omega] at HR
     have hv1 : decide (0 < v) = true := decide_eq_true (by omega)
     have hv2 : decide (v ≤ 999) = true := decide_eq_true (by omega)
     have hv3 : 0 < v := by omega
     have hv4 : v ≤ 999 := by omega
     clear h0
     go_wp2_with (first | (go_at_call 94; (with_reducible refine (HN.out _).mono ?_); rintro e w' ⟨rfl, rfl⟩))
     go_ret
     exact ⟨ret_bool (by rw [HR.out]; rfl), HB.out⟩
set_option maxRecDepth 100000 in
set_option maxHeartbeats 3200000 in
theorem specIsCall_Tell (key : List UInt8) (v : Int) (text : List UInt8) (w : World) (hk : key.length ≤ maxLen) :
  Calls Tryz.prog 93 #[.agg #[.string ⟨#[84, 101, 108, 108]⟩, .string ⟨key.toArray⟩, .int .i64 v, .string ⟨text.toArray⟩]] w fun e w' => e = .returned (.bool (callB ⟨mTell, key, v, text⟩)) ∧ Below w.heap.size w w' := by
 have HR := Lib.hid (show callB ⟨mTell, key, v, text⟩ = (key.isEmpty && (v == 0) && (text.isEmpty || false)) from rfl)
 have HW := Lib.hid (show ∀ w0, Calls Tryz.prog 127 #[.string ⟨#[84, 101, 108, 108]⟩] w0 fun e w' => e = .returned (.int .i64 4) ∧ Below w0.heap.size w0 w' from fun w0 => specWant_b mTell 4 rfl w0)
 generalize callB ⟨mTell, key, v, text⟩ = res at *
 clear hk
 have HB0 := Lib.hid (show ∀ o, Below w.heap.size w (w.alloc o) from fun o => (Below.refl w.heap.size w).alloc (Nat.le_refl _) o)
 go_enter Tryz.func93, Tryz.ntmps93
 go_wp2_with fail
 refine (HW.out _).mono ?_
 rintro e w1 ⟨rfl, hb⟩
 have HB := Lib.hid ((HB0.out _).trans (hb.mono (HB0.out _).size))
 obtain ⟨hcc, _⟩ := bcell hb
 simp at hcc
 have c0 := hcc w.heap.size 0 (by omega)
 have c1 := hcc w.heap.size 1 (by omega)
 have c2 := hcc w.heap.size 2 (by omega)
 have c3 := hcc w.heap.size 3 (by omega)
 simp at c0 c1 c2 c3
 clear hb hcc
 cases key <;> cases text
 all_goals
  by_cases h0 : v = 0
  ·subst h0
   go_wp2_with fail
   go_ret
   exact ⟨ret_bool (by rw [HR.out]; rfl), HB.out⟩
  ·have hv0 : (v == 0) = false := by simpa using h0
   rw [hv0] at HR
   clear h0
   go_wp2_with fail
   go_ret
   exact ⟨ret_bool (by rw [HR.out]; rfl), HB.out⟩
set_option maxRecDepth 100000 in
set_option maxHeartbeats 3200000 in
theorem specIsCall_Hear (key : List UInt8) (v : Int) (text : List UInt8) (w : World) (hk : key.length ≤ maxLen) :
  Calls Tryz.prog 93 #[.agg #[.string ⟨#[72, 101, 97, 114]⟩, .string ⟨key.toArray⟩, .int .i64 v, .string ⟨text.toArray⟩]] w fun e w' => e = .returned (.bool (callB ⟨mHear, key, v, text⟩)) ∧ Below w.heap.size w w' := by
 have HR := Lib.hid (show callB ⟨mHear, key, v, text⟩ = (key.isEmpty && numB v && (text.isEmpty || false)) from rfl)
 have HW := Lib.hid (show ∀ w0, Calls Tryz.prog 127 #[.string ⟨#[72, 101, 97, 114]⟩] w0 fun e w' => e = .returned (.int .i64 8) ∧ Below w0.heap.size w0 w' from fun w0 => specWant_b mHear 8 rfl w0)
 generalize callB ⟨mHear, key, v, text⟩ = res at *
 clear hk
 have HB0 := Lib.hid (show ∀ o, Below w.heap.size w (w.alloc o) from fun o => (Below.refl w.heap.size w).alloc (Nat.le_refl _) o)
 go_enter Tryz.func93, Tryz.ntmps93
 go_wp2_with fail
 refine (HW.out _).mono ?_
 rintro e w1 ⟨rfl, hb⟩
 have HB := Lib.hid ((HB0.out _).trans (hb.mono (HB0.out _).size))
 obtain ⟨hcc, _⟩ := bcell hb
 simp at hcc
 have c0 := hcc w.heap.size 0 (by omega)
 have c1 := hcc w.heap.size 1 (by omega)
 have c2 := hcc w.heap.size 2 (by omega)
 have c3 := hcc w.heap.size 3 (by omega)
 simp at c0 c1 c2 c3
 clear hb hcc
 cases key <;> cases text
 all_goals
  by_cases h0 : v = 0
  ·subst h0
   rw [show numB 0 = true from rfl] at HR
   go_wp2_with fail
   go_ret
   exact ⟨ret_bool (by rw [HR.out]; rfl), HB.out⟩
  ·have hv0 : (v == 0) = false := by simpa using h0
   by_cases h1 : v < 0
   ·rw [show numB v = false by simp [numB]; omega] at HR
    have hv1 : decide (0 < v) = false := decide_eq_false (by omega)
    clear h0
    go_wp2_with fail
    go_ret
    exact ⟨ret_bool (by rw [HR.out]; rfl), HB.out⟩
   ·by_cases h2 : 999 < v
    ·rw [show numB v = false by simp [numB]; omega] at HR
     have hv1 : decide (0 < v) = true := decide_eq_true (by omega)
     have hv2 : decide (v ≤ 999) = false := decide_eq_false (by omega)
     clear h0
     go_wp2_with fail
     go_ret
     exact ⟨ret_bool (by rw [HR.out]; rfl), HB.out⟩
    ·rw [show numB v = true by simp [numB]; omega] at HR
     have hv1 : decide (0 < v) = true := decide_eq_true (by omega)
     have hv2 : decide (v ≤ 999) = true := decide_eq_true (by omega)
     have hv3 : 0 < v := by omega
     have hv4 : v ≤ 999 := by omega
     clear h0
     go_wp2_with fail
     go_ret
     exact ⟨ret_bool (by rw [HR.out]; rfl), HB.out⟩
end Go.Proofs.YteeopjcbpngofaaGreat
namespace Go.Proofs.YteeopjcbpngofaaGreat
set_option linter.unusedVariables false
open Go.RowKit
set_option maxRecDepth 100000 in
set_option maxHeartbeats 3200000 in
theorem specIsCall_Load (key : List UInt8) (v : Int) (text : List UInt8) (w : World) (hk : key.length ≤ maxLen) :
  Calls Tryz.prog 93 #[.agg #[.string ⟨#[76, 111, 97, 100]⟩, .string ⟨key.toArray⟩, .int .i64 v, .string ⟨text.toArray⟩]] w fun e w' => e = .returned (.bool (callB ⟨mLoad, key, v, text⟩)) ∧ Below w.heap.size w w' := by
 have HR := Lib.hid (show callB ⟨mLoad, key, v, text⟩ = (key.isEmpty && (v == 0) && (text.isEmpty || true)) from rfl)
 have HW := Lib.hid (show ∀ w0, Calls Tryz.prog 127 #[.string ⟨#[76, 111, 97, 100]⟩] w0 fun e w' => e = .returned (.int .i64 16) ∧ Below w0.heap.size w0 w' from fun w0 => specWant_b mLoad 16 rfl w0)
 generalize callB ⟨mLoad, key, v, text⟩ = res at *
 clear hk
 have HB0 := Lib.hid (show ∀ o, Below w.heap.size w (w.alloc o) from fun o => (Below.refl w.heap.size w).alloc (Nat.le_refl _) o)
 go_enter Tryz.func93, Tryz.ntmps93
 go_wp2_with fail
 refine (HW.out _).mono ?_
 rintro e w1 ⟨rfl, hb⟩
 have HB := Lib.hid ((HB0.out _).trans (hb.mono (HB0.out _).size))
 obtain ⟨hcc, _⟩ := bcell hb
 simp at hcc
 have c0 := hcc w.heap.size 0 (by omega)
 have c1 := hcc w.heap.size 1 (by omega)
 have c2 := hcc w.heap.size 2 (by omega)
 have c3 := hcc w.heap.size 3 (by omega)
 simp at c0 c1 c2 c3
 clear hb hcc
 cases key <;> cases text
 all_goals
  by_cases h0 : v = 0
  ·subst h0
   go_wp2_with fail
   go_ret
   exact ⟨ret_bool (by rw [HR.out]; rfl), HB.out⟩
  ·have hv0 : (v == 0) = false := by simpa using h0
   rw [hv0] at HR
   clear h0
   go_wp2_with fail
   go_ret
   exact ⟨ret_bool (by rw [HR.out]; rfl), HB.out⟩
set_option maxRecDepth 100000 in
set_option maxHeartbeats 3200000 in
theorem specIsCall_Save (key : List UInt8) (v : Int) (text : List UInt8) (w : World) (hk : key.length ≤ maxLen) :
  Calls Tryz.prog 93 #[.agg #[.string ⟨#[83, 97, 118, 101]⟩, .string ⟨key.toArray⟩, .int .i64 v, .string ⟨text.toArray⟩]] w fun e w' => e = .returned (.bool (callB ⟨mSave, key, v, text⟩)) ∧ Below w.heap.size w w' := by
 have HR := Lib.hid (show callB ⟨mSave, key, v, text⟩ = (key.isEmpty && (v == 0) && (text.isEmpty || false)) from rfl)
 have HW := Lib.hid (show ∀ w0, Calls Tryz.prog 127 #[.string ⟨#[83, 97, 118, 101]⟩] w0 fun e w' => e = .returned (.int .i64 16) ∧ Below w0.heap.size w0 w' from fun w0 => specWant_b mSave 16 rfl w0)
 generalize callB ⟨mSave, key, v, text⟩ = res at *
 clear hk
 have HB0 := Lib.hid (show ∀ o, Below w.heap.size w (w.alloc o) from fun o => (Below.refl w.heap.size w).alloc (Nat.le_refl _) o)
 go_enter Tryz.func93, Tryz.ntmps93
 go_wp2_with fail
 refine (HW.out _).mono ?_
 rintro e w1 ⟨rfl, hb⟩
 have HB := Lib.hid ((HB0.out _).trans (hb.mono (HB0.out _).size))
 obtain ⟨hcc, _⟩ := bcell hb
 simp at hcc
 have c0 := hcc w.heap.size 0 (by omega)
 have c1 := hcc w.heap.size 1 (by omega)
 have c2 := hcc w.heap.size 2 (by omega)
 have c3 := hcc w.heap.size 3 (by omega)
 simp at c0 c1 c2 c3
 clear hb hcc
 cases key <;> cases text
 all_goals
  by_cases h0 : v = 0
  ·subst h0
   go_wp2_with fail
   go_ret
   exact ⟨ret_bool (by rw [HR.out]; rfl), HB.out⟩
  ·have hv0 : (v == 0) = false := by simpa using h0
   rw [hv0] at HR
   clear h0
   go_wp2_with fail
   go_ret
   exact ⟨ret_bool (by rw [HR.out]; rfl), HB.out⟩
set_option maxRecDepth 100000 in
set_option maxHeartbeats 3200000 in
theorem specIsCall_Heal (key : List UInt8) (v : Int) (text : List UInt8) (w : World) (hk : key.length ≤ maxLen) :
  Calls Tryz.prog 93 #[.agg #[.string ⟨#[72, 101, 97, 108]⟩, .string ⟨key.toArray⟩, .int .i64 v, .string ⟨text.toArray⟩]] w fun e w' => e = .returned (.bool (callB ⟨mHeal, key, v, text⟩)) ∧ Below w.heap.size w w' := by
 have HR := Lib.hid (show callB ⟨mHeal, key, v, text⟩ = (key.isEmpty && (v == 0) && (text.isEmpty || false)) from rfl)
 have HW := Lib.hid (show ∀ w0, Calls Tryz.prog 127 #[.string ⟨#[72, 101, 97, 108]⟩] w0 fun e w' => e = .returned (.int .i64 32) ∧ Below w0.heap.size w0 w' from fun w0 => specWant_b mHeal 32 rfl w0)
 generalize callB ⟨mHeal, key, v, text⟩ = res at *
 clear hk
 have HB0 := Lib.hid (show ∀ o, Below w.heap.size w (w.alloc o) from fun o => (Below.refl w.heap.size w).alloc (Nat.le_refl _) o)
 go_enter Tryz.func93, Tryz.ntmps93
 go_wp2_with fail
 refine (HW.out _).mono ?_
 rintro e w1 ⟨rfl, hb⟩
 have HB := Lib.hid ((HB0.out _).trans (hb.mono (HB0.out _).size))
 obtain ⟨hcc, _⟩ := bcell hb
 simp at hcc
 have c0 := hcc w.heap.size 0 (by omega)
 have c1 := hcc w.heap.size 1 (by omega)
 have c2 := hcc w.heap.size 2 (by omega)
 have c3 := hcc w.heap.size 3 (by omega)
 simp at c0 c1 c2 c3
 clear hb hcc
 cases key <;> cases text
 all_goals
  by_cases h0 : v = 0
  ·subst h0
   go_wp2_with fail
   go_ret
   exact ⟨ret_bool (by rw [HR.out]; rfl), HB.out⟩
  ·have hv0 : (v == 0) = false := by simpa using h0
   rw [hv0] at HR
   clear h0
   go_wp2_with fail
   go_ret
   exact ⟨ret_bool (by rw [HR.out]; rfl), HB.out⟩
set_option maxRecDepth 100000 in
set_option maxHeartbeats 1600000 in
theorem specIsCall_any (d : CallD) (w : World) (hk : d.fKey.length ≤ maxLen) :
  Calls Tryz.prog 93 #[vCall d] w fun e w' => e = .returned (.bool (callB d)) ∧ Below w.heap.size w w' := by
 obtain ⟨m, key, v, text⟩ := d
 unfold vCall
 simp only at *
 rcases meth_cases m with rfl | rfl | rfl | rfl | rfl | rfl | rfl | rfl | rfl | ⟨hw, hStart, hStop, hGet, hPut, hTell, hHear, hLoad, hSave, hHeal⟩
 ·exact specIsCall_Start key v text w hk
 ·exact specIsCall_Stop key v text w hk
 ·exact specIsCall_Get key v text w hk
 ·exact specIsCall_Put key v text w hk
 ·exact specIsCall_Tell key v text w hk
 ·exact specIsCall_Hear key v text w hk
 ·exact specIsCall_Load key v text w hk
 ·exact specIsCall_Save key v text w hk
 ·exact specIsCall_Heal key v text w hk
 ·have HR := Lib.hid (show callB ⟨m, key, v, text⟩ = false by unfold callB; simp only; rw [hw]; rfl)
  have bGet : (m == [71, 101, 116]) = false := by simpa using hGet
  have bPut : (m == [80, 117, 116]) = false := by simpa using hPut
  have bHear : (m == [72, 101, 97, 114]) = false := by simpa using hHear
  have bLoad : (m == [76, 111, 97, 100]) = false := by simpa using hLoad
  have HW := Lib.hid (specWant_b m 0 hw)
  have HB0 := Lib.hid (show ∀ o, Below w.heap.size w (w.alloc o) from fun o => (Below.refl w.heap.size w).alloc (Nat.le_refl _) o)
  generalize callB ⟨m, key, v, text⟩ = res at *
  clear hw hk hStart hStop hGet hPut hTell hHear hLoad hSave hHeal
  go_enter Tryz.func93, Tryz.ntmps93
  go_wp2_with fail
  refine (HW.out _).mono ?_
  rintro e w1 ⟨rfl, hb⟩
  have HB := Lib.hid ((HB0.out _).trans (hb.mono (HB0.out _).size))
  clear hb
  go_wp2_with fail
  go_ret
  exact ⟨ret_bool HR.out.symm, HB.out⟩
end Go.Proofs.YteeopjcbpngofaaGreat
