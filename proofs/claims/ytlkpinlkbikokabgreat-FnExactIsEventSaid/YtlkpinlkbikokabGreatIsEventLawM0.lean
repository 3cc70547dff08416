/- Arguments opened: events. -/
import Derived.Test.YtlkpinlkbikokabGreatServesLawM0
import Derived.StillTailTactics
import Derived.Test.YtlkpinlkbikokabGreatServesLawM1
import Derived.Test.YtlkpinlkbikokabGreatServesLawM2
import Derived.Test.YtlkpinlkbikokabGreatServesLawM3
import Derived.Test.YtlkpinlkbikokabGreatServesLawM4
import Derived.Test.YtlkpinlkbikokabGreatServesLawM5
import Derived.Deep.Slices
/- Call: what the laws' own helpers do with it. Written by gen/flat.py. -/
namespace Go.Proofs.YtlkpinlkbikokabGreat
set_option linter.unusedVariables false
open Go.RowKit
structure CallD where
  fMethod : List UInt8
  fKey : List UInt8
  fValue : Int
  fText : List UInt8
deriving DecidableEq
def okCall (d : CallD) : Prop := (d.fMethod.length ≤ maxLen) ∧ (d.fKey.length ≤ maxLen) ∧ (-9223372036854775808 ≤ d.fValue ∧ d.fValue ≤ 9223372036854775807) ∧ (d.fText.length ≤ maxLen)
def vCall (d : CallD) : Value := .agg #[.string ⟨d.fMethod.toArray⟩, .string ⟨d.fKey.toArray⟩, .int .i64 d.fValue, .string ⟨d.fText.toArray⟩]
def cCall (d : CallD) : List Value := [.string ⟨d.fMethod.toArray⟩, .string ⟨d.fKey.toArray⟩, .int .i64 d.fValue, .string ⟨d.fText.toArray⟩]
theorem cCall_len (d : CallD) : (cCall d).length = 4 := rfl
theorem cCall_one (d : CallD) : ∀ u ∈ cCall d, u.oneCell' = true := by intro u hu; simp only [cCall, List.mem_cons, List.not_mem_nil, or_false] at hu; rcases hu with rfl | rfl | rfl | rfl <;> rfl
set_option maxHeartbeats 800000 in
theorem eqCall_any (x y : CallD) (w : World) :
    Calls Tryz.prog 72 #[vCall x, vCall y] w fun e w' => e = .returned (.bool (decide (x = y))) ∧ Below w.heap.size w w' := by
  obtain ⟨a0, a1, a2, a3⟩ := x
  obtain ⟨b0, b1, b2, b3⟩ := y
  unfold vCall
  by_cases h0 : a0 = b0
  · by_cases h1 : a1 = b1
    · by_cases h2 : a2 = b2
      · by_cases h3 : a3 = b3
        · have HN := Lib.hid (show decide ((⟨a0, a1, a2, a3⟩ : CallD) = (⟨b0, b1, b2, b3⟩ : CallD)) = true by rw [h0, h1, h2, h3]; simp)
          subst h0 h1 h2 h3
          go_enter Tryz.func72, Tryz.ntmps72
          go_wp2
          go_ret
          exact ⟨ret_bool HN.out.symm, ((Below.refl _ _).alloc (Nat.le_refl _) _).alloc (by simp) _⟩
        · have HN := Lib.hid (show decide ((⟨a0, a1, a2, a3⟩ : CallD) = (⟨b0, b1, b2, b3⟩ : CallD)) = false by rw [decide_eq_false_iff_not]; exact fun e => h3 (by injection e))
          have hne3 : (a3 == b3) = false := by simpa using h3
          have hnf3 : (a3 != b3) = true := by simpa using h3
          subst h0 h1 h2
          clear h3
          go_enter Tryz.func72, Tryz.ntmps72
          go_wp2
          go_ret
          exact ⟨ret_bool HN.out.symm, ((Below.refl _ _).alloc (Nat.le_refl _) _).alloc (by simp) _⟩
      · have HN := Lib.hid (show decide ((⟨a0, a1, a2, a3⟩ : CallD) = (⟨b0, b1, b2, b3⟩ : CallD)) = false by rw [decide_eq_false_iff_not]; exact fun e => h2 (by injection e))
        have hne2 : (a2 == b2) = false := by simpa using h2
        have hnf2 : (a2 != b2) = true := by simpa using h2
        subst h0 h1
        clear h2
        go_enter Tryz.func72, Tryz.ntmps72
        go_wp2
        go_ret
        exact ⟨ret_bool HN.out.symm, ((Below.refl _ _).alloc (Nat.le_refl _) _).alloc (by simp) _⟩
    · have HN := Lib.hid (show decide ((⟨a0, a1, a2, a3⟩ : CallD) = (⟨b0, b1, b2, b3⟩ : CallD)) = false by rw [decide_eq_false_iff_not]; exact fun e => h1 (by injection e))
      have hne1 : (a1 == b1) = false := by simpa using h1
      have hnf1 : (a1 != b1) = true := by simpa using h1
      subst h0
      clear h1
      go_enter Tryz.func72, Tryz.ntmps72
      go_wp2
      go_ret
      exact ⟨ret_bool HN.out.symm, ((Below.refl _ _).alloc (Nat.le_refl _) _).alloc (by simp) _⟩
  · have HN := Lib.hid (show decide ((⟨a0, a1, a2, a3⟩ : CallD) = (⟨b0, b1, b2, b3⟩ : CallD)) = false by rw [decide_eq_false_iff_not]; exact fun e => h0 (by injection e))
    have hne0 : (a0 == b0) = false := by simpa using h0
    have hnf0 : (a0 != b0) = true := by simpa using h0
    clear h0
    go_enter Tryz.func72, Tryz.ntmps72
    go_wp2
    go_ret
    exact ⟨ret_bool HN.out.symm, ((Below.refl _ _).alloc (Nat.le_refl _) _).alloc (by simp) _⟩
set_option maxHeartbeats 800000 in
theorem toCall_any (x : CallD) (w : World) :
    Calls Tryz.prog 68 #[vCall x] w fun e w' => e = .returned (vCall x) ∧ Below w.heap.size w w' := by
  obtain ⟨a0, a1, a2, a3⟩ := x
  unfold vCall
  go_enter Tryz.func68, Tryz.ntmps68
  go_wp2
  exact bodyPost_ret (v := .agg #[.string ⟨a0.toArray⟩, .string ⟨a1.toArray⟩, .int .i64 a2, .string ⟨a3.toArray⟩]) (by simp [results, Tryz.results68, go_sem]) rfl ⟨rfl, ((((Below.refl _ _).alloc (Nat.le_refl _) _).alloc (by simp) _).alloc (by simp; try omega) _)⟩
def zCall (d : CallD) : Nat := d.fMethod.length + d.fKey.length + d.fText.length
set_option maxHeartbeats 800000 in
theorem szCall_any (x : CallD) (left : Int) (w : World) (h0 : 0 ≤ left) (h1 : left ≤ 1099511627776) (hs : okCall x) :
    Calls Tryz.prog 65 #[vCall x, .int .i64 left] w fun e w' => SzF (zCall x) left w e w' := by
  obtain ⟨a0, a1, a2, a3⟩ := x
  obtain ⟨hs0, hs1, hs2, hs3⟩ := hs
  simp only [vCall, zCall] at *
  unfold maxLen at *
  have HZ0 := Lib.hid (size_strB a0)
  have HZ1 := Lib.hid (size_strB a1)
  have HZ3 := Lib.hid (size_strB a3)
  by_cases hn0 : left - (a0.length : Int) < 0
  · go_enter Tryz.func65, Tryz.ntmps65
    go_wp2
    go_ret
    exact ⟨-1, rfl, by omega, by omega, (Below.refl _ _).alloc (Nat.le_refl _) _⟩
  · by_cases hn1 : left - (a0.length : Int) - (a1.length : Int) < 0
    · go_enter Tryz.func65, Tryz.ntmps65
      go_wp2
      go_ret
      exact ⟨-1, rfl, by omega, by omega, (Below.refl _ _).alloc (Nat.le_refl _) _⟩
    · by_cases hn2 : left - (a0.length : Int) - (a1.length : Int) - (a3.length : Int) < 0
      · go_enter Tryz.func65, Tryz.ntmps65
        go_wp2
        go_ret
        exact ⟨-1, rfl, by omega, by omega, (Below.refl _ _).alloc (Nat.le_refl _) _⟩
      · go_enter Tryz.func65, Tryz.ntmps65
        go_wp2
        go_ret
        exact ⟨_, rfl, by omega, by push_cast; omega, (Below.refl _ _).alloc (Nat.le_refl _) _⟩
theorem infoCall : (Tryz.prog.info? 63).map (fun i => (i.zero, i.size, i.bytes)) = some (some (.agg #[.string ⟨#[]⟩, .string ⟨#[]⟩, .int .i64 0, .string ⟨#[]⟩]), 4, 56) := by kernel_rfl
def marksCall (k : Int) (n : Nat) : List CallD := (List.range n).map fun i : Nat => ⟨markL (k + i * 4), markL (k + i * 4 + 1), k + i * 4 + 1 + 1, markL (k + i * 4 + 1 + 1 + 1)⟩
theorem marksCall_len (k : Int) (n : Nat) : (marksCall k n).length = n := by simp [marksCall]
theorem marksCall_get (k : Int) (n i : Nat) (h : i < n) : (marksCall k n)[i]'(by rw [marksCall_len]; exact h) = ⟨markL (k + i * 4), markL (k + i * 4 + 1), k + i * 4 + 1 + 1, markL (k + i * 4 + 1 + 1 + 1)⟩ := by simp [marksCall]
end Go.Proofs.YtlkpinlkbikokabGreat
/- Event: how it reads, and what the laws' own helpers do with it. Written by gen/deep.py. -/
namespace Go.Proofs.YtlkpinlkbikokabGreat
set_option linter.unusedVariables false
set_option linter.unusedSimpArgs false
open Go.RowKit
structure EventD where
  fKind : Int
  fName : List UInt8
  fCall : CallD
  fRecipe : List (List UInt8)
deriving DecidableEq
def okEvent (x : EventD) : Prop := (-9223372036854775808 ≤ x.fKind ∧ x.fKind ≤ 9223372036854775807) ∧ (x.fName.length ≤ maxLen) ∧ (okCall x.fCall) ∧ (∀ s ∈ x.fRecipe, s.length ≤ maxLen)
def rEvent : Nat → World → List Value → EventD → Prop := fun F w cs x => ∃ v6, cs = [.int .i64 x.fKind, .string ⟨x.fName.toArray⟩, .string ⟨x.fCall.fMethod.toArray⟩, .string ⟨x.fCall.fKey.toArray⟩, .int .i64 x.fCall.fValue, .string ⟨x.fCall.fText.toArray⟩, v6] ∧ SliceAt rStr 1 F w v6 x.fRecipe
theorem goodEvent : Good rEvent 7 := by
  refine ⟨?_, ?_, ?_⟩
  · rintro F w cs x ⟨v6, rfl, h6⟩; rfl
  · rintro F w w' cs x ⟨v6, rfl, h6⟩ hk; exact ⟨v6, rfl, h6.keep good_str hk⟩
  · rintro F F' w cs x ⟨v6, rfl, h6⟩ hF; exact ⟨v6, rfl, h6.mono good_str hF⟩
def zEvent (x : EventD) : Nat := x.fName.length + zCall x.fCall + (x.fRecipe.length + sumF List.length x.fRecipe)
set_option maxRecDepth 100000 in
set_option maxHeartbeats 1600000 in
theorem toEvent_d (v : Value) (x : EventD) (w : World) (hx : ValAt rEvent 0 w v x) (hm : zEvent x ≤ 2097152) : Calls Tryz.prog 30 #[v] w fun e w' => GivesV rEvent x w e w' := by
  obtain ⟨_, rfl, hx⟩ := hx
  obtain ⟨a0, a1, ⟨a2_0, a2_1, a2_2, a2_3⟩, a3⟩ := x
  obtain ⟨v6, rfl, h6⟩ := hx
  simp only at h6
  simp only [zEvent, zCall] at hm
  have HM := Lib.hid hm
  obtain ⟨ra6, rc6, rfl, _⟩ := sliceAt_len h6
  have H6 := Lib.hid h6
  clear hm h6
  have HS := Lib.hid (bx_start3 w [.int .i64 a0, .string ⟨a1.toArray⟩, .string ⟨a2_0.toArray⟩, .string ⟨a2_1.toArray⟩, .int .i64 a2_2, .string ⟨a2_3.toArray⟩, .slice ra6 a3.length rc6] [.int .i64 0, .string ⟨#[]⟩, .string ⟨#[]⟩, .string ⟨#[]⟩, .int .i64 0, .string ⟨#[]⟩, .slice none 0 0] [.int .i64 a0, .string ⟨a1.toArray⟩, .string ⟨#[]⟩, .string ⟨#[]⟩, .int .i64 0, .string ⟨#[]⟩, .slice none 0 0] 60 65 65)
  have BA := Lib.hid HS.out.1
  have BB := Lib.hid HS.out.2.1
  have BC := Lib.hid HS.out.2.2.1
  have HB := Lib.hid HS.out.2.2.2
  clear HS
  go_enter Tryz.func30, Tryz.ntmps30
  go_wp2_with fail
  generalize ((w.alloc (.cells #[.int .i64 a0, .string ⟨a1.toArray⟩, .string ⟨a2_0.toArray⟩, .string ⟨a2_1.toArray⟩, .int .i64 a2_2, .string ⟨a2_3.toArray⟩, .slice ra6 a3.length rc6] 60)).alloc (.cells #[.int .i64 0, .string ⟨#[]⟩, .string ⟨#[]⟩, .string ⟨#[]⟩, .int .i64 0, .string ⟨#[]⟩, .slice none 0 0] 65)).alloc (.cells #[.int .i64 a0, .string ⟨a1.toArray⟩, .string ⟨#[]⟩, .string ⟨#[]⟩, .int .i64 0, .string ⟨#[]⟩, .slice none 0 0] 65) = X1 at *
  have HF2 := Lib.hid (fun w0 => toCall_any (⟨a2_0, a2_1, a2_2, a2_3⟩ : CallD) w0)
  simp only [vCall] at HF2
  refine (HF2.out _).mono ?_
  rintro e w1 ⟨rfl, hb⟩
  have hX : w.heap.size + 3 ≤ X1.heap.size := by have := BC.out.lt; omega
  have BA := Lib.hid (BA.out.below hb)
  have BB := Lib.hid (BB.out.below hb)
  have BC := Lib.hid (BC.out.below hb)
  have HB := Lib.hid (belS (w := w) HB.out hb)
  clear hb hX
  have eA0 := BA.out.cell 0 (by simp)
  have eA1 := BA.out.cell 1 (by simp)
  have eA2 := BA.out.cell 2 (by simp)
  have eA3 := BA.out.cell 3 (by simp)
  have eA4 := BA.out.cell 4 (by simp)
  have eA5 := BA.out.cell 5 (by simp)
  have eA6 := BA.out.cell 6 (by simp)
  simp only [List.getElem_cons_zero, List.getElem_cons_succ, List.set_cons_zero, List.set_cons_succ] at eA0 eA1 eA2 eA3 eA4 eA5 eA6
  have eC0 := BC.out.cell 0 (by simp)
  have fC0 := BC.out.froz 0 (by simp)
  have eC1 := BC.out.cell 1 (by simp)
  have fC1 := BC.out.froz 1 (by simp)
  have eC2 := BC.out.cell 2 (by simp)
  have fC2 := BC.out.froz 2 (by simp)
  have eC3 := BC.out.cell 3 (by simp)
  have fC3 := BC.out.froz 3 (by simp)
  have eC4 := BC.out.cell 4 (by simp)
  have fC4 := BC.out.froz 4 (by simp)
  have eC5 := BC.out.cell 5 (by simp)
  have fC5 := BC.out.froz 5 (by simp)
  have eC6 := BC.out.cell 6 (by simp)
  have fC6 := BC.out.froz 6 (by simp)
  simp only [List.getElem_cons_zero, List.getElem_cons_succ, List.set_cons_zero, List.set_cons_succ] at eC0 eC1 eC2 eC3 eC4 eC5 eC6
  go_wp2_with fail
  clear eA0 eA1 eA2 eA3 eA4 eA5 eA6
  clear eC0 fC0 eC1 fC1 eC2 fC2 eC3 fC3 eC4 fC4 eC5 fC5 eC6 fC6
  have BC := Lib.hid (BC.out.set 2 (by simp) (.string ⟨a2_0.toArray⟩))
  have BA := Lib.hid (BA.out.other (c := w.heap.size + 1 + 1) (by omega) 2 (.string ⟨a2_0.toArray⟩))
  have BB := Lib.hid (BB.out.other (c := w.heap.size + 1 + 1) (by omega) 2 (.string ⟨a2_0.toArray⟩))
  have HB := Lib.hid (HB.out.setCell (p := ⟨w.heap.size + 1 + 1, 2, none⟩) (by simp; try omega) (.string ⟨a2_0.toArray⟩))
  have BC := Lib.hid (BC.out.set 3 (by simp) (.string ⟨a2_1.toArray⟩))
  have BA := Lib.hid (BA.out.other (c := w.heap.size + 1 + 1) (by omega) 3 (.string ⟨a2_1.toArray⟩))
  have BB := Lib.hid (BB.out.other (c := w.heap.size + 1 + 1) (by omega) 3 (.string ⟨a2_1.toArray⟩))
  have HB := Lib.hid (HB.out.setCell (p := ⟨w.heap.size + 1 + 1, 3, none⟩) (by simp; try omega) (.string ⟨a2_1.toArray⟩))
  have BC := Lib.hid (BC.out.set 4 (by simp) (.int .i64 a2_2))
  have BA := Lib.hid (BA.out.other (c := w.heap.size + 1 + 1) (by omega) 4 (.int .i64 a2_2))
  have BB := Lib.hid (BB.out.other (c := w.heap.size + 1 + 1) (by omega) 4 (.int .i64 a2_2))
  have HB := Lib.hid (HB.out.setCell (p := ⟨w.heap.size + 1 + 1, 4, none⟩) (by simp; try omega) (.int .i64 a2_2))
  have BC := Lib.hid (BC.out.set 5 (by simp) (.string ⟨a2_3.toArray⟩))
  have BA := Lib.hid (BA.out.other (c := w.heap.size + 1 + 1) (by omega) 5 (.string ⟨a2_3.toArray⟩))
  have BB := Lib.hid (BB.out.other (c := w.heap.size + 1 + 1) (by omega) 5 (.string ⟨a2_3.toArray⟩))
  have HB := Lib.hid (HB.out.setCell (p := ⟨w.heap.size + 1 + 1, 5, none⟩) (by simp; try omega) (.string ⟨a2_3.toArray⟩))
  simp only [List.set_cons_zero, List.set_cons_succ] at BC
  generalize ((((w1).setCell ⟨w.heap.size + 1 + 1, 2, none⟩ (.string ⟨a2_0.toArray⟩)).setCell ⟨w.heap.size + 1 + 1, 3, none⟩ (.string ⟨a2_1.toArray⟩)).setCell ⟨w.heap.size + 1 + 1, 4, none⟩ (.int .i64 a2_2)).setCell ⟨w.heap.size + 1 + 1, 5, none⟩ (.string ⟨a2_3.toArray⟩) = X2 at *
  refine (toStringS_d _ a3 _ (H6.out.below good_str HB.out (Nat.le_refl _)) (by have := HM.out; omega)).mono ?_
  rintro e w2 ⟨u6, rfl, hr6, hb⟩
  have hX : w.heap.size + 3 ≤ X2.heap.size := by have := BC.out.lt; omega
  have R6 := Lib.hid (hr6.mono good_str hX)
  obtain ⟨p6, q6, rfl, _⟩ := sliceAt_len hr6
  clear hr6
  have BA := Lib.hid (BA.out.below hb)
  have BB := Lib.hid (BB.out.below hb)
  have BC := Lib.hid (BC.out.below hb)
  have HB := Lib.hid (belS (w := w) HB.out hb)
  clear hb hX
  have eA0 := BA.out.cell 0 (by simp)
  have eA1 := BA.out.cell 1 (by simp)
  have eA2 := BA.out.cell 2 (by simp)
  have eA3 := BA.out.cell 3 (by simp)
  have eA4 := BA.out.cell 4 (by simp)
  have eA5 := BA.out.cell 5 (by simp)
  have eA6 := BA.out.cell 6 (by simp)
  simp only [List.getElem_cons_zero, List.getElem_cons_succ, List.set_cons_zero, List.set_cons_succ] at eA0 eA1 eA2 eA3 eA4 eA5 eA6
  have eC0 := BC.out.cell 0 (by simp)
  have fC0 := BC.out.froz 0 (by simp)
  have eC1 := BC.out.cell 1 (by simp)
  have fC1 := BC.out.froz 1 (by simp)
  have eC2 := BC.out.cell 2 (by simp)
  have fC2 := BC.out.froz 2 (by simp)
  have eC3 := BC.out.cell 3 (by simp)
  have fC3 := BC.out.froz 3 (by simp)
  have eC4 := BC.out.cell 4 (by simp)
  have fC4 := BC.out.froz 4 (by simp)
  have eC5 := BC.out.cell 5 (by simp)
  have fC5 := BC.out.froz 5 (by simp)
  have eC6 := BC.out.cell 6 (by simp)
  have fC6 := BC.out.froz 6 (by simp)
  simp only [List.getElem_cons_zero, List.getElem_cons_succ, List.set_cons_zero, List.set_cons_succ] at eC0 eC1 eC2 eC3 eC4 eC5 eC6
  have eB0 := BB.out.cell 0 (by simp)
  have fB0 := BB.out.froz 0 (by simp)
  have eB1 := BB.out.cell 1 (by simp)
  have fB1 := BB.out.froz 1 (by simp)
  have eB2 := BB.out.cell 2 (by simp)
  have fB2 := BB.out.froz 2 (by simp)
  have eB3 := BB.out.cell 3 (by simp)
  have fB3 := BB.out.froz 3 (by simp)
  have eB4 := BB.out.cell 4 (by simp)
  have fB4 := BB.out.froz 4 (by simp)
  have eB5 := BB.out.cell 5 (by simp)
  have fB5 := BB.out.froz 5 (by simp)
  have eB6 := BB.out.cell 6 (by simp)
  have fB6 := BB.out.froz 6 (by simp)
  simp only [List.getElem_cons_zero, List.getElem_cons_succ, List.set_cons_zero, List.set_cons_succ] at eB0 eB1 eB2 eB3 eB4 eB5 eB6
  go_wp2_with fail
  clear eA0 eA1 eA2 eA3 eA4 eA5 eA6
  clear eC0 fC0 eC1 fC1 eC2 fC2 eC3 fC3 eC4 fC4 eC5 fC5 eC6 fC6
  clear eB0 fB0 eB1 fB1 eB2 fB2 eB3 fB3 eB4 fB4 eB5 fB5 eB6 fB6
  have BC := Lib.hid (BC.out.set 6 (by simp) (.slice p6 a3.length q6))
  have BA := Lib.hid (BA.out.other (c := w.heap.size + 1 + 1) (by omega) 6 (.slice p6 a3.length q6))
  have BB := Lib.hid (BB.out.other (c := w.heap.size + 1 + 1) (by omega) 6 (.slice p6 a3.length q6))
  have HB := Lib.hid (HB.out.setCell (p := ⟨w.heap.size + 1 + 1, 6, none⟩) (by simp; try omega) (.slice p6 a3.length q6))
  have R6 := Lib.hid (R6.out.keep good_str ((Kept.refl _ _).setCell (p := ⟨w.heap.size + 1 + 1, 6, none⟩) (by simp) (.slice p6 a3.length q6)))
  simp only [List.set_cons_zero, List.set_cons_succ] at BC
  have BB := Lib.hid (BB.out.set 0 (by simp) (.int .i64 a0))
  have HB := Lib.hid (HB.out.setCell (p := ⟨w.heap.size + 1, 0, none⟩) (by simp; try omega) (.int .i64 a0))
  have BB := Lib.hid (BB.out.set 1 (by simp) (.string ⟨a1.toArray⟩))
  have HB := Lib.hid (HB.out.setCell (p := ⟨w.heap.size + 1, 1, none⟩) (by simp; try omega) (.string ⟨a1.toArray⟩))
  have BB := Lib.hid (BB.out.set 2 (by simp) (.string ⟨a2_0.toArray⟩))
  have HB := Lib.hid (HB.out.setCell (p := ⟨w.heap.size + 1, 2, none⟩) (by simp; try omega) (.string ⟨a2_0.toArray⟩))
  have BB := Lib.hid (BB.out.set 3 (by simp) (.string ⟨a2_1.toArray⟩))
  have HB := Lib.hid (HB.out.setCell (p := ⟨w.heap.size + 1, 3, none⟩) (by simp; try omega) (.string ⟨a2_1.toArray⟩))
  have BB := Lib.hid (BB.out.set 4 (by simp) (.int .i64 a2_2))
  have HB := Lib.hid (HB.out.setCell (p := ⟨w.heap.size + 1, 4, none⟩) (by simp; try omega) (.int .i64 a2_2))
  have BB := Lib.hid (BB.out.set 5 (by simp) (.string ⟨a2_3.toArray⟩))
  have HB := Lib.hid (HB.out.setCell (p := ⟨w.heap.size + 1, 5, none⟩) (by simp; try omega) (.string ⟨a2_3.toArray⟩))
  have BB := Lib.hid (BB.out.set 6 (by simp) (.slice p6 a3.length q6))
  have HB := Lib.hid (HB.out.setCell (p := ⟨w.heap.size + 1, 6, none⟩) (by simp; try omega) (.slice p6 a3.length q6))
  have R6 := Lib.hid ((R6.out.keep good_str ((((((((Kept.refl _ _).setCell (p := ⟨w.heap.size + 1, 0, none⟩) (by simp) (.int .i64 a0)).setCell (p := ⟨w.heap.size + 1, 1, none⟩) (by simp) (.string ⟨a1.toArray⟩)).setCell (p := ⟨w.heap.size + 1, 2, none⟩) (by simp) (.string ⟨a2_0.toArray⟩)).setCell (p := ⟨w.heap.size + 1, 3, none⟩) (by simp) (.string ⟨a2_1.toArray⟩)).setCell (p := ⟨w.heap.size + 1, 4, none⟩) (by simp) (.int .i64 a2_2)).setCell (p := ⟨w.heap.size + 1, 5, none⟩) (by simp) (.string ⟨a2_3.toArray⟩)).setCell (p := ⟨w.heap.size + 1, 6, none⟩) (by simp) (.slice p6 a3.length q6))).mono good_str (show w.heap.size ≤ w.heap.size + 3 by omega))
  simp only [List.set_cons_zero, List.set_cons_succ] at BB
  generalize ((((((((w2).setCell ⟨w.heap.size + 1 + 1, 6, none⟩ (.slice p6 a3.length q6)).setCell ⟨w.heap.size + 1, 0, none⟩ (.int .i64 a0)).setCell ⟨w.heap.size + 1, 1, none⟩ (.string ⟨a1.toArray⟩)).setCell ⟨w.heap.size + 1, 2, none⟩ (.string ⟨a2_0.toArray⟩)).setCell ⟨w.heap.size + 1, 3, none⟩ (.string ⟨a2_1.toArray⟩)).setCell ⟨w.heap.size + 1, 4, none⟩ (.int .i64 a2_2)).setCell ⟨w.heap.size + 1, 5, none⟩ (.string ⟨a2_3.toArray⟩)).setCell ⟨w.heap.size + 1, 6, none⟩ (.slice p6 a3.length q6) = WE at *
  have eB0 := BB.out.cell 0 (by simp)
  have eB1 := BB.out.cell 1 (by simp)
  have eB2 := BB.out.cell 2 (by simp)
  have eB3 := BB.out.cell 3 (by simp)
  have eB4 := BB.out.cell 4 (by simp)
  have eB5 := BB.out.cell 5 (by simp)
  have eB6 := BB.out.cell 6 (by simp)
  simp only [List.getElem_cons_zero, List.getElem_cons_succ, List.set_cons_zero, List.set_cons_succ] at eB0 eB1 eB2 eB3 eB4 eB5 eB6
  exact bodyPost_ret (v := .agg #[.int .i64 a0, .string ⟨a1.toArray⟩, .string ⟨a2_0.toArray⟩, .string ⟨a2_1.toArray⟩, .int .i64 a2_2, .string ⟨a2_3.toArray⟩, .slice p6 a3.length q6]) (by simp [results, Tryz.results30, go_sem, eB0, eB1, eB2, eB3, eB4, eB5, eB6]) rfl ⟨_, rfl, ⟨_, rfl, R6.out⟩, HB.out⟩
set_option maxRecDepth 100000 in
set_option maxHeartbeats 1600000 in
theorem szEvent_d (v : Value) (x : EventD) (left : Int) (w : World) (hx : ValAt rEvent 0 w v x) (hk : okEvent x) (h0 : 0 ≤ left) (h1 : left ≤ 1099511627776) : Calls Tryz.prog 28 #[v, .int .i64 left] w fun e w' => SzF (zEvent x) left w e w' := by
  obtain ⟨_, rfl, hx⟩ := hx
  obtain ⟨a0, a1, ⟨a2_0, a2_1, a2_2, a2_3⟩, a3⟩ := x
  obtain ⟨v6, rfl, hr6⟩ := hx
  simp only at hr6
  unfold okEvent at hk
  simp only at hk
  simp only [zEvent, zCall]
  have HK := Lib.hid hk
  obtain ⟨ra6, rc6, rfl, _⟩ := sliceAt_len hr6
  have H6 := Lib.hid hr6
  clear hk hr6
  have HS := Lib.hid (bx_start1 w [.int .i64 a0, .string ⟨a1.toArray⟩, .string ⟨a2_0.toArray⟩, .string ⟨a2_1.toArray⟩, .int .i64 a2_2, .string ⟨a2_3.toArray⟩, .slice ra6 a3.length rc6] 60)
  have BA := Lib.hid HS.out.1
  have HB := Lib.hid HS.out.2
  clear HS
  go_enter Tryz.func28, Tryz.ntmps28
  have HZ1 := Lib.hid (size_strB a1)
  have hl1 : a1.length ≤ 9223372036854775807 := by have h := HK.out.2.1; unfold maxLen at h; exact h
  by_cases hn1 : left - (a1.length : Int) < 0
  · go_wp2_with fail
    go_ret
    exact ⟨-1, rfl, by omega, by omega, HB.out⟩
  · skip
    have HF2 := Lib.hid (fun w0 l0 h0 h1 => szCall_any (⟨a2_0, a2_1, a2_2, a2_3⟩ : CallD) l0 w0 h0 h1 (HK.out.2.2.1))
    simp only [vCall] at HF2
    go_wp2_with fail
    generalize w.alloc (.cells #[.int .i64 a0, .string ⟨a1.toArray⟩, .string ⟨a2_0.toArray⟩, .string ⟨a2_1.toArray⟩, .int .i64 a2_2, .string ⟨a2_3.toArray⟩, .slice ra6 a3.length rc6] 60) = X1 at *
    refine (HF2.out _ _ (by omega) (by omega)).mono ?_
    rintro e w1 ⟨r2, rfl, hra2, hrb2, hb⟩
    have HR2 := Lib.hid hrb2
    have HB := Lib.hid (belS (w := w) HB.out hb)
    have BA := Lib.hid (BA.out.below hb)
    clear hb hrb2
    have eA0 := BA.out.cell 0 (by simp)
    have eA1 := BA.out.cell 1 (by simp)
    have eA2 := BA.out.cell 2 (by simp)
    have eA3 := BA.out.cell 3 (by simp)
    have eA4 := BA.out.cell 4 (by simp)
    have eA5 := BA.out.cell 5 (by simp)
    have eA6 := BA.out.cell 6 (by simp)
    simp only [List.getElem_cons_zero, List.getElem_cons_succ, List.set_cons_zero, List.set_cons_succ] at eA0 eA1 eA2 eA3 eA4 eA5 eA6
    by_cases hn2 : r2 < 0
    · go_wp2_with fail
      go_ret
      exact ⟨-1, rfl, by omega, by omega, HB.out⟩
    · have hs2 := HR2.out (by omega)
      go_wp2_with fail
      clear eA0 eA1 eA2 eA3 eA4 eA5 eA6
      refine (szStringS_d _ a3 _ _ (H6.out.below good_str HB.out (Nat.le_refl _)) HK.out.2.2.2 (by omega) (by omega)).mono ?_
      rintro e w2 ⟨r3, rfl, hra3, hrb3, hb⟩
      have HR3 := Lib.hid hrb3
      have HB := Lib.hid (belS (w := w) HB.out hb)
      have BA := Lib.hid (BA.out.below hb)
      clear hb hrb3
      have eA0 := BA.out.cell 0 (by simp)
      have eA1 := BA.out.cell 1 (by simp)
      have eA2 := BA.out.cell 2 (by simp)
      have eA3 := BA.out.cell 3 (by simp)
      have eA4 := BA.out.cell 4 (by simp)
      have eA5 := BA.out.cell 5 (by simp)
      have eA6 := BA.out.cell 6 (by simp)
      simp only [List.getElem_cons_zero, List.getElem_cons_succ, List.set_cons_zero, List.set_cons_succ] at eA0 eA1 eA2 eA3 eA4 eA5 eA6
      by_cases hn3 : r3 < 0
      · go_wp2_with fail
        go_ret
        exact ⟨-1, rfl, by omega, by omega, HB.out⟩
      · have hs3 := HR3.out (by omega)
        go_wp2_with fail
        go_ret
        exact ⟨_, rfl, by omega, by intro _; (try simp only [zCall] at *); push_cast; omega, HB.out⟩
set_option maxRecDepth 100000 in
set_option maxHeartbeats 1600000 in
theorem eqEvent_d (v u : Value) (x y : EventD) (w : World) (hx : ValAt rEvent 0 w v x) (hy : ValAt rEvent 0 w u y) : Calls Tryz.prog 32 #[v, u] w fun e w' => e = .returned (.bool (decide (x = y))) ∧ Below w.heap.size w w' := by
  have HQ := Lib.hid (show decide (x = y) = (decide (x.fKind = y.fKind) && decide (x.fName = y.fName) && decide (x.fCall = y.fCall) && decide (x.fRecipe = y.fRecipe)) by rw [Bool.eq_iff_iff]; cases x; cases y; simp [and_assoc])
  obtain ⟨_, rfl, hx⟩ := hx
  obtain ⟨a0, a1, ⟨a2_0, a2_1, a2_2, a2_3⟩, a3⟩ := x
  obtain ⟨v6, rfl, hv6⟩ := hx
  simp only at hv6
  obtain ⟨_, rfl, hy⟩ := hy
  obtain ⟨b0, b1, ⟨b2_0, b2_1, b2_2, b2_3⟩, b3⟩ := y
  obtain ⟨u6, rfl, hu6⟩ := hy
  simp only at hu6
  simp only at HQ
  obtain ⟨ra6, rc6, rfl, _⟩ := sliceAt_len hv6
  obtain ⟨sa6, sc6, rfl, _⟩ := sliceAt_len hu6
  have HV6 := Lib.hid hv6
  have HU6 := Lib.hid hu6
  clear hv6 hu6
  have HC2 := Lib.hid (fun w0 (hw : Below w.heap.size w w0) => eqCall_any (⟨a2_0, a2_1, a2_2, a2_3⟩ : CallD) (⟨b2_0, b2_1, b2_2, b2_3⟩ : CallD) w0)
  simp only [vCall] at HC2
  generalize decide ((⟨a2_0, a2_1, a2_2, a2_3⟩ : CallD) = (⟨b2_0, b2_1, b2_2, b2_3⟩ : CallD)) = p2 at *
  have HC3 := Lib.hid (fun w0 (hw : Below w.heap.size w w0) => eqStringS_d _ _ a3 b3 w0 (HV6.out.below good_str hw (Nat.le_refl _)) (HU6.out.below good_str hw (Nat.le_refl _)))
  generalize decide (a3 = b3) = p3 at *
  generalize hq : decide ((⟨a0, a1, ⟨a2_0, a2_1, a2_2, a2_3⟩, a3⟩ : EventD) = (⟨b0, b1, ⟨b2_0, b2_1, b2_2, b2_3⟩, b3⟩ : EventD)) = q at *
  clear hq
  have HS := Lib.hid (bx_start2 w [.int .i64 a0, .string ⟨a1.toArray⟩, .string ⟨a2_0.toArray⟩, .string ⟨a2_1.toArray⟩, .int .i64 a2_2, .string ⟨a2_3.toArray⟩, .slice ra6 a3.length rc6] [.int .i64 b0, .string ⟨b1.toArray⟩, .string ⟨b2_0.toArray⟩, .string ⟨b2_1.toArray⟩, .int .i64 b2_2, .string ⟨b2_3.toArray⟩, .slice sa6 b3.length sc6] 65 65)
  by_cases h0 : a0 = b0
  · subst h0
    by_cases h1 : a1 = b1
    · subst h1
      cases p2 with
      | true =>
        cases p3 with
        | true =>
          have HF := Lib.hid (show q = true from by rw [HQ.out]; simp)
          go_enter Tryz.func32, Tryz.ntmps32
          have BA := Lib.hid HS.out.1
          have BB := Lib.hid HS.out.2.1
          have HB := Lib.hid HS.out.2.2
          go_wp2_with fail
          refine (HC2.out _ HB.out).mono ?_
          rintro e w1 ⟨rfl, hb⟩
          have HB := Lib.hid (belS (w := w) HB.out hb)
          have BA := Lib.hid (BA.out.below hb)
          have BB := Lib.hid (BB.out.below hb)
          clear hb
          have eA0 := BA.out.cell 0 (by simp)
          have eB0 := BB.out.cell 0 (by simp)
          have eA1 := BA.out.cell 1 (by simp)
          have eB1 := BB.out.cell 1 (by simp)
          have eA2 := BA.out.cell 2 (by simp)
          have eB2 := BB.out.cell 2 (by simp)
          have eA3 := BA.out.cell 3 (by simp)
          have eB3 := BB.out.cell 3 (by simp)
          have eA4 := BA.out.cell 4 (by simp)
          have eB4 := BB.out.cell 4 (by simp)
          have eA5 := BA.out.cell 5 (by simp)
          have eB5 := BB.out.cell 5 (by simp)
          have eA6 := BA.out.cell 6 (by simp)
          have eB6 := BB.out.cell 6 (by simp)
          simp only [List.getElem_cons_zero, List.getElem_cons_succ, List.set_cons_zero, List.set_cons_succ] at eA0 eB0 eA1 eB1 eA2 eB2 eA3 eB3 eA4 eB4 eA5 eB5 eA6 eB6
          go_wp2_with fail
          clear eA0 eB0 eA1 eB1 eA2 eB2 eA3 eB3 eA4 eB4 eA5 eB5 eA6 eB6
          refine (HC3.out _ HB.out).mono ?_
          rintro e w2 ⟨rfl, hb⟩
          have HB := Lib.hid (belS (w := w) HB.out hb)
          have BA := Lib.hid (BA.out.below hb)
          have BB := Lib.hid (BB.out.below hb)
          clear hb
          have eA0 := BA.out.cell 0 (by simp)
          have eB0 := BB.out.cell 0 (by simp)
          have eA1 := BA.out.cell 1 (by simp)
          have eB1 := BB.out.cell 1 (by simp)
          have eA2 := BA.out.cell 2 (by simp)
          have eB2 := BB.out.cell 2 (by simp)
          have eA3 := BA.out.cell 3 (by simp)
          have eB3 := BB.out.cell 3 (by simp)
          have eA4 := BA.out.cell 4 (by simp)
          have eB4 := BB.out.cell 4 (by simp)
          have eA5 := BA.out.cell 5 (by simp)
          have eB5 := BB.out.cell 5 (by simp)
          have eA6 := BA.out.cell 6 (by simp)
          have eB6 := BB.out.cell 6 (by simp)
          simp only [List.getElem_cons_zero, List.getElem_cons_succ, List.set_cons_zero, List.set_cons_succ] at eA0 eB0 eA1 eB1 eA2 eB2 eA3 eB3 eA4 eB4 eA5 eB5 eA6 eB6
          go_wp2_with fail
          go_ret
          exact ⟨ret_bool HF.out.symm, HB.out⟩
        | false =>
          have HF := Lib.hid (show q = false from by rw [HQ.out]; simp)
          go_enter Tryz.func32, Tryz.ntmps32
          have BA := Lib.hid HS.out.1
          have BB := Lib.hid HS.out.2.1
          have HB := Lib.hid HS.out.2.2
          go_wp2_with fail
          refine (HC2.out _ HB.out).mono ?_
          rintro e w1 ⟨rfl, hb⟩
          have HB := Lib.hid (belS (w := w) HB.out hb)
          have BA := Lib.hid (BA.out.below hb)
          have BB := Lib.hid (BB.out.below hb)
          clear hb
          have eA0 := BA.out.cell 0 (by simp)
          have eB0 := BB.out.cell 0 (by simp)
          have eA1 := BA.out.cell 1 (by simp)
          have eB1 := BB.out.cell 1 (by simp)
          have eA2 := BA.out.cell 2 (by simp)
          have eB2 := BB.out.cell 2 (by simp)
          have eA3 := BA.out.cell 3 (by simp)
          have eB3 := BB.out.cell 3 (by simp)
          have eA4 := BA.out.cell 4 (by simp)
          have eB4 := BB.out.cell 4 (by simp)
          have eA5 := BA.out.cell 5 (by simp)
          have eB5 := BB.out.cell 5 (by simp)
          have eA6 := BA.out.cell 6 (by simp)
          have eB6 := BB.out.cell 6 (by simp)
          simp only [List.getElem_cons_zero, List.getElem_cons_succ, List.set_cons_zero, List.set_cons_succ] at eA0 eB0 eA1 eB1 eA2 eB2 eA3 eB3 eA4 eB4 eA5 eB5 eA6 eB6
          go_wp2_with fail
          clear eA0 eB0 eA1 eB1 eA2 eB2 eA3 eB3 eA4 eB4 eA5 eB5 eA6 eB6
          refine (HC3.out _ HB.out).mono ?_
          rintro e w2 ⟨rfl, hb⟩
          have HB := Lib.hid (belS (w := w) HB.out hb)
          have BA := Lib.hid (BA.out.below hb)
          have BB := Lib.hid (BB.out.below hb)
          clear hb
          have eA0 := BA.out.cell 0 (by simp)
          have eB0 := BB.out.cell 0 (by simp)
          have eA1 := BA.out.cell 1 (by simp)
          have eB1 := BB.out.cell 1 (by simp)
          have eA2 := BA.out.cell 2 (by simp)
          have eB2 := BB.out.cell 2 (by simp)
          have eA3 := BA.out.cell 3 (by simp)
          have eB3 := BB.out.cell 3 (by simp)
          have eA4 := BA.out.cell 4 (by simp)
          have eB4 := BB.out.cell 4 (by simp)
          have eA5 := BA.out.cell 5 (by simp)
          have eB5 := BB.out.cell 5 (by simp)
          have eA6 := BA.out.cell 6 (by simp)
          have eB6 := BB.out.cell 6 (by simp)
          simp only [List.getElem_cons_zero, List.getElem_cons_succ, List.set_cons_zero, List.set_cons_succ] at eA0 eB0 eA1 eB1 eA2 eB2 eA3 eB3 eA4 eB4 eA5 eB5 eA6 eB6
          go_wp2_with fail
          go_ret
          exact ⟨ret_bool HF.out.symm, HB.out⟩
      | false =>
        have HF := Lib.hid (show q = false from by rw [HQ.out]; simp)
        go_enter Tryz.func32, Tryz.ntmps32
        have BA := Lib.hid HS.out.1
        have BB := Lib.hid HS.out.2.1
        have HB := Lib.hid HS.out.2.2
        go_wp2_with fail
        refine (HC2.out _ HB.out).mono ?_
        rintro e w1 ⟨rfl, hb⟩
        have HB := Lib.hid (belS (w := w) HB.out hb)
        have BA := Lib.hid (BA.out.below hb)
        have BB := Lib.hid (BB.out.below hb)
        clear hb
        have eA0 := BA.out.cell 0 (by simp)
        have eB0 := BB.out.cell 0 (by simp)
        have eA1 := BA.out.cell 1 (by simp)
        have eB1 := BB.out.cell 1 (by simp)
        have eA2 := BA.out.cell 2 (by simp)
        have eB2 := BB.out.cell 2 (by simp)
        have eA3 := BA.out.cell 3 (by simp)
        have eB3 := BB.out.cell 3 (by simp)
        have eA4 := BA.out.cell 4 (by simp)
        have eB4 := BB.out.cell 4 (by simp)
        have eA5 := BA.out.cell 5 (by simp)
        have eB5 := BB.out.cell 5 (by simp)
        have eA6 := BA.out.cell 6 (by simp)
        have eB6 := BB.out.cell 6 (by simp)
        simp only [List.getElem_cons_zero, List.getElem_cons_succ, List.set_cons_zero, List.set_cons_succ] at eA0 eB0 eA1 eB1 eA2 eB2 eA3 eB3 eA4 eB4 eA5 eB5 eA6 eB6
        go_wp2_with fail
        go_ret
        exact ⟨ret_bool HF.out.symm, HB.out⟩
    · have HF := Lib.hid (show q = false from by rw [HQ.out]; simp [h1])
      have hne1 : (a1 == b1) = false := by simpa using h1
      have hnf1 : (a1 != b1) = true := by simpa using h1
      clear h1
      go_enter Tryz.func32, Tryz.ntmps32
      have BA := Lib.hid HS.out.1
      have BB := Lib.hid HS.out.2.1
      have HB := Lib.hid HS.out.2.2
      go_wp2_with fail
      go_ret
      exact ⟨ret_bool HF.out.symm, HB.out⟩
  · have HF := Lib.hid (show q = false from by rw [HQ.out]; simp [h0])
    have hne0 : (a0 == b0) = false := by simpa using h0
    have hnf0 : (a0 != b0) = true := by simpa using h0
    clear h0
    go_enter Tryz.func32, Tryz.ntmps32
    have BA := Lib.hid HS.out.1
    have BB := Lib.hid HS.out.2.1
    have HB := Lib.hid HS.out.2.2
    go_wp2_with fail
    go_ret
    exact ⟨ret_bool HF.out.symm, HB.out⟩
end Go.Proofs.YtlkpinlkbikokabGreat
/- Calls, plain; takesKey, takesValue, takesText, WantOf. Written by gen/ch3calls.py. -/
namespace Go.Proofs.YtlkpinlkbikokabGreat
set_option linter.unusedVariables false
open Go.RowKit
abbrev mStart : List UInt8 := [83, 116, 97, 114, 116]
abbrev mStop : List UInt8 := [83, 116, 111, 112]
abbrev mGet : List UInt8 := [71, 101, 116]
abbrev mPut : List UInt8 := [80, 117, 116]
abbrev mTell : List UInt8 := [84, 101, 108, 108]
abbrev mHear : List UInt8 := [72, 101, 97, 114]
abbrev mLoad : List UInt8 := [76, 111, 97, 100]
abbrev mSave : List UInt8 := [83, 97, 118, 101]
abbrev mHeal : List UInt8 := [72, 101, 97, 108]
def takesK (m : List UInt8) : Bool := m == mGet || m == mPut
def takesV (m : List UInt8) : Bool := m == mPut || m == mHear
def takesT (m : List UInt8) : Bool := m == mLoad
def callB (d : CallD) : Bool := (wantF d.fMethod != 0) && (if takesK d.fMethod then nameB d.fKey else d.fKey.isEmpty) && (if takesV d.fMethod then numB d.fValue else d.fValue == 0) && (d.fText.isEmpty || takesT d.fMethod)
/-- a text is one of the nine methods, or wants nothing and is none of them -/
theorem meth_cases (m : List UInt8) : m = mStart ∨ m = mStop ∨ m = mGet ∨ m = mPut ∨ m = mTell ∨ m = mHear ∨ m = mLoad ∨ m = mSave ∨ m = mHeal ∨ (wantF m = 0 ∧ m ≠ mStart ∧ m ≠ mStop ∧ m ≠ mGet ∧ m ≠ mPut ∧ m ≠ mTell ∧ m ≠ mHear ∧ m ≠ mLoad ∧ m ≠ mSave ∧ m ≠ mHeal) := by
  by_cases h : wantF m = 0
  · iterate 9 right
    refine ⟨h, ?_, ?_, ?_, ?_, ?_, ?_, ?_, ?_, ?_⟩ <;> (rintro rfl; exact absurd h (by decide))
  · unfold wantF at h
    rcases findK_bd (fun k => decide (m ∈ mthN k)) 6 0 with e | ⟨j, e, hj, hm⟩
    · exact absurd (show wantI (abOfM m) = 0 by unfold abOfM; rw [e]; rfl) h
    · have hm := of_decide_eq_true hm
      rcases (show j = 0 ∨ j = 1 ∨ j = 2 ∨ j = 3 ∨ j = 4 ∨ j = 5 by omega) with rfl | rfl | rfl | rfl | rfl | rfl <;> simp [mthN] at hm <;> (first | (rcases hm with hm | hm <;> subst hm <;> decide) | (subst hm; decide))
set_option maxHeartbeats 800000 in
theorem takesKey_any (m : List UInt8) (w : World) : Calls Tryz.prog 98 #[.string ⟨m.toArray⟩] w fun e w' => e = .returned (.bool (takesK m)) ∧ w = w' := by
  by_cases hGet : m = mGet
  · subst hGet
    go_enter Tryz.func98, Tryz.ntmps98
    go_wp2
    go_ret
    exact ⟨rfl, rfl⟩
  by_cases hPut : m = mPut
  · subst hPut
    go_enter Tryz.func98, Tryz.ntmps98
    go_wp2
    go_ret
    exact ⟨rfl, rfl⟩
  have bGet : (m == [71, 101, 116]) = false := by simpa using hGet
  have bPut : (m == [80, 117, 116]) = false := by simpa using hPut
  have HR := Lib.hid (show takesK m = false by simp only [takesK, bGet, bPut] <;> rfl)
  clear hGet hPut
  go_enter Tryz.func98, Tryz.ntmps98
  go_wp2
  go_ret
  exact ⟨ret_bool HR.out.symm, rfl⟩
theorem takesKey_b (m : List UInt8) (x : Bool) (h : takesK m = x) (w : World) : Calls Tryz.prog 98 #[.string ⟨m.toArray⟩] w fun e w' => e = .returned (.bool x) ∧ w = w' := by subst h; exact takesKey_any m w
set_option maxHeartbeats 800000 in
theorem takesValue_any (m : List UInt8) (w : World) : Calls Tryz.prog 99 #[.string ⟨m.toArray⟩] w fun e w' => e = .returned (.bool (takesV m)) ∧ w = w' := by
  by_cases hPut : m = mPut
  · subst hPut
    go_enter Tryz.func99, Tryz.ntmps99
    go_wp2
    go_ret
    exact ⟨rfl, rfl⟩
  by_cases hHear : m = mHear
  · subst hHear
    go_enter Tryz.func99, Tryz.ntmps99
    go_wp2
    go_ret
    exact ⟨rfl, rfl⟩
  have bPut : (m == [80, 117, 116]) = false := by simpa using hPut
  have bHear : (m == [72, 101, 97, 114]) = false := by simpa using hHear
  have HR := Lib.hid (show takesV m = false by simp only [takesV, bPut, bHear] <;> rfl)
  clear hPut hHear
  go_enter Tryz.func99, Tryz.ntmps99
  go_wp2
  go_ret
  exact ⟨ret_bool HR.out.symm, rfl⟩
theorem takesValue_b (m : List UInt8) (x : Bool) (h : takesV m = x) (w : World) : Calls Tryz.prog 99 #[.string ⟨m.toArray⟩] w fun e w' => e = .returned (.bool x) ∧ w = w' := by subst h; exact takesValue_any m w
set_option maxHeartbeats 800000 in
theorem takesText_any (m : List UInt8) (w : World) : Calls Tryz.prog 101 #[.string ⟨m.toArray⟩] w fun e w' => e = .returned (.bool (takesT m)) ∧ w = w' := by
  by_cases hLoad : m = mLoad
  · subst hLoad
    go_enter Tryz.func101, Tryz.ntmps101
    go_wp2
    go_ret
    exact ⟨rfl, rfl⟩
  have bLoad : (m == [76, 111, 97, 100]) = false := by simpa using hLoad
  have HR := Lib.hid (show takesT m = false by simp only [takesT, bLoad] <;> rfl)
  clear hLoad
  go_enter Tryz.func101, Tryz.ntmps101
  go_wp2
  go_ret
  exact ⟨ret_bool HR.out.symm, rfl⟩
theorem takesText_b (m : List UInt8) (x : Bool) (h : takesT m = x) (w : World) : Calls Tryz.prog 101 #[.string ⟨m.toArray⟩] w fun e w' => e = .returned (.bool x) ∧ w = w' := by subst h; exact takesText_any m w
set_option maxHeartbeats 800000 in
theorem implWant_any (s : ByteArray) (w : World) :
    Calls Tryz.prog 97 #[.string s] w fun e w' => e = .returned (.int .i64 (wantF s.data.toList)) ∧ Below w.heap.size w w' := by
  have HA := Lib.hid (implAbilityOfMethod_any s)
  have hb := abOfM_bd s.data.toList
  unfold wantF
  generalize abOfM s.data.toList = k at *
  rcases hb with rfl | ⟨j, rfl, hj⟩
  · go_enter Tryz.func97, Tryz.ntmps97
    go_wp2_with fail
    refine (HA.out w).mono ?_
    rintro e w1 ⟨rfl, hb⟩
    go_wp2_with fail
    go_ret
    exact ⟨rfl, hb⟩
  · have HP := Lib.hid (show wrap64 (2 ^ j) = wantI (j : Nat) by unfold wantI; rw [if_neg (by omega), pow_of j hj]; simp)
    go_enter Tryz.func97, Tryz.ntmps97
    go_wp2_with fail
    refine (HA.out w).mono ?_
    rintro e w1 ⟨rfl, hb⟩
    go_wp2_with fail
    go_ret
    exact ⟨ret_int HP.out, hb⟩
theorem implWant_b (m : List UInt8) (x : Int) (h : wantF m = x) (w : World) : Calls Tryz.prog 97 #[.string ⟨m.toArray⟩] w fun e w' => e = .returned (.int .i64 x) ∧ Below w.heap.size w w' := by
  subst h; exact implWant_any ⟨m.toArray⟩ w
theorem specWant_b (m : List UInt8) (x : Int) (h : wantF m = x) (w : World) : Calls Tryz.prog 93 #[.string ⟨m.toArray⟩] w fun e w' => e = .returned (.int .i64 x) ∧ Below w.heap.size w w' := by
  subst h; exact specWant_any ⟨m.toArray⟩ w
end Go.Proofs.YtlkpinlkbikokabGreat
/- The program's IsCall, method by method: three of them. Written by gen/ch3calls.py. -/
namespace Go.Proofs.YtlkpinlkbikokabGreat
set_option linter.unusedVariables false
open Go.RowKit
set_option maxRecDepth 100000 in
set_option maxHeartbeats 3200000 in
theorem implIsCall_Start (key : List UInt8) (v : Int) (text : List UInt8) (w : World) (hk : key.length ≤ maxLen) :
    Calls Tryz.prog 70 #[.agg #[.string ⟨#[83, 116, 97, 114, 116]⟩, .string ⟨key.toArray⟩, .int .i64 v, .string ⟨text.toArray⟩]] w fun e w' => e = .returned (.bool (callB ⟨mStart, key, v, text⟩)) ∧ Below w.heap.size w w' := by
  have HR := Lib.hid (show callB ⟨mStart, key, v, text⟩ = (key.isEmpty && (v == 0) && (text.isEmpty || false)) from rfl)
  have HW := Lib.hid (show ∀ w0, Calls Tryz.prog 97 #[.string ⟨#[83, 116, 97, 114, 116]⟩] w0 fun e w' => e = .returned (.int .i64 1) ∧ Below w0.heap.size w0 w' from fun w0 => implWant_b mStart 1 rfl w0)
  have HTK := Lib.hid (show ∀ w0, Calls Tryz.prog 98 #[.string ⟨#[83, 116, 97, 114, 116]⟩] w0 fun e w' => e = .returned (.bool false) ∧ w0 = w' from takesKey_b mStart _ rfl)
  have HTV := Lib.hid (show ∀ w0, Calls Tryz.prog 99 #[.string ⟨#[83, 116, 97, 114, 116]⟩] w0 fun e w' => e = .returned (.bool false) ∧ w0 = w' from takesValue_b mStart _ rfl)
  have HTT := Lib.hid (show ∀ w0, Calls Tryz.prog 101 #[.string ⟨#[83, 116, 97, 114, 116]⟩] w0 fun e w' => e = .returned (.bool false) ∧ w0 = w' from takesText_b mStart _ rfl)
  generalize callB ⟨mStart, key, v, text⟩ = res at *
  clear hk
  have HB0 := Lib.hid (show ∀ o, Below w.heap.size w (w.alloc o) from fun o => (Below.refl w.heap.size w).alloc (Nat.le_refl _) o)
  go_enter Tryz.func70, Tryz.ntmps70
  go_wp2_with fail
  refine (HW.out _).mono ?_
  rintro e w1 ⟨rfl, hb⟩
  have HB := Lib.hid ((HB0.out _).trans (hb.mono (HB0.out _).size))
  obtain ⟨hcc, _⟩ := bcell hb
  simp at hcc
  have c0 := hcc w.heap.size 0 (by omega)
  have c1 := hcc w.heap.size 1 (by omega)
  have c2 := hcc w.heap.size 2 (by omega)
  have c3 := hcc w.heap.size 3 (by omega)
  simp at c0 c1 c2 c3
  clear hb hcc
  cases key <;> cases text
  all_goals
    by_cases h0 : v = 0
    · subst h0
      go_wp2_with (first | (go_at_call 98; (with_reducible refine (HTK.out _).mono ?_); rintro e w' ⟨rfl, rfl⟩) | (go_at_call 99; (with_reducible refine (HTV.out _).mono ?_); rintro e w' ⟨rfl, rfl⟩) | (go_at_call 101; (with_reducible refine (HTT.out _).mono ?_); rintro e w' ⟨rfl, rfl⟩))
      go_ret
      exact ⟨ret_bool (by rw [HR.out]; rfl), HB.out⟩
    · have hv0 : (v == 0) = false := by simpa using h0
      rw [hv0] at HR
      clear h0
      go_wp2_with (first | (go_at_call 98; (with_reducible refine (HTK.out _).mono ?_); rintro e w' ⟨rfl, rfl⟩) | (go_at_call 99; (with_reducible refine (HTV.out _).mono ?_); rintro e w' ⟨rfl, rfl⟩) | (go_at_call 101; (with_reducible refine (HTT.out _).mono ?_); rintro e w' ⟨rfl, rfl⟩))
      go_ret
      exact ⟨ret_bool (by rw [HR.out]; rfl), HB.out⟩
set_option maxRecDepth 100000 in
set_option maxHeartbeats 3200000 in
theorem implIsCall_Stop (key : List UInt8) (v : Int) (text : List UInt8) (w : World) (hk : key.length ≤ maxLen) :
    Calls Tryz.prog 70 #[.agg #[.string ⟨#[83, 116, 111, 112]⟩, .string ⟨key.toArray⟩, .int .i64 v, .string ⟨text.toArray⟩]] w fun e w' => e = .returned (.bool (callB ⟨mStop, key, v, text⟩)) ∧ Below w.heap.size w w' := by
  have HR := Lib.hid (show callB ⟨mStop, key, v, text⟩ = (key.isEmpty && (v == 0) && (text.isEmpty || false)) from rfl)
  have HW := Lib.hid (show ∀ w0, Calls Tryz.prog 97 #[.string ⟨#[83, 116, 111, 112]⟩] w0 fun e w' => e = .returned (.int .i64 1) ∧ Below w0.heap.size w0 w' from fun w0 => implWant_b mStop 1 rfl w0)
  have HTK := Lib.hid (show ∀ w0, Calls Tryz.prog 98 #[.string ⟨#[83, 116, 111, 112]⟩] w0 fun e w' => e = .returned (.bool false) ∧ w0 = w' from takesKey_b mStop _ rfl)
  have HTV := Lib.hid (show ∀ w0, Calls Tryz.prog 99 #[.string ⟨#[83, 116, 111, 112]⟩] w0 fun e w' => e = .returned (.bool false) ∧ w0 = w' from takesValue_b mStop _ rfl)
  have HTT := Lib.hid (show ∀ w0, Calls Tryz.prog 101 #[.string ⟨#[83, 116, 111, 112]⟩] w0 fun e w' => e = .returned (.bool false) ∧ w0 = w' from takesText_b mStop _ rfl)
  generalize callB ⟨mStop, key, v, text⟩ = res at *
  clear hk
  have HB0 := Lib.hid (show ∀ o, Below w.heap.size w (w.alloc o) from fun o => (Below.refl w.heap.size w).alloc (Nat.le_refl _) o)
  go_enter Tryz.func70, Tryz.ntmps70
  go_wp2_with fail
  refine (HW.out _).mono ?_
  rintro e w1 ⟨rfl, hb⟩
  have HB := Lib.hid ((HB0.out _).trans (hb.mono (HB0.out _).size))
  obtain ⟨hcc, _⟩ := bcell hb
  simp at hcc
  have c0 := hcc w.heap.size 0 (by omega)
  have c1 := hcc w.heap.size 1 (by omega)
  have c2 := hcc w.heap.size 2 (by omega)
  have c3 := hcc w.heap.size 3 (by omega)
  simp at c0 c1 c2 c3
  clear hb hcc
  cases key <;> cases text
  all_goals
    by_cases h0 : v = 0
    · subst h0
      go_wp2_with (first | (go_at_call 98; (with_reducible refine (HTK.out _).mono ?_); rintro e w' ⟨rfl, rfl⟩) | (go_at_call 99; (with_reducible refine (HTV.out _).mono ?_); rintro e w' ⟨rfl, rfl⟩) | (go_at_call 101; (with_reducible refine (HTT.out _).mono ?_); rintro e w' ⟨rfl, rfl⟩))
      go_ret
      exact ⟨ret_bool (by rw [HR.out]; rfl), HB.out⟩
    · have hv0 : (v == 0) = false := by simpa using h0
      rw [hv0] at HR
      clear h0
      go_wp2_with (first | (go_at_call 98; (with_reducible refine (HTK.out _).mono ?_); rintro e w' ⟨rfl, rfl⟩) | (go_at_call 99; (with_reducible refine (HTV.out _).mono ?_); rintro e w' ⟨rfl, rfl⟩) | (go_at_call 101; (with_reducible refine (HTT.out _).mono ?_); rintro e w' ⟨rfl, rfl⟩))
      go_ret
      exact ⟨ret_bool (by rw [HR.out]; rfl), HB.out⟩
set_option maxRecDepth 100000 in
set_option maxHeartbeats 3200000 in
theorem implIsCall_Get (key : List UInt8) (v : Int) (text : List UInt8) (w : World) (hk : key.length ≤ maxLen) :
    Calls Tryz.prog 70 #[.agg #[.string ⟨#[71, 101, 116]⟩, .string ⟨key.toArray⟩, .int .i64 v, .string ⟨text.toArray⟩]] w fun e w' => e = .returned (.bool (callB ⟨mGet, key, v, text⟩)) ∧ Below w.heap.size w w' := by
  have HR := Lib.hid (show callB ⟨mGet, key, v, text⟩ = (nameB key && (v == 0) && (text.isEmpty || false)) from rfl)
  have HW := Lib.hid (show ∀ w0, Calls Tryz.prog 97 #[.string ⟨#[71, 101, 116]⟩] w0 fun e w' => e = .returned (.int .i64 2) ∧ Below w0.heap.size w0 w' from fun w0 => implWant_b mGet 2 rfl w0)
  have HN := Lib.hid (implIsName_b key _ rfl hk)
  have HTK := Lib.hid (show ∀ w0, Calls Tryz.prog 98 #[.string ⟨#[71, 101, 116]⟩] w0 fun e w' => e = .returned (.bool true) ∧ w0 = w' from takesKey_b mGet _ rfl)
  have HTV := Lib.hid (show ∀ w0, Calls Tryz.prog 99 #[.string ⟨#[71, 101, 116]⟩] w0 fun e w' => e = .returned (.bool false) ∧ w0 = w' from takesValue_b mGet _ rfl)
  have HTT := Lib.hid (show ∀ w0, Calls Tryz.prog 101 #[.string ⟨#[71, 101, 116]⟩] w0 fun e w' => e = .returned (.bool false) ∧ w0 = w' from takesText_b mGet _ rfl)
  generalize callB ⟨mGet, key, v, text⟩ = res at *
  generalize nameB key = kn at *
  clear hk
  have HB0 := Lib.hid (show ∀ o, Below w.heap.size w (w.alloc o) from fun o => (Below.refl w.heap.size w).alloc (Nat.le_refl _) o)
  go_enter Tryz.func70, Tryz.ntmps70
  go_wp2_with fail
  refine (HW.out _).mono ?_
  rintro e w1 ⟨rfl, hb⟩
  have HB := Lib.hid ((HB0.out _).trans (hb.mono (HB0.out _).size))
  obtain ⟨hcc, _⟩ := bcell hb
  simp at hcc
  have c0 := hcc w.heap.size 0 (by omega)
  have c1 := hcc w.heap.size 1 (by omega)
  have c2 := hcc w.heap.size 2 (by omega)
  have c3 := hcc w.heap.size 3 (by omega)
  simp at c0 c1 c2 c3
  clear hb hcc
  cases kn <;> cases text
  all_goals
    by_cases h0 : v = 0
    · subst h0
      go_wp2_with (first | (go_at_call 69; (with_reducible refine (HN.out _).mono ?_); rintro e w' ⟨rfl, rfl⟩) | (go_at_call 98; (with_reducible refine (HTK.out _).mono ?_); rintro e w' ⟨rfl, rfl⟩) | (go_at_call 99; (with_reducible refine (HTV.out _).mono ?_); rintro e w' ⟨rfl, rfl⟩) | (go_at_call 101; (with_reducible refine (HTT.out _).mono ?_); rintro e w' ⟨rfl, rfl⟩))
      go_ret
      exact ⟨ret_bool (by rw [HR.out]; rfl), HB.out⟩
    · have hv0 : (v == 0) = false := by simpa using h0
      rw [hv0] at HR
      clear h0
      go_wp2_with (first | (go_at_call 69; (with_reducible refine (HN.out _).mono ?_); rintro e w' ⟨rfl, rfl⟩) | (go_at_call 98; (with_reducible refine (HTK.out _).mono ?_); rintro e w' ⟨rfl, rfl⟩) | (go_at_call 99; (with_reducible refine (HTV.out _).mono ?_); rintro e w' ⟨rfl, rfl⟩) | (go_at_call 101; (with_reducible refine (HTT.out _).mono ?_); rintro e w' ⟨rfl, rfl⟩))
      go_ret
      exact ⟨ret_bool (by rw [HR.out]; rfl), HB.out⟩
end Go.Proofs.YtlkpinlkbikokabGreat
/- The program's IsCall, method by method: three more. Written by gen/ch3calls.py. -/
namespace Go.Proofs.YtlkpinlkbikokabGreat
set_option linter.unusedVariables false
open Go.RowKit
set_option maxRecDepth 100000 in
set_option maxHeartbeats 3200000 in
theorem implIsCall_Put (key : List UInt8) (v : Int) (text : List UInt8) (w : World) (hk : key.length ≤ maxLen) :
    Calls Tryz.prog 70 #[.agg #[.string ⟨#[80, 117, 116]⟩, .string ⟨key.toArray⟩, .int .i64 v, .string ⟨text.toArray⟩]] w fun e w' => e = .returned (.bool (callB ⟨mPut, key, v, text⟩)) ∧ Below w.heap.size w w' := by
  have HR := Lib.hid (show callB ⟨mPut, key, v, text⟩ = (nameB key && numB v && (text.isEmpty || false)) from rfl)
  have HW := Lib.hid (show ∀ w0, Calls Tryz.prog 97 #[.string ⟨#[80, 117, 116]⟩] w0 fun e w' => e = .returned (.int .i64 2) ∧ Below w0.heap.size w0 w' from fun w0 => implWant_b mPut 2 rfl w0)
  have HN := Lib.hid (implIsName_b key _ rfl hk)
  have HTK := Lib.hid (show ∀ w0, Calls Tryz.prog 98 #[.string ⟨#[80, 117, 116]⟩] w0 fun e w' => e = .returned (.bool true) ∧ w0 = w' from takesKey_b mPut _ rfl)
  have HTV := Lib.hid (show ∀ w0, Calls Tryz.prog 99 #[.string ⟨#[80, 117, 116]⟩] w0 fun e w' => e = .returned (.bool true) ∧ w0 = w' from takesValue_b mPut _ rfl)
  have HTT := Lib.hid (show ∀ w0, Calls Tryz.prog 101 #[.string ⟨#[80, 117, 116]⟩] w0 fun e w' => e = .returned (.bool false) ∧ w0 = w' from takesText_b mPut _ rfl)
  have HNU := Lib.hid (isNumber_b v _ rfl)
  generalize callB ⟨mPut, key, v, text⟩ = res at *
  generalize nameB key = kn at *
  generalize numB v = vn at *
  clear hk
  have HB0 := Lib.hid (show ∀ o, Below w.heap.size w (w.alloc o) from fun o => (Below.refl w.heap.size w).alloc (Nat.le_refl _) o)
  go_enter Tryz.func70, Tryz.ntmps70
  go_wp2_with fail
  refine (HW.out _).mono ?_
  rintro e w1 ⟨rfl, hb⟩
  have HB := Lib.hid ((HB0.out _).trans (hb.mono (HB0.out _).size))
  obtain ⟨hcc, _⟩ := bcell hb
  simp at hcc
  have c0 := hcc w.heap.size 0 (by omega)
  have c1 := hcc w.heap.size 1 (by omega)
  have c2 := hcc w.heap.size 2 (by omega)
  have c3 := hcc w.heap.size 3 (by omega)
  simp at c0 c1 c2 c3
  clear hb hcc
  cases kn <;> cases text <;> cases vn
  all_goals
    go_wp2_with (first | (go_at_call 69; (with_reducible refine (HN.out _).mono ?_); rintro e w' ⟨rfl, rfl⟩) | (go_at_call 98; (with_reducible refine (HTK.out _).mono ?_); rintro e w' ⟨rfl, rfl⟩) | (go_at_call 99; (with_reducible refine (HTV.out _).mono ?_); rintro e w' ⟨rfl, rfl⟩) | (go_at_call 101; (with_reducible refine (HTT.out _).mono ?_); rintro e w' ⟨rfl, rfl⟩) | (go_at_call 100; (with_reducible refine (HNU.out _).mono ?_); rintro e w' ⟨rfl, rfl⟩))
    go_ret
    exact ⟨ret_bool (by rw [HR.out]; rfl), HB.out⟩
set_option maxRecDepth 100000 in
set_option maxHeartbeats 3200000 in
theorem implIsCall_Tell (key : List UInt8) (v : Int) (text : List UInt8) (w : World) (hk : key.length ≤ maxLen) :
    Calls Tryz.prog 70 #[.agg #[.string ⟨#[84, 101, 108, 108]⟩, .string ⟨key.toArray⟩, .int .i64 v, .string ⟨text.toArray⟩]] w fun e w' => e = .returned (.bool (callB ⟨mTell, key, v, text⟩)) ∧ Below w.heap.size w w' := by
  have HR := Lib.hid (show callB ⟨mTell, key, v, text⟩ = (key.isEmpty && (v == 0) && (text.isEmpty || false)) from rfl)
  have HW := Lib.hid (show ∀ w0, Calls Tryz.prog 97 #[.string ⟨#[84, 101, 108, 108]⟩] w0 fun e w' => e = .returned (.int .i64 4) ∧ Below w0.heap.size w0 w' from fun w0 => implWant_b mTell 4 rfl w0)
  have HTK := Lib.hid (show ∀ w0, Calls Tryz.prog 98 #[.string ⟨#[84, 101, 108, 108]⟩] w0 fun e w' => e = .returned (.bool false) ∧ w0 = w' from takesKey_b mTell _ rfl)
  have HTV := Lib.hid (show ∀ w0, Calls Tryz.prog 99 #[.string ⟨#[84, 101, 108, 108]⟩] w0 fun e w' => e = .returned (.bool false) ∧ w0 = w' from takesValue_b mTell _ rfl)
  have HTT := Lib.hid (show ∀ w0, Calls Tryz.prog 101 #[.string ⟨#[84, 101, 108, 108]⟩] w0 fun e w' => e = .returned (.bool false) ∧ w0 = w' from takesText_b mTell _ rfl)
  generalize callB ⟨mTell, key, v, text⟩ = res at *
  clear hk
  have HB0 := Lib.hid (show ∀ o, Below w.heap.size w (w.alloc o) from fun o => (Below.refl w.heap.size w).alloc (Nat.le_refl _) o)
  go_enter Tryz.func70, Tryz.ntmps70
  go_wp2_with fail
  refine (HW.out _).mono ?_
  rintro e w1 ⟨rfl, hb⟩
  have HB := Lib.hid ((HB0.out _).trans (hb.mono (HB0.out _).size))
  obtain ⟨hcc, _⟩ := bcell hb
  simp at hcc
  have c0 := hcc w.heap.size 0 (by omega)
  have c1 := hcc w.heap.size 1 (by omega)
  have c2 := hcc w.heap.size 2 (by omega)
  have c3 := hcc w.heap.size 3 (by omega)
  simp at c0 c1 c2 c3
  clear hb hcc
  cases key <;> cases text
  all_goals
    by_cases h0 : v = 0
    · subst h0
      go_wp2_with (first | (go_at_call 98; (with_reducible refine (HTK.out _).mono ?_); rintro e w' ⟨rfl, rfl⟩) | (go_at_call 99; (with_reducible refine (HTV.out _).mono ?_); rintro e w' ⟨rfl, rfl⟩) | (go_at_call 101; (with_reducible refine (HTT.out _).mono ?_); rintro e w' ⟨rfl, rfl⟩))
      go_ret
      exact ⟨ret_bool (by rw [HR.out]; rfl), HB.out⟩
    · have hv0 : (v == 0) = false := by simpa using h0
      rw [hv0] at HR
      clear h0
      go_wp2_with (first | (go_at_call 98; (with_reducible refine (HTK.out _).mono ?_); rintro e w' ⟨rfl, rfl⟩) | (go_at_call 99; (with_reducible refine (HTV.out _).mono ?_); rintro e w' ⟨rfl, rfl⟩) | (go_at_call 101; (with_reducible refine (HTT.out _).mono ?_); rintro e w' ⟨rfl, rfl⟩))
      go_ret
      exact ⟨ret_bool (by rw [HR.out]; rfl), HB.out⟩
set_option maxRecDepth 100000 in
set_option maxHeartbeats 3200000 in
theorem implIsCall_Hear (key : List UInt8) (v : Int) (text : List UInt8) (w : World) (hk : key.length ≤ maxLen) :
    Calls Tryz.prog 70 #[.agg #[.string ⟨#[72, 101, 97, 114]⟩, .string ⟨key.toArray⟩, .int .i64 v, .string ⟨text.toArray⟩]] w fun e w' => e = .returned (.bool (callB ⟨mHear, key, v, text⟩)) ∧ Below w.heap.size w w' := by
  have HR := Lib.hid (show callB ⟨mHear, key, v, text⟩ = (key.isEmpty && numB v && (text.isEmpty || false)) from rfl)
  have HW := Lib.hid (show ∀ w0, Calls Tryz.prog 97 #[.string ⟨#[72, 101, 97, 114]⟩] w0 fun e w' => e = .returned (.int .i64 8) ∧ Below w0.heap.size w0 w' from fun w0 => implWant_b mHear 8 rfl w0)
  have HTK := Lib.hid (show ∀ w0, Calls Tryz.prog 98 #[.string ⟨#[72, 101, 97, 114]⟩] w0 fun e w' => e = .returned (.bool false) ∧ w0 = w' from takesKey_b mHear _ rfl)
  have HTV := Lib.hid (show ∀ w0, Calls Tryz.prog 99 #[.string ⟨#[72, 101, 97, 114]⟩] w0 fun e w' => e = .returned (.bool true) ∧ w0 = w' from takesValue_b mHear _ rfl)
  have HTT := Lib.hid (show ∀ w0, Calls Tryz.prog 101 #[.string ⟨#[72, 101, 97, 114]⟩] w0 fun e w' => e = .returned (.bool false) ∧ w0 = w' from takesText_b mHear _ rfl)
  have HNU := Lib.hid (isNumber_b v _ rfl)
  generalize callB ⟨mHear, key, v, text⟩ = res at *
  generalize numB v = vn at *
  clear hk
  have HB0 := Lib.hid (show ∀ o, Below w.heap.size w (w.alloc o) from fun o => (Below.refl w.heap.size w).alloc (Nat.le_refl _) o)
  go_enter Tryz.func70, Tryz.ntmps70
  go_wp2_with fail
  refine (HW.out _).mono ?_
  rintro e w1 ⟨rfl, hb⟩
  have HB := Lib.hid ((HB0.out _).trans (hb.mono (HB0.out _).size))
  obtain ⟨hcc, _⟩ := bcell hb
  simp at hcc
  have c0 := hcc w.heap.size 0 (by omega)
  have c1 := hcc w.heap.size 1 (by omega)
  have c2 := hcc w.heap.size 2 (by omega)
  have c3 := hcc w.heap.size 3 (by omega)
  simp at c0 c1 c2 c3
  clear hb hcc
  cases key <;> cases text <;> cases vn
  all_goals
    go_wp2_with (first | (go_at_call 98; (with_reducible refine (HTK.out _).mono ?_); rintro e w' ⟨rfl, rfl⟩) | (go_at_call 99; (with_reducible refine (HTV.out _).mono ?_); rintro e w' ⟨rfl, rfl⟩) | (go_at_call 101; (with_reducible refine (HTT.out _).mono ?_); rintro e w' ⟨rfl, rfl⟩) | (go_at_call 100; (with_reducible refine (HNU.out _).mono ?_); rintro e w' ⟨rfl, rfl⟩))
    go_ret
    exact ⟨ret_bool (by rw [HR.out]; rfl), HB.out⟩
end Go.Proofs.YtlkpinlkbikokabGreat
/- The program's IsCall, method by method: the last three; whatever the method is. Written by gen/ch3calls.py. -/
namespace Go.Proofs.YtlkpinlkbikokabGreat
set_option linter.unusedVariables false
open Go.RowKit
set_option maxRecDepth 100000 in
set_option maxHeartbeats 3200000 in
theorem implIsCall_Load (key : List UInt8) (v : Int) (text : List UInt8) (w : World) (hk : key.length ≤ maxLen) :
    Calls Tryz.prog 70 #[.agg #[.string ⟨#[76, 111, 97, 100]⟩, .string ⟨key.toArray⟩, .int .i64 v, .string ⟨text.toArray⟩]] w fun e w' => e = .returned (.bool (callB ⟨mLoad, key, v, text⟩)) ∧ Below w.heap.size w w' := by
  have HR := Lib.hid (show callB ⟨mLoad, key, v, text⟩ = (key.isEmpty && (v == 0) && (text.isEmpty || true)) from rfl)
  have HW := Lib.hid (show ∀ w0, Calls Tryz.prog 97 #[.string ⟨#[76, 111, 97, 100]⟩] w0 fun e w' => e = .returned (.int .i64 16) ∧ Below w0.heap.size w0 w' from fun w0 => implWant_b mLoad 16 rfl w0)
  have HTK := Lib.hid (show ∀ w0, Calls Tryz.prog 98 #[.string ⟨#[76, 111, 97, 100]⟩] w0 fun e w' => e = .returned (.bool false) ∧ w0 = w' from takesKey_b mLoad _ rfl)
  have HTV := Lib.hid (show ∀ w0, Calls Tryz.prog 99 #[.string ⟨#[76, 111, 97, 100]⟩] w0 fun e w' => e = .returned (.bool false) ∧ w0 = w' from takesValue_b mLoad _ rfl)
  have HTT := Lib.hid (show ∀ w0, Calls Tryz.prog 101 #[.string ⟨#[76, 111, 97, 100]⟩] w0 fun e w' => e = .returned (.bool true) ∧ w0 = w' from takesText_b mLoad _ rfl)
  generalize callB ⟨mLoad, key, v, text⟩ = res at *
  clear hk
  have HB0 := Lib.hid (show ∀ o, Below w.heap.size w (w.alloc o) from fun o => (Below.refl w.heap.size w).alloc (Nat.le_refl _) o)
  go_enter Tryz.func70, Tryz.ntmps70
  go_wp2_with fail
  refine (HW.out _).mono ?_
  rintro e w1 ⟨rfl, hb⟩
  have HB := Lib.hid ((HB0.out _).trans (hb.mono (HB0.out _).size))
  obtain ⟨hcc, _⟩ := bcell hb
  simp at hcc
  have c0 := hcc w.heap.size 0 (by omega)
  have c1 := hcc w.heap.size 1 (by omega)
  have c2 := hcc w.heap.size 2 (by omega)
  have c3 := hcc w.heap.size 3 (by omega)
  simp at c0 c1 c2 c3
  clear hb hcc
  cases key <;> cases text
  all_goals
    by_cases h0 : v = 0
    · subst h0
      go_wp2_with (first | (go_at_call 98; (with_reducible refine (HTK.out _).mono ?_); rintro e w' ⟨rfl, rfl⟩) | (go_at_call 99; (with_reducible refine (HTV.out _).mono ?_); rintro e w' ⟨rfl, rfl⟩) | (go_at_call 101; (with_reducible refine (HTT.out _).mono ?_); rintro e w' ⟨rfl, rfl⟩))
      go_ret
      exact ⟨ret_bool (by rw [HR.out]; rfl), HB.out⟩
    · have hv0 : (v == 0) = false := by simpa using h0
      rw [hv0] at HR
      clear h0
      go_wp2_with (first | (go_at_call 98; (with_reducible refine (HTK.out _).mono ?_); rintro e w' ⟨rfl, rfl⟩) | (go_at_call 99; (with_reducible refine (HTV.out _).mono ?_); rintro e w' ⟨rfl, rfl⟩) | (go_at_call 101; (with_reducible refine (HTT.out _).mono ?_); rintro e w' ⟨rfl, rfl⟩))
      go_ret
      exact ⟨ret_bool (by rw [HR.out]; rfl), HB.out⟩
set_option maxRecDepth 100000 in
set_option maxHeartbeats 3200000 in
theorem implIsCall_Save (key : List UInt8) (v : Int) (text : List UInt8) (w : World) (hk : key.length ≤ maxLen) :
    Calls Tryz.prog 70 #[.agg #[.string ⟨#[83, 97, 118, 101]⟩, .string ⟨key.toArray⟩, .int .i64 v, .string ⟨text.toArray⟩]] w fun e w' => e = .returned (.bool (callB ⟨mSave, key, v, text⟩)) ∧ Below w.heap.size w w' := by
  have HR := Lib.hid (show callB ⟨mSave, key, v, text⟩ = (key.isEmpty && (v == 0) && (text.isEmpty || false)) from rfl)
  have HW := Lib.hid (show ∀ w0, Calls Tryz.prog 97 #[.string ⟨#[83, 97, 118, 101]⟩] w0 fun e w' => e = .returned (.int .i64 16) ∧ Below w0.heap.size w0 w' from fun w0 => implWant_b mSave 16 rfl w0)
  have HTK := Lib.hid (show ∀ w0, Calls Tryz.prog 98 #[.string ⟨#[83, 97, 118, 101]⟩] w0 fun e w' => e = .returned (.bool false) ∧ w0 = w' from takesKey_b mSave _ rfl)
  have HTV := Lib.hid (show ∀ w0, Calls Tryz.prog 99 #[.string ⟨#[83, 97, 118, 101]⟩] w0 fun e w' => e = .returned (.bool false) ∧ w0 = w' from takesValue_b mSave _ rfl)
  have HTT := Lib.hid (show ∀ w0, Calls Tryz.prog 101 #[.string ⟨#[83, 97, 118, 101]⟩] w0 fun e w' => e = .returned (.bool false) ∧ w0 = w' from takesText_b mSave _ rfl)
  generalize callB ⟨mSave, key, v, text⟩ = res at *
  clear hk
  have HB0 := Lib.hid (show ∀ o, Below w.heap.size w (w.alloc o) from fun o => (Below.refl w.heap.size w).alloc (Nat.le_refl _) o)
  go_enter Tryz.func70, Tryz.ntmps70
  go_wp2_with fail
  refine (HW.out _).mono ?_
  rintro e w1 ⟨rfl, hb⟩
  have HB := Lib.hid ((HB0.out _).trans (hb.mono (HB0.out _).size))
  obtain ⟨hcc, _⟩ := bcell hb
  simp at hcc
  have c0 := hcc w.heap.size 0 (by omega)
  have c1 := hcc w.heap.size 1 (by omega)
  have c2 := hcc w.heap.size 2 (by omega)
  have c3 := hcc w.heap.size 3 (by omega)
  simp at c0 c1 c2 c3
  clear hb hcc
  cases key <;> cases text
  all_goals
    by_cases h0 : v = 0
    · subst h0
      go_wp2_with (first | (go_at_call 98; (with_reducible refine (HTK.out _).mono ?_); rintro e w' ⟨rfl, rfl⟩) | (go_at_call 99; (with_reducible refine (HTV.out _).mono ?_); rintro e w' ⟨rfl, rfl⟩) | (go_at_call 101; (with_reducible refine (HTT.out _).mono ?_); rintro e w' ⟨rfl, rfl⟩))
      go_ret
      exact ⟨ret_bool (by rw [HR.out]; rfl), HB.out⟩
    · have hv0 : (v == 0) = false := by simpa using h0
      rw [hv0] at HR
      clear h0
      go_wp2_with (first | (go_at_call 98; (with_reducible refine (HTK.out _).mono ?_); rintro e w' ⟨rfl, rfl⟩) | (go_at_call 99; (with_reducible refine (HTV.out _).mono ?_); rintro e w' ⟨rfl, rfl⟩) | (go_at_call 101; (with_reducible refine (HTT.out _).mono ?_); rintro e w' ⟨rfl, rfl⟩))
      go_ret
      exact ⟨ret_bool (by rw [HR.out]; rfl), HB.out⟩
set_option maxRecDepth 100000 in
set_option maxHeartbeats 3200000 in
theorem implIsCall_Heal (key : List UInt8) (v : Int) (text : List UInt8) (w : World) (hk : key.length ≤ maxLen) :
    Calls Tryz.prog 70 #[.agg #[.string ⟨#[72, 101, 97, 108]⟩, .string ⟨key.toArray⟩, .int .i64 v, .string ⟨text.toArray⟩]] w fun e w' => e = .returned (.bool (callB ⟨mHeal, key, v, text⟩)) ∧ Below w.heap.size w w' := by
  have HR := Lib.hid (show callB ⟨mHeal, key, v, text⟩ = (key.isEmpty && (v == 0) && (text.isEmpty || false)) from rfl)
  have HW := Lib.hid (show ∀ w0, Calls Tryz.prog 97 #[.string ⟨#[72, 101, 97, 108]⟩] w0 fun e w' => e = .returned (.int .i64 32) ∧ Below w0.heap.size w0 w' from fun w0 => implWant_b mHeal 32 rfl w0)
  have HTK := Lib.hid (show ∀ w0, Calls Tryz.prog 98 #[.string ⟨#[72, 101, 97, 108]⟩] w0 fun e w' => e = .returned (.bool false) ∧ w0 = w' from takesKey_b mHeal _ rfl)
  have HTV := Lib.hid (show ∀ w0, Calls Tryz.prog 99 #[.string ⟨#[72, 101, 97, 108]⟩] w0 fun e w' => e = .returned (.bool false) ∧ w0 = w' from takesValue_b mHeal _ rfl)
  have HTT := Lib.hid (show ∀ w0, Calls Tryz.prog 101 #[.string ⟨#[72, 101, 97, 108]⟩] w0 fun e w' => e = .returned (.bool false) ∧ w0 = w' from takesText_b mHeal _ rfl)
  generalize callB ⟨mHeal, key, v, text⟩ = res at *
  clear hk
  have HB0 := Lib.hid (show ∀ o, Below w.heap.size w (w.alloc o) from fun o => (Below.refl w.heap.size w).alloc (Nat.le_refl _) o)
  go_enter Tryz.func70, Tryz.ntmps70
  go_wp2_with fail
  refine (HW.out _).mono ?_
  rintro e w1 ⟨rfl, hb⟩
  have HB := Lib.hid ((HB0.out _).trans (hb.mono (HB0.out _).size))
  obtain ⟨hcc, _⟩ := bcell hb
  simp at hcc
  have c0 := hcc w.heap.size 0 (by omega)
  have c1 := hcc w.heap.size 1 (by omega)
  have c2 := hcc w.heap.size 2 (by omega)
  have c3 := hcc w.heap.size 3 (by omega)
  simp at c0 c1 c2 c3
  clear hb hcc
  cases key <;> cases text
  all_goals
    by_cases h0 : v = 0
    · subst h0
      go_wp2_with (first | (go_at_call 98; (with_reducible refine (HTK.out _).mono ?_); rintro e w' ⟨rfl, rfl⟩) | (go_at_call 99; (with_reducible refine (HTV.out _).mono ?_); rintro e w' ⟨rfl, rfl⟩) | (go_at_call 101; (with_reducible refine (HTT.out _).mono ?_); rintro e w' ⟨rfl, rfl⟩))
      go_ret
      exact ⟨ret_bool (by rw [HR.out]; rfl), HB.out⟩
    · have hv0 : (v == 0) = false := by simpa using h0
      rw [hv0] at HR
      clear h0
      go_wp2_with (first | (go_at_call 98; (with_reducible refine (HTK.out _).mono ?_); rintro e w' ⟨rfl, rfl⟩) | (go_at_call 99; (with_reducible refine (HTV.out _).mono ?_); rintro e w' ⟨rfl, rfl⟩) | (go_at_call 101; (with_reducible refine (HTT.out _).mono ?_); rintro e w' ⟨rfl, rfl⟩))
      go_ret
      exact ⟨ret_bool (by rw [HR.out]; rfl), HB.out⟩
set_option maxRecDepth 100000 in
set_option maxHeartbeats 1600000 in
theorem implIsCall_any (d : CallD) (w : World) (hk : d.fKey.length ≤ maxLen) :
    Calls Tryz.prog 70 #[vCall d] w fun e w' => e = .returned (.bool (callB d)) ∧ Below w.heap.size w w' := by
  obtain ⟨m, key, v, text⟩ := d
  unfold vCall
  simp only at *
  rcases meth_cases m with rfl | rfl | rfl | rfl | rfl | rfl | rfl | rfl | rfl | ⟨hw, hStart, hStop, hGet, hPut, hTell, hHear, hLoad, hSave, hHeal⟩
  · exact implIsCall_Start key v text w hk
  · exact implIsCall_Stop key v text w hk
  · exact implIsCall_Get key v text w hk
  · exact implIsCall_Put key v text w hk
  · exact implIsCall_Tell key v text w hk
  · exact implIsCall_Hear key v text w hk
  · exact implIsCall_Load key v text w hk
  · exact implIsCall_Save key v text w hk
  · exact implIsCall_Heal key v text w hk
  · have HR := Lib.hid (show callB ⟨m, key, v, text⟩ = false by unfold callB; simp only; rw [hw]; rfl)
    have bGet : (m == [71, 101, 116]) = false := by simpa using hGet
    have bPut : (m == [80, 117, 116]) = false := by simpa using hPut
    have bHear : (m == [72, 101, 97, 114]) = false := by simpa using hHear
    have bLoad : (m == [76, 111, 97, 100]) = false := by simpa using hLoad
    have HW := Lib.hid (implWant_b m 0 hw)
    have HB0 := Lib.hid (show ∀ o, Below w.heap.size w (w.alloc o) from fun o => (Below.refl w.heap.size w).alloc (Nat.le_refl _) o)
    generalize callB ⟨m, key, v, text⟩ = res at *
    clear hw hk hStart hStop hGet hPut hTell hHear hLoad hSave hHeal
    go_enter Tryz.func70, Tryz.ntmps70
    go_wp2_with fail
    refine (HW.out _).mono ?_
    rintro e w1 ⟨rfl, hb⟩
    have HB := Lib.hid ((HB0.out _).trans (hb.mono (HB0.out _).size))
    clear hb
    go_wp2_with fail
    go_ret
    exact ⟨ret_bool HR.out.symm, HB.out⟩
end Go.Proofs.YtlkpinlkbikokabGreat
/- Events in plain words. -/
namespace Go.Proofs.YtlkpinlkbikokabGreat
set_option linter.unusedVariables false
set_option linter.unusedSimpArgs false
open Go.RowKit
def zCallD : CallD := ⟨[], [], 0, []⟩
def evB (x : EventD) : Bool := if 1 ≤ x.fKind ∧ x.fKind ≤ 5 ∧ nameB x.fName = true then (if x.fKind = 3 then callB x.fCall else decide (x.fCall = zCallD)) && (if x.fKind = 5 then recB x.fRecipe else decide (x.fRecipe.length = 0)) else false
theorem evB_out {x : EventD} (h : ¬ (1 ≤ x.fKind ∧ x.fKind ≤ 5 ∧ nameB x.fName = true)) : evB x = false := if_neg h
theorem evB_in {x : EventD} (h : 1 ≤ x.fKind ∧ x.fKind ≤ 5 ∧ nameB x.fName = true) : evB x = ((if x.fKind = 3 then callB x.fCall else decide (x.fCall = zCallD)) && (if x.fKind = 5 then recB x.fRecipe else decide (x.fRecipe.length = 0))) := if_pos h
end Go.Proofs.YtlkpinlkbikokabGreat
/- Contracts of chapter 7: IsEvent, the program's. Written by gen/ch7v.py. -/
namespace Go.Proofs.YtlkpinlkbikokabGreat
set_option linter.unusedVariables false
set_option linter.unusedSimpArgs false
open Go.RowKit
set_option maxRecDepth 100000 in
set_option maxHeartbeats 3200000 in
theorem implIsEvent_any (v : Value) (x : EventD) (w : World) (hx : ValAt rEvent 0 w v x) (hn : x.fName.length ≤ maxLen) (hk : x.fCall.fKey.length ≤ maxLen) (hr : ∀ s ∈ x.fRecipe, s.length ≤ 1048576) :
    Calls Tryz.prog 31 #[v] w fun e w' => e = .returned (.bool (evB x)) ∧ Below w.heap.size w w' := by
  have HRF := Lib.hid (fun v W (h : RowAt W v (x.fRecipe.map strV)) => implRecipeFace_any v x.fRecipe W h hr)
  have HNM := Lib.hid (fun W => implIsName_any ⟨x.fName.toArray⟩ W (by simpa [ByteArray.size] using hn))
  have HIC := Lib.hid (fun W => implIsCall_any x.fCall W hk)
  have HO := Lib.hid (@evB_out x)
  have HI := Lib.hid (@evB_in x)
  generalize evB x = ev at *
  generalize callB x.fCall = cb at *
  generalize recB x.fRecipe = rb at *
  generalize recI x.fRecipe = ri at *
  obtain ⟨_, rfl, hx⟩ := hx
  obtain ⟨k, a, ⟨m, ky, n, t⟩, l⟩ := x
  obtain ⟨v6, rfl, h6⟩ := hx
  simp only [List.toList_toArray, vCall] at *
  obtain ⟨ra, rc, rfl, hl⟩ := sliceAt_len h6
  have H6 := Lib.hid h6
  unfold maxLen at hl
  have BS := Lib.hid (bx_start1 w [.int .i64 k, .string ⟨a.toArray⟩, .string ⟨m.toArray⟩, .string ⟨ky.toArray⟩, .int .i64 n, .string ⟨t.toArray⟩, .slice ra l.length rc] 65)
  generalize nameB a = nb at *
  have BX0 := Lib.hid BS.out.1
  have HB0 := Lib.hid BS.out.2
  clear h6 hn hk hr BS
  by_cases h1 : k < 1
  · obtain rfl : ev = false := HO.out (fun h => by omega)
    clear HO HI
    go_enter Tryz.func31, Tryz.ntmps31
    have x0 := BX0.out.cell 0 (by simp)
    have x1 := BX0.out.cell 1 (by simp)
    have x2 := BX0.out.cell 2 (by simp)
    have x3 := BX0.out.cell 3 (by simp)
    have x4 := BX0.out.cell 4 (by simp)
    have x5 := BX0.out.cell 5 (by simp)
    have x6 := BX0.out.cell 6 (by simp)
    simp only [List.getElem_cons_zero, List.getElem_cons_succ] at x0 x1 x2 x3 x4 x5 x6
    go_wp2_with (first | (go_at_call 69; (with_reducible refine (HNM.out _).mono ?_); rintro e w' ⟨rfl, rfl⟩))
    go_ret
    exact ⟨by first | rfl | exact ret_bool hbq, HB0.out⟩
  by_cases h5 : 5 < k
  · obtain rfl : ev = false := HO.out (fun h => by omega)
    clear HO HI
    go_enter Tryz.func31, Tryz.ntmps31
    have x0 := BX0.out.cell 0 (by simp)
    have x1 := BX0.out.cell 1 (by simp)
    have x2 := BX0.out.cell 2 (by simp)
    have x3 := BX0.out.cell 3 (by simp)
    have x4 := BX0.out.cell 4 (by simp)
    have x5 := BX0.out.cell 5 (by simp)
    have x6 := BX0.out.cell 6 (by simp)
    simp only [List.getElem_cons_zero, List.getElem_cons_succ] at x0 x1 x2 x3 x4 x5 x6
    go_wp2_with (first | (go_at_call 69; (with_reducible refine (HNM.out _).mono ?_); rintro e w' ⟨rfl, rfl⟩))
    go_ret
    exact ⟨by first | rfl | exact ret_bool hbq, HB0.out⟩
  cases nb
  · obtain rfl : ev = false := HO.out (fun h => by simp at h)
    clear HO HI
    go_enter Tryz.func31, Tryz.ntmps31
    have x0 := BX0.out.cell 0 (by simp)
    have x1 := BX0.out.cell 1 (by simp)
    have x2 := BX0.out.cell 2 (by simp)
    have x3 := BX0.out.cell 3 (by simp)
    have x4 := BX0.out.cell 4 (by simp)
    have x5 := BX0.out.cell 5 (by simp)
    have x6 := BX0.out.cell 6 (by simp)
    simp only [List.getElem_cons_zero, List.getElem_cons_succ] at x0 x1 x2 x3 x4 x5 x6
    go_wp2_with (first | (go_at_call 69; (with_reducible refine (HNM.out _).mono ?_); rintro e w' ⟨rfl, rfl⟩))
    go_ret
    exact ⟨by first | rfl | exact ret_bool hbq, HB0.out⟩
  replace HI := Lib.hid (HI.out ⟨by omega, by omega, rfl⟩)
  clear HO
  by_cases h3 : k = 3
  · subst h3
    replace HI := Lib.hid (show ev = (cb && decide (l.length = 0)) by rw [HI.out, if_pos rfl, if_neg (by decide)])
    clear h1 h5
    cases m with
    | cons c r =>
      cases cb
      · obtain rfl : ev = false := by rw [HI.out]; rfl
        clear HI
        go_enter Tryz.func31, Tryz.ntmps31
        have x0 := BX0.out.cell 0 (by simp)
        have x1 := BX0.out.cell 1 (by simp)
        have x2 := BX0.out.cell 2 (by simp)
        have x3 := BX0.out.cell 3 (by simp)
        have x4 := BX0.out.cell 4 (by simp)
        have x5 := BX0.out.cell 5 (by simp)
        have x6 := BX0.out.cell 6 (by simp)
        simp only [List.getElem_cons_zero, List.getElem_cons_succ] at x0 x1 x2 x3 x4 x5 x6
        go_wp2_with (first | (go_at_call 69; (with_reducible refine (HNM.out _).mono ?_); rintro e w' ⟨rfl, rfl⟩))
        refine (HIC.out _).mono ?_
        rintro e w1 ⟨rfl, hb⟩
        have HB1 := Lib.hid (belS HB0.out hb)
        have BX1 := Lib.hid (BX0.out.below hb)
        clear hb x0 x1 x2 x3 x4 x5 x6
        have x0 := BX1.out.cell 0 (by simp)
        have x1 := BX1.out.cell 1 (by simp)
        have x2 := BX1.out.cell 2 (by simp)
        have x3 := BX1.out.cell 3 (by simp)
        have x4 := BX1.out.cell 4 (by simp)
        have x5 := BX1.out.cell 5 (by simp)
        have x6 := BX1.out.cell 6 (by simp)
        simp only [List.getElem_cons_zero, List.getElem_cons_succ] at x0 x1 x2 x3 x4 x5 x6
        go_wp2_with fail
        go_ret
        exact ⟨by first | rfl | exact ret_bool hbq, HB1.out⟩
      · by_cases h0 : l.length = 0
        · obtain rfl : l = [] := List.eq_nil_of_length_eq_zero h0
          simp only [List.length_nil] at *
          clear h0
          obtain rfl : ev = true := by rw [HI.out]; rfl
          clear HI
          go_enter Tryz.func31, Tryz.ntmps31
          have x0 := BX0.out.cell 0 (by simp)
          have x1 := BX0.out.cell 1 (by simp)
          have x2 := BX0.out.cell 2 (by simp)
          have x3 := BX0.out.cell 3 (by simp)
          have x4 := BX0.out.cell 4 (by simp)
          have x5 := BX0.out.cell 5 (by simp)
          have x6 := BX0.out.cell 6 (by simp)
          simp only [List.getElem_cons_zero, List.getElem_cons_succ] at x0 x1 x2 x3 x4 x5 x6
          go_wp2_with (first | (go_at_call 69; (with_reducible refine (HNM.out _).mono ?_); rintro e w' ⟨rfl, rfl⟩))
          refine (HIC.out _).mono ?_
          rintro e w1 ⟨rfl, hb⟩
          have HB1 := Lib.hid (belS HB0.out hb)
          have BX1 := Lib.hid (BX0.out.below hb)
          clear hb x0 x1 x2 x3 x4 x5 x6
          have x0 := BX1.out.cell 0 (by simp)
          have x1 := BX1.out.cell 1 (by simp)
          have x2 := BX1.out.cell 2 (by simp)
          have x3 := BX1.out.cell 3 (by simp)
          have x4 := BX1.out.cell 4 (by simp)
          have x5 := BX1.out.cell 5 (by simp)
          have x6 := BX1.out.cell 6 (by simp)
          simp only [List.getElem_cons_zero, List.getElem_cons_succ] at x0 x1 x2 x3 x4 x5 x6
          go_wp2_with fail
          go_ret
          exact ⟨by first | rfl | exact ret_bool hbq, HB1.out⟩
        · have hne : ¬ (l.length : Int) = 0 := by omega
          have hnd : decide (l.length = 0) = false := decide_eq_false h0
          have hbq : ((l.length : Int) == 0) = false := beq_eq_false_iff_ne.2 hne
          obtain rfl : ev = false := by rw [HI.out, hnd, Bool.and_false]
          clear HI
          clear hnd h0
          go_enter Tryz.func31, Tryz.ntmps31
          have x0 := BX0.out.cell 0 (by simp)
          have x1 := BX0.out.cell 1 (by simp)
          have x2 := BX0.out.cell 2 (by simp)
          have x3 := BX0.out.cell 3 (by simp)
          have x4 := BX0.out.cell 4 (by simp)
          have x5 := BX0.out.cell 5 (by simp)
          have x6 := BX0.out.cell 6 (by simp)
          simp only [List.getElem_cons_zero, List.getElem_cons_succ] at x0 x1 x2 x3 x4 x5 x6
          go_wp2_with (first | (go_at_call 69; (with_reducible refine (HNM.out _).mono ?_); rintro e w' ⟨rfl, rfl⟩))
          refine (HIC.out _).mono ?_
          rintro e w1 ⟨rfl, hb⟩
          have HB1 := Lib.hid (belS HB0.out hb)
          have BX1 := Lib.hid (BX0.out.below hb)
          clear hb x0 x1 x2 x3 x4 x5 x6
          have x0 := BX1.out.cell 0 (by simp)
          have x1 := BX1.out.cell 1 (by simp)
          have x2 := BX1.out.cell 2 (by simp)
          have x3 := BX1.out.cell 3 (by simp)
          have x4 := BX1.out.cell 4 (by simp)
          have x5 := BX1.out.cell 5 (by simp)
          have x6 := BX1.out.cell 6 (by simp)
          simp only [List.getElem_cons_zero, List.getElem_cons_succ] at x0 x1 x2 x3 x4 x5 x6
          go_wp2_with fail
          go_ret
          exact ⟨by first | rfl | exact ret_bool hbq, HB1.out⟩
    | nil =>
      cases ky with
      | cons c r =>
        cases cb
        · obtain rfl : ev = false := by rw [HI.out]; rfl
          clear HI
          go_enter Tryz.func31, Tryz.ntmps31
          have x0 := BX0.out.cell 0 (by simp)
          have x1 := BX0.out.cell 1 (by simp)
          have x2 := BX0.out.cell 2 (by simp)
          have x3 := BX0.out.cell 3 (by simp)
          have x4 := BX0.out.cell 4 (by simp)
          have x5 := BX0.out.cell 5 (by simp)
          have x6 := BX0.out.cell 6 (by simp)
          simp only [List.getElem_cons_zero, List.getElem_cons_succ] at x0 x1 x2 x3 x4 x5 x6
          go_wp2_with (first | (go_at_call 69; (with_reducible refine (HNM.out _).mono ?_); rintro e w' ⟨rfl, rfl⟩))
          refine (HIC.out _).mono ?_
          rintro e w1 ⟨rfl, hb⟩
          have HB1 := Lib.hid (belS HB0.out hb)
          have BX1 := Lib.hid (BX0.out.below hb)
          clear hb x0 x1 x2 x3 x4 x5 x6
          have x0 := BX1.out.cell 0 (by simp)
          have x1 := BX1.out.cell 1 (by simp)
          have x2 := BX1.out.cell 2 (by simp)
          have x3 := BX1.out.cell 3 (by simp)
          have x4 := BX1.out.cell 4 (by simp)
          have x5 := BX1.out.cell 5 (by simp)
          have x6 := BX1.out.cell 6 (by simp)
          simp only [List.getElem_cons_zero, List.getElem_cons_succ] at x0 x1 x2 x3 x4 x5 x6
          go_wp2_with fail
          go_ret
          exact ⟨by first | rfl | exact ret_bool hbq, HB1.out⟩
        · by_cases h0 : l.length = 0
          · obtain rfl : l = [] := List.eq_nil_of_length_eq_zero h0
            simp only [List.length_nil] at *
            clear h0
            obtain rfl : ev = true := by rw [HI.out]; rfl
            clear HI
            go_enter Tryz.func31, Tryz.ntmps31
            have x0 := BX0.out.cell 0 (by simp)
            have x1 := BX0.out.cell 1 (by simp)
            have x2 := BX0.out.cell 2 (by simp)
            have x3 := BX0.out.cell 3 (by simp)
            have x4 := BX0.out.cell 4 (by simp)
            have x5 := BX0.out.cell 5 (by simp)
            have x6 := BX0.out.cell 6 (by simp)
            simp only [List.getElem_cons_zero, List.getElem_cons_succ] at x0 x1 x2 x3 x4 x5 x6
            go_wp2_with (first | (go_at_call 69; (with_reducible refine (HNM.out _).mono ?_); rintro e w' ⟨rfl, rfl⟩))
            refine (HIC.out _).mono ?_
            rintro e w1 ⟨rfl, hb⟩
            have HB1 := Lib.hid (belS HB0.out hb)
            have BX1 := Lib.hid (BX0.out.below hb)
            clear hb x0 x1 x2 x3 x4 x5 x6
            have x0 := BX1.out.cell 0 (by simp)
            have x1 := BX1.out.cell 1 (by simp)
            have x2 := BX1.out.cell 2 (by simp)
            have x3 := BX1.out.cell 3 (by simp)
            have x4 := BX1.out.cell 4 (by simp)
            have x5 := BX1.out.cell 5 (by simp)
            have x6 := BX1.out.cell 6 (by simp)
            simp only [List.getElem_cons_zero, List.getElem_cons_succ] at x0 x1 x2 x3 x4 x5 x6
            go_wp2_with fail
            go_ret
            exact ⟨by first | rfl | exact ret_bool hbq, HB1.out⟩
          · have hne : ¬ (l.length : Int) = 0 := by omega
            have hnd : decide (l.length = 0) = false := decide_eq_false h0
            have hbq : ((l.length : Int) == 0) = false := beq_eq_false_iff_ne.2 hne
            obtain rfl : ev = false := by rw [HI.out, hnd, Bool.and_false]
            clear HI
            clear hnd h0
            go_enter Tryz.func31, Tryz.ntmps31
            have x0 := BX0.out.cell 0 (by simp)
            have x1 := BX0.out.cell 1 (by simp)
            have x2 := BX0.out.cell 2 (by simp)
            have x3 := BX0.out.cell 3 (by simp)
            have x4 := BX0.out.cell 4 (by simp)
            have x5 := BX0.out.cell 5 (by simp)
            have x6 := BX0.out.cell 6 (by simp)
            simp only [List.getElem_cons_zero, List.getElem_cons_succ] at x0 x1 x2 x3 x4 x5 x6
            go_wp2_with (first | (go_at_call 69; (with_reducible refine (HNM.out _).mono ?_); rintro e w' ⟨rfl, rfl⟩))
            refine (HIC.out _).mono ?_
            rintro e w1 ⟨rfl, hb⟩
            have HB1 := Lib.hid (belS HB0.out hb)
            have BX1 := Lib.hid (BX0.out.below hb)
            clear hb x0 x1 x2 x3 x4 x5 x6
            have x0 := BX1.out.cell 0 (by simp)
            have x1 := BX1.out.cell 1 (by simp)
            have x2 := BX1.out.cell 2 (by simp)
            have x3 := BX1.out.cell 3 (by simp)
            have x4 := BX1.out.cell 4 (by simp)
            have x5 := BX1.out.cell 5 (by simp)
            have x6 := BX1.out.cell 6 (by simp)
            simp only [List.getElem_cons_zero, List.getElem_cons_succ] at x0 x1 x2 x3 x4 x5 x6
            go_wp2_with fail
            go_ret
            exact ⟨by first | rfl | exact ret_bool hbq, HB1.out⟩
      | nil =>
        by_cases hn0 : n = 0
        · subst hn0
          cases t with
          | cons c r =>
            cases cb
            · obtain rfl : ev = false := by rw [HI.out]; rfl
              clear HI
              go_enter Tryz.func31, Tryz.ntmps31
              have x0 := BX0.out.cell 0 (by simp)
              have x1 := BX0.out.cell 1 (by simp)
              have x2 := BX0.out.cell 2 (by simp)
              have x3 := BX0.out.cell 3 (by simp)
              have x4 := BX0.out.cell 4 (by simp)
              have x5 := BX0.out.cell 5 (by simp)
              have x6 := BX0.out.cell 6 (by simp)
              simp only [List.getElem_cons_zero, List.getElem_cons_succ] at x0 x1 x2 x3 x4 x5 x6
              go_wp2_with (first | (go_at_call 69; (with_reducible refine (HNM.out _).mono ?_); rintro e w' ⟨rfl, rfl⟩))
              refine (HIC.out _).mono ?_
              rintro e w1 ⟨rfl, hb⟩
              have HB1 := Lib.hid (belS HB0.out hb)
              have BX1 := Lib.hid (BX0.out.below hb)
              clear hb x0 x1 x2 x3 x4 x5 x6
              have x0 := BX1.out.cell 0 (by simp)
              have x1 := BX1.out.cell 1 (by simp)
              have x2 := BX1.out.cell 2 (by simp)
              have x3 := BX1.out.cell 3 (by simp)
              have x4 := BX1.out.cell 4 (by simp)
              have x5 := BX1.out.cell 5 (by simp)
              have x6 := BX1.out.cell 6 (by simp)
              simp only [List.getElem_cons_zero, List.getElem_cons_succ] at x0 x1 x2 x3 x4 x5 x6
              go_wp2_with fail
              go_ret
              exact ⟨by first | rfl | exact ret_bool hbq, HB1.out⟩
            · by_cases h0 : l.length = 0
              · obtain rfl : l = [] := List.eq_nil_of_length_eq_zero h0
                simp only [List.length_nil] at *
                clear h0
                obtain rfl : ev = true := by rw [HI.out]; rfl
                clear HI
                go_enter Tryz.func31, Tryz.ntmps31
                have x0 := BX0.out.cell 0 (by simp)
                have x1 := BX0.out.cell 1 (by simp)
                have x2 := BX0.out.cell 2 (by simp)
                have x3 := BX0.out.cell 3 (by simp)
                have x4 := BX0.out.cell 4 (by simp)
                have x5 := BX0.out.cell 5 (by simp)
                have x6 := BX0.out.cell 6 (by simp)
                simp only [List.getElem_cons_zero, List.getElem_cons_succ] at x0 x1 x2 x3 x4 x5 x6
                go_wp2_with (first | (go_at_call 69; (with_reducible refine (HNM.out _).mono ?_); rintro e w' ⟨rfl, rfl⟩))
                refine (HIC.out _).mono ?_
                rintro e w1 ⟨rfl, hb⟩
                have HB1 := Lib.hid (belS HB0.out hb)
                have BX1 := Lib.hid (BX0.out.below hb)
                clear hb x0 x1 x2 x3 x4 x5 x6
                have x0 := BX1.out.cell 0 (by simp)
                have x1 := BX1.out.cell 1 (by simp)
                have x2 := BX1.out.cell 2 (by simp)
                have x3 := BX1.out.cell 3 (by simp)
                have x4 := BX1.out.cell 4 (by simp)
                have x5 := BX1.out.cell 5 (by simp)
                have x6 := BX1.out.cell 6 (by simp)
                simp only [List.getElem_cons_zero, List.getElem_cons_succ] at x0 x1 x2 x3 x4 x5 x6
                go_wp2_with fail
                go_ret
                exact ⟨by first | rfl | exact ret_bool hbq, HB1.out⟩
              · have hne : ¬ (l.length : Int) = 0 := by omega
                have hnd : decide (l.length = 0) = false := decide_eq_false h0
                have hbq : ((l.length : Int) == 0) = false := beq_eq_false_iff_ne.2 hne
                obtain rfl : ev = false := by rw [HI.out, hnd, Bool.and_false]
                clear HI
                clear hnd h0
                go_enter Tryz.func31, Tryz.ntmps31
                have x0 := BX0.out.cell 0 (by simp)
                have x1 := BX0.out.cell 1 (by simp)
                have x2 := BX0.out.cell 2 (by simp)
                have x3 := BX0.out.cell 3 (by simp)
                have x4 := BX0.out.cell 4 (by simp)
                have x5 := BX0.out.cell 5 (by simp)
                have x6 := BX0.out.cell 6 (by simp)
                simp only [List.getElem_cons_zero, List.getElem_cons_succ] at x0 x1 x2 x3 x4 x5 x6
                go_wp2_with (first | (go_at_call 69; (with_reducible refine (HNM.out _).mono ?_); rintro e w' ⟨rfl, rfl⟩))
                refine (HIC.out _).mono ?_
                rintro e w1 ⟨rfl, hb⟩
                have HB1 := Lib.hid (belS HB0.out hb)
                have BX1 := Lib.hid (BX0.out.below hb)
                clear hb x0 x1 x2 x3 x4 x5 x6
                have x0 := BX1.out.cell 0 (by simp)
                have x1 := BX1.out.cell 1 (by simp)
                have x2 := BX1.out.cell 2 (by simp)
                have x3 := BX1.out.cell 3 (by simp)
                have x4 := BX1.out.cell 4 (by simp)
                have x5 := BX1.out.cell 5 (by simp)
                have x6 := BX1.out.cell 6 (by simp)
                simp only [List.getElem_cons_zero, List.getElem_cons_succ] at x0 x1 x2 x3 x4 x5 x6
                go_wp2_with fail
                go_ret
                exact ⟨by first | rfl | exact ret_bool hbq, HB1.out⟩
          | nil =>
            cases cb
            · obtain rfl : ev = false := by rw [HI.out]; rfl
              clear HI
              go_enter Tryz.func31, Tryz.ntmps31
              have x0 := BX0.out.cell 0 (by simp)
              have x1 := BX0.out.cell 1 (by simp)
              have x2 := BX0.out.cell 2 (by simp)
              have x3 := BX0.out.cell 3 (by simp)
              have x4 := BX0.out.cell 4 (by simp)
              have x5 := BX0.out.cell 5 (by simp)
              have x6 := BX0.out.cell 6 (by simp)
              simp only [List.getElem_cons_zero, List.getElem_cons_succ] at x0 x1 x2 x3 x4 x5 x6
              go_wp2_with (first | (go_at_call 69; (with_reducible refine (HNM.out _).mono ?_); rintro e w' ⟨rfl, rfl⟩))
              refine (HIC.out _).mono ?_
              rintro e w1 ⟨rfl, hb⟩
              have HB1 := Lib.hid (belS HB0.out hb)
              have BX1 := Lib.hid (BX0.out.below hb)
              clear hb x0 x1 x2 x3 x4 x5 x6
              have x0 := BX1.out.cell 0 (by simp)
              have x1 := BX1.out.cell 1 (by simp)
              have x2 := BX1.out.cell 2 (by simp)
              have x3 := BX1.out.cell 3 (by simp)
              have x4 := BX1.out.cell 4 (by simp)
              have x5 := BX1.out.cell 5 (by simp)
              have x6 := BX1.out.cell 6 (by simp)
              simp only [List.getElem_cons_zero, List.getElem_cons_succ] at x0 x1 x2 x3 x4 x5 x6
              go_wp2_with fail
              go_ret
              exact ⟨by first | rfl | exact ret_bool hbq, HB1.out⟩
            · by_cases h0 : l.length = 0
              · obtain rfl : l = [] := List.eq_nil_of_length_eq_zero h0
                simp only [List.length_nil] at *
                clear h0
                obtain rfl : ev = true := by rw [HI.out]; rfl
                clear HI
                go_enter Tryz.func31, Tryz.ntmps31
                have x0 := BX0.out.cell 0 (by simp)
                have x1 := BX0.out.cell 1 (by simp)
                have x2 := BX0.out.cell 2 (by simp)
                have x3 := BX0.out.cell 3 (by simp)
                have x4 := BX0.out.cell 4 (by simp)
                have x5 := BX0.out.cell 5 (by simp)
                have x6 := BX0.out.cell 6 (by simp)
                simp only [List.getElem_cons_zero, List.getElem_cons_succ] at x0 x1 x2 x3 x4 x5 x6
                go_wp2_with (first | (go_at_call 69; (with_reducible refine (HNM.out _).mono ?_); rintro e w' ⟨rfl, rfl⟩))
                refine (HIC.out _).mono ?_
                rintro e w1 ⟨rfl, hb⟩
                have HB1 := Lib.hid (belS HB0.out hb)
                have BX1 := Lib.hid (BX0.out.below hb)
                clear hb x0 x1 x2 x3 x4 x5 x6
                have x0 := BX1.out.cell 0 (by simp)
                have x1 := BX1.out.cell 1 (by simp)
                have x2 := BX1.out.cell 2 (by simp)
                have x3 := BX1.out.cell 3 (by simp)
                have x4 := BX1.out.cell 4 (by simp)
                have x5 := BX1.out.cell 5 (by simp)
                have x6 := BX1.out.cell 6 (by simp)
                simp only [List.getElem_cons_zero, List.getElem_cons_succ] at x0 x1 x2 x3 x4 x5 x6
                go_wp2_with fail
                go_ret
                exact ⟨by first | rfl | exact ret_bool hbq, HB1.out⟩
              · have hne : ¬ (l.length : Int) = 0 := by omega
                have hnd : decide (l.length = 0) = false := decide_eq_false h0
                have hbq : ((l.length : Int) == 0) = false := beq_eq_false_iff_ne.2 hne
                obtain rfl : ev = false := by rw [HI.out, hnd, Bool.and_false]
                clear HI
                clear hnd h0
                go_enter Tryz.func31, Tryz.ntmps31
                have x0 := BX0.out.cell 0 (by simp)
                have x1 := BX0.out.cell 1 (by simp)
                have x2 := BX0.out.cell 2 (by simp)
                have x3 := BX0.out.cell 3 (by simp)
                have x4 := BX0.out.cell 4 (by simp)
                have x5 := BX0.out.cell 5 (by simp)
                have x6 := BX0.out.cell 6 (by simp)
                simp only [List.getElem_cons_zero, List.getElem_cons_succ] at x0 x1 x2 x3 x4 x5 x6
                go_wp2_with (first | (go_at_call 69; (with_reducible refine (HNM.out _).mono ?_); rintro e w' ⟨rfl, rfl⟩))
                refine (HIC.out _).mono ?_
                rintro e w1 ⟨rfl, hb⟩
                have HB1 := Lib.hid (belS HB0.out hb)
                have BX1 := Lib.hid (BX0.out.below hb)
                clear hb x0 x1 x2 x3 x4 x5 x6
                have x0 := BX1.out.cell 0 (by simp)
                have x1 := BX1.out.cell 1 (by simp)
                have x2 := BX1.out.cell 2 (by simp)
                have x3 := BX1.out.cell 3 (by simp)
                have x4 := BX1.out.cell 4 (by simp)
                have x5 := BX1.out.cell 5 (by simp)
                have x6 := BX1.out.cell 6 (by simp)
                simp only [List.getElem_cons_zero, List.getElem_cons_succ] at x0 x1 x2 x3 x4 x5 x6
                go_wp2_with fail
                go_ret
                exact ⟨by first | rfl | exact ret_bool hbq, HB1.out⟩
        · have hnb : (n == 0) = false := by simp [hn0]
          cases cb
          · obtain rfl : ev = false := by rw [HI.out]; rfl
            clear HI
            go_enter Tryz.func31, Tryz.ntmps31
            have x0 := BX0.out.cell 0 (by simp)
            have x1 := BX0.out.cell 1 (by simp)
            have x2 := BX0.out.cell 2 (by simp)
            have x3 := BX0.out.cell 3 (by simp)
            have x4 := BX0.out.cell 4 (by simp)
            have x5 := BX0.out.cell 5 (by simp)
            have x6 := BX0.out.cell 6 (by simp)
            simp only [List.getElem_cons_zero, List.getElem_cons_succ] at x0 x1 x2 x3 x4 x5 x6
            go_wp2_with (first | (go_at_call 69; (with_reducible refine (HNM.out _).mono ?_); rintro e w' ⟨rfl, rfl⟩))
            refine (HIC.out _).mono ?_
            rintro e w1 ⟨rfl, hb⟩
            have HB1 := Lib.hid (belS HB0.out hb)
            have BX1 := Lib.hid (BX0.out.below hb)
            clear hb x0 x1 x2 x3 x4 x5 x6
            have x0 := BX1.out.cell 0 (by simp)
            have x1 := BX1.out.cell 1 (by simp)
            have x2 := BX1.out.cell 2 (by simp)
            have x3 := BX1.out.cell 3 (by simp)
            have x4 := BX1.out.cell 4 (by simp)
            have x5 := BX1.out.cell 5 (by simp)
            have x6 := BX1.out.cell 6 (by simp)
            simp only [List.getElem_cons_zero, List.getElem_cons_succ] at x0 x1 x2 x3 x4 x5 x6
            go_wp2_with fail
            go_ret
            exact ⟨by first | rfl | exact ret_bool hbq, HB1.out⟩
          · by_cases h0 : l.length = 0
            · obtain rfl : l = [] := List.eq_nil_of_length_eq_zero h0
              simp only [List.length_nil] at *
              clear h0
              obtain rfl : ev = true := by rw [HI.out]; rfl
              clear HI
              go_enter Tryz.func31, Tryz.ntmps31
              have x0 := BX0.out.cell 0 (by simp)
              have x1 := BX0.out.cell 1 (by simp)
              have x2 := BX0.out.cell 2 (by simp)
              have x3 := BX0.out.cell 3 (by simp)
              have x4 := BX0.out.cell 4 (by simp)
              have x5 := BX0.out.cell 5 (by simp)
              have x6 := BX0.out.cell 6 (by simp)
              simp only [List.getElem_cons_zero, List.getElem_cons_succ] at x0 x1 x2 x3 x4 x5 x6
              go_wp2_with (first | (go_at_call 69; (with_reducible refine (HNM.out _).mono ?_); rintro e w' ⟨rfl, rfl⟩))
              refine (HIC.out _).mono ?_
              rintro e w1 ⟨rfl, hb⟩
              have HB1 := Lib.hid (belS HB0.out hb)
              have BX1 := Lib.hid (BX0.out.below hb)
              clear hb x0 x1 x2 x3 x4 x5 x6
              have x0 := BX1.out.cell 0 (by simp)
              have x1 := BX1.out.cell 1 (by simp)
              have x2 := BX1.out.cell 2 (by simp)
              have x3 := BX1.out.cell 3 (by simp)
              have x4 := BX1.out.cell 4 (by simp)
              have x5 := BX1.out.cell 5 (by simp)
              have x6 := BX1.out.cell 6 (by simp)
              simp only [List.getElem_cons_zero, List.getElem_cons_succ] at x0 x1 x2 x3 x4 x5 x6
              go_wp2_with fail
              go_ret
              exact ⟨by first | rfl | exact ret_bool hbq, HB1.out⟩
            · have hne : ¬ (l.length : Int) = 0 := by omega
              have hnd : decide (l.length = 0) = false := decide_eq_false h0
              have hbq : ((l.length : Int) == 0) = false := beq_eq_false_iff_ne.2 hne
              obtain rfl : ev = false := by rw [HI.out, hnd, Bool.and_false]
              clear HI
              clear hnd h0
              go_enter Tryz.func31, Tryz.ntmps31
              have x0 := BX0.out.cell 0 (by simp)
              have x1 := BX0.out.cell 1 (by simp)
              have x2 := BX0.out.cell 2 (by simp)
              have x3 := BX0.out.cell 3 (by simp)
              have x4 := BX0.out.cell 4 (by simp)
              have x5 := BX0.out.cell 5 (by simp)
              have x6 := BX0.out.cell 6 (by simp)
              simp only [List.getElem_cons_zero, List.getElem_cons_succ] at x0 x1 x2 x3 x4 x5 x6
              go_wp2_with (first | (go_at_call 69; (with_reducible refine (HNM.out _).mono ?_); rintro e w' ⟨rfl, rfl⟩))
              refine (HIC.out _).mono ?_
              rintro e w1 ⟨rfl, hb⟩
              have HB1 := Lib.hid (belS HB0.out hb)
              have BX1 := Lib.hid (BX0.out.below hb)
              clear hb x0 x1 x2 x3 x4 x5 x6
              have x0 := BX1.out.cell 0 (by simp)
              have x1 := BX1.out.cell 1 (by simp)
              have x2 := BX1.out.cell 2 (by simp)
              have x3 := BX1.out.cell 3 (by simp)
              have x4 := BX1.out.cell 4 (by simp)
              have x5 := BX1.out.cell 5 (by simp)
              have x6 := BX1.out.cell 6 (by simp)
              simp only [List.getElem_cons_zero, List.getElem_cons_succ] at x0 x1 x2 x3 x4 x5 x6
              go_wp2_with fail
              go_ret
              exact ⟨by first | rfl | exact ret_bool hbq, HB1.out⟩
  replace HI := Lib.hid (show ev = (decide ((⟨m, ky, n, t⟩ : CallD) = zCallD) && (if k = 5 then rb else decide (l.length = 0))) by rw [HI.out, if_neg h3])
  by_cases h55 : k = 5
  · subst h55
    clear h3 h1 h5
    replace HI := Lib.hid (show ev = (decide ((⟨m, ky, n, t⟩ : CallD) = zCallD) && rb) by rw [HI.out, if_pos rfl])
    cases m with
    | cons c r =>
      obtain rfl : ev = false := by rw [HI.out]; simp [zCallD, *]
      clear HI
      go_enter Tryz.func31, Tryz.ntmps31
      have x0 := BX0.out.cell 0 (by simp)
      have x1 := BX0.out.cell 1 (by simp)
      have x2 := BX0.out.cell 2 (by simp)
      have x3 := BX0.out.cell 3 (by simp)
      have x4 := BX0.out.cell 4 (by simp)
      have x5 := BX0.out.cell 5 (by simp)
      have x6 := BX0.out.cell 6 (by simp)
      simp only [List.getElem_cons_zero, List.getElem_cons_succ] at x0 x1 x2 x3 x4 x5 x6
      go_wp2_with (first | (go_at_call 69; (with_reducible refine (HNM.out _).mono ?_); rintro e w' ⟨rfl, rfl⟩))
      refine (HRF.out _ _ (row_of_slice (SliceAt.below H6.out good_str HB0.out (Nat.le_refl _)))).mono ?_
      rintro e w1 ⟨rfl, hb⟩
      have HB1 := Lib.hid (belS HB0.out hb)
      have BX1 := Lib.hid (BX0.out.below hb)
      clear hb x0 x1 x2 x3 x4 x5 x6
      have x0 := BX1.out.cell 0 (by simp)
      have x1 := BX1.out.cell 1 (by simp)
      have x2 := BX1.out.cell 2 (by simp)
      have x3 := BX1.out.cell 3 (by simp)
      have x4 := BX1.out.cell 4 (by simp)
      have x5 := BX1.out.cell 5 (by simp)
      have x6 := BX1.out.cell 6 (by simp)
      simp only [List.getElem_cons_zero, List.getElem_cons_succ] at x0 x1 x2 x3 x4 x5 x6
      go_wp2_with fail
      go_ret
      exact ⟨by first | rfl | exact ret_bool hbq, HB1.out⟩
    | nil =>
      cases ky with
      | cons c r =>
        obtain rfl : ev = false := by rw [HI.out]; simp [zCallD, *]
        clear HI
        go_enter Tryz.func31, Tryz.ntmps31
        have x0 := BX0.out.cell 0 (by simp)
        have x1 := BX0.out.cell 1 (by simp)
        have x2 := BX0.out.cell 2 (by simp)
        have x3 := BX0.out.cell 3 (by simp)
        have x4 := BX0.out.cell 4 (by simp)
        have x5 := BX0.out.cell 5 (by simp)
        have x6 := BX0.out.cell 6 (by simp)
        simp only [List.getElem_cons_zero, List.getElem_cons_succ] at x0 x1 x2 x3 x4 x5 x6
        go_wp2_with (first | (go_at_call 69; (with_reducible refine (HNM.out _).mono ?_); rintro e w' ⟨rfl, rfl⟩))
        refine (HRF.out _ _ (row_of_slice (SliceAt.below H6.out good_str HB0.out (Nat.le_refl _)))).mono ?_
        rintro e w1 ⟨rfl, hb⟩
        have HB1 := Lib.hid (belS HB0.out hb)
        have BX1 := Lib.hid (BX0.out.below hb)
        clear hb x0 x1 x2 x3 x4 x5 x6
        have x0 := BX1.out.cell 0 (by simp)
        have x1 := BX1.out.cell 1 (by simp)
        have x2 := BX1.out.cell 2 (by simp)
        have x3 := BX1.out.cell 3 (by simp)
        have x4 := BX1.out.cell 4 (by simp)
        have x5 := BX1.out.cell 5 (by simp)
        have x6 := BX1.out.cell 6 (by simp)
        simp only [List.getElem_cons_zero, List.getElem_cons_succ] at x0 x1 x2 x3 x4 x5 x6
        go_wp2_with fail
        go_ret
        exact ⟨by first | rfl | exact ret_bool hbq, HB1.out⟩
      | nil =>
        by_cases hn0 : n = 0
        · subst hn0
          cases t with
          | cons c r =>
            obtain rfl : ev = false := by rw [HI.out]; simp [zCallD, *]
            clear HI
            go_enter Tryz.func31, Tryz.ntmps31
            have x0 := BX0.out.cell 0 (by simp)
            have x1 := BX0.out.cell 1 (by simp)
            have x2 := BX0.out.cell 2 (by simp)
            have x3 := BX0.out.cell 3 (by simp)
            have x4 := BX0.out.cell 4 (by simp)
            have x5 := BX0.out.cell 5 (by simp)
            have x6 := BX0.out.cell 6 (by simp)
            simp only [List.getElem_cons_zero, List.getElem_cons_succ] at x0 x1 x2 x3 x4 x5 x6
            go_wp2_with (first | (go_at_call 69; (with_reducible refine (HNM.out _).mono ?_); rintro e w' ⟨rfl, rfl⟩))
            refine (HRF.out _ _ (row_of_slice (SliceAt.below H6.out good_str HB0.out (Nat.le_refl _)))).mono ?_
            rintro e w1 ⟨rfl, hb⟩
            have HB1 := Lib.hid (belS HB0.out hb)
            have BX1 := Lib.hid (BX0.out.below hb)
            clear hb x0 x1 x2 x3 x4 x5 x6
            have x0 := BX1.out.cell 0 (by simp)
            have x1 := BX1.out.cell 1 (by simp)
            have x2 := BX1.out.cell 2 (by simp)
            have x3 := BX1.out.cell 3 (by simp)
            have x4 := BX1.out.cell 4 (by simp)
            have x5 := BX1.out.cell 5 (by simp)
            have x6 := BX1.out.cell 6 (by simp)
            simp only [List.getElem_cons_zero, List.getElem_cons_succ] at x0 x1 x2 x3 x4 x5 x6
            go_wp2_with fail
            go_ret
            exact ⟨by first | rfl | exact ret_bool hbq, HB1.out⟩
          | nil =>
            cases rb
            · obtain rfl : ev = false := by rw [HI.out]; simp [zCallD]
              clear HI
              go_enter Tryz.func31, Tryz.ntmps31
              have x0 := BX0.out.cell 0 (by simp)
              have x1 := BX0.out.cell 1 (by simp)
              have x2 := BX0.out.cell 2 (by simp)
              have x3 := BX0.out.cell 3 (by simp)
              have x4 := BX0.out.cell 4 (by simp)
              have x5 := BX0.out.cell 5 (by simp)
              have x6 := BX0.out.cell 6 (by simp)
              simp only [List.getElem_cons_zero, List.getElem_cons_succ] at x0 x1 x2 x3 x4 x5 x6
              go_wp2_with (first | (go_at_call 69; (with_reducible refine (HNM.out _).mono ?_); rintro e w' ⟨rfl, rfl⟩))
              refine (HRF.out _ _ (row_of_slice (SliceAt.below H6.out good_str HB0.out (Nat.le_refl _)))).mono ?_
              rintro e w1 ⟨rfl, hb⟩
              have HB1 := Lib.hid (belS HB0.out hb)
              have BX1 := Lib.hid (BX0.out.below hb)
              clear hb x0 x1 x2 x3 x4 x5 x6
              have x0 := BX1.out.cell 0 (by simp)
              have x1 := BX1.out.cell 1 (by simp)
              have x2 := BX1.out.cell 2 (by simp)
              have x3 := BX1.out.cell 3 (by simp)
              have x4 := BX1.out.cell 4 (by simp)
              have x5 := BX1.out.cell 5 (by simp)
              have x6 := BX1.out.cell 6 (by simp)
              simp only [List.getElem_cons_zero, List.getElem_cons_succ] at x0 x1 x2 x3 x4 x5 x6
              go_wp2_with fail
              go_ret
              exact ⟨by first | rfl | exact ret_bool hbq, HB1.out⟩
            · obtain rfl : ev = true := by rw [HI.out]; simp [zCallD]
              clear HI
              go_enter Tryz.func31, Tryz.ntmps31
              have x0 := BX0.out.cell 0 (by simp)
              have x1 := BX0.out.cell 1 (by simp)
              have x2 := BX0.out.cell 2 (by simp)
              have x3 := BX0.out.cell 3 (by simp)
              have x4 := BX0.out.cell 4 (by simp)
              have x5 := BX0.out.cell 5 (by simp)
              have x6 := BX0.out.cell 6 (by simp)
              simp only [List.getElem_cons_zero, List.getElem_cons_succ] at x0 x1 x2 x3 x4 x5 x6
              go_wp2_with (first | (go_at_call 69; (with_reducible refine (HNM.out _).mono ?_); rintro e w' ⟨rfl, rfl⟩))
              refine (HRF.out _ _ (row_of_slice (SliceAt.below H6.out good_str HB0.out (Nat.le_refl _)))).mono ?_
              rintro e w1 ⟨rfl, hb⟩
              have HB1 := Lib.hid (belS HB0.out hb)
              have BX1 := Lib.hid (BX0.out.below hb)
              clear hb x0 x1 x2 x3 x4 x5 x6
              have x0 := BX1.out.cell 0 (by simp)
              have x1 := BX1.out.cell 1 (by simp)
              have x2 := BX1.out.cell 2 (by simp)
              have x3 := BX1.out.cell 3 (by simp)
              have x4 := BX1.out.cell 4 (by simp)
              have x5 := BX1.out.cell 5 (by simp)
              have x6 := BX1.out.cell 6 (by simp)
              simp only [List.getElem_cons_zero, List.getElem_cons_succ] at x0 x1 x2 x3 x4 x5 x6
              go_wp2_with fail
              go_ret
              exact ⟨by first | rfl | exact ret_bool hbq, HB1.out⟩
        · have hnb : (n == 0) = false := by simp [hn0]
          obtain rfl : ev = false := by rw [HI.out]; simp [zCallD, *]
          clear HI
          go_enter Tryz.func31, Tryz.ntmps31
          have x0 := BX0.out.cell 0 (by simp)
          have x1 := BX0.out.cell 1 (by simp)
          have x2 := BX0.out.cell 2 (by simp)
          have x3 := BX0.out.cell 3 (by simp)
          have x4 := BX0.out.cell 4 (by simp)
          have x5 := BX0.out.cell 5 (by simp)
          have x6 := BX0.out.cell 6 (by simp)
          simp only [List.getElem_cons_zero, List.getElem_cons_succ] at x0 x1 x2 x3 x4 x5 x6
          go_wp2_with (first | (go_at_call 69; (with_reducible refine (HNM.out _).mono ?_); rintro e w' ⟨rfl, rfl⟩))
          refine (HRF.out _ _ (row_of_slice (SliceAt.below H6.out good_str HB0.out (Nat.le_refl _)))).mono ?_
          rintro e w1 ⟨rfl, hb⟩
          have HB1 := Lib.hid (belS HB0.out hb)
          have BX1 := Lib.hid (BX0.out.below hb)
          clear hb x0 x1 x2 x3 x4 x5 x6
          have x0 := BX1.out.cell 0 (by simp)
          have x1 := BX1.out.cell 1 (by simp)
          have x2 := BX1.out.cell 2 (by simp)
          have x3 := BX1.out.cell 3 (by simp)
          have x4 := BX1.out.cell 4 (by simp)
          have x5 := BX1.out.cell 5 (by simp)
          have x6 := BX1.out.cell 6 (by simp)
          simp only [List.getElem_cons_zero, List.getElem_cons_succ] at x0 x1 x2 x3 x4 x5 x6
          go_wp2_with fail
          go_ret
          exact ⟨by first | rfl | exact ret_bool hbq, HB1.out⟩
  replace HI := Lib.hid (show ev = (decide ((⟨m, ky, n, t⟩ : CallD) = zCallD) && decide (l.length = 0)) by rw [HI.out, if_neg h55])
  have hb3 : (k == 3) = false := by simp [h3]
  have hc3 : (k != 3) = true := by simp [h3]
  have hb5 : (k == 5) = false := by simp [h55]
  have hc5 : (k != 5) = true := by simp [h55]
  clear h3 h55
  cases m with
  | cons c r =>
    by_cases h0 : l.length = 0
    · obtain rfl : l = [] := List.eq_nil_of_length_eq_zero h0
      simp only [List.length_nil] at *
      clear h0
      obtain rfl : ev = false := by rw [HI.out]; simp [zCallD, *]
      clear HI
      go_enter Tryz.func31, Tryz.ntmps31
      have x0 := BX0.out.cell 0 (by simp)
      have x1 := BX0.out.cell 1 (by simp)
      have x2 := BX0.out.cell 2 (by simp)
      have x3 := BX0.out.cell 3 (by simp)
      have x4 := BX0.out.cell 4 (by simp)
      have x5 := BX0.out.cell 5 (by simp)
      have x6 := BX0.out.cell 6 (by simp)
      simp only [List.getElem_cons_zero, List.getElem_cons_succ] at x0 x1 x2 x3 x4 x5 x6
      go_wp2_with (first | (go_at_call 69; (with_reducible refine (HNM.out _).mono ?_); rintro e w' ⟨rfl, rfl⟩))
      go_ret
      exact ⟨by first | rfl | exact ret_bool hbq, HB0.out⟩
    · have hne : ¬ (l.length : Int) = 0 := by omega
      have hnd : decide (l.length = 0) = false := decide_eq_false h0
      have hbq : ((l.length : Int) == 0) = false := beq_eq_false_iff_ne.2 hne
      obtain rfl : ev = false := by rw [HI.out]; simp [zCallD, *]
      clear HI
      clear hnd h0
      go_enter Tryz.func31, Tryz.ntmps31
      have x0 := BX0.out.cell 0 (by simp)
      have x1 := BX0.out.cell 1 (by simp)
      have x2 := BX0.out.cell 2 (by simp)
      have x3 := BX0.out.cell 3 (by simp)
      have x4 := BX0.out.cell 4 (by simp)
      have x5 := BX0.out.cell 5 (by simp)
      have x6 := BX0.out.cell 6 (by simp)
      simp only [List.getElem_cons_zero, List.getElem_cons_succ] at x0 x1 x2 x3 x4 x5 x6
      go_wp2_with (first | (go_at_call 69; (with_reducible refine (HNM.out _).mono ?_); rintro e w' ⟨rfl, rfl⟩))
      go_ret
      exact ⟨by first | rfl | exact ret_bool hbq, HB0.out⟩
  | nil =>
    cases ky with
    | cons c r =>
      by_cases h0 : l.length = 0
      · obtain rfl : l = [] := List.eq_nil_of_length_eq_zero h0
        simp only [List.length_nil] at *
        clear h0
        obtain rfl : ev = false := by rw [HI.out]; simp [zCallD, *]
        clear HI
        go_enter Tryz.func31, Tryz.ntmps31
        have x0 := BX0.out.cell 0 (by simp)
        have x1 := BX0.out.cell 1 (by simp)
        have x2 := BX0.out.cell 2 (by simp)
        have x3 := BX0.out.cell 3 (by simp)
        have x4 := BX0.out.cell 4 (by simp)
        have x5 := BX0.out.cell 5 (by simp)
        have x6 := BX0.out.cell 6 (by simp)
        simp only [List.getElem_cons_zero, List.getElem_cons_succ] at x0 x1 x2 x3 x4 x5 x6
        go_wp2_with (first | (go_at_call 69; (with_reducible refine (HNM.out _).mono ?_); rintro e w' ⟨rfl, rfl⟩))
        go_ret
        exact ⟨by first | rfl | exact ret_bool hbq, HB0.out⟩
      · have hne : ¬ (l.length : Int) = 0 := by omega
        have hnd : decide (l.length = 0) = false := decide_eq_false h0
        have hbq : ((l.length : Int) == 0) = false := beq_eq_false_iff_ne.2 hne
        obtain rfl : ev = false := by rw [HI.out]; simp [zCallD, *]
        clear HI
        clear hnd h0
        go_enter Tryz.func31, Tryz.ntmps31
        have x0 := BX0.out.cell 0 (by simp)
        have x1 := BX0.out.cell 1 (by simp)
        have x2 := BX0.out.cell 2 (by simp)
        have x3 := BX0.out.cell 3 (by simp)
        have x4 := BX0.out.cell 4 (by simp)
        have x5 := BX0.out.cell 5 (by simp)
        have x6 := BX0.out.cell 6 (by simp)
        simp only [List.getElem_cons_zero, List.getElem_cons_succ] at x0 x1 x2 x3 x4 x5 x6
        go_wp2_with (first | (go_at_call 69; (with_reducible refine (HNM.out _).mono ?_); rintro e w' ⟨rfl, rfl⟩))
        go_ret
        exact ⟨by first | rfl | exact ret_bool hbq, HB0.out⟩
    | nil =>
      by_cases hn0 : n = 0
      · subst hn0
        cases t with
        | cons c r =>
          by_cases h0 : l.length = 0
          · obtain rfl : l = [] := List.eq_nil_of_length_eq_zero h0
            simp only [List.length_nil] at *
            clear h0
            obtain rfl : ev = false := by rw [HI.out]; simp [zCallD, *]
            clear HI
            go_enter Tryz.func31, Tryz.ntmps31
            have x0 := BX0.out.cell 0 (by simp)
            have x1 := BX0.out.cell 1 (by simp)
            have x2 := BX0.out.cell 2 (by simp)
            have x3 := BX0.out.cell 3 (by simp)
            have x4 := BX0.out.cell 4 (by simp)
            have x5 := BX0.out.cell 5 (by simp)
            have x6 := BX0.out.cell 6 (by simp)
            simp only [List.getElem_cons_zero, List.getElem_cons_succ] at x0 x1 x2 x3 x4 x5 x6
            go_wp2_with (first | (go_at_call 69; (with_reducible refine (HNM.out _).mono ?_); rintro e w' ⟨rfl, rfl⟩))
            go_ret
            exact ⟨by first | rfl | exact ret_bool hbq, HB0.out⟩
          · have hne : ¬ (l.length : Int) = 0 := by omega
            have hnd : decide (l.length = 0) = false := decide_eq_false h0
            have hbq : ((l.length : Int) == 0) = false := beq_eq_false_iff_ne.2 hne
            obtain rfl : ev = false := by rw [HI.out]; simp [zCallD, *]
            clear HI
            clear hnd h0
            go_enter Tryz.func31, Tryz.ntmps31
            have x0 := BX0.out.cell 0 (by simp)
            have x1 := BX0.out.cell 1 (by simp)
            have x2 := BX0.out.cell 2 (by simp)
            have x3 := BX0.out.cell 3 (by simp)
            have x4 := BX0.out.cell 4 (by simp)
            have x5 := BX0.out.cell 5 (by simp)
            have x6 := BX0.out.cell 6 (by simp)
            simp only [List.getElem_cons_zero, List.getElem_cons_succ] at x0 x1 x2 x3 x4 x5 x6
            go_wp2_with (first | (go_at_call 69; (with_reducible refine (HNM.out _).mono ?_); rintro e w' ⟨rfl, rfl⟩))
            go_ret
            exact ⟨by first | rfl | exact ret_bool hbq, HB0.out⟩
        | nil =>
          by_cases h0 : l.length = 0
          · obtain rfl : l = [] := List.eq_nil_of_length_eq_zero h0
            simp only [List.length_nil] at *
            clear h0
            obtain rfl : ev = true := by rw [HI.out]; simp [zCallD]
            clear HI
            go_enter Tryz.func31, Tryz.ntmps31
            have x0 := BX0.out.cell 0 (by simp)
            have x1 := BX0.out.cell 1 (by simp)
            have x2 := BX0.out.cell 2 (by simp)
            have x3 := BX0.out.cell 3 (by simp)
            have x4 := BX0.out.cell 4 (by simp)
            have x5 := BX0.out.cell 5 (by simp)
            have x6 := BX0.out.cell 6 (by simp)
            simp only [List.getElem_cons_zero, List.getElem_cons_succ] at x0 x1 x2 x3 x4 x5 x6
            go_wp2_with (first | (go_at_call 69; (with_reducible refine (HNM.out _).mono ?_); rintro e w' ⟨rfl, rfl⟩))
            go_ret
            exact ⟨by first | rfl | exact ret_bool hbq, HB0.out⟩
          · have hne : ¬ (l.length : Int) = 0 := by omega
            have hnd : decide (l.length = 0) = false := decide_eq_false h0
            have hbq : ((l.length : Int) == 0) = false := beq_eq_false_iff_ne.2 hne
            obtain rfl : ev = false := by rw [HI.out, hnd, Bool.and_false]
            clear HI
            clear hnd h0
            go_enter Tryz.func31, Tryz.ntmps31
            have x0 := BX0.out.cell 0 (by simp)
            have x1 := BX0.out.cell 1 (by simp)
            have x2 := BX0.out.cell 2 (by simp)
            have x3 := BX0.out.cell 3 (by simp)
            have x4 := BX0.out.cell 4 (by simp)
            have x5 := BX0.out.cell 5 (by simp)
            have x6 := BX0.out.cell 6 (by simp)
            simp only [List.getElem_cons_zero, List.getElem_cons_succ] at x0 x1 x2 x3 x4 x5 x6
            go_wp2_with (first | (go_at_call 69; (with_reducible refine (HNM.out _).mono ?_); rintro e w' ⟨rfl, rfl⟩))
            go_ret
            exact ⟨by first | rfl | exact ret_bool hbq, HB0.out⟩
      · have hnb : (n == 0) = false := by simp [hn0]
        by_cases h0 : l.length = 0
        · obtain rfl : l = [] := List.eq_nil_of_length_eq_zero h0
          simp only [List.length_nil] at *
          clear h0
          obtain rfl : ev = false := by rw [HI.out]; simp [zCallD, *]
          clear HI
          go_enter Tryz.func31, Tryz.ntmps31
          have x0 := BX0.out.cell 0 (by simp)
          have x1 := BX0.out.cell 1 (by simp)
          have x2 := BX0.out.cell 2 (by simp)
          have x3 := BX0.out.cell 3 (by simp)
          have x4 := BX0.out.cell 4 (by simp)
          have x5 := BX0.out.cell 5 (by simp)
          have x6 := BX0.out.cell 6 (by simp)
          simp only [List.getElem_cons_zero, List.getElem_cons_succ] at x0 x1 x2 x3 x4 x5 x6
          go_wp2_with (first | (go_at_call 69; (with_reducible refine (HNM.out _).mono ?_); rintro e w' ⟨rfl, rfl⟩))
          go_ret
          exact ⟨by first | rfl | exact ret_bool hbq, HB0.out⟩
        · have hne : ¬ (l.length : Int) = 0 := by omega
          have hnd : decide (l.length = 0) = false := decide_eq_false h0
          have hbq : ((l.length : Int) == 0) = false := beq_eq_false_iff_ne.2 hne
          obtain rfl : ev = false := by rw [HI.out]; simp [zCallD, *]
          clear HI
          clear hnd h0
          go_enter Tryz.func31, Tryz.ntmps31
          have x0 := BX0.out.cell 0 (by simp)
          have x1 := BX0.out.cell 1 (by simp)
          have x2 := BX0.out.cell 2 (by simp)
          have x3 := BX0.out.cell 3 (by simp)
          have x4 := BX0.out.cell 4 (by simp)
          have x5 := BX0.out.cell 5 (by simp)
          have x6 := BX0.out.cell 6 (by simp)
          simp only [List.getElem_cons_zero, List.getElem_cons_succ] at x0 x1 x2 x3 x4 x5 x6
          go_wp2_with (first | (go_at_call 69; (with_reducible refine (HNM.out _).mono ?_); rintro e w' ⟨rfl, rfl⟩))
          go_ret
          exact ⟨by first | rfl | exact ret_bool hbq, HB0.out⟩
end Go.Proofs.YtlkpinlkbikokabGreat
/- Contracts of chapter 4: MakePart, the model's. Written by gen/ch4mk.py. -/
namespace Go.Proofs.YtlkpinlkbikokabGreat
set_option linter.unusedVariables false
set_option linter.unusedSimpArgs false
open Go.RowKit
set_option maxRecDepth 100000 in
set_option maxHeartbeats 3200000 in
theorem specMake_nil (a : Option Addr) (c : Nat) (w : World) :
    Calls Tryz.prog 73 #[.slice a 0 c] w fun e w' => GivesOPR zeroP ⟨7, 0, [], 0, 0⟩ w e w' := by
  unfold GivesOPR zeroP vReply
  have BS := Lib.hid (bx_start2 w [.string ⟨#[]⟩, .bool false, .bool false, .slice none 0 0, .int .i64 0, .slice none 0 0] [.int .i64 0, .int .i64 0, .string ⟨#[]⟩, .int .i64 0, .int .i64 0] 103 105)
  have B2 := Lib.hid BS.out.1
  have B3 := Lib.hid BS.out.2.1
  go_enter Tryz.func73, Tryz.ntmps73
  go_wp2_with fail
  exact bodyPost_ret (v := .tuple #[.agg #[.string ⟨#[]⟩, .bool false, .bool false, .slice none 0 0, .int .i64 0, .slice none 0 0], .agg #[.int .i64 7, .int .i64 0, .string ⟨#[]⟩, .int .i64 0, .int .i64 0]]) (by simp [results, Tryz.results73, go_sem]) rfl ⟨_, rfl, ⟨_, _, rfl, ownsF_nil _ _ _ _ _, ownsF_nil _ _ _ _ _⟩, (bx_start2 w [.string ⟨#[]⟩, .bool false, .bool false, .slice none 0 0, .int .i64 0, .slice none 0 0] [.int .i64 7, .int .i64 0, .string ⟨#[]⟩, .int .i64 0, .int .i64 0] 103 105).2.2⟩
set_option maxRecDepth 100000 in
set_option maxHeartbeats 3200000 in
theorem specMake_bad (b o c : Nat) (k : List UInt8) (r : List (List UInt8)) (w : World) (hR : RowAt w (.slice (some ⟨b, o, none⟩) (r.length + 1) c) ((k :: r).map strV)) (hz : ∀ s ∈ k :: r, s.length ≤ 1048576) (hc : r.length + 1 ≤ c) (hm : r.length + 1 ≤ maxLen) (hk : ¬ 0 ≤ kindI k) :
    Calls Tryz.prog 73 #[.slice (some ⟨b, o, none⟩) (r.length + 1) c] w fun e w' => GivesOPR zeroP ⟨7, 0, [], 0, 0⟩ w e w' := by
  have d0 := rowAt_cellS hR 0 (by simp)
  simp only [List.map_cons, List.getElem_cons_zero, strV, Nat.add_zero] at d0
  have hbw : b < w.heap.size := by
    obtain ⟨b', o', e, hlt, _⟩ := rowAt_cell hR 0 (by simp)
    injection e with e; injection e with e1 e2; subst e1; exact hlt
  have HNP := Lib.hid (fun W => specNewPart_own ⟨k.toArray⟩ W (by have := hz k (List.mem_cons_self ..); simpa [ByteArray.size] using this))
  simp only [GivesNPO, vNP] at HNP
  have HR := Lib.hid hR
  have HZ := Lib.hid hz
  have HM := Lib.hid hm
  clear hR hz hm
  unfold GivesOPR zeroP vReply
  rw [show decide (0 ≤ kindI (⟨k.toArray⟩ : ByteArray).data.toList) = false from decide_eq_false hk] at HNP
  generalize nmK (⟨k.toArray⟩ : ByteArray).data.toList = nk at *
  have BS := Lib.hid (bx_start2 w [.string ⟨#[]⟩, .bool false, .bool false, .slice none 0 0, .int .i64 0, .slice none 0 0] [.int .i64 0, .int .i64 0, .string ⟨#[]⟩, .int .i64 0, .int .i64 0] 103 105)
  have HD := Lib.hid d0
  clear d0
  have d0 := (BS.out.2.2.cell (p := ⟨b, o, none⟩) hbw).trans HD.out
  go_enter Tryz.func73, Tryz.ntmps73
  go_wp2_with fail
  refine (HNP.out _).mono ?_
  rintro e w1 ⟨a1, c1, rfl, ho, hb⟩
  have HB1 := Lib.hid ((belS BS.out.2.2 hb).alloc (belS BS.out.2.2 hb).size (.cells #[.string ⟨nk.toArray⟩, .bool false, .bool false, .slice a1 0 c1, .int .i64 0, .slice none 0 0] 103))
  have B2 := Lib.hid ((BS.out.1.below hb).alloc (.cells #[.string ⟨nk.toArray⟩, .bool false, .bool false, .slice a1 0 c1, .int .i64 0, .slice none 0 0] 103))
  have B3 := Lib.hid ((BS.out.2.1.below hb).alloc (.cells #[.string ⟨nk.toArray⟩, .bool false, .bool false, .slice a1 0 c1, .int .i64 0, .slice none 0 0] 103))
  clear ho hb d0
  have r0 := B2.out.cell 0 (by simp)
  have r1 := B2.out.cell 1 (by simp)
  have r2 := B2.out.cell 2 (by simp)
  have r3 := B2.out.cell 3 (by simp)
  have r4 := B2.out.cell 4 (by simp)
  have r5 := B2.out.cell 5 (by simp)
  simp only [List.getElem_cons_zero, List.getElem_cons_succ] at r0 r1 r2 r3 r4 r5
  have z0 := B2.out.froz 0 (by simp)
  have z1 := B2.out.froz 1 (by simp)
  have z2 := B2.out.froz 2 (by simp)
  have z3 := B2.out.froz 3 (by simp)
  have z4 := B2.out.froz 4 (by simp)
  have z5 := B2.out.froz 5 (by simp)
  have s0 := B3.out.cell 0 (by simp)
  have s1 := B3.out.cell 1 (by simp)
  have s2 := B3.out.cell 2 (by simp)
  have s3 := B3.out.cell 3 (by simp)
  have s4 := B3.out.cell 4 (by simp)
  simp only [List.getElem_cons_zero, List.getElem_cons_succ] at s0 s1 s2 s3 s4
  have y0 := B3.out.froz 0 (by simp)
  have y1 := B3.out.froz 1 (by simp)
  have y2 := B3.out.froz 2 (by simp)
  have y3 := B3.out.froz 3 (by simp)
  have y4 := B3.out.froz 4 (by simp)
  go_wp2_with fail
  clear r0 r1 r2 r3 r4 r5 z0 z1 z2 z3 z4 z5 s0 s1 s2 s3 s4 y0 y1 y2 y3 y4
  have E4 := Lib.hid ((B2.out.put6 (.string ⟨#[]⟩) (.bool false) (.bool false) (.slice none 0 0) (.int .i64 0) (.slice none 0 0)).put5o (c := w.heap.size + 1) (by omega) (.int .i64 7) (.int .i64 0) (.string ⟨#[]⟩) (.int .i64 0) (.int .i64 0))
  have E5 := Lib.hid ((B3.out.put6o (c := w.heap.size) (by omega) (.string ⟨#[]⟩) (.bool false) (.bool false) (.slice none 0 0) (.int .i64 0) (.slice none 0 0)).put5 (.int .i64 7) (.int .i64 0) (.string ⟨#[]⟩) (.int .i64 0) (.int .i64 0))
  have EB := Lib.hid (below_put5 (below_put6 HB1.out w.heap.size (by omega) (.string ⟨#[]⟩) (.bool false) (.bool false) (.slice none 0 0) (.int .i64 0) (.slice none 0 0)) (w.heap.size + 1) (by omega) (.int .i64 7) (.int .i64 0) (.string ⟨#[]⟩) (.int .i64 0) (.int .i64 0))
  generalize ((((((((((((w1.alloc (.cells #[.string ⟨nk.toArray⟩, .bool false, .bool false, .slice a1 0 c1, .int .i64 0, .slice none 0 0] 103)).setCell ⟨w.heap.size, 0, none⟩ (.string ⟨#[]⟩)).setCell ⟨w.heap.size, 1, none⟩ (.bool false)).setCell ⟨w.heap.size, 2, none⟩ (.bool false)).setCell ⟨w.heap.size, 3, none⟩ (.slice none 0 0)).setCell ⟨w.heap.size, 4, none⟩ (.int .i64 0)).setCell ⟨w.heap.size, 5, none⟩ (.slice none 0 0)).setCell ⟨w.heap.size + 1, 0, none⟩ (.int .i64 7)).setCell ⟨w.heap.size + 1, 1, none⟩ (.int .i64 0)).setCell ⟨w.heap.size + 1, 2, none⟩ (.string ⟨#[]⟩)).setCell ⟨w.heap.size + 1, 3, none⟩ (.int .i64 0)).setCell ⟨w.heap.size + 1, 4, none⟩ (.int .i64 0)) = WE at *
  have r0 := E4.out.cell 0 (by simp)
  have r1 := E4.out.cell 1 (by simp)
  have r2 := E4.out.cell 2 (by simp)
  have r3 := E4.out.cell 3 (by simp)
  have r4 := E4.out.cell 4 (by simp)
  have r5 := E4.out.cell 5 (by simp)
  simp only [List.getElem_cons_zero, List.getElem_cons_succ] at r0 r1 r2 r3 r4 r5
  have s0 := E5.out.cell 0 (by simp)
  have s1 := E5.out.cell 1 (by simp)
  have s2 := E5.out.cell 2 (by simp)
  have s3 := E5.out.cell 3 (by simp)
  have s4 := E5.out.cell 4 (by simp)
  simp only [List.getElem_cons_zero, List.getElem_cons_succ] at s0 s1 s2 s3 s4
  exact bodyPost_ret (v := .tuple #[.agg #[.string ⟨#[]⟩, .bool false, .bool false, .slice none 0 0, .int .i64 0, .slice none 0 0], .agg #[.int .i64 7, .int .i64 0, .string ⟨#[]⟩, .int .i64 0, .int .i64 0]]) (by simp [results, Tryz.results73, go_sem, r0, r1, r2, r3, r4, r5, s0, s1, s2, s3, s4]) rfl ⟨_, rfl, ⟨_, _, rfl, ownsF_nil _ _ _ _ _, ownsF_nil _ _ _ _ _⟩, EB.out⟩
set_option maxRecDepth 100000 in
set_option maxHeartbeats 3200000 in
theorem specMake_one (b o c : Nat) (k : List UInt8) (r : List (List UInt8)) (w : World) (hR : RowAt w (.slice (some ⟨b, o, none⟩) (r.length + 1) c) ((k :: r).map strV)) (hz : ∀ s ∈ k :: r, s.length ≤ 1048576) (hc : r.length + 1 ≤ c) (hm : r.length + 1 ≤ maxLen) (h1 : c = 1) (hk : 0 ≤ kindI k) :
    Calls Tryz.prog 73 #[.slice (some ⟨b, o, none⟩) (r.length + 1) c] w fun e w' => GivesOPR (makeGo (newP k) r).1 (makeGo (newP k) r).2 w e w' := by
  have d0 := rowAt_cellS hR 0 (by simp)
  simp only [List.map_cons, List.getElem_cons_zero, strV, Nat.add_zero] at d0
  have hbw : b < w.heap.size := by
    obtain ⟨b', o', e, hlt, _⟩ := rowAt_cell hR 0 (by simp)
    injection e with e; injection e with e1 e2; subst e1; exact hlt
  have HNP := Lib.hid (fun W => specNewPart_own ⟨k.toArray⟩ W (by have := hz k (List.mem_cons_self ..); simpa [ByteArray.size] using this))
  simp only [GivesNPO, vNP] at HNP
  have HR := Lib.hid hR
  have HZ := Lib.hid hz
  have HM := Lib.hid hm
  clear hR hz hm
  rw [show decide (0 ≤ kindI (⟨k.toArray⟩ : ByteArray).data.toList) = true from decide_eq_true hk, show nmK (⟨k.toArray⟩ : ByteArray).data.toList = k from if_pos hk] at HNP
  subst h1
  obtain rfl : r = [] := List.eq_nil_of_length_eq_zero (by omega)
  simp only [List.length_nil, Nat.zero_add] at *
  rw [show makeGo (newP k) [] = (newP k, ⟨0, faceP (newP k), [], 0, 0⟩) from rfl]
  unfold GivesOPR vReply
  simp only
  generalize hp0 : newP k = p
  have HPK := Lib.hid hp0
  clear hp0
  generalize hfp : faceP p = fp
  have HFP := Lib.hid hfp
  clear hfp
  have BS := Lib.hid (bx_start2 w [.string ⟨#[]⟩, .bool false, .bool false, .slice none 0 0, .int .i64 0, .slice none 0 0] [.int .i64 0, .int .i64 0, .string ⟨#[]⟩, .int .i64 0, .int .i64 0] 103 105)
  have HD := Lib.hid d0
  clear d0
  have d0 := (BS.out.2.2.cell (p := ⟨b, o, none⟩) hbw).trans HD.out
  go_enter Tryz.func73, Tryz.ntmps73
  go_wp2_with fail
  refine (HNP.out _).mono ?_
  rintro e w1 ⟨a1, c1, rfl, ho, hb⟩
  have HB1 := Lib.hid ((belS BS.out.2.2 hb).alloc (belS BS.out.2.2 hb).size (.cells #[.string ⟨k.toArray⟩, .bool false, .bool false, .slice a1 0 c1, .int .i64 0, .slice none 0 0] 103))
  have h1s := hb.size
  simp at h1s
  have ST0 := Lib.hid (show MkSt w w1.heap.size p (w1.alloc (.cells #[.string ⟨k.toArray⟩, .bool false, .bool false, .slice a1 0 c1, .int .i64 0, .slice none 0 0] 103)) by rw [← HPK.out]; exact ⟨newP_small (HZ.out k (List.mem_cons_self ..)), rfl, ⟨_, Bx.new w1 [.string ⟨k.toArray⟩, .bool false, .bool false, .slice a1 0 c1, .int .i64 0, .slice none 0 0] 103, _, _, rfl, ownsF_alloc (ownsF_base ho (by simp)) _, ownsF_nil _ _ _ _ _⟩, (BS.out.1.below hb).alloc (.cells #[.string ⟨k.toArray⟩, .bool false, .bool false, .slice a1 0 c1, .int .i64 0, .slice none 0 0] 103), (BS.out.2.1.below hb).alloc (.cells #[.string ⟨k.toArray⟩, .bool false, .bool false, .slice a1 0 c1, .int .i64 0, .slice none 0 0] 103), HB1.out⟩)
  clear ho hb d0
  go_wp2_with fail
  generalize w1.alloc (.cells #[.string ⟨k.toArray⟩, .bool false, .bool false, .slice a1 0 c1, .int .i64 0, .slice none 0 0] 103) = wr at *
  have hst := ST0.out
  obtain ⟨hsm, hbare, ⟨cs, hq, hown⟩, hr2, hr3, hbw2⟩ := hst
  refine wp_loop_rounds 1 ?_
  rw [rounds_succ]
  obtain ⟨⟨a0, a1, a2, a3, a4⟩, l⟩ := p
  obtain rfl : a3 = [] := hbare
  obtain ⟨u3, u5, rfl, ho3, ho5⟩ := hown
  simp only at ho3 ho5 hq
  obtain ⟨ga, gc, rfl⟩ := slice_of ho3
  obtain ⟨ua, uc, rfl⟩ := slice_of ho5
  simp only [List.length_nil] at *
  have O3 := Lib.hid ho3
  have O5 := Lib.hid ho5
  have HSM := Lib.hid hsm
  have BQ := Lib.hid hq
  have B2 := Lib.hid hr2
  have B3 := Lib.hid hr3
  have HBr := Lib.hid hbw2
  have hlq := hq.lt
  have hls := hbw2.size
  clear hsm ho3 ho5 hq hr2 hr3 hbw2
  have HRP := Lib.hid (fun W (hb : Below wr.heap.size wr W) => (show rPart 0 W [.string ⟨a0.toArray⟩, .bool a1, .bool a2, .slice ga 0 gc, .int .i64 a4, .slice ua l.length uc] (⟨⟨a0, a1, a2, [], a4⟩, l⟩ : PartD) from goodPart.mono (oPart_r ⟨_, _, rfl, ownsF_below O3.out hb (Nat.le_refl _), ownsF_below O5.out hb (Nat.le_refl _)⟩ HSM.out) (Nat.zero_le _)))
  have HFO := Lib.hid (fun W (h : rPart 0 W [.string ⟨a0.toArray⟩, .bool a1, .bool a2, .slice ga 0 gc, .int .i64 a4, .slice ua l.length uc] (⟨⟨a0, a1, a2, [], a4⟩, l⟩ : PartD)) => (show Calls Tryz.prog 106 #[.agg #[.string ⟨a0.toArray⟩, .bool a1, .bool a2, .slice ga 0 gc, .int .i64 a4, .slice ua l.length uc]] W fun e w' => e = .returned (.int .i64 (faceP (⟨⟨a0, a1, a2, [], a4⟩, l⟩ : PartD))) ∧ Below W.heap.size W w' from specFaceOf_any (.agg #[.string ⟨a0.toArray⟩, .bool a1, .bool a2, .slice ga 0 gc, .int .i64 a4, .slice ua l.length uc]) (⟨⟨a0, a1, a2, [], a4⟩, l⟩ : PartD) W ⟨[.string ⟨a0.toArray⟩, .bool a1, .bool a2, .slice ga 0 gc, .int .i64 a4, .slice ua l.length uc], rfl, h⟩))
  rw [HFP.out] at HFO
  have BQd := Lib.hid (bx_dr BQ.out)
  have B2d := Lib.hid (bx_dr B2.out)
  have B3d := Lib.hid (bx_dr B3.out)
  have q0 := BQd.out.cell 0 (by simp)
  have q1 := BQd.out.cell 1 (by simp)
  have q2 := BQd.out.cell 2 (by simp)
  have q3 := BQd.out.cell 3 (by simp)
  have q4 := BQd.out.cell 4 (by simp)
  have q5 := BQd.out.cell 5 (by simp)
  simp only [List.getElem_cons_zero, List.getElem_cons_succ] at q0 q1 q2 q3 q4 q5
  go_wp2_with fail
  go_region_with (first
      | (go_at_call 106; (with_reducible refine (HFO.out _ (HRP.out _ (bel_dr (Below.refl _ _)))).mono ?_); rintro e w6 ⟨rfl, hb6⟩; have BQ6 := Lib.hid (BQd.out.below hb6); have B26 := Lib.hid (B2d.out.below hb6); have B36 := Lib.hid (B3d.out.below hb6); have q0' := BQ6.out.cell 0 (by simp); have q1' := BQ6.out.cell 1 (by simp); have q2' := BQ6.out.cell 2 (by simp); have q3' := BQ6.out.cell 3 (by simp); have q4' := BQ6.out.cell 4 (by simp); have q5' := BQ6.out.cell 5 (by simp); have r0 := B26.out.cell 0 (by simp); have z0 := B26.out.froz 0 (by simp); have r1 := B26.out.cell 1 (by simp); have z1 := B26.out.froz 1 (by simp); have r2 := B26.out.cell 2 (by simp); have z2 := B26.out.froz 2 (by simp); have r3 := B26.out.cell 3 (by simp); have z3 := B26.out.froz 3 (by simp); have r4 := B26.out.cell 4 (by simp); have z4 := B26.out.froz 4 (by simp); have r5 := B26.out.cell 5 (by simp); have z5 := B26.out.froz 5 (by simp); have s0 := B36.out.cell 0 (by simp); have y0 := B36.out.froz 0 (by simp); have s1 := B36.out.cell 1 (by simp); have y1 := B36.out.froz 1 (by simp); have s2 := B36.out.cell 2 (by simp); have y2 := B36.out.froz 2 (by simp); have s3 := B36.out.cell 3 (by simp); have y3 := B36.out.froz 3 (by simp); have s4 := B36.out.cell 4 (by simp); have y4 := B36.out.froz 4 (by simp); simp only [List.getElem_cons_zero, List.getElem_cons_succ] at q0' q1' q2' q3' q4' q5' r0 r1 r2 r3 r4 r5 s0 s1 s2 s3 s4))
  all_goals (try go_wp2_with fail)
  all_goals
    have HB6 := Lib.hid (belS (bel_dr HBr.out) hb6)
    have T3 := Lib.hid (ownsF_below (ownsF_drew O3.out) hb6 (Nat.le_refl _))
    have T5 := Lib.hid (ownsF_below (ownsF_drew O5.out) hb6 (Nat.le_refl _))
    refine bodyPost_ret (v := .tuple #[.agg #[.string ⟨a0.toArray⟩, .bool a1, .bool a2, .slice ga 0 gc, .int .i64 a4, .slice ua l.length uc], .agg #[.int .i64 0, .int .i64 fp, .string ⟨#[]⟩, .int .i64 0, .int .i64 0]]) (by simp [results, Tryz.results73, go_sem, cell_set_at, cell_set_ne, r0, r1, r2, r3, r4, r5, s0, s1, s2, s3, s4]) rfl ⟨_, rfl, ⟨_, _, rfl, ?_, ?_⟩, ?_⟩
    · refine ownsF_base (B := ((w.heap.size + 1) + 1)) ?_ (by omega)
      repeat (first | with_reducible exact T3.out | with_reducible refine ownsF_set ?_ (by simp; try omega) | with_reducible refine ownsF_drew ?_)
    · refine ownsF_base (B := ((w.heap.size + 1) + 1)) ?_ (by omega)
      repeat (first | with_reducible exact T5.out | with_reducible refine ownsF_set ?_ (by simp; try omega) | with_reducible refine ownsF_drew ?_)
    · repeat (first | with_reducible exact HB6.out | with_reducible refine Below.setCell ?_ (by simp; try omega) _ | with_reducible refine Below.drew ?_)
set_option maxRecDepth 100000 in
set_option maxHeartbeats 3200000 in
theorem specMake_go (b o c : Nat) (k : List UInt8) (r : List (List UInt8)) (w : World) (hR : RowAt w (.slice (some ⟨b, o, none⟩) (r.length + 1) c) ((k :: r).map strV)) (hz : ∀ s ∈ k :: r, s.length ≤ 1048576) (hc : r.length + 1 ≤ c) (hm : r.length + 1 ≤ maxLen) (h1 : ¬ (c : Int) = 1) (hk : 0 ≤ kindI k) :
    Calls Tryz.prog 73 #[.slice (some ⟨b, o, none⟩) (r.length + 1) c] w fun e w' => GivesOPR (makeGo (newP k) r).1 (makeGo (newP k) r).2 w e w' := by
  have d0 := rowAt_cellS hR 0 (by simp)
  simp only [List.map_cons, List.getElem_cons_zero, strV, Nat.add_zero] at d0
  have hbw : b < w.heap.size := by
    obtain ⟨b', o', e, hlt, _⟩ := rowAt_cell hR 0 (by simp)
    injection e with e; injection e with e1 e2; subst e1; exact hlt
  have HNP := Lib.hid (fun W => specNewPart_own ⟨k.toArray⟩ W (by have := hz k (List.mem_cons_self ..); simpa [ByteArray.size] using this))
  simp only [GivesNPO, vNP] at HNP
  have HR := Lib.hid hR
  have HZ := Lib.hid hz
  have HM := Lib.hid hm
  clear hR hz hm
  rw [show decide (0 ≤ kindI (⟨k.toArray⟩ : ByteArray).data.toList) = true from decide_eq_true hk, show nmK (⟨k.toArray⟩ : ByteArray).data.toList = k from if_pos hk] at HNP
  generalize hp0 : newP k = p0
  have HPK := Lib.hid hp0
  clear hp0
  generalize hres : makeGo p0 r = res
  obtain ⟨rp, t0, fp, t2, t3, t4⟩ := res
  have HRES := Lib.hid hres.symm
  clear hres
  unfold GivesOPR vReply
  simp only
  have BS := Lib.hid (bx_start2 w [.string ⟨#[]⟩, .bool false, .bool false, .slice none 0 0, .int .i64 0, .slice none 0 0] [.int .i64 0, .int .i64 0, .string ⟨#[]⟩, .int .i64 0, .int .i64 0] 103 105)
  have HD := Lib.hid d0
  clear d0
  have d0 := (BS.out.2.2.cell (p := ⟨b, o, none⟩) hbw).trans HD.out
  go_enter Tryz.func73, Tryz.ntmps73
  go_wp2_with fail
  refine (HNP.out _).mono ?_
  rintro e w1 ⟨a1, c1, rfl, ho, hb⟩
  have HB1 := Lib.hid ((belS BS.out.2.2 hb).alloc (belS BS.out.2.2 hb).size (.cells #[.string ⟨k.toArray⟩, .bool false, .bool false, .slice a1 0 c1, .int .i64 0, .slice none 0 0] 103))
  have h1s := hb.size
  simp at h1s
  have ST0 := Lib.hid (show MkSt w w1.heap.size p0 (w1.alloc (.cells #[.string ⟨k.toArray⟩, .bool false, .bool false, .slice a1 0 c1, .int .i64 0, .slice none 0 0] 103)) by rw [← HPK.out]; exact ⟨newP_small (HZ.out k (List.mem_cons_self ..)), rfl, ⟨_, Bx.new w1 [.string ⟨k.toArray⟩, .bool false, .bool false, .slice a1 0 c1, .int .i64 0, .slice none 0 0] 103, _, _, rfl, ownsF_alloc (ownsF_base ho (by simp)) _, ownsF_nil _ _ _ _ _⟩, (BS.out.1.below hb).alloc (.cells #[.string ⟨k.toArray⟩, .bool false, .bool false, .slice a1 0 c1, .int .i64 0, .slice none 0 0] 103), (BS.out.2.1.below hb).alloc (.cells #[.string ⟨k.toArray⟩, .bool false, .bool false, .slice a1 0 c1, .int .i64 0, .slice none 0 0] 103), HB1.out⟩)
  clear ho hb d0
  go_wp2_with fail
  have HRT := Lib.hid (fun W (hb : Below w.heap.size w W) => RowAt.below HR.out hb (Nat.le_refl _))
  generalize w1.alloc (.cells #[.string ⟨k.toArray⟩, .bool false, .bool false, .slice a1 0 c1, .int .i64 0, .slice none 0 0] 103) = w2 at *
  go_loopw [7, 8, 9, 29] (fun _ _ _ i wr => ∃ j : Nat, ∃ p : PartD, j ≤ r.length ∧ i = .int .i64 j ∧ (rp, (⟨t0, fp, t2, t3, t4⟩ : ReplyD)) = makeGo p (r.drop j) ∧ MkSt w w1.heap.size p wr) (fun _ _ _ i _ => r.length - (intOf i).toNat)
  case atStart => exact ⟨0, p0, Nat.zero_le _, rfl, HRES.out, ST0.out⟩
  case round =>
    obtain ⟨j, p, hj, rfl, hgo, hst⟩ := hrel
    obtain ⟨hsm, hbare, ⟨cs, hq, hown⟩, hr2, hr3, hbw2⟩ := hst
    by_cases hlt : j < r.length
    · have d1 := rowAt_cellS (HRT.out _ hbw2) (j + 1) (by simp; omega)
      simp only [List.map_cons, List.getElem_cons_succ, List.getElem_map, strV] at d1
      rw [show o + (j + 1) = o + 1 + j by omega] at d1
      have hzs := HZ.out (r[j]) (List.mem_cons_of_mem _ (List.getElem_mem hlt))
      have hdr : r.drop j = r[j] :: r.drop (j + 1) := List.drop_eq_getElem_cons hlt
      rw [hdr] at hgo
      clear hdr
      generalize r[j] = s at *
      have HW := Lib.hid (fun cs W (h : rPart 0 W cs p) => (show Calls Tryz.prog 105 #[.agg cs.toArray, .string ⟨s.toArray⟩] W fun e w' => GivesOPR (wrapP p s) (wrapR p s) W e w' from specWrap_any (.agg cs.toArray) p ⟨s.toArray⟩ W ⟨cs, rfl, h⟩ hsm (by rw [hbare]; intro c hc; cases hc) (by simpa [ByteArray.size] using hzs)))
      have HSM2 := Lib.hid (wrapP_small hsm s)
      have hb2 : (wrapP p s).fCore.fCells = [] := by rw [wrapP_core]; exact hbare
      have hyes : wrapI p s = 0 → (rp, (⟨t0, fp, t2, t3, t4⟩ : ReplyD)) = makeGo (wrapP p s) (r.drop (j + 1)) := fun h => hgo.trans (makeGo_on h)
      have hno : ¬ wrapI p s = 0 → (rp, (⟨t0, fp, t2, t3, t4⟩ : ReplyD)) = (zeroP, wrapR p s) := fun h => hgo.trans (makeGo_stop h)
      obtain ⟨m1, m3, m4, hrr⟩ : ∃ m1 m3 m4, wrapR p s = ⟨wrapI p s, m1, [], m3, m4⟩ := ⟨_, _, _, rfl⟩
      simp only [hrr] at HW hno
      unfold GivesOPR vReply at HW
      simp only at HW
      clear hgo hrr
      generalize wrapI p s = m0 at *
      generalize wrapP p s = p2 at *
      obtain ⟨⟨a0, a1, a2, a3, a4⟩, l⟩ := p
      obtain rfl : a3 = [] := hbare
      obtain ⟨u3, u5, rfl, ho3, ho5⟩ := hown
      simp only at ho3 ho5 hq
      obtain ⟨ga, gc, rfl⟩ := slice_of ho3
      obtain ⟨ua, uc, rfl⟩ := slice_of ho5
      simp only [List.length_nil] at *
      have O3 := Lib.hid ho3
      have O5 := Lib.hid ho5
      have HSM := Lib.hid hsm
      have BQ := Lib.hid hq
      have B2 := Lib.hid hr2
      have B3 := Lib.hid hr3
      have HBr := Lib.hid hbw2
      have hlq := hq.lt
      have hls := hbw2.size
      clear hsm ho3 ho5 hq hr2 hr3 hbw2
      have HRP := Lib.hid (goodPart.mono (oPart_r ⟨_, _, rfl, O3.out, O5.out⟩ HSM.out) (Nat.zero_le _))
      have HYES := Lib.hid hyes
      have HNO := Lib.hid hno
      have hjr : (j : Int) < (r.length : Int) := by omega
      have hml := HM.out
      unfold maxLen at hml
      clear hyes hno
      have q0 := BQ.out.cell 0 (by simp)
      have q1 := BQ.out.cell 1 (by simp)
      have q2 := BQ.out.cell 2 (by simp)
      have q3 := BQ.out.cell 3 (by simp)
      have q4 := BQ.out.cell 4 (by simp)
      have q5 := BQ.out.cell 5 (by simp)
      simp only [List.getElem_cons_zero, List.getElem_cons_succ] at q0 q1 q2 q3 q4 q5
      go_wp2_with fail
      refine (HW.out _ _ HRP.out).mono ?_
      rintro e w4 ⟨_, rfl, ho, hb⟩
      obtain ⟨⟨b0, b1, b2, b3, b4⟩, l2⟩ := p2
      obtain rfl : b3 = [] := hb2
      obtain ⟨u3, u5, rfl, ho3, ho5⟩ := ho
      simp only at ho3 ho5
      obtain ⟨ha, hc2, rfl⟩ := slice_of ho3
      obtain ⟨va, vc, rfl⟩ := slice_of ho5
      simp only [List.length_nil] at *
      have N3 := Lib.hid ho3
      have N5 := Lib.hid ho5
      have HB4 := Lib.hid (belS HBr.out hb)
      have BQ4 := Lib.hid (BQ.out.below hb)
      have B24 := Lib.hid (B2.out.below hb)
      have B34 := Lib.hid (B3.out.below hb)
      have hs4 := hb.size
      have hq4 := BQ4.out.lt
      clear hb ho3 ho5 q0 q1 q2 q3 q4 q5 BQ B2 B3
      by_cases hcd : m0 = 0
      · subst hcd
        have HG := Lib.hid (HYES.out rfl)
        clear HNO HYES
        have q0 := BQ4.out.cell 0 (by simp)
        have q1 := BQ4.out.cell 1 (by simp)
        have q2 := BQ4.out.cell 2 (by simp)
        have q3 := BQ4.out.cell 3 (by simp)
        have q4 := BQ4.out.cell 4 (by simp)
        have q5 := BQ4.out.cell 5 (by simp)
        simp only [List.getElem_cons_zero, List.getElem_cons_succ] at q0 q1 q2 q3 q4 q5
        have p0 := BQ4.out.froz 0 (by simp)
        have p1 := BQ4.out.froz 1 (by simp)
        have p2 := BQ4.out.froz 2 (by simp)
        have p3 := BQ4.out.froz 3 (by simp)
        have p4 := BQ4.out.froz 4 (by simp)
        have p5 := BQ4.out.froz 5 (by simp)
        go_wp2_with fail
        refine ⟨⟨j + 1, ⟨⟨b0, b1, b2, [], b4⟩, l2⟩, by omega, by go_num, HG.out, ?_⟩, by simp [intOf]; omega⟩
        exact ⟨HSM2.out, rfl, ⟨_, ((BQ4.out.put6 (.string ⟨b0.toArray⟩) (.bool b1) (.bool b2) (.slice ha 0 hc2) (.int .i64 b4) (.slice va l2.length vc)).alloc _).alloc _, _, _, rfl, ownsF_alloc (ownsF_alloc (ownsF_base (ownsF_put6 N3.out w1.heap.size hlq (.string ⟨b0.toArray⟩) (.bool b1) (.bool b2) (.slice ha 0 hc2) (.int .i64 b4) (.slice va l2.length vc)) (by omega)) _) _, ownsF_alloc (ownsF_alloc (ownsF_base (ownsF_put6 N5.out w1.heap.size hlq (.string ⟨b0.toArray⟩) (.bool b1) (.bool b2) (.slice ha 0 hc2) (.int .i64 b4) (.slice va l2.length vc)) (by omega)) _) _⟩,
          ((B24.out.put6o (c := w1.heap.size) (by omega) (.string ⟨b0.toArray⟩) (.bool b1) (.bool b2) (.slice ha 0 hc2) (.int .i64 b4) (.slice va l2.length vc)).alloc _).alloc _, ((B34.out.put6o (c := w1.heap.size) (by omega) (.string ⟨b0.toArray⟩) (.bool b1) (.bool b2) (.slice ha 0 hc2) (.int .i64 b4) (.slice va l2.length vc)).alloc _).alloc _,
          belS (belS (below_put6 HB4.out w1.heap.size (by omega) (.string ⟨b0.toArray⟩) (.bool b1) (.bool b2) (.slice ha 0 hc2) (.int .i64 b4) (.slice va l2.length vc)) (bx_box _ _)) (bx_box _ _)⟩
      · have HG := Lib.hid (HNO.out hcd)
        have hg := HG.out
        simp only [Prod.mk.injEq, ReplyD.mk.injEq] at hg
        obtain ⟨g1, g2, g3, g4, g5, g6⟩ := hg
        subst g1
        subst g4
        have g2 := g2.symm
        have g3 := g3.symm
        have g5 := g5.symm
        have g6 := g6.symm
        subst g2
        subst g3
        subst g5
        subst g6
        clear HNO HYES HG
        have B25 := Lib.hid ((B24.out.alloc (.cells #[.string ⟨b0.toArray⟩, .bool b1, .bool b2, .slice ha 0 hc2, .int .i64 b4, .slice va l2.length vc] 103)).alloc (.cells #[.int .i64 m0, .int .i64 m1, .string ⟨#[]⟩, .int .i64 m3, .int .i64 m4] 105))
        have B35 := Lib.hid ((B34.out.alloc (.cells #[.string ⟨b0.toArray⟩, .bool b1, .bool b2, .slice ha 0 hc2, .int .i64 b4, .slice va l2.length vc] 103)).alloc (.cells #[.int .i64 m0, .int .i64 m1, .string ⟨#[]⟩, .int .i64 m3, .int .i64 m4] 105))
        have r0 := B25.out.cell 0 (by simp)
        have r1 := B25.out.cell 1 (by simp)
        have r2 := B25.out.cell 2 (by simp)
        have r3 := B25.out.cell 3 (by simp)
        have r4 := B25.out.cell 4 (by simp)
        have r5 := B25.out.cell 5 (by simp)
        simp only [List.getElem_cons_zero, List.getElem_cons_succ] at r0 r1 r2 r3 r4 r5
        have z0 := B25.out.froz 0 (by simp)
        have z1 := B25.out.froz 1 (by simp)
        have z2 := B25.out.froz 2 (by simp)
        have z3 := B25.out.froz 3 (by simp)
        have z4 := B25.out.froz 4 (by simp)
        have z5 := B25.out.froz 5 (by simp)
        have s0 := B35.out.cell 0 (by simp)
        have s1 := B35.out.cell 1 (by simp)
        have s2 := B35.out.cell 2 (by simp)
        have s3 := B35.out.cell 3 (by simp)
        have s4 := B35.out.cell 4 (by simp)
        simp only [List.getElem_cons_zero, List.getElem_cons_succ] at s0 s1 s2 s3 s4
        have y0 := B35.out.froz 0 (by simp)
        have y1 := B35.out.froz 1 (by simp)
        have y2 := B35.out.froz 2 (by simp)
        have y3 := B35.out.froz 3 (by simp)
        have y4 := B35.out.froz 4 (by simp)
        go_wp2_with fail
        go_region
        all_goals (try go_wp2_with fail)
        all_goals
          refine bodyPost_ret (v := .tuple #[.agg #[.string ⟨#[]⟩, .bool false, .bool false, .slice none 0 0, .int .i64 0, .slice none 0 0], .agg #[.int .i64 m0, .int .i64 m1, .string ⟨#[]⟩, .int .i64 m3, .int .i64 m4]]) (by simp [results, Tryz.results73, go_sem, cell_set_at, cell_set_ne, r0, r1, r2, r3, r4, r5, s0, s1, s2, s3, s4]) rfl ⟨_, rfl, ⟨_, _, rfl, ownsF_nil _ _ _ _ _, ownsF_nil _ _ _ _ _⟩, ?_⟩
          repeat (first | with_reducible exact HB4.out | with_reducible refine Below.setCell ?_ (by simp; try omega) _ | with_reducible refine Below.alloc ?_ (by first | omega | (simp; omega)) _ | with_reducible refine Below.drew ?_)
    · rw [show r.drop j = [] from List.drop_eq_nil_of_le (by omega)] at hgo
      replace hgo : (rp, (⟨t0, fp, t2, t3, t4⟩ : ReplyD)) = (p, ⟨0, faceP p, [], 0, 0⟩) := hgo
      simp only [Prod.mk.injEq, ReplyD.mk.injEq] at hgo
      obtain ⟨g1, g2, g3, g4, g5, g6⟩ := hgo
      have g1 := g1.symm
      subst g1
      subst g2
      subst g4
      subst g5
      subst g6
      have HFP := Lib.hid g3.symm
      clear g3
      have hjr : ¬ (j : Int) < (r.length : Int) := by omega
      obtain ⟨⟨a0, a1, a2, a3, a4⟩, l⟩ := p
      obtain rfl : a3 = [] := hbare
      obtain ⟨u3, u5, rfl, ho3, ho5⟩ := hown
      simp only at ho3 ho5 hq
      obtain ⟨ga, gc, rfl⟩ := slice_of ho3
      obtain ⟨ua, uc, rfl⟩ := slice_of ho5
      simp only [List.length_nil] at *
      have O3 := Lib.hid ho3
      have O5 := Lib.hid ho5
      have HSM := Lib.hid hsm
      have BQ := Lib.hid hq
      have B2 := Lib.hid hr2
      have B3 := Lib.hid hr3
      have HBr := Lib.hid hbw2
      have hlq := hq.lt
      have hls := hbw2.size
      clear hsm ho3 ho5 hq hr2 hr3 hbw2
      have HRP := Lib.hid (fun W (hb : Below wr.heap.size wr W) => (show rPart 0 W [.string ⟨a0.toArray⟩, .bool a1, .bool a2, .slice ga 0 gc, .int .i64 a4, .slice ua l.length uc] (⟨⟨a0, a1, a2, [], a4⟩, l⟩ : PartD) from goodPart.mono (oPart_r ⟨_, _, rfl, ownsF_below O3.out hb (Nat.le_refl _), ownsF_below O5.out hb (Nat.le_refl _)⟩ HSM.out) (Nat.zero_le _)))
      have HFO := Lib.hid (fun W (h : rPart 0 W [.string ⟨a0.toArray⟩, .bool a1, .bool a2, .slice ga 0 gc, .int .i64 a4, .slice ua l.length uc] (⟨⟨a0, a1, a2, [], a4⟩, l⟩ : PartD)) => (show Calls Tryz.prog 106 #[.agg #[.string ⟨a0.toArray⟩, .bool a1, .bool a2, .slice ga 0 gc, .int .i64 a4, .slice ua l.length uc]] W fun e w' => e = .returned (.int .i64 (faceP (⟨⟨a0, a1, a2, [], a4⟩, l⟩ : PartD))) ∧ Below W.heap.size W w' from specFaceOf_any (.agg #[.string ⟨a0.toArray⟩, .bool a1, .bool a2, .slice ga 0 gc, .int .i64 a4, .slice ua l.length uc]) (⟨⟨a0, a1, a2, [], a4⟩, l⟩ : PartD) W ⟨[.string ⟨a0.toArray⟩, .bool a1, .bool a2, .slice ga 0 gc, .int .i64 a4, .slice ua l.length uc], rfl, h⟩))
      rw [HFP.out] at HFO
      have BQd := Lib.hid (bx_dr BQ.out)
      have B2d := Lib.hid (bx_dr B2.out)
      have B3d := Lib.hid (bx_dr B3.out)
      have q0 := BQd.out.cell 0 (by simp)
      have q1 := BQd.out.cell 1 (by simp)
      have q2 := BQd.out.cell 2 (by simp)
      have q3 := BQd.out.cell 3 (by simp)
      have q4 := BQd.out.cell 4 (by simp)
      have q5 := BQd.out.cell 5 (by simp)
      simp only [List.getElem_cons_zero, List.getElem_cons_succ] at q0 q1 q2 q3 q4 q5
      go_wp2_with fail
      go_region_with (first
          | (go_at_call 106; (with_reducible refine (HFO.out _ (HRP.out _ (bel_dr (Below.refl _ _)))).mono ?_); rintro e w6 ⟨rfl, hb6⟩; have BQ6 := Lib.hid (BQd.out.below hb6); have B26 := Lib.hid (B2d.out.below hb6); have B36 := Lib.hid (B3d.out.below hb6); have q0' := BQ6.out.cell 0 (by simp); have q1' := BQ6.out.cell 1 (by simp); have q2' := BQ6.out.cell 2 (by simp); have q3' := BQ6.out.cell 3 (by simp); have q4' := BQ6.out.cell 4 (by simp); have q5' := BQ6.out.cell 5 (by simp); have r0 := B26.out.cell 0 (by simp); have z0 := B26.out.froz 0 (by simp); have r1 := B26.out.cell 1 (by simp); have z1 := B26.out.froz 1 (by simp); have r2 := B26.out.cell 2 (by simp); have z2 := B26.out.froz 2 (by simp); have r3 := B26.out.cell 3 (by simp); have z3 := B26.out.froz 3 (by simp); have r4 := B26.out.cell 4 (by simp); have z4 := B26.out.froz 4 (by simp); have r5 := B26.out.cell 5 (by simp); have z5 := B26.out.froz 5 (by simp); have s0 := B36.out.cell 0 (by simp); have y0 := B36.out.froz 0 (by simp); have s1 := B36.out.cell 1 (by simp); have y1 := B36.out.froz 1 (by simp); have s2 := B36.out.cell 2 (by simp); have y2 := B36.out.froz 2 (by simp); have s3 := B36.out.cell 3 (by simp); have y3 := B36.out.froz 3 (by simp); have s4 := B36.out.cell 4 (by simp); have y4 := B36.out.froz 4 (by simp); simp only [List.getElem_cons_zero, List.getElem_cons_succ] at q0' q1' q2' q3' q4' q5' r0 r1 r2 r3 r4 r5 s0 s1 s2 s3 s4))
      all_goals (try go_wp2_with fail)
      all_goals
        have HB6 := Lib.hid (belS (bel_dr HBr.out) hb6)
        have T3 := Lib.hid (ownsF_below (ownsF_drew O3.out) hb6 (Nat.le_refl _))
        have T5 := Lib.hid (ownsF_below (ownsF_drew O5.out) hb6 (Nat.le_refl _))
        refine bodyPost_ret (v := .tuple #[.agg #[.string ⟨a0.toArray⟩, .bool a1, .bool a2, .slice ga 0 gc, .int .i64 a4, .slice ua l.length uc], .agg #[.int .i64 0, .int .i64 fp, .string ⟨#[]⟩, .int .i64 0, .int .i64 0]]) (by simp [results, Tryz.results73, go_sem, cell_set_at, cell_set_ne, r0, r1, r2, r3, r4, r5, s0, s1, s2, s3, s4]) rfl ⟨_, rfl, ⟨_, _, rfl, ?_, ?_⟩, ?_⟩
        · refine ownsF_base (B := ((w.heap.size + 1) + 1)) ?_ (by omega)
          repeat (first | with_reducible exact T3.out | with_reducible refine ownsF_set ?_ (by simp; try omega) | with_reducible refine ownsF_drew ?_)
        · refine ownsF_base (B := ((w.heap.size + 1) + 1)) ?_ (by omega)
          repeat (first | with_reducible exact T5.out | with_reducible refine ownsF_set ?_ (by simp; try omega) | with_reducible refine ownsF_drew ?_)
        · repeat (first | with_reducible exact HB6.out | with_reducible refine Below.setCell ?_ (by simp; try omega) _ | with_reducible refine Below.drew ?_)
theorem specMakePart_any (v : Value) (x : List (List UInt8)) (w : World) (hR : RowAt w v (x.map strV)) (hz : ∀ s ∈ x, s.length ≤ 1048576) :
    Calls Tryz.prog 73 #[v] w fun e w' => GivesOPR (makePR x).1 (makePR x).2 w e w' := by
  obtain ⟨a, c, rfl, hl, hcap⟩ := rowAt_cap hR
  cases x with
  | nil => exact specMake_nil a c w
  | cons k r =>
    obtain ⟨b, o, rfl, hbw, _⟩ := rowAt_cell hR 0 (by simp)
    simp only [List.length_map, List.length_cons] at hR hl hcap ⊢
    by_cases hk : 0 ≤ kindI k
    · rw [show makePR (k :: r) = makeGo (newP k) r from if_pos hk]
      by_cases h1 : c = 1
      · exact specMake_one b o c k r w hR hz hcap hl h1 hk
      · exact specMake_go b o c k r w hR hz hcap hl (by omega) hk
    · rw [show makePR (k :: r) = (zeroP, ⟨7, 0, [], 0, 0⟩) from if_neg hk]
      exact specMake_bad b o c k r w hR hz hcap hl hk
set_option maxRecDepth 100000 in
set_option maxHeartbeats 1600000 in
theorem specRecipeFace_any (v : Value) (x : List (List UInt8)) (w : World) (hR : RowAt w v (x.map strV)) (hz : ∀ s ∈ x, s.length ≤ 1048576) :
    Calls Tryz.prog 35 #[v] w fun e w' => e = .returned (.tuple #[.int .i64 (recI x), .bool (recB x)]) ∧ Below w.heap.size w w' := by
  have HMK := Lib.hid (specMakePart_any v x w hR hz)
  have HSM := Lib.hid (makePR_small hz)
  have HV := Lib.hid (@makePR_val x)
  unfold recI recB
  generalize makePR x = res at *
  obtain ⟨⟨⟨a0, a1, a2, a3, a4⟩, l⟩, m0, m1, m2, m3, m4⟩ := res
  unfold GivesOPR vReply at HMK
  simp only at HMK HSM ⊢
  have HFO := Lib.hid (fun cs W (h : rPart 0 W cs ⟨⟨a0, a1, a2, a3, a4⟩, l⟩) => specFaceOf_any (.agg cs.toArray) ⟨⟨a0, a1, a2, a3, a4⟩, l⟩ W ⟨cs, rfl, h⟩)
  generalize hfp : faceP ⟨⟨a0, a1, a2, a3, a4⟩, l⟩ = fp at *
  clear hfp hR hz
  by_cases hc : m0 = 0
  · subst hc
    have hv : m1 = fp := HV.out rfl
    subst hv
    simp only [if_true, decide_true]
    clear HV
    go_enter Tryz.func35, Tryz.ntmps35
    go_wp2_with fail
    refine HMK.out.mono ?_
    rintro e w1 ⟨_, rfl, ⟨u3, u5, rfl, ho3, ho5⟩, hb⟩
    simp only at ho3 ho5
    obtain ⟨ga, gc, rfl⟩ := slice_of ho3
    obtain ⟨ua, uc, rfl⟩ := slice_of ho5
    have HB1 := Lib.hid (belS (belS hb (bx_box w1 (.cells #[.string ⟨a0.toArray⟩, .bool a1, .bool a2, .slice ga a3.length gc, .int .i64 a4, .slice ua l.length uc] 103))) (bx_box _ (.cells #[.int .i64 0, .int .i64 m1, .string ⟨m2.toArray⟩, .int .i64 m3, .int .i64 m4] 105)))
    have O3 := Lib.hid (ownsF_alloc (ownsF_alloc ho3 (.cells #[.string ⟨a0.toArray⟩, .bool a1, .bool a2, .slice ga a3.length gc, .int .i64 a4, .slice ua l.length uc] 103)) (.cells #[.int .i64 0, .int .i64 m1, .string ⟨m2.toArray⟩, .int .i64 m3, .int .i64 m4] 105))
    have O5 := Lib.hid (ownsF_alloc (ownsF_alloc ho5 (.cells #[.string ⟨a0.toArray⟩, .bool a1, .bool a2, .slice ga a3.length gc, .int .i64 a4, .slice ua l.length uc] 103)) (.cells #[.int .i64 0, .int .i64 m1, .string ⟨m2.toArray⟩, .int .i64 m3, .int .i64 m4] 105))
    have HRP := Lib.hid (show rPart 0 ((w1.alloc (.cells #[.string ⟨a0.toArray⟩, .bool a1, .bool a2, .slice ga a3.length gc, .int .i64 a4, .slice ua l.length uc] 103)).alloc (.cells #[.int .i64 0, .int .i64 m1, .string ⟨m2.toArray⟩, .int .i64 m3, .int .i64 m4] 105)) [.string ⟨a0.toArray⟩, .bool a1, .bool a2, .slice ga a3.length gc, .int .i64 a4, .slice ua l.length uc] ⟨⟨a0, a1, a2, a3, a4⟩, l⟩ from goodPart.mono (oPart_r ⟨_, _, rfl, O3.out, O5.out⟩ HSM.out) (Nat.zero_le _))
    clear ho3 ho5 hb
    go_wp2_with fail
    exact bodyPost_ret (v := .tuple #[.int .i64 m1, .bool true]) (by simp [results, Tryz.results35, go_sem]) rfl ⟨rfl, HB1.out⟩
  · simp only [if_neg hc, decide_eq_false hc]
    clear HV
    go_enter Tryz.func35, Tryz.ntmps35
    go_wp2_with fail
    refine HMK.out.mono ?_
    rintro e w1 ⟨_, rfl, ⟨u3, u5, rfl, ho3, ho5⟩, hb⟩
    simp only at ho3 ho5
    obtain ⟨ga, gc, rfl⟩ := slice_of ho3
    obtain ⟨ua, uc, rfl⟩ := slice_of ho5
    have HB1 := Lib.hid (belS (belS hb (bx_box w1 (.cells #[.string ⟨a0.toArray⟩, .bool a1, .bool a2, .slice ga a3.length gc, .int .i64 a4, .slice ua l.length uc] 103))) (bx_box _ (.cells #[.int .i64 m0, .int .i64 m1, .string ⟨m2.toArray⟩, .int .i64 m3, .int .i64 m4] 105)))
    clear ho3 ho5 hb
    go_wp2_with fail
    exact bodyPost_ret (v := .tuple #[.int .i64 0, .bool false]) (by simp [results, Tryz.results35, go_sem]) rfl ⟨rfl, HB1.out⟩
end Go.Proofs.YtlkpinlkbikokabGreat
/- The model's IsCall, method by method: three of them. Written by gen/ch3calls.py. -/
namespace Go.Proofs.YtlkpinlkbikokabGreat
set_option linter.unusedVariables false
open Go.RowKit
set_option maxRecDepth 100000 in
set_option maxHeartbeats 3200000 in
theorem specIsCall_Start (key : List UInt8) (v : Int) (text : List UInt8) (w : World) (hk : key.length ≤ maxLen) :
    Calls Tryz.prog 66 #[.agg #[.string ⟨#[83, 116, 97, 114, 116]⟩, .string ⟨key.toArray⟩, .int .i64 v, .string ⟨text.toArray⟩]] w fun e w' => e = .returned (.bool (callB ⟨mStart, key, v, text⟩)) ∧ Below w.heap.size w w' := by
  have HR := Lib.hid (show callB ⟨mStart, key, v, text⟩ = (key.isEmpty && (v == 0) && (text.isEmpty || false)) from rfl)
  have HW := Lib.hid (show ∀ w0, Calls Tryz.prog 93 #[.string ⟨#[83, 116, 97, 114, 116]⟩] w0 fun e w' => e = .returned (.int .i64 1) ∧ Below w0.heap.size w0 w' from fun w0 => specWant_b mStart 1 rfl w0)
  generalize callB ⟨mStart, key, v, text⟩ = res at *
  clear hk
  have HB0 := Lib.hid (show ∀ o, Below w.heap.size w (w.alloc o) from fun o => (Below.refl w.heap.size w).alloc (Nat.le_refl _) o)
  go_enter Tryz.func66, Tryz.ntmps66
  go_wp2_with fail
  refine (HW.out _).mono ?_
  rintro e w1 ⟨rfl, hb⟩
  have HB := Lib.hid ((HB0.out _).trans (hb.mono (HB0.out _).size))
  obtain ⟨hcc, _⟩ := bcell hb
  simp at hcc
  have c0 := hcc w.heap.size 0 (by omega)
  have c1 := hcc w.heap.size 1 (by omega)
  have c2 := hcc w.heap.size 2 (by omega)
  have c3 := hcc w.heap.size 3 (by omega)
  simp at c0 c1 c2 c3
  clear hb hcc
  cases key <;> cases text
  all_goals
    by_cases h0 : v = 0
    · subst h0
      go_wp2_with fail
      go_ret
      exact ⟨ret_bool (by rw [HR.out]; rfl), HB.out⟩
    · have hv0 : (v == 0) = false := by simpa using h0
      rw [hv0] at HR
      clear h0
      go_wp2_with fail
      go_ret
      exact ⟨ret_bool (by rw [HR.out]; rfl), HB.out⟩
set_option maxRecDepth 100000 in
set_option maxHeartbeats 3200000 in
theorem specIsCall_Stop (key : List UInt8) (v : Int) (text : List UInt8) (w : World) (hk : key.length ≤ maxLen) :
    Calls Tryz.prog 66 #[.agg #[.string ⟨#[83, 116, 111, 112]⟩, .string ⟨key.toArray⟩, .int .i64 v, .string ⟨text.toArray⟩]] w fun e w' => e = .returned (.bool (callB ⟨mStop, key, v, text⟩)) ∧ Below w.heap.size w w' := by
  have HR := Lib.hid (show callB ⟨mStop, key, v, text⟩ = (key.isEmpty && (v == 0) && (text.isEmpty || false)) from rfl)
  have HW := Lib.hid (show ∀ w0, Calls Tryz.prog 93 #[.string ⟨#[83, 116, 111, 112]⟩] w0 fun e w' => e = .returned (.int .i64 1) ∧ Below w0.heap.size w0 w' from fun w0 => specWant_b mStop 1 rfl w0)
  generalize callB ⟨mStop, key, v, text⟩ = res at *
  clear hk
  have HB0 := Lib.hid (show ∀ o, Below w.heap.size w (w.alloc o) from fun o => (Below.refl w.heap.size w).alloc (Nat.le_refl _) o)
  go_enter Tryz.func66, Tryz.ntmps66
  go_wp2_with fail
  refine (HW.out _).mono ?_
  rintro e w1 ⟨rfl, hb⟩
  have HB := Lib.hid ((HB0.out _).trans (hb.mono (HB0.out _).size))
  obtain ⟨hcc, _⟩ := bcell hb
  simp at hcc
  have c0 := hcc w.heap.size 0 (by omega)
  have c1 := hcc w.heap.size 1 (by omega)
  have c2 := hcc w.heap.size 2 (by omega)
  have c3 := hcc w.heap.size 3 (by omega)
  simp at c0 c1 c2 c3
  clear hb hcc
  cases key <;> cases text
  all_goals
    by_cases h0 : v = 0
    · subst h0
      go_wp2_with fail
      go_ret
      exact ⟨ret_bool (by rw [HR.out]; rfl), HB.out⟩
    · have hv0 : (v == 0) = false := by simpa using h0
      rw [hv0] at HR
      clear h0
      go_wp2_with fail
      go_ret
      exact ⟨ret_bool (by rw [HR.out]; rfl), HB.out⟩
set_option maxRecDepth 100000 in
set_option maxHeartbeats 3200000 in
theorem specIsCall_Get (key : List UInt8) (v : Int) (text : List UInt8) (w : World) (hk : key.length ≤ maxLen) :
    Calls Tryz.prog 66 #[.agg #[.string ⟨#[71, 101, 116]⟩, .string ⟨key.toArray⟩, .int .i64 v, .string ⟨text.toArray⟩]] w fun e w' => e = .returned (.bool (callB ⟨mGet, key, v, text⟩)) ∧ Below w.heap.size w w' := by
  have HR := Lib.hid (show callB ⟨mGet, key, v, text⟩ = (nameB key && (v == 0) && (text.isEmpty || false)) from rfl)
  have HW := Lib.hid (show ∀ w0, Calls Tryz.prog 93 #[.string ⟨#[71, 101, 116]⟩] w0 fun e w' => e = .returned (.int .i64 2) ∧ Below w0.heap.size w0 w' from fun w0 => specWant_b mGet 2 rfl w0)
  have HN := Lib.hid (specIsName_b key _ rfl hk)
  generalize callB ⟨mGet, key, v, text⟩ = res at *
  generalize nameB key = kn at *
  clear hk
  have HB0 := Lib.hid (show ∀ o, Below w.heap.size w (w.alloc o) from fun o => (Below.refl w.heap.size w).alloc (Nat.le_refl _) o)
  go_enter Tryz.func66, Tryz.ntmps66
  go_wp2_with fail
  refine (HW.out _).mono ?_
  rintro e w1 ⟨rfl, hb⟩
  have HB := Lib.hid ((HB0.out _).trans (hb.mono (HB0.out _).size))
  obtain ⟨hcc, _⟩ := bcell hb
  simp at hcc
  have c0 := hcc w.heap.size 0 (by omega)
  have c1 := hcc w.heap.size 1 (by omega)
  have c2 := hcc w.heap.size 2 (by omega)
  have c3 := hcc w.heap.size 3 (by omega)
  simp at c0 c1 c2 c3
  clear hb hcc
  cases kn <;> cases text
  all_goals
    by_cases h0 : v = 0
    · subst h0
      go_wp2_with (first | (go_at_call 67; (with_reducible refine (HN.out _).mono ?_); rintro e w' ⟨rfl, rfl⟩))
      go_ret
      exact ⟨ret_bool (by rw [HR.out]; rfl), HB.out⟩
    · have hv0 : (v == 0) = false := by simpa using h0
      rw [hv0] at HR
      clear h0
      go_wp2_with (first | (go_at_call 67; (with_reducible refine (HN.out _).mono ?_); rintro e w' ⟨rfl, rfl⟩))
      go_ret
      exact ⟨ret_bool (by rw [HR.out]; rfl), HB.out⟩
end Go.Proofs.YtlkpinlkbikokabGreat
/- The model's IsCall, method by method: three more. Written by gen/ch3calls.py. -/
namespace Go.Proofs.YtlkpinlkbikokabGreat
set_option linter.unusedVariables false
open Go.RowKit
set_option maxRecDepth 100000 in
set_option maxHeartbeats 3200000 in
theorem specIsCall_Put (key : List UInt8) (v : Int) (text : List UInt8) (w : World) (hk : key.length ≤ maxLen) :
    Calls Tryz.prog 66 #[.agg #[.string ⟨#[80, 117, 116]⟩, .string ⟨key.toArray⟩, .int .i64 v, .string ⟨text.toArray⟩]] w fun e w' => e = .returned (.bool (callB ⟨mPut, key, v, text⟩)) ∧ Below w.heap.size w w' := by
  have HR := Lib.hid (show callB ⟨mPut, key, v, text⟩ = (nameB key && numB v && (text.isEmpty || false)) from rfl)
  have HW := Lib.hid (show ∀ w0, Calls Tryz.prog 93 #[.string ⟨#[80, 117, 116]⟩] w0 fun e w' => e = .returned (.int .i64 2) ∧ Below w0.heap.size w0 w' from fun w0 => specWant_b mPut 2 rfl w0)
  have HN := Lib.hid (specIsName_b key _ rfl hk)
  generalize callB ⟨mPut, key, v, text⟩ = res at *
  generalize nameB key = kn at *
  clear hk
  have HB0 := Lib.hid (show ∀ o, Below w.heap.size w (w.alloc o) from fun o => (Below.refl w.heap.size w).alloc (Nat.le_refl _) o)
  go_enter Tryz.func66, Tryz.ntmps66
  go_wp2_with fail
  refine (HW.out _).mono ?_
  rintro e w1 ⟨rfl, hb⟩
  have HB := Lib.hid ((HB0.out _).trans (hb.mono (HB0.out _).size))
  obtain ⟨hcc, _⟩ := bcell hb
  simp at hcc
  have c0 := hcc w.heap.size 0 (by omega)
  have c1 := hcc w.heap.size 1 (by omega)
  have c2 := hcc w.heap.size 2 (by omega)
  have c3 := hcc w.heap.size 3 (by omega)
  simp at c0 c1 c2 c3
  clear hb hcc
  cases kn <;> cases text
  all_goals
    by_cases h0 : v = 0
    · subst h0
      rw [show numB 0 = true from rfl] at HR
      go_wp2_with (first | (go_at_call 67; (with_reducible refine (HN.out _).mono ?_); rintro e w' ⟨rfl, rfl⟩))
      go_ret
      exact ⟨ret_bool (by rw [HR.out]; rfl), HB.out⟩
    · have hv0 : (v == 0) = false := by simpa using h0
      by_cases h1 : v < 0
      · rw [show numB v = false by simp [numB]; omega] at HR
        have hv1 : decide (0 < v) = false := decide_eq_false (by omega)
        clear h0
        go_wp2_with (first | (go_at_call 67; (with_reducible refine (HN.out _).mono ?_); rintro e w' ⟨rfl, rfl⟩))
        go_ret
        exact ⟨ret_bool (by rw [HR.out]; rfl), HB.out⟩
      · by_cases h2 : 999 < v
        · rw [show numB v = false by simp [numB]; omega] at HR
          have hv1 : decide (0 < v) = true := decide_eq_true (by omega)
          have hv2 : decide (v ≤ 999) = false := decide_eq_false (by omega)
          clear h0
          go_wp2_with (first | (go_at_call 67; (with_reducible refine (HN.out _).mono ?_); rintro e w' ⟨rfl, rfl⟩))
          go_ret
          exact ⟨ret_bool (by rw [HR.out]; rfl), HB.out⟩
        · rw [show numB v = true by simp [numB]; omega] at HR
          have hv1 : decide (0 < v) = true := decide_eq_true (by omega)
          have hv2 : decide (v ≤ 999) = true := decide_eq_true (by omega)
          have hv3 : 0 < v := by omega
          have hv4 : v ≤ 999 := by omega
          clear h0
          go_wp2_with (first | (go_at_call 67; (with_reducible refine (HN.out _).mono ?_); rintro e w' ⟨rfl, rfl⟩))
          go_ret
          exact ⟨ret_bool (by rw [HR.out]; rfl), HB.out⟩
set_option maxRecDepth 100000 in
set_option maxHeartbeats 3200000 in
theorem specIsCall_Tell (key : List UInt8) (v : Int) (text : List UInt8) (w : World) (hk : key.length ≤ maxLen) :
    Calls Tryz.prog 66 #[.agg #[.string ⟨#[84, 101, 108, 108]⟩, .string ⟨key.toArray⟩, .int .i64 v, .string ⟨text.toArray⟩]] w fun e w' => e = .returned (.bool (callB ⟨mTell, key, v, text⟩)) ∧ Below w.heap.size w w' := by
  have HR := Lib.hid (show callB ⟨mTell, key, v, text⟩ = (key.isEmpty && (v == 0) && (text.isEmpty || false)) from rfl)
  have HW := Lib.hid (show ∀ w0, Calls Tryz.prog 93 #[.string ⟨#[84, 101, 108, 108]⟩] w0 fun e w' => e = .returned (.int .i64 4) ∧ Below w0.heap.size w0 w' from fun w0 => specWant_b mTell 4 rfl w0)
  generalize callB ⟨mTell, key, v, text⟩ = res at *
  clear hk
  have HB0 := Lib.hid (show ∀ o, Below w.heap.size w (w.alloc o) from fun o => (Below.refl w.heap.size w).alloc (Nat.le_refl _) o)
  go_enter Tryz.func66, Tryz.ntmps66
  go_wp2_with fail
  refine (HW.out _).mono ?_
  rintro e w1 ⟨rfl, hb⟩
  have HB := Lib.hid ((HB0.out _).trans (hb.mono (HB0.out _).size))
  obtain ⟨hcc, _⟩ := bcell hb
  simp at hcc
  have c0 := hcc w.heap.size 0 (by omega)
  have c1 := hcc w.heap.size 1 (by omega)
  have c2 := hcc w.heap.size 2 (by omega)
  have c3 := hcc w.heap.size 3 (by omega)
  simp at c0 c1 c2 c3
  clear hb hcc
  cases key <;> cases text
  all_goals
    by_cases h0 : v = 0
    · subst h0
      go_wp2_with fail
      go_ret
      exact ⟨ret_bool (by rw [HR.out]; rfl), HB.out⟩
    · have hv0 : (v == 0) = false := by simpa using h0
      rw [hv0] at HR
      clear h0
      go_wp2_with fail
      go_ret
      exact ⟨ret_bool (by rw [HR.out]; rfl), HB.out⟩
set_option maxRecDepth 100000 in
set_option maxHeartbeats 3200000 in
theorem specIsCall_Hear (key : List UInt8) (v : Int) (text : List UInt8) (w : World) (hk : key.length ≤ maxLen) :
    Calls Tryz.prog 66 #[.agg #[.string ⟨#[72, 101, 97, 114]⟩, .string ⟨key.toArray⟩, .int .i64 v, .string ⟨text.toArray⟩]] w fun e w' => e = .returned (.bool (callB ⟨mHear, key, v, text⟩)) ∧ Below w.heap.size w w' := by
  have HR := Lib.hid (show callB ⟨mHear, key, v, text⟩ = (key.isEmpty && numB v && (text.isEmpty || false)) from rfl)
  have HW := Lib.hid (show ∀ w0, Calls Tryz.prog 93 #[.string ⟨#[72, 101, 97, 114]⟩] w0 fun e w' => e = .returned (.int .i64 8) ∧ Below w0.heap.size w0 w' from fun w0 => specWant_b mHear 8 rfl w0)
  generalize callB ⟨mHear, key, v, text⟩ = res at *
  clear hk
  have HB0 := Lib.hid (show ∀ o, Below w.heap.size w (w.alloc o) from fun o => (Below.refl w.heap.size w).alloc (Nat.le_refl _) o)
  go_enter Tryz.func66, Tryz.ntmps66
  go_wp2_with fail
  refine (HW.out _).mono ?_
  rintro e w1 ⟨rfl, hb⟩
  have HB := Lib.hid ((HB0.out _).trans (hb.mono (HB0.out _).size))
  obtain ⟨hcc, _⟩ := bcell hb
  simp at hcc
  have c0 := hcc w.heap.size 0 (by omega)
  have c1 := hcc w.heap.size 1 (by omega)
  have c2 := hcc w.heap.size 2 (by omega)
  have c3 := hcc w.heap.size 3 (by omega)
  simp at c0 c1 c2 c3
  clear hb hcc
  cases key <;> cases text
  all_goals
    by_cases h0 : v = 0
    · subst h0
      rw [show numB 0 = true from rfl] at HR
      go_wp2_with fail
      go_ret
      exact ⟨ret_bool (by rw [HR.out]; rfl), HB.out⟩
    · have hv0 : (v == 0) = false := by simpa using h0
      by_cases h1 : v < 0
      · rw [show numB v = false by simp [numB]; omega] at HR
        have hv1 : decide (0 < v) = false := decide_eq_false (by omega)
        clear h0
        go_wp2_with fail
        go_ret
        exact ⟨ret_bool (by rw [HR.out]; rfl), HB.out⟩
      · by_cases h2 : 999 < v
        · rw [show numB v = false by simp [numB]; omega] at HR
          have hv1 : decide (0 < v) = true := decide_eq_true (by omega)
          have hv2 : decide (v ≤ 999) = false := decide_eq_false (by omega)
          clear h0
          go_wp2_with fail
          go_ret
          exact ⟨ret_bool (by rw [HR.out]; rfl), HB.out⟩
        · rw [show numB v = true by simp [numB]; omega] at HR
          have hv1 : decide (0 < v) = true := decide_eq_true (by omega)
          have hv2 : decide (v ≤ 999) = true := decide_eq_true (by omega)
          have hv3 : 0 < v := by omega
          have hv4 : v ≤ 999 := by omega
          clear h0
          go_wp2_with fail
          go_ret
          exact ⟨ret_bool (by rw [HR.out]; rfl), HB.out⟩
end Go.Proofs.YtlkpinlkbikokabGreat
/- The model's IsCall, method by method: the last three; whatever the method is. Written by gen/ch3calls.py. -/
namespace Go.Proofs.YtlkpinlkbikokabGreat
set_option linter.unusedVariables false
open Go.RowKit
set_option maxRecDepth 100000 in
set_option maxHeartbeats 3200000 in
theorem specIsCall_Load (key : List UInt8) (v : Int) (text : List UInt8) (w : World) (hk : key.length ≤ maxLen) :
    Calls Tryz.prog 66 #[.agg #[.string ⟨#[76, 111, 97, 100]⟩, .string ⟨key.toArray⟩, .int .i64 v, .string ⟨text.toArray⟩]] w fun e w' => e = .returned (.bool (callB ⟨mLoad, key, v, text⟩)) ∧ Below w.heap.size w w' := by
  have HR := Lib.hid (show callB ⟨mLoad, key, v, text⟩ = (key.isEmpty && (v == 0) && (text.isEmpty || true)) from rfl)
  have HW := Lib.hid (show ∀ w0, Calls Tryz.prog 93 #[.string ⟨#[76, 111, 97, 100]⟩] w0 fun e w' => e = .returned (.int .i64 16) ∧ Below w0.heap.size w0 w' from fun w0 => specWant_b mLoad 16 rfl w0)
  generalize callB ⟨mLoad, key, v, text⟩ = res at *
  clear hk
  have HB0 := Lib.hid (show ∀ o, Below w.heap.size w (w.alloc o) from fun o => (Below.refl w.heap.size w).alloc (Nat.le_refl _) o)
  go_enter Tryz.func66, Tryz.ntmps66
  go_wp2_with fail
  refine (HW.out _).mono ?_
  rintro e w1 ⟨rfl, hb⟩
  have HB := Lib.hid ((HB0.out _).trans (hb.mono (HB0.out _).size))
  obtain ⟨hcc, _⟩ := bcell hb
  simp at hcc
  have c0 := hcc w.heap.size 0 (by omega)
  have c1 := hcc w.heap.size 1 (by omega)
  have c2 := hcc w.heap.size 2 (by omega)
  have c3 := hcc w.heap.size 3 (by omega)
  simp at c0 c1 c2 c3
  clear hb hcc
  cases key <;> cases text
  all_goals
    by_cases h0 : v = 0
    · subst h0
      go_wp2_with fail
      go_ret
      exact ⟨ret_bool (by rw [HR.out]; rfl), HB.out⟩
    · have hv0 : (v == 0) = false := by simpa using h0
      rw [hv0] at HR
      clear h0
      go_wp2_with fail
      go_ret
      exact ⟨ret_bool (by rw [HR.out]; rfl), HB.out⟩
set_option maxRecDepth 100000 in
set_option maxHeartbeats 3200000 in
theorem specIsCall_Save (key : List UInt8) (v : Int) (text : List UInt8) (w : World) (hk : key.length ≤ maxLen) :
    Calls Tryz.prog 66 #[.agg #[.string ⟨#[83, 97, 118, 101]⟩, .string ⟨key.toArray⟩, .int .i64 v, .string ⟨text.toArray⟩]] w fun e w' => e = .returned (.bool (callB ⟨mSave, key, v, text⟩)) ∧ Below w.heap.size w w' := by
  have HR := Lib.hid (show callB ⟨mSave, key, v, text⟩ = (key.isEmpty && (v == 0) && (text.isEmpty || false)) from rfl)
  have HW := Lib.hid (show ∀ w0, Calls Tryz.prog 93 #[.string ⟨#[83, 97, 118, 101]⟩] w0 fun e w' => e = .returned (.int .i64 16) ∧ Below w0.heap.size w0 w' from fun w0 => specWant_b mSave 16 rfl w0)
  generalize callB ⟨mSave, key, v, text⟩ = res at *
  clear hk
  have HB0 := Lib.hid (show ∀ o, Below w.heap.size w (w.alloc o) from fun o => (Below.refl w.heap.size w).alloc (Nat.le_refl _) o)
  go_enter Tryz.func66, Tryz.ntmps66
  go_wp2_with fail
  refine (HW.out _).mono ?_
  rintro e w1 ⟨rfl, hb⟩
  have HB := Lib.hid ((HB0.out _).trans (hb.mono (HB0.out _).size))
  obtain ⟨hcc, _⟩ := bcell hb
  simp at hcc
  have c0 := hcc w.heap.size 0 (by omega)
  have c1 := hcc w.heap.size 1 (by omega)
  have c2 := hcc w.heap.size 2 (by omega)
  have c3 := hcc w.heap.size 3 (by omega)
  simp at c0 c1 c2 c3
  clear hb hcc
  cases key <;> cases text
  all_goals
    by_cases h0 : v = 0
    · subst h0
      go_wp2_with fail
      go_ret
      exact ⟨ret_bool (by rw [HR.out]; rfl), HB.out⟩
    · have hv0 : (v == 0) = false := by simpa using h0
      rw [hv0] at HR
      clear h0
      go_wp2_with fail
      go_ret
      exact ⟨ret_bool (by rw [HR.out]; rfl), HB.out⟩
set_option maxRecDepth 100000 in
set_option maxHeartbeats 3200000 in
theorem specIsCall_Heal (key : List UInt8) (v : Int) (text : List UInt8) (w : World) (hk : key.length ≤ maxLen) :
    Calls Tryz.prog 66 #[.agg #[.string ⟨#[72, 101, 97, 108]⟩, .string ⟨key.toArray⟩, .int .i64 v, .string ⟨text.toArray⟩]] w fun e w' => e = .returned (.bool (callB ⟨mHeal, key, v, text⟩)) ∧ Below w.heap.size w w' := by
  have HR := Lib.hid (show callB ⟨mHeal, key, v, text⟩ = (key.isEmpty && (v == 0) && (text.isEmpty || false)) from rfl)
  have HW := Lib.hid (show ∀ w0, Calls Tryz.prog 93 #[.string ⟨#[72, 101, 97, 108]⟩] w0 fun e w' => e = .returned (.int .i64 32) ∧ Below w0.heap.size w0 w' from fun w0 => specWant_b mHeal 32 rfl w0)
  generalize callB ⟨mHeal, key, v, text⟩ = res at *
  clear hk
  have HB0 := Lib.hid (show ∀ o, Below w.heap.size w (w.alloc o) from fun o => (Below.refl w.heap.size w).alloc (Nat.le_refl _) o)
  go_enter Tryz.func66, Tryz.ntmps66
  go_wp2_with fail
  refine (HW.out _).mono ?_
  rintro e w1 ⟨rfl, hb⟩
  have HB := Lib.hid ((HB0.out _).trans (hb.mono (HB0.out _).size))
  obtain ⟨hcc, _⟩ := bcell hb
  simp at hcc
  have c0 := hcc w.heap.size 0 (by omega)
  have c1 := hcc w.heap.size 1 (by omega)
  have c2 := hcc w.heap.size 2 (by omega)
  have c3 := hcc w.heap.size 3 (by omega)
  simp at c0 c1 c2 c3
  clear hb hcc
  cases key <;> cases text
  all_goals
    by_cases h0 : v = 0
    · subst h0
      go_wp2_with fail
      go_ret
      exact ⟨ret_bool (by rw [HR.out]; rfl), HB.out⟩
    · have hv0 : (v == 0) = false := by simpa using h0
      rw [hv0] at HR
      clear h0
      go_wp2_with fail
      go_ret
      exact ⟨ret_bool (by rw [HR.out]; rfl), HB.out⟩
set_option maxRecDepth 100000 in
set_option maxHeartbeats 1600000 in
theorem specIsCall_any (d : CallD) (w : World) (hk : d.fKey.length ≤ maxLen) :
    Calls Tryz.prog 66 #[vCall d] w fun e w' => e = .returned (.bool (callB d)) ∧ Below w.heap.size w w' := by
  obtain ⟨m, key, v, text⟩ := d
  unfold vCall
  simp only at *
  rcases meth_cases m with rfl | rfl | rfl | rfl | rfl | rfl | rfl | rfl | rfl | ⟨hw, hStart, hStop, hGet, hPut, hTell, hHear, hLoad, hSave, hHeal⟩
  · exact specIsCall_Start key v text w hk
  · exact specIsCall_Stop key v text w hk
  · exact specIsCall_Get key v text w hk
  · exact specIsCall_Put key v text w hk
  · exact specIsCall_Tell key v text w hk
  · exact specIsCall_Hear key v text w hk
  · exact specIsCall_Load key v text w hk
  · exact specIsCall_Save key v text w hk
  · exact specIsCall_Heal key v text w hk
  · have HR := Lib.hid (show callB ⟨m, key, v, text⟩ = false by unfold callB; simp only; rw [hw]; rfl)
    have bGet : (m == [71, 101, 116]) = false := by simpa using hGet
    have bPut : (m == [80, 117, 116]) = false := by simpa using hPut
    have bHear : (m == [72, 101, 97, 114]) = false := by simpa using hHear
    have bLoad : (m == [76, 111, 97, 100]) = false := by simpa using hLoad
    have HW := Lib.hid (specWant_b m 0 hw)
    have HB0 := Lib.hid (show ∀ o, Below w.heap.size w (w.alloc o) from fun o => (Below.refl w.heap.size w).alloc (Nat.le_refl _) o)
    generalize callB ⟨m, key, v, text⟩ = res at *
    clear hw hk hStart hStop hGet hPut hTell hHear hLoad hSave hHeal
    go_enter Tryz.func66, Tryz.ntmps66
    go_wp2_with fail
    refine (HW.out _).mono ?_
    rintro e w1 ⟨rfl, hb⟩
    have HB := Lib.hid ((HB0.out _).trans (hb.mono (HB0.out _).size))
    clear hb
    go_wp2_with fail
    go_ret
    exact ⟨ret_bool HR.out.symm, HB.out⟩
end Go.Proofs.YtlkpinlkbikokabGreat
/- Contracts of chapter 7: IsEvent, the model's. Written by gen/ch7v.py. -/
namespace Go.Proofs.YtlkpinlkbikokabGreat
set_option linter.unusedVariables false
set_option linter.unusedSimpArgs false
open Go.RowKit
set_option maxRecDepth 100000 in
set_option maxHeartbeats 3200000 in
theorem specIsEvent_any (v : Value) (x : EventD) (w : World) (hx : ValAt rEvent 0 w v x) (hn : x.fName.length ≤ maxLen) (hk : x.fCall.fKey.length ≤ maxLen) (hr : ∀ s ∈ x.fRecipe, s.length ≤ 1048576) :
    Calls Tryz.prog 29 #[v] w fun e w' => e = .returned (.bool (evB x)) ∧ Below w.heap.size w w' := by
  have HRF := Lib.hid (fun v W (h : RowAt W v (x.fRecipe.map strV)) => specRecipeFace_any v x.fRecipe W h hr)
  have HNM := Lib.hid (fun W => specIsName_any ⟨x.fName.toArray⟩ W (by simpa [ByteArray.size] using hn))
  have HIC := Lib.hid (fun W => specIsCall_any x.fCall W hk)
  have HO := Lib.hid (@evB_out x)
  have HI := Lib.hid (@evB_in x)
  generalize evB x = ev at *
  generalize callB x.fCall = cb at *
  generalize recB x.fRecipe = rb at *
  generalize recI x.fRecipe = ri at *
  obtain ⟨_, rfl, hx⟩ := hx
  obtain ⟨k, a, ⟨m, ky, n, t⟩, l⟩ := x
  obtain ⟨v6, rfl, h6⟩ := hx
  simp only [List.toList_toArray, vCall] at *
  obtain ⟨ra, rc, rfl, hl⟩ := sliceAt_len h6
  have H6 := Lib.hid h6
  unfold maxLen at hl
  have BS := Lib.hid (bx_start1 w [.int .i64 k, .string ⟨a.toArray⟩, .string ⟨m.toArray⟩, .string ⟨ky.toArray⟩, .int .i64 n, .string ⟨t.toArray⟩, .slice ra l.length rc] 65)
  generalize nameB a = nb at *
  have BX0 := Lib.hid BS.out.1
  have HB0 := Lib.hid BS.out.2
  clear h6 hn hk hr BS
  by_cases h1 : k < 1
  · obtain rfl : ev = false := HO.out (fun h => by omega)
    clear HO HI
    go_enter Tryz.func29, Tryz.ntmps29
    have x0 := BX0.out.cell 0 (by simp)
    have x1 := BX0.out.cell 1 (by simp)
    have x2 := BX0.out.cell 2 (by simp)
    have x3 := BX0.out.cell 3 (by simp)
    have x4 := BX0.out.cell 4 (by simp)
    have x5 := BX0.out.cell 5 (by simp)
    have x6 := BX0.out.cell 6 (by simp)
    simp only [List.getElem_cons_zero, List.getElem_cons_succ] at x0 x1 x2 x3 x4 x5 x6
    go_wp2_with fail
    refine (HRF.out _ _ (row_of_slice (SliceAt.below H6.out good_str HB0.out (Nat.le_refl _)))).mono ?_
    rintro e w1 ⟨rfl, hb⟩
    have HB1 := Lib.hid (belS HB0.out hb)
    have BX1 := Lib.hid (BX0.out.below hb)
    clear hb x0 x1 x2 x3 x4 x5 x6
    have x0 := BX1.out.cell 0 (by simp)
    have x1 := BX1.out.cell 1 (by simp)
    have x2 := BX1.out.cell 2 (by simp)
    have x3 := BX1.out.cell 3 (by simp)
    have x4 := BX1.out.cell 4 (by simp)
    have x5 := BX1.out.cell 5 (by simp)
    have x6 := BX1.out.cell 6 (by simp)
    simp only [List.getElem_cons_zero, List.getElem_cons_succ] at x0 x1 x2 x3 x4 x5 x6
    go_wp2_with fail
    refine (HIC.out _).mono ?_
    rintro e w2 ⟨rfl, hb⟩
    have HB2 := Lib.hid (belS HB1.out hb)
    have BX2 := Lib.hid (BX1.out.below hb)
    clear hb x0 x1 x2 x3 x4 x5 x6
    have x0 := BX2.out.cell 0 (by simp)
    have x1 := BX2.out.cell 1 (by simp)
    have x2 := BX2.out.cell 2 (by simp)
    have x3 := BX2.out.cell 3 (by simp)
    have x4 := BX2.out.cell 4 (by simp)
    have x5 := BX2.out.cell 5 (by simp)
    have x6 := BX2.out.cell 6 (by simp)
    simp only [List.getElem_cons_zero, List.getElem_cons_succ] at x0 x1 x2 x3 x4 x5 x6
    go_wp2_with (first | (go_at_call 67; (with_reducible refine (HNM.out _).mono ?_); rintro e w' ⟨rfl, rfl⟩))
    go_ret
    exact ⟨by first | rfl | exact ret_bool hbq, HB2.out⟩
  by_cases h5 : 5 < k
  · obtain rfl : ev = false := HO.out (fun h => by omega)
    clear HO HI
    go_enter Tryz.func29, Tryz.ntmps29
    have x0 := BX0.out.cell 0 (by simp)
    have x1 := BX0.out.cell 1 (by simp)
    have x2 := BX0.out.cell 2 (by simp)
    have x3 := BX0.out.cell 3 (by simp)
    have x4 := BX0.out.cell 4 (by simp)
    have x5 := BX0.out.cell 5 (by simp)
    have x6 := BX0.out.cell 6 (by simp)
    simp only [List.getElem_cons_zero, List.getElem_cons_succ] at x0 x1 x2 x3 x4 x5 x6
    go_wp2_with fail
    refine (HRF.out _ _ (row_of_slice (SliceAt.below H6.out good_str HB0.out (Nat.le_refl _)))).mono ?_
    rintro e w1 ⟨rfl, hb⟩
    have HB1 := Lib.hid (belS HB0.out hb)
    have BX1 := Lib.hid (BX0.out.below hb)
    clear hb x0 x1 x2 x3 x4 x5 x6
    have x0 := BX1.out.cell 0 (by simp)
    have x1 := BX1.out.cell 1 (by simp)
    have x2 := BX1.out.cell 2 (by simp)
    have x3 := BX1.out.cell 3 (by simp)
    have x4 := BX1.out.cell 4 (by simp)
    have x5 := BX1.out.cell 5 (by simp)
    have x6 := BX1.out.cell 6 (by simp)
    simp only [List.getElem_cons_zero, List.getElem_cons_succ] at x0 x1 x2 x3 x4 x5 x6
    go_wp2_with fail
    refine (HIC.out _).mono ?_
    rintro e w2 ⟨rfl, hb⟩
    have HB2 := Lib.hid (belS HB1.out hb)
    have BX2 := Lib.hid (BX1.out.below hb)
    clear hb x0 x1 x2 x3 x4 x5 x6
    have x0 := BX2.out.cell 0 (by simp)
    have x1 := BX2.out.cell 1 (by simp)
    have x2 := BX2.out.cell 2 (by simp)
    have x3 := BX2.out.cell 3 (by simp)
    have x4 := BX2.out.cell 4 (by simp)
    have x5 := BX2.out.cell 5 (by simp)
    have x6 := BX2.out.cell 6 (by simp)
    simp only [List.getElem_cons_zero, List.getElem_cons_succ] at x0 x1 x2 x3 x4 x5 x6
    go_wp2_with (first | (go_at_call 67; (with_reducible refine (HNM.out _).mono ?_); rintro e w' ⟨rfl, rfl⟩))
    go_ret
    exact ⟨by first | rfl | exact ret_bool hbq, HB2.out⟩
  cases nb
  · obtain rfl : ev = false := HO.out (fun h => by simp at h)
    clear HO HI
    go_enter Tryz.func29, Tryz.ntmps29
    have x0 := BX0.out.cell 0 (by simp)
    have x1 := BX0.out.cell 1 (by simp)
    have x2 := BX0.out.cell 2 (by simp)
    have x3 := BX0.out.cell 3 (by simp)
    have x4 := BX0.out.cell 4 (by simp)
    have x5 := BX0.out.cell 5 (by simp)
    have x6 := BX0.out.cell 6 (by simp)
    simp only [List.getElem_cons_zero, List.getElem_cons_succ] at x0 x1 x2 x3 x4 x5 x6
    go_wp2_with fail
    refine (HRF.out _ _ (row_of_slice (SliceAt.below H6.out good_str HB0.out (Nat.le_refl _)))).mono ?_
    rintro e w1 ⟨rfl, hb⟩
    have HB1 := Lib.hid (belS HB0.out hb)
    have BX1 := Lib.hid (BX0.out.below hb)
    clear hb x0 x1 x2 x3 x4 x5 x6
    have x0 := BX1.out.cell 0 (by simp)
    have x1 := BX1.out.cell 1 (by simp)
    have x2 := BX1.out.cell 2 (by simp)
    have x3 := BX1.out.cell 3 (by simp)
    have x4 := BX1.out.cell 4 (by simp)
    have x5 := BX1.out.cell 5 (by simp)
    have x6 := BX1.out.cell 6 (by simp)
    simp only [List.getElem_cons_zero, List.getElem_cons_succ] at x0 x1 x2 x3 x4 x5 x6
    go_wp2_with fail
    refine (HIC.out _).mono ?_
    rintro e w2 ⟨rfl, hb⟩
    have HB2 := Lib.hid (belS HB1.out hb)
    have BX2 := Lib.hid (BX1.out.below hb)
    clear hb x0 x1 x2 x3 x4 x5 x6
    have x0 := BX2.out.cell 0 (by simp)
    have x1 := BX2.out.cell 1 (by simp)
    have x2 := BX2.out.cell 2 (by simp)
    have x3 := BX2.out.cell 3 (by simp)
    have x4 := BX2.out.cell 4 (by simp)
    have x5 := BX2.out.cell 5 (by simp)
    have x6 := BX2.out.cell 6 (by simp)
    simp only [List.getElem_cons_zero, List.getElem_cons_succ] at x0 x1 x2 x3 x4 x5 x6
    go_wp2_with (first | (go_at_call 67; (with_reducible refine (HNM.out _).mono ?_); rintro e w' ⟨rfl, rfl⟩))
    go_ret
    exact ⟨by first | rfl | exact ret_bool hbq, HB2.out⟩
  replace HI := Lib.hid (HI.out ⟨by omega, by omega, rfl⟩)
  clear HO
  by_cases h3 : k = 3
  · subst h3
    replace HI := Lib.hid (show ev = (cb && decide (l.length = 0)) by rw [HI.out, if_pos rfl, if_neg (by decide)])
    clear h1 h5
    cases cb
    · obtain rfl : ev = false := by rw [HI.out]; rfl
      clear HI
      go_enter Tryz.func29, Tryz.ntmps29
      have x0 := BX0.out.cell 0 (by simp)
      have x1 := BX0.out.cell 1 (by simp)
      have x2 := BX0.out.cell 2 (by simp)
      have x3 := BX0.out.cell 3 (by simp)
      have x4 := BX0.out.cell 4 (by simp)
      have x5 := BX0.out.cell 5 (by simp)
      have x6 := BX0.out.cell 6 (by simp)
      simp only [List.getElem_cons_zero, List.getElem_cons_succ] at x0 x1 x2 x3 x4 x5 x6
      go_wp2_with fail
      refine (HRF.out _ _ (row_of_slice (SliceAt.below H6.out good_str HB0.out (Nat.le_refl _)))).mono ?_
      rintro e w1 ⟨rfl, hb⟩
      have HB1 := Lib.hid (belS HB0.out hb)
      have BX1 := Lib.hid (BX0.out.below hb)
      clear hb x0 x1 x2 x3 x4 x5 x6
      have x0 := BX1.out.cell 0 (by simp)
      have x1 := BX1.out.cell 1 (by simp)
      have x2 := BX1.out.cell 2 (by simp)
      have x3 := BX1.out.cell 3 (by simp)
      have x4 := BX1.out.cell 4 (by simp)
      have x5 := BX1.out.cell 5 (by simp)
      have x6 := BX1.out.cell 6 (by simp)
      simp only [List.getElem_cons_zero, List.getElem_cons_succ] at x0 x1 x2 x3 x4 x5 x6
      go_wp2_with fail
      refine (HIC.out _).mono ?_
      rintro e w2 ⟨rfl, hb⟩
      have HB2 := Lib.hid (belS HB1.out hb)
      have BX2 := Lib.hid (BX1.out.below hb)
      clear hb x0 x1 x2 x3 x4 x5 x6
      have x0 := BX2.out.cell 0 (by simp)
      have x1 := BX2.out.cell 1 (by simp)
      have x2 := BX2.out.cell 2 (by simp)
      have x3 := BX2.out.cell 3 (by simp)
      have x4 := BX2.out.cell 4 (by simp)
      have x5 := BX2.out.cell 5 (by simp)
      have x6 := BX2.out.cell 6 (by simp)
      simp only [List.getElem_cons_zero, List.getElem_cons_succ] at x0 x1 x2 x3 x4 x5 x6
      go_wp2_with (first | (go_at_call 67; (with_reducible refine (HNM.out _).mono ?_); rintro e w' ⟨rfl, rfl⟩))
      go_ret
      exact ⟨by first | rfl | exact ret_bool hbq, HB2.out⟩
    · by_cases h0 : l.length = 0
      · obtain rfl : l = [] := List.eq_nil_of_length_eq_zero h0
        simp only [List.length_nil] at *
        clear h0
        obtain rfl : ev = true := by rw [HI.out]; rfl
        clear HI
        go_enter Tryz.func29, Tryz.ntmps29
        have x0 := BX0.out.cell 0 (by simp)
        have x1 := BX0.out.cell 1 (by simp)
        have x2 := BX0.out.cell 2 (by simp)
        have x3 := BX0.out.cell 3 (by simp)
        have x4 := BX0.out.cell 4 (by simp)
        have x5 := BX0.out.cell 5 (by simp)
        have x6 := BX0.out.cell 6 (by simp)
        simp only [List.getElem_cons_zero, List.getElem_cons_succ] at x0 x1 x2 x3 x4 x5 x6
        go_wp2_with fail
        refine (HRF.out _ _ (row_of_slice (SliceAt.below H6.out good_str HB0.out (Nat.le_refl _)))).mono ?_
        rintro e w1 ⟨rfl, hb⟩
        have HB1 := Lib.hid (belS HB0.out hb)
        have BX1 := Lib.hid (BX0.out.below hb)
        clear hb x0 x1 x2 x3 x4 x5 x6
        have x0 := BX1.out.cell 0 (by simp)
        have x1 := BX1.out.cell 1 (by simp)
        have x2 := BX1.out.cell 2 (by simp)
        have x3 := BX1.out.cell 3 (by simp)
        have x4 := BX1.out.cell 4 (by simp)
        have x5 := BX1.out.cell 5 (by simp)
        have x6 := BX1.out.cell 6 (by simp)
        simp only [List.getElem_cons_zero, List.getElem_cons_succ] at x0 x1 x2 x3 x4 x5 x6
        go_wp2_with fail
        refine (HIC.out _).mono ?_
        rintro e w2 ⟨rfl, hb⟩
        have HB2 := Lib.hid (belS HB1.out hb)
        have BX2 := Lib.hid (BX1.out.below hb)
        clear hb x0 x1 x2 x3 x4 x5 x6
        have x0 := BX2.out.cell 0 (by simp)
        have x1 := BX2.out.cell 1 (by simp)
        have x2 := BX2.out.cell 2 (by simp)
        have x3 := BX2.out.cell 3 (by simp)
        have x4 := BX2.out.cell 4 (by simp)
        have x5 := BX2.out.cell 5 (by simp)
        have x6 := BX2.out.cell 6 (by simp)
        simp only [List.getElem_cons_zero, List.getElem_cons_succ] at x0 x1 x2 x3 x4 x5 x6
        go_wp2_with (first | (go_at_call 67; (with_reducible refine (HNM.out _).mono ?_); rintro e w' ⟨rfl, rfl⟩))
        go_ret
        exact ⟨by first | rfl | exact ret_bool hbq, HB2.out⟩
      · have hne : ¬ (l.length : Int) = 0 := by omega
        have hnd : decide (l.length = 0) = false := decide_eq_false h0
        have hbq : ((l.length : Int) == 0) = false := beq_eq_false_iff_ne.2 hne
        obtain rfl : ev = false := by rw [HI.out, hnd, Bool.and_false]
        clear HI
        clear hnd h0
        go_enter Tryz.func29, Tryz.ntmps29
        have x0 := BX0.out.cell 0 (by simp)
        have x1 := BX0.out.cell 1 (by simp)
        have x2 := BX0.out.cell 2 (by simp)
        have x3 := BX0.out.cell 3 (by simp)
        have x4 := BX0.out.cell 4 (by simp)
        have x5 := BX0.out.cell 5 (by simp)
        have x6 := BX0.out.cell 6 (by simp)
        simp only [List.getElem_cons_zero, List.getElem_cons_succ] at x0 x1 x2 x3 x4 x5 x6
        go_wp2_with fail
        refine (HRF.out _ _ (row_of_slice (SliceAt.below H6.out good_str HB0.out (Nat.le_refl _)))).mono ?_
        rintro e w1 ⟨rfl, hb⟩
        have HB1 := Lib.hid (belS HB0.out hb)
        have BX1 := Lib.hid (BX0.out.below hb)
        clear hb x0 x1 x2 x3 x4 x5 x6
        have x0 := BX1.out.cell 0 (by simp)
        have x1 := BX1.out.cell 1 (by simp)
        have x2 := BX1.out.cell 2 (by simp)
        have x3 := BX1.out.cell 3 (by simp)
        have x4 := BX1.out.cell 4 (by simp)
        have x5 := BX1.out.cell 5 (by simp)
        have x6 := BX1.out.cell 6 (by simp)
        simp only [List.getElem_cons_zero, List.getElem_cons_succ] at x0 x1 x2 x3 x4 x5 x6
        go_wp2_with fail
        refine (HIC.out _).mono ?_
        rintro e w2 ⟨rfl, hb⟩
        have HB2 := Lib.hid (belS HB1.out hb)
        have BX2 := Lib.hid (BX1.out.below hb)
        clear hb x0 x1 x2 x3 x4 x5 x6
        have x0 := BX2.out.cell 0 (by simp)
        have x1 := BX2.out.cell 1 (by simp)
        have x2 := BX2.out.cell 2 (by simp)
        have x3 := BX2.out.cell 3 (by simp)
        have x4 := BX2.out.cell 4 (by simp)
        have x5 := BX2.out.cell 5 (by simp)
        have x6 := BX2.out.cell 6 (by simp)
        simp only [List.getElem_cons_zero, List.getElem_cons_succ] at x0 x1 x2 x3 x4 x5 x6
        go_wp2_with (first | (go_at_call 67; (with_reducible refine (HNM.out _).mono ?_); rintro e w' ⟨rfl, rfl⟩))
        go_ret
        exact ⟨by first | rfl | exact ret_bool hbq, HB2.out⟩
  replace HI := Lib.hid (show ev = (decide ((⟨m, ky, n, t⟩ : CallD) = zCallD) && (if k = 5 then rb else decide (l.length = 0))) by rw [HI.out, if_neg h3])
  by_cases h55 : k = 5
  · subst h55
    clear h3 h1 h5
    replace HI := Lib.hid (show ev = (decide ((⟨m, ky, n, t⟩ : CallD) = zCallD) && rb) by rw [HI.out, if_pos rfl])
    cases m with
    | cons c r =>
      obtain rfl : ev = false := by rw [HI.out]; simp [zCallD, *]
      clear HI
      go_enter Tryz.func29, Tryz.ntmps29
      have x0 := BX0.out.cell 0 (by simp)
      have x1 := BX0.out.cell 1 (by simp)
      have x2 := BX0.out.cell 2 (by simp)
      have x3 := BX0.out.cell 3 (by simp)
      have x4 := BX0.out.cell 4 (by simp)
      have x5 := BX0.out.cell 5 (by simp)
      have x6 := BX0.out.cell 6 (by simp)
      simp only [List.getElem_cons_zero, List.getElem_cons_succ] at x0 x1 x2 x3 x4 x5 x6
      go_wp2_with fail
      refine (HRF.out _ _ (row_of_slice (SliceAt.below H6.out good_str HB0.out (Nat.le_refl _)))).mono ?_
      rintro e w1 ⟨rfl, hb⟩
      have HB1 := Lib.hid (belS HB0.out hb)
      have BX1 := Lib.hid (BX0.out.below hb)
      clear hb x0 x1 x2 x3 x4 x5 x6
      have x0 := BX1.out.cell 0 (by simp)
      have x1 := BX1.out.cell 1 (by simp)
      have x2 := BX1.out.cell 2 (by simp)
      have x3 := BX1.out.cell 3 (by simp)
      have x4 := BX1.out.cell 4 (by simp)
      have x5 := BX1.out.cell 5 (by simp)
      have x6 := BX1.out.cell 6 (by simp)
      simp only [List.getElem_cons_zero, List.getElem_cons_succ] at x0 x1 x2 x3 x4 x5 x6
      go_wp2_with fail
      refine (HIC.out _).mono ?_
      rintro e w2 ⟨rfl, hb⟩
      have HB2 := Lib.hid (belS HB1.out hb)
      have BX2 := Lib.hid (BX1.out.below hb)
      clear hb x0 x1 x2 x3 x4 x5 x6
      have x0 := BX2.out.cell 0 (by simp)
      have x1 := BX2.out.cell 1 (by simp)
      have x2 := BX2.out.cell 2 (by simp)
      have x3 := BX2.out.cell 3 (by simp)
      have x4 := BX2.out.cell 4 (by simp)
      have x5 := BX2.out.cell 5 (by simp)
      have x6 := BX2.out.cell 6 (by simp)
      simp only [List.getElem_cons_zero, List.getElem_cons_succ] at x0 x1 x2 x3 x4 x5 x6
      go_wp2_with (first | (go_at_call 67; (with_reducible refine (HNM.out _).mono ?_); rintro e w' ⟨rfl, rfl⟩))
      go_ret
      exact ⟨by first | rfl | exact ret_bool hbq, HB2.out⟩
    | nil =>
      cases ky with
      | cons c r =>
        obtain rfl : ev = false := by rw [HI.out]; simp [zCallD, *]
        clear HI
        go_enter Tryz.func29, Tryz.ntmps29
        have x0 := BX0.out.cell 0 (by simp)
        have x1 := BX0.out.cell 1 (by simp)
        have x2 := BX0.out.cell 2 (by simp)
        have x3 := BX0.out.cell 3 (by simp)
        have x4 := BX0.out.cell 4 (by simp)
        have x5 := BX0.out.cell 5 (by simp)
        have x6 := BX0.out.cell 6 (by simp)
        simp only [List.getElem_cons_zero, List.getElem_cons_succ] at x0 x1 x2 x3 x4 x5 x6
        go_wp2_with fail
        refine (HRF.out _ _ (row_of_slice (SliceAt.below H6.out good_str HB0.out (Nat.le_refl _)))).mono ?_
        rintro e w1 ⟨rfl, hb⟩
        have HB1 := Lib.hid (belS HB0.out hb)
        have BX1 := Lib.hid (BX0.out.below hb)
        clear hb x0 x1 x2 x3 x4 x5 x6
        have x0 := BX1.out.cell 0 (by simp)
        have x1 := BX1.out.cell 1 (by simp)
        have x2 := BX1.out.cell 2 (by simp)
        have x3 := BX1.out.cell 3 (by simp)
        have x4 := BX1.out.cell 4 (by simp)
        have x5 := BX1.out.cell 5 (by simp)
        have x6 := BX1.out.cell 6 (by simp)
        simp only [List.getElem_cons_zero, List.getElem_cons_succ] at x0 x1 x2 x3 x4 x5 x6
        go_wp2_with fail
        refine (HIC.out _).mono ?_
        rintro e w2 ⟨rfl, hb⟩
        have HB2 := Lib.hid (belS HB1.out hb)
        have BX2 := Lib.hid (BX1.out.below hb)
        clear hb x0 x1 x2 x3 x4 x5 x6
        have x0 := BX2.out.cell 0 (by simp)
        have x1 := BX2.out.cell 1 (by simp)
        have x2 := BX2.out.cell 2 (by simp)
        have x3 := BX2.out.cell 3 (by simp)
        have x4 := BX2.out.cell 4 (by simp)
        have x5 := BX2.out.cell 5 (by simp)
        have x6 := BX2.out.cell 6 (by simp)
        simp only [List.getElem_cons_zero, List.getElem_cons_succ] at x0 x1 x2 x3 x4 x5 x6
        go_wp2_with (first | (go_at_call 67; (with_reducible refine (HNM.out _).mono ?_); rintro e w' ⟨rfl, rfl⟩))
        go_ret
        exact ⟨by first | rfl | exact ret_bool hbq, HB2.out⟩
      | nil =>
        by_cases hn0 : n = 0
        · subst hn0
          cases t with
          | cons c r =>
            obtain rfl : ev = false := by rw [HI.out]; simp [zCallD, *]
            clear HI
            go_enter Tryz.func29, Tryz.ntmps29
            have x0 := BX0.out.cell 0 (by simp)
            have x1 := BX0.out.cell 1 (by simp)
            have x2 := BX0.out.cell 2 (by simp)
            have x3 := BX0.out.cell 3 (by simp)
            have x4 := BX0.out.cell 4 (by simp)
            have x5 := BX0.out.cell 5 (by simp)
            have x6 := BX0.out.cell 6 (by simp)
            simp only [List.getElem_cons_zero, List.getElem_cons_succ] at x0 x1 x2 x3 x4 x5 x6
            go_wp2_with fail
            refine (HRF.out _ _ (row_of_slice (SliceAt.below H6.out good_str HB0.out (Nat.le_refl _)))).mono ?_
            rintro e w1 ⟨rfl, hb⟩
            have HB1 := Lib.hid (belS HB0.out hb)
            have BX1 := Lib.hid (BX0.out.below hb)
            clear hb x0 x1 x2 x3 x4 x5 x6
            have x0 := BX1.out.cell 0 (by simp)
            have x1 := BX1.out.cell 1 (by simp)
            have x2 := BX1.out.cell 2 (by simp)
            have x3 := BX1.out.cell 3 (by simp)
            have x4 := BX1.out.cell 4 (by simp)
            have x5 := BX1.out.cell 5 (by simp)
            have x6 := BX1.out.cell 6 (by simp)
            simp only [List.getElem_cons_zero, List.getElem_cons_succ] at x0 x1 x2 x3 x4 x5 x6
            go_wp2_with fail
            refine (HIC.out _).mono ?_
            rintro e w2 ⟨rfl, hb⟩
            have HB2 := Lib.hid (belS HB1.out hb)
            have BX2 := Lib.hid (BX1.out.below hb)
            clear hb x0 x1 x2 x3 x4 x5 x6
            have x0 := BX2.out.cell 0 (by simp)
            have x1 := BX2.out.cell 1 (by simp)
            have x2 := BX2.out.cell 2 (by simp)
            have x3 := BX2.out.cell 3 (by simp)
            have x4 := BX2.out.cell 4 (by simp)
            have x5 := BX2.out.cell 5 (by simp)
            have x6 := BX2.out.cell 6 (by simp)
            simp only [List.getElem_cons_zero, List.getElem_cons_succ] at x0 x1 x2 x3 x4 x5 x6
            go_wp2_with (first | (go_at_call 67; (with_reducible refine (HNM.out _).mono ?_); rintro e w' ⟨rfl, rfl⟩))
            go_ret
            exact ⟨by first | rfl | exact ret_bool hbq, HB2.out⟩
          | nil =>
            cases rb
            · obtain rfl : ev = false := by rw [HI.out]; simp [zCallD]
              clear HI
              go_enter Tryz.func29, Tryz.ntmps29
              have x0 := BX0.out.cell 0 (by simp)
              have x1 := BX0.out.cell 1 (by simp)
              have x2 := BX0.out.cell 2 (by simp)
              have x3 := BX0.out.cell 3 (by simp)
              have x4 := BX0.out.cell 4 (by simp)
              have x5 := BX0.out.cell 5 (by simp)
              have x6 := BX0.out.cell 6 (by simp)
              simp only [List.getElem_cons_zero, List.getElem_cons_succ] at x0 x1 x2 x3 x4 x5 x6
              go_wp2_with fail
              refine (HRF.out _ _ (row_of_slice (SliceAt.below H6.out good_str HB0.out (Nat.le_refl _)))).mono ?_
              rintro e w1 ⟨rfl, hb⟩
              have HB1 := Lib.hid (belS HB0.out hb)
              have BX1 := Lib.hid (BX0.out.below hb)
              clear hb x0 x1 x2 x3 x4 x5 x6
              have x0 := BX1.out.cell 0 (by simp)
              have x1 := BX1.out.cell 1 (by simp)
              have x2 := BX1.out.cell 2 (by simp)
              have x3 := BX1.out.cell 3 (by simp)
              have x4 := BX1.out.cell 4 (by simp)
              have x5 := BX1.out.cell 5 (by simp)
              have x6 := BX1.out.cell 6 (by simp)
              simp only [List.getElem_cons_zero, List.getElem_cons_succ] at x0 x1 x2 x3 x4 x5 x6
              go_wp2_with fail
              refine (HIC.out _).mono ?_
              rintro e w2 ⟨rfl, hb⟩
              have HB2 := Lib.hid (belS HB1.out hb)
              have BX2 := Lib.hid (BX1.out.below hb)
              clear hb x0 x1 x2 x3 x4 x5 x6
              have x0 := BX2.out.cell 0 (by simp)
              have x1 := BX2.out.cell 1 (by simp)
              have x2 := BX2.out.cell 2 (by simp)
              have x3 := BX2.out.cell 3 (by simp)
              have x4 := BX2.out.cell 4 (by simp)
              have x5 := BX2.out.cell 5 (by simp)
              have x6 := BX2.out.cell 6 (by simp)
              simp only [List.getElem_cons_zero, List.getElem_cons_succ] at x0 x1 x2 x3 x4 x5 x6
              go_wp2_with (first | (go_at_call 67; (with_reducible refine (HNM.out _).mono ?_); rintro e w' ⟨rfl, rfl⟩))
              go_ret
              exact ⟨by first | rfl | exact ret_bool hbq, HB2.out⟩
            · obtain rfl : ev = true := by rw [HI.out]; simp [zCallD]
              clear HI
              go_enter Tryz.func29, Tryz.ntmps29
              have x0 := BX0.out.cell 0 (by simp)
              have x1 := BX0.out.cell 1 (by simp)
              have x2 := BX0.out.cell 2 (by simp)
              have x3 := BX0.out.cell 3 (by simp)
              have x4 := BX0.out.cell 4 (by simp)
              have x5 := BX0.out.cell 5 (by simp)
              have x6 := BX0.out.cell 6 (by simp)
              simp only [List.getElem_cons_zero, List.getElem_cons_succ] at x0 x1 x2 x3 x4 x5 x6
              go_wp2_with fail
              refine (HRF.out _ _ (row_of_slice (SliceAt.below H6.out good_str HB0.out (Nat.le_refl _)))).mono ?_
              rintro e w1 ⟨rfl, hb⟩
              have HB1 := Lib.hid (belS HB0.out hb)
              have BX1 := Lib.hid (BX0.out.below hb)
              clear hb x0 x1 x2 x3 x4 x5 x6
              have x0 := BX1.out.cell 0 (by simp)
              have x1 := BX1.out.cell 1 (by simp)
              have x2 := BX1.out.cell 2 (by simp)
              have x3 := BX1.out.cell 3 (by simp)
              have x4 := BX1.out.cell 4 (by simp)
              have x5 := BX1.out.cell 5 (by simp)
              have x6 := BX1.out.cell 6 (by simp)
              simp only [List.getElem_cons_zero, List.getElem_cons_succ] at x0 x1 x2 x3 x4 x5 x6
              go_wp2_with fail
              refine (HIC.out _).mono ?_
              rintro e w2 ⟨rfl, hb⟩
              have HB2 := Lib.hid (belS HB1.out hb)
              have BX2 := Lib.hid (BX1.out.below hb)
              clear hb x0 x1 x2 x3 x4 x5 x6
              have x0 := BX2.out.cell 0 (by simp)
              have x1 := BX2.out.cell 1 (by simp)
              have x2 := BX2.out.cell 2 (by simp)
              have x3 := BX2.out.cell 3 (by simp)
              have x4 := BX2.out.cell 4 (by simp)
              have x5 := BX2.out.cell 5 (by simp)
              have x6 := BX2.out.cell 6 (by simp)
              simp only [List.getElem_cons_zero, List.getElem_cons_succ] at x0 x1 x2 x3 x4 x5 x6
              go_wp2_with (first | (go_at_call 67; (with_reducible refine (HNM.out _).mono ?_); rintro e w' ⟨rfl, rfl⟩))
              go_ret
              exact ⟨by first | rfl | exact ret_bool hbq, HB2.out⟩
        · have hnb : (n == 0) = false := by simp [hn0]
          obtain rfl : ev = false := by rw [HI.out]; simp [zCallD, *]
          clear HI
          go_enter Tryz.func29, Tryz.ntmps29
          have x0 := BX0.out.cell 0 (by simp)
          have x1 := BX0.out.cell 1 (by simp)
          have x2 := BX0.out.cell 2 (by simp)
          have x3 := BX0.out.cell 3 (by simp)
          have x4 := BX0.out.cell 4 (by simp)
          have x5 := BX0.out.cell 5 (by simp)
          have x6 := BX0.out.cell 6 (by simp)
          simp only [List.getElem_cons_zero, List.getElem_cons_succ] at x0 x1 x2 x3 x4 x5 x6
          go_wp2_with fail
          refine (HRF.out _ _ (row_of_slice (SliceAt.below H6.out good_str HB0.out (Nat.le_refl _)))).mono ?_
          rintro e w1 ⟨rfl, hb⟩
          have HB1 := Lib.hid (belS HB0.out hb)
          have BX1 := Lib.hid (BX0.out.below hb)
          clear hb x0 x1 x2 x3 x4 x5 x6
          have x0 := BX1.out.cell 0 (by simp)
          have x1 := BX1.out.cell 1 (by simp)
          have x2 := BX1.out.cell 2 (by simp)
          have x3 := BX1.out.cell 3 (by simp)
          have x4 := BX1.out.cell 4 (by simp)
          have x5 := BX1.out.cell 5 (by simp)
          have x6 := BX1.out.cell 6 (by simp)
          simp only [List.getElem_cons_zero, List.getElem_cons_succ] at x0 x1 x2 x3 x4 x5 x6
          go_wp2_with fail
          refine (HIC.out _).mono ?_
          rintro e w2 ⟨rfl, hb⟩
          have HB2 := Lib.hid (belS HB1.out hb)
          have BX2 := Lib.hid (BX1.out.below hb)
          clear hb x0 x1 x2 x3 x4 x5 x6
          have x0 := BX2.out.cell 0 (by simp)
          have x1 := BX2.out.cell 1 (by simp)
          have x2 := BX2.out.cell 2 (by simp)
          have x3 := BX2.out.cell 3 (by simp)
          have x4 := BX2.out.cell 4 (by simp)
          have x5 := BX2.out.cell 5 (by simp)
          have x6 := BX2.out.cell 6 (by simp)
          simp only [List.getElem_cons_zero, List.getElem_cons_succ] at x0 x1 x2 x3 x4 x5 x6
          go_wp2_with (first | (go_at_call 67; (with_reducible refine (HNM.out _).mono ?_); rintro e w' ⟨rfl, rfl⟩))
          go_ret
          exact ⟨by first | rfl | exact ret_bool hbq, HB2.out⟩
  replace HI := Lib.hid (show ev = (decide ((⟨m, ky, n, t⟩ : CallD) = zCallD) && decide (l.length = 0)) by rw [HI.out, if_neg h55])
  have hb3 : (k == 3) = false := by simp [h3]
  have hc3 : (k != 3) = true := by simp [h3]
  have hb5 : (k == 5) = false := by simp [h55]
  have hc5 : (k != 5) = true := by simp [h55]
  clear h3 h55
  cases m with
  | cons c r =>
    by_cases h0 : l.length = 0
    · obtain rfl : l = [] := List.eq_nil_of_length_eq_zero h0
      simp only [List.length_nil] at *
      clear h0
      obtain rfl : ev = false := by rw [HI.out]; simp [zCallD, *]
      clear HI
      go_enter Tryz.func29, Tryz.ntmps29
      have x0 := BX0.out.cell 0 (by simp)
      have x1 := BX0.out.cell 1 (by simp)
      have x2 := BX0.out.cell 2 (by simp)
      have x3 := BX0.out.cell 3 (by simp)
      have x4 := BX0.out.cell 4 (by simp)
      have x5 := BX0.out.cell 5 (by simp)
      have x6 := BX0.out.cell 6 (by simp)
      simp only [List.getElem_cons_zero, List.getElem_cons_succ] at x0 x1 x2 x3 x4 x5 x6
      go_wp2_with fail
      refine (HRF.out _ _ (row_of_slice (SliceAt.below H6.out good_str HB0.out (Nat.le_refl _)))).mono ?_
      rintro e w1 ⟨rfl, hb⟩
      have HB1 := Lib.hid (belS HB0.out hb)
      have BX1 := Lib.hid (BX0.out.below hb)
      clear hb x0 x1 x2 x3 x4 x5 x6
      have x0 := BX1.out.cell 0 (by simp)
      have x1 := BX1.out.cell 1 (by simp)
      have x2 := BX1.out.cell 2 (by simp)
      have x3 := BX1.out.cell 3 (by simp)
      have x4 := BX1.out.cell 4 (by simp)
      have x5 := BX1.out.cell 5 (by simp)
      have x6 := BX1.out.cell 6 (by simp)
      simp only [List.getElem_cons_zero, List.getElem_cons_succ] at x0 x1 x2 x3 x4 x5 x6
      go_wp2_with fail
      refine (HIC.out _).mono ?_
      rintro e w2 ⟨rfl, hb⟩
      have HB2 := Lib.hid (belS HB1.out hb)
      have BX2 := Lib.hid (BX1.out.below hb)
      clear hb x0 x1 x2 x3 x4 x5 x6
      have x0 := BX2.out.cell 0 (by simp)
      have x1 := BX2.out.cell 1 (by simp)
      have x2 := BX2.out.cell 2 (by simp)
      have x3 := BX2.out.cell 3 (by simp)
      have x4 := BX2.out.cell 4 (by simp)
      have x5 := BX2.out.cell 5 (by simp)
      have x6 := BX2.out.cell 6 (by simp)
      simp only [List.getElem_cons_zero, List.getElem_cons_succ] at x0 x1 x2 x3 x4 x5 x6
      go_wp2_with (first | (go_at_call 67; (with_reducible refine (HNM.out _).mono ?_); rintro e w' ⟨rfl, rfl⟩))
      go_ret
      exact ⟨by first | rfl | exact ret_bool hbq, HB2.out⟩
    · have hne : ¬ (l.length : Int) = 0 := by omega
      have hnd : decide (l.length = 0) = false := decide_eq_false h0
      have hbq : ((l.length : Int) == 0) = false := beq_eq_false_iff_ne.2 hne
      obtain rfl : ev = false := by rw [HI.out]; simp [zCallD, *]
      clear HI
      clear hnd h0
      go_enter Tryz.func29, Tryz.ntmps29
      have x0 := BX0.out.cell 0 (by simp)
      have x1 := BX0.out.cell 1 (by simp)
      have x2 := BX0.out.cell 2 (by simp)
      have x3 := BX0.out.cell 3 (by simp)
      have x4 := BX0.out.cell 4 (by simp)
      have x5 := BX0.out.cell 5 (by simp)
      have x6 := BX0.out.cell 6 (by simp)
      simp only [List.getElem_cons_zero, List.getElem_cons_succ] at x0 x1 x2 x3 x4 x5 x6
      go_wp2_with fail
      refine (HRF.out _ _ (row_of_slice (SliceAt.below H6.out good_str HB0.out (Nat.le_refl _)))).mono ?_
      rintro e w1 ⟨rfl, hb⟩
      have HB1 := Lib.hid (belS HB0.out hb)
      have BX1 := Lib.hid (BX0.out.below hb)
      clear hb x0 x1 x2 x3 x4 x5 x6
      have x0 := BX1.out.cell 0 (by simp)
      have x1 := BX1.out.cell 1 (by simp)
      have x2 := BX1.out.cell 2 (by simp)
      have x3 := BX1.out.cell 3 (by simp)
      have x4 := BX1.out.cell 4 (by simp)
      have x5 := BX1.out.cell 5 (by simp)
      have x6 := BX1.out.cell 6 (by simp)
      simp only [List.getElem_cons_zero, List.getElem_cons_succ] at x0 x1 x2 x3 x4 x5 x6
      go_wp2_with fail
      refine (HIC.out _).mono ?_
      rintro e w2 ⟨rfl, hb⟩
      have HB2 := Lib.hid (belS HB1.out hb)
      have BX2 := Lib.hid (BX1.out.below hb)
      clear hb x0 x1 x2 x3 x4 x5 x6
      have x0 := BX2.out.cell 0 (by simp)
      have x1 := BX2.out.cell 1 (by simp)
      have x2 := BX2.out.cell 2 (by simp)
      have x3 := BX2.out.cell 3 (by simp)
      have x4 := BX2.out.cell 4 (by simp)
      have x5 := BX2.out.cell 5 (by simp)
      have x6 := BX2.out.cell 6 (by simp)
      simp only [List.getElem_cons_zero, List.getElem_cons_succ] at x0 x1 x2 x3 x4 x5 x6
      go_wp2_with (first | (go_at_call 67; (with_reducible refine (HNM.out _).mono ?_); rintro e w' ⟨rfl, rfl⟩))
      go_ret
      exact ⟨by first | rfl | exact ret_bool hbq, HB2.out⟩
  | nil =>
    cases ky with
    | cons c r =>
      by_cases h0 : l.length = 0
      · obtain rfl : l = [] := List.eq_nil_of_length_eq_zero h0
        simp only [List.length_nil] at *
        clear h0
        obtain rfl : ev = false := by rw [HI.out]; simp [zCallD, *]
        clear HI
        go_enter Tryz.func29, Tryz.ntmps29
        have x0 := BX0.out.cell 0 (by simp)
        have x1 := BX0.out.cell 1 (by simp)
        have x2 := BX0.out.cell 2 (by simp)
        have x3 := BX0.out.cell 3 (by simp)
        have x4 := BX0.out.cell 4 (by simp)
        have x5 := BX0.out.cell 5 (by simp)
        have x6 := BX0.out.cell 6 (by simp)
        simp only [List.getElem_cons_zero, List.getElem_cons_succ] at x0 x1 x2 x3 x4 x5 x6
        go_wp2_with fail
        refine (HRF.out _ _ (row_of_slice (SliceAt.below H6.out good_str HB0.out (Nat.le_refl _)))).mono ?_
        rintro e w1 ⟨rfl, hb⟩
        have HB1 := Lib.hid (belS HB0.out hb)
        have BX1 := Lib.hid (BX0.out.below hb)
        clear hb x0 x1 x2 x3 x4 x5 x6
        have x0 := BX1.out.cell 0 (by simp)
        have x1 := BX1.out.cell 1 (by simp)
        have x2 := BX1.out.cell 2 (by simp)
        have x3 := BX1.out.cell 3 (by simp)
        have x4 := BX1.out.cell 4 (by simp)
        have x5 := BX1.out.cell 5 (by simp)
        have x6 := BX1.out.cell 6 (by simp)
        simp only [List.getElem_cons_zero, List.getElem_cons_succ] at x0 x1 x2 x3 x4 x5 x6
        go_wp2_with fail
        refine (HIC.out _).mono ?_
        rintro e w2 ⟨rfl, hb⟩
        have HB2 := Lib.hid (belS HB1.out hb)
        have BX2 := Lib.hid (BX1.out.below hb)
        clear hb x0 x1 x2 x3 x4 x5 x6
        have x0 := BX2.out.cell 0 (by simp)
        have x1 := BX2.out.cell 1 (by simp)
        have x2 := BX2.out.cell 2 (by simp)
        have x3 := BX2.out.cell 3 (by simp)
        have x4 := BX2.out.cell 4 (by simp)
        have x5 := BX2.out.cell 5 (by simp)
        have x6 := BX2.out.cell 6 (by simp)
        simp only [List.getElem_cons_zero, List.getElem_cons_succ] at x0 x1 x2 x3 x4 x5 x6
        go_wp2_with (first | (go_at_call 67; (with_reducible refine (HNM.out _).mono ?_); rintro e w' ⟨rfl, rfl⟩))
        go_ret
        exact ⟨by first | rfl | exact ret_bool hbq, HB2.out⟩
      · have hne : ¬ (l.length : Int) = 0 := by omega
        have hnd : decide (l.length = 0) = false := decide_eq_false h0
        have hbq : ((l.length : Int) == 0) = false := beq_eq_false_iff_ne.2 hne
        obtain rfl : ev = false := by rw [HI.out]; simp [zCallD, *]
        clear HI
        clear hnd h0
        go_enter Tryz.func29, Tryz.ntmps29
        have x0 := BX0.out.cell 0 (by simp)
        have x1 := BX0.out.cell 1 (by simp)
        have x2 := BX0.out.cell 2 (by simp)
        have x3 := BX0.out.cell 3 (by simp)
        have x4 := BX0.out.cell 4 (by simp)
        have x5 := BX0.out.cell 5 (by simp)
        have x6 := BX0.out.cell 6 (by simp)
        simp only [List.getElem_cons_zero, List.getElem_cons_succ] at x0 x1 x2 x3 x4 x5 x6
        go_wp2_with fail
        refine (HRF.out _ _ (row_of_slice (SliceAt.below H6.out good_str HB0.out (Nat.le_refl _)))).mono ?_
        rintro e w1 ⟨rfl, hb⟩
        have HB1 := Lib.hid (belS HB0.out hb)
        have BX1 := Lib.hid (BX0.out.below hb)
        clear hb x0 x1 x2 x3 x4 x5 x6
        have x0 := BX1.out.cell 0 (by simp)
        have x1 := BX1.out.cell 1 (by simp)
        have x2 := BX1.out.cell 2 (by simp)
        have x3 := BX1.out.cell 3 (by simp)
        have x4 := BX1.out.cell 4 (by simp)
        have x5 := BX1.out.cell 5 (by simp)
        have x6 := BX1.out.cell 6 (by simp)
        simp only [List.getElem_cons_zero, List.getElem_cons_succ] at x0 x1 x2 x3 x4 x5 x6
        go_wp2_with fail
        refine (HIC.out _).mono ?_
        rintro e w2 ⟨rfl, hb⟩
        have HB2 := Lib.hid (belS HB1.out hb)
        have BX2 := Lib.hid (BX1.out.below hb)
        clear hb x0 x1 x2 x3 x4 x5 x6
        have x0 := BX2.out.cell 0 (by simp)
        have x1 := BX2.out.cell 1 (by simp)
        have x2 := BX2.out.cell 2 (by simp)
        have x3 := BX2.out.cell 3 (by simp)
        have x4 := BX2.out.cell 4 (by simp)
        have x5 := BX2.out.cell 5 (by simp)
        have x6 := BX2.out.cell 6 (by simp)
        simp only [List.getElem_cons_zero, List.getElem_cons_succ] at x0 x1 x2 x3 x4 x5 x6
        go_wp2_with (first | (go_at_call 67; (with_reducible refine (HNM.out _).mono ?_); rintro e w' ⟨rfl, rfl⟩))
        go_ret
        exact ⟨by first | rfl | exact ret_bool hbq, HB2.out⟩
    | nil =>
      by_cases hn0 : n = 0
      · subst hn0
        cases t with
        | cons c r =>
          by_cases h0 : l.length = 0
          · obtain rfl : l = [] := List.eq_nil_of_length_eq_zero h0
            simp only [List.length_nil] at *
            clear h0
            obtain rfl : ev = false := by rw [HI.out]; simp [zCallD, *]
            clear HI
            go_enter Tryz.func29, Tryz.ntmps29
            have x0 := BX0.out.cell 0 (by simp)
            have x1 := BX0.out.cell 1 (by simp)
            have x2 := BX0.out.cell 2 (by simp)
            have x3 := BX0.out.cell 3 (by simp)
            have x4 := BX0.out.cell 4 (by simp)
            have x5 := BX0.out.cell 5 (by simp)
            have x6 := BX0.out.cell 6 (by simp)
            simp only [List.getElem_cons_zero, List.getElem_cons_succ] at x0 x1 x2 x3 x4 x5 x6
            go_wp2_with fail
            refine (HRF.out _ _ (row_of_slice (SliceAt.below H6.out good_str HB0.out (Nat.le_refl _)))).mono ?_
            rintro e w1 ⟨rfl, hb⟩
            have HB1 := Lib.hid (belS HB0.out hb)
            have BX1 := Lib.hid (BX0.out.below hb)
            clear hb x0 x1 x2 x3 x4 x5 x6
            have x0 := BX1.out.cell 0 (by simp)
            have x1 := BX1.out.cell 1 (by simp)
            have x2 := BX1.out.cell 2 (by simp)
            have x3 := BX1.out.cell 3 (by simp)
            have x4 := BX1.out.cell 4 (by simp)
            have x5 := BX1.out.cell 5 (by simp)
            have x6 := BX1.out.cell 6 (by simp)
            simp only [List.getElem_cons_zero, List.getElem_cons_succ] at x0 x1 x2 x3 x4 x5 x6
            go_wp2_with fail
            refine (HIC.out _).mono ?_
            rintro e w2 ⟨rfl, hb⟩
            have HB2 := Lib.hid (belS HB1.out hb)
            have BX2 := Lib.hid (BX1.out.below hb)
            clear hb x0 x1 x2 x3 x4 x5 x6
            have x0 := BX2.out.cell 0 (by simp)
            have x1 := BX2.out.cell 1 (by simp)
            have x2 := BX2.out.cell 2 (by simp)
            have x3 := BX2.out.cell 3 (by simp)
            have x4 := BX2.out.cell 4 (by simp)
            have x5 := BX2.out.cell 5 (by simp)
            have x6 := BX2.out.cell 6 (by simp)
            simp only [List.getElem_cons_zero, List.getElem_cons_succ] at x0 x1 x2 x3 x4 x5 x6
            go_wp2_with (first | (go_at_call 67; (with_reducible refine (HNM.out _).mono ?_); rintro e w' ⟨rfl, rfl⟩))
            go_ret
            exact ⟨by first | rfl | exact ret_bool hbq, HB2.out⟩
          · have hne : ¬ (l.length : Int) = 0 := by omega
            have hnd : decide (l.length = 0) = false := decide_eq_false h0
            have hbq : ((l.length : Int) == 0) = false := beq_eq_false_iff_ne.2 hne
            obtain rfl : ev = false := by rw [HI.out]; simp [zCallD, *]
            clear HI
            clear hnd h0
            go_enter Tryz.func29, Tryz.ntmps29
            have x0 := BX0.out.cell 0 (by simp)
            have x1 := BX0.out.cell 1 (by simp)
            have x2 := BX0.out.cell 2 (by simp)
            have x3 := BX0.out.cell 3 (by simp)
            have x4 := BX0.out.cell 4 (by simp)
            have x5 := BX0.out.cell 5 (by simp)
            have x6 := BX0.out.cell 6 (by simp)
            simp only [List.getElem_cons_zero, List.getElem_cons_succ] at x0 x1 x2 x3 x4 x5 x6
            go_wp2_with fail
            refine (HRF.out _ _ (row_of_slice (SliceAt.below H6.out good_str HB0.out (Nat.le_refl _)))).mono ?_
            rintro e w1 ⟨rfl, hb⟩
            have HB1 := Lib.hid (belS HB0.out hb)
            have BX1 := Lib.hid (BX0.out.below hb)
            clear hb x0 x1 x2 x3 x4 x5 x6
            have x0 := BX1.out.cell 0 (by simp)
            have x1 := BX1.out.cell 1 (by simp)
            have x2 := BX1.out.cell 2 (by simp)
            have x3 := BX1.out.cell 3 (by simp)
            have x4 := BX1.out.cell 4 (by simp)
            have x5 := BX1.out.cell 5 (by simp)
            have x6 := BX1.out.cell 6 (by simp)
            simp only [List.getElem_cons_zero, List.getElem_cons_succ] at x0 x1 x2 x3 x4 x5 x6
            go_wp2_with fail
            refine (HIC.out _).mono ?_
            rintro e w2 ⟨rfl, hb⟩
            have HB2 := Lib.hid (belS HB1.out hb)
            have BX2 := Lib.hid (BX1.out.below hb)
            clear hb x0 x1 x2 x3 x4 x5 x6
            have x0 := BX2.out.cell 0 (by simp)
            have x1 := BX2.out.cell 1 (by simp)
            have x2 := BX2.out.cell 2 (by simp)
            have x3 := BX2.out.cell 3 (by simp)
            have x4 := BX2.out.cell 4 (by simp)
            have x5 := BX2.out.cell 5 (by simp)
            have x6 := BX2.out.cell 6 (by simp)
            simp only [List.getElem_cons_zero, List.getElem_cons_succ] at x0 x1 x2 x3 x4 x5 x6
            go_wp2_with (first | (go_at_call 67; (with_reducible refine (HNM.out _).mono ?_); rintro e w' ⟨rfl, rfl⟩))
            go_ret
            exact ⟨by first | rfl | exact ret_bool hbq, HB2.out⟩
        | nil =>
          by_cases h0 : l.length = 0
          · obtain rfl : l = [] := List.eq_nil_of_length_eq_zero h0
            simp only [List.length_nil] at *
            clear h0
            obtain rfl : ev = true := by rw [HI.out]; simp [zCallD]
            clear HI
            go_enter Tryz.func29, Tryz.ntmps29
            have x0 := BX0.out.cell 0 (by simp)
            have x1 := BX0.out.cell 1 (by simp)
            have x2 := BX0.out.cell 2 (by simp)
            have x3 := BX0.out.cell 3 (by simp)
            have x4 := BX0.out.cell 4 (by simp)
            have x5 := BX0.out.cell 5 (by simp)
            have x6 := BX0.out.cell 6 (by simp)
            simp only [List.getElem_cons_zero, List.getElem_cons_succ] at x0 x1 x2 x3 x4 x5 x6
            go_wp2_with fail
            refine (HRF.out _ _ (row_of_slice (SliceAt.below H6.out good_str HB0.out (Nat.le_refl _)))).mono ?_
            rintro e w1 ⟨rfl, hb⟩
            have HB1 := Lib.hid (belS HB0.out hb)
            have BX1 := Lib.hid (BX0.out.below hb)
            clear hb x0 x1 x2 x3 x4 x5 x6
            have x0 := BX1.out.cell 0 (by simp)
            have x1 := BX1.out.cell 1 (by simp)
            have x2 := BX1.out.cell 2 (by simp)
            have x3 := BX1.out.cell 3 (by simp)
            have x4 := BX1.out.cell 4 (by simp)
            have x5 := BX1.out.cell 5 (by simp)
            have x6 := BX1.out.cell 6 (by simp)
            simp only [List.getElem_cons_zero, List.getElem_cons_succ] at x0 x1 x2 x3 x4 x5 x6
            go_wp2_with fail
            refine (HIC.out _).mono ?_
            rintro e w2 ⟨rfl, hb⟩
            have HB2 := Lib.hid (belS HB1.out hb)
            have BX2 := Lib.hid (BX1.out.below hb)
            clear hb x0 x1 x2 x3 x4 x5 x6
            have x0 := BX2.out.cell 0 (by simp)
            have x1 := BX2.out.cell 1 (by simp)
            have x2 := BX2.out.cell 2 (by simp)
            have x3 := BX2.out.cell 3 (by simp)
            have x4 := BX2.out.cell 4 (by simp)
            have x5 := BX2.out.cell 5 (by simp)
            have x6 := BX2.out.cell 6 (by simp)
            simp only [List.getElem_cons_zero, List.getElem_cons_succ] at x0 x1 x2 x3 x4 x5 x6
            go_wp2_with (first | (go_at_call 67; (with_reducible refine (HNM.out _).mono ?_); rintro e w' ⟨rfl, rfl⟩))
            go_ret
            exact ⟨by first | rfl | exact ret_bool hbq, HB2.out⟩
          · have hne : ¬ (l.length : Int) = 0 := by omega
            have hnd : decide (l.length = 0) = false := decide_eq_false h0
            have hbq : ((l.length : Int) == 0) = false := beq_eq_false_iff_ne.2 hne
            obtain rfl : ev = false := by rw [HI.out, hnd, Bool.and_false]
            clear HI
            clear hnd h0
            go_enter Tryz.func29, Tryz.ntmps29
            have x0 := BX0.out.cell 0 (by simp)
            have x1 := BX0.out.cell 1 (by simp)
            have x2 := BX0.out.cell 2 (by simp)
            have x3 := BX0.out.cell 3 (by simp)
            have x4 := BX0.out.cell 4 (by simp)
            have x5 := BX0.out.cell 5 (by simp)
            have x6 := BX0.out.cell 6 (by simp)
            simp only [List.getElem_cons_zero, List.getElem_cons_succ] at x0 x1 x2 x3 x4 x5 x6
            go_wp2_with fail
            refine (HRF.out _ _ (row_of_slice (SliceAt.below H6.out good_str HB0.out (Nat.le_refl _)))).mono ?_
            rintro e w1 ⟨rfl, hb⟩
            have HB1 := Lib.hid (belS HB0.out hb)
            have BX1 := Lib.hid (BX0.out.below hb)
            clear hb x0 x1 x2 x3 x4 x5 x6
            have x0 := BX1.out.cell 0 (by simp)
            have x1 := BX1.out.cell 1 (by simp)
            have x2 := BX1.out.cell 2 (by simp)
            have x3 := BX1.out.cell 3 (by simp)
            have x4 := BX1.out.cell 4 (by simp)
            have x5 := BX1.out.cell 5 (by simp)
            have x6 := BX1.out.cell 6 (by simp)
            simp only [List.getElem_cons_zero, List.getElem_cons_succ] at x0 x1 x2 x3 x4 x5 x6
            go_wp2_with fail
            refine (HIC.out _).mono ?_
            rintro e w2 ⟨rfl, hb⟩
            have HB2 := Lib.hid (belS HB1.out hb)
            have BX2 := Lib.hid (BX1.out.below hb)
            clear hb x0 x1 x2 x3 x4 x5 x6
            have x0 := BX2.out.cell 0 (by simp)
            have x1 := BX2.out.cell 1 (by simp)
            have x2 := BX2.out.cell 2 (by simp)
            have x3 := BX2.out.cell 3 (by simp)
            have x4 := BX2.out.cell 4 (by simp)
            have x5 := BX2.out.cell 5 (by simp)
            have x6 := BX2.out.cell 6 (by simp)
            simp only [List.getElem_cons_zero, List.getElem_cons_succ] at x0 x1 x2 x3 x4 x5 x6
            go_wp2_with (first | (go_at_call 67; (with_reducible refine (HNM.out _).mono ?_); rintro e w' ⟨rfl, rfl⟩))
            go_ret
            exact ⟨by first | rfl | exact ret_bool hbq, HB2.out⟩
      · have hnb : (n == 0) = false := by simp [hn0]
        by_cases h0 : l.length = 0
        · obtain rfl : l = [] := List.eq_nil_of_length_eq_zero h0
          simp only [List.length_nil] at *
          clear h0
          obtain rfl : ev = false := by rw [HI.out]; simp [zCallD, *]
          clear HI
          go_enter Tryz.func29, Tryz.ntmps29
          have x0 := BX0.out.cell 0 (by simp)
          have x1 := BX0.out.cell 1 (by simp)
          have x2 := BX0.out.cell 2 (by simp)
          have x3 := BX0.out.cell 3 (by simp)
          have x4 := BX0.out.cell 4 (by simp)
          have x5 := BX0.out.cell 5 (by simp)
          have x6 := BX0.out.cell 6 (by simp)
          simp only [List.getElem_cons_zero, List.getElem_cons_succ] at x0 x1 x2 x3 x4 x5 x6
          go_wp2_with fail
          refine (HRF.out _ _ (row_of_slice (SliceAt.below H6.out good_str HB0.out (Nat.le_refl _)))).mono ?_
          rintro e w1 ⟨rfl, hb⟩
          have HB1 := Lib.hid (belS HB0.out hb)
          have BX1 := Lib.hid (BX0.out.below hb)
          clear hb x0 x1 x2 x3 x4 x5 x6
          have x0 := BX1.out.cell 0 (by simp)
          have x1 := BX1.out.cell 1 (by simp)
          have x2 := BX1.out.cell 2 (by simp)
          have x3 := BX1.out.cell 3 (by simp)
          have x4 := BX1.out.cell 4 (by simp)
          have x5 := BX1.out.cell 5 (by simp)
          have x6 := BX1.out.cell 6 (by simp)
          simp only [List.getElem_cons_zero, List.getElem_cons_succ] at x0 x1 x2 x3 x4 x5 x6
          go_wp2_with fail
          refine (HIC.out _).mono ?_
          rintro e w2 ⟨rfl, hb⟩
          have HB2 := Lib.hid (belS HB1.out hb)
          have BX2 := Lib.hid (BX1.out.below hb)
          clear hb x0 x1 x2 x3 x4 x5 x6
          have x0 := BX2.out.cell 0 (by simp)
          have x1 := BX2.out.cell 1 (by simp)
          have x2 := BX2.out.cell 2 (by simp)
          have x3 := BX2.out.cell 3 (by simp)
          have x4 := BX2.out.cell 4 (by simp)
          have x5 := BX2.out.cell 5 (by simp)
          have x6 := BX2.out.cell 6 (by simp)
          simp only [List.getElem_cons_zero, List.getElem_cons_succ] at x0 x1 x2 x3 x4 x5 x6
          go_wp2_with (first | (go_at_call 67; (with_reducible refine (HNM.out _).mono ?_); rintro e w' ⟨rfl, rfl⟩))
          go_ret
          exact ⟨by first | rfl | exact ret_bool hbq, HB2.out⟩
        · have hne : ¬ (l.length : Int) = 0 := by omega
          have hnd : decide (l.length = 0) = false := decide_eq_false h0
          have hbq : ((l.length : Int) == 0) = false := beq_eq_false_iff_ne.2 hne
          obtain rfl : ev = false := by rw [HI.out]; simp [zCallD, *]
          clear HI
          clear hnd h0
          go_enter Tryz.func29, Tryz.ntmps29
          have x0 := BX0.out.cell 0 (by simp)
          have x1 := BX0.out.cell 1 (by simp)
          have x2 := BX0.out.cell 2 (by simp)
          have x3 := BX0.out.cell 3 (by simp)
          have x4 := BX0.out.cell 4 (by simp)
          have x5 := BX0.out.cell 5 (by simp)
          have x6 := BX0.out.cell 6 (by simp)
          simp only [List.getElem_cons_zero, List.getElem_cons_succ] at x0 x1 x2 x3 x4 x5 x6
          go_wp2_with fail
          refine (HRF.out _ _ (row_of_slice (SliceAt.below H6.out good_str HB0.out (Nat.le_refl _)))).mono ?_
          rintro e w1 ⟨rfl, hb⟩
          have HB1 := Lib.hid (belS HB0.out hb)
          have BX1 := Lib.hid (BX0.out.below hb)
          clear hb x0 x1 x2 x3 x4 x5 x6
          have x0 := BX1.out.cell 0 (by simp)
          have x1 := BX1.out.cell 1 (by simp)
          have x2 := BX1.out.cell 2 (by simp)
          have x3 := BX1.out.cell 3 (by simp)
          have x4 := BX1.out.cell 4 (by simp)
          have x5 := BX1.out.cell 5 (by simp)
          have x6 := BX1.out.cell 6 (by simp)
          simp only [List.getElem_cons_zero, List.getElem_cons_succ] at x0 x1 x2 x3 x4 x5 x6
          go_wp2_with fail
          refine (HIC.out _).mono ?_
          rintro e w2 ⟨rfl, hb⟩
          have HB2 := Lib.hid (belS HB1.out hb)
          have BX2 := Lib.hid (BX1.out.below hb)
          clear hb x0 x1 x2 x3 x4 x5 x6
          have x0 := BX2.out.cell 0 (by simp)
          have x1 := BX2.out.cell 1 (by simp)
          have x2 := BX2.out.cell 2 (by simp)
          have x3 := BX2.out.cell 3 (by simp)
          have x4 := BX2.out.cell 4 (by simp)
          have x5 := BX2.out.cell 5 (by simp)
          have x6 := BX2.out.cell 6 (by simp)
          simp only [List.getElem_cons_zero, List.getElem_cons_succ] at x0 x1 x2 x3 x4 x5 x6
          go_wp2_with (first | (go_at_call 67; (with_reducible refine (HNM.out _).mono ?_); rintro e w' ⟨rfl, rfl⟩))
          go_ret
          exact ⟨by first | rfl | exact ret_bool hbq, HB2.out⟩
end Go.Proofs.YtlkpinlkbikokabGreat
/- Arguments opened: structs by value, slices of structs. -/
namespace Go.Proofs.YtlkpinlkbikokabGreat
set_option linter.unusedVariables false
open Go.ChangeShapes Go.WideShapes Go.ChangeAt Go.RowKit Go.WideMaps Go.WideElems
open Go.Deep
section
variable {H : Type} {enc : TypeId × Value → H} {P : Program} {W : World}
theorem leaf_str {n : Nat} {t : TypeId} {c : Value} {x : DataW H × List MemPlace} (ht : P.underlying t = some .string) (h : DataW.trod enc P W 0 (fun _ => true) true n t [c] = some x) : ∃ l : List UInt8, c = .string ⟨l.toArray⟩ ∧ l.length ≤ maxLen := by
  obtain ⟨s, h1, _, h3⟩ := DataW.trod_string ht h
  injection h1 with h1
  exact ⟨s.data.toList, by rw [h1], by rw [Array.length_toList]; exact h3⟩
theorem leaf_int {n : Nat} {t : TypeId} {c : Value} {x : DataW H × List MemPlace} (ht : P.underlying t = some (.int .i64)) (h : DataW.trod enc P W 0 (fun _ => true) true n t [c] = some x) : ∃ z : Int, c = .int .i64 z ∧ -9223372036854775808 ≤ z ∧ z ≤ 9223372036854775807 := by
  obtain ⟨z, h1, _, h3⟩ := DataW.trod_int ht h
  injection h1 with h1
  exact ⟨z, h1, bounds_i64 h3⟩
theorem leaf_bool {n : Nat} {t : TypeId} {c : Value} {x : DataW H × List MemPlace} (ht : P.underlying t = some .bool) (h : DataW.trod enc P W 0 (fun _ => true) true n t [c] = some x) : ∃ b : Bool, c = .bool b := by
  obtain ⟨b, h1, _⟩ := DataW.trod_bool ht h
  injection h1 with h1
  exact ⟨b, h1⟩
theorem field_at {fs : Array Field} {n : Nat} {cs : List Value} {xs : List (DataW H × List MemPlace)} (hl : xs.length = fs.size)
    (hf : ∀ (i : Nat) (f : Field), fs[i]? = some f → DataW.trod enc P W 0 (fun _ => true) true n f.type ((cs.drop f.offset).take (P.cellsOf f.type)) = xs[i]?) (i : Nat) (f : Field) (h : fs[i]? = some f) :
    ∃ x, DataW.trod enc P W 0 (fun _ => true) true n f.type ((cs.drop f.offset).take (P.cellsOf f.type)) = some x := by
  have hi : i < fs.size := (Array.getElem?_eq_some_iff.1 h).1
  exact ⟨xs[i]'(by omega), by rw [hf i f h, List.getElem?_eq_getElem]⟩
theorem field_one {fs : Array Field} {n : Nat} {cs : List Value} {xs : List (DataW H × List MemPlace)} (hl : xs.length = fs.size)
    (hf : ∀ (i : Nat) (f : Field), fs[i]? = some f → DataW.trod enc P W 0 (fun _ => true) true n f.type ((cs.drop f.offset).take (P.cellsOf f.type)) = xs[i]?) (i : Nat) (f : Field) (T o : Nat) (c : Value) (r : List Value) (h : fs[i]? = some f) (hT : f.type = T) (ho : f.offset = o) (hc : P.cellsOf T = 1) (hd : cs.drop o = c :: r) :
    ∃ x, DataW.trod enc P W 0 (fun _ => true) true n T [c] = some x := by
  obtain ⟨x, hx⟩ := field_at hl hf i f h
  subst hT; subst ho
  rw [hc, hd] at hx
  exact ⟨x, hx⟩
/-- a slice of structs of texts and numbers -/
theorem open_flat {α : Type} [Inhabited α] {f : α → List Value} {k : Nat} {G : α → Prop} (hk : ∀ x, (f x).length = k) (hk0 : 0 < k) {t e : TypeId} {n : Nat} {v : Value} {x : DataW H × List MemPlace} (ht : P.underlying t = some (.slice e)) (hc : P.cellsOf e = k)
    (hel : ∀ n cs x, DataW.trod enc P W 0 (fun _ => true) true n e cs = some x → ∃ d, cs = f d ∧ G d) (h : DataW.trod enc P W 0 (fun _ => true) true n t [v] = some x) :
    ∃ l : List α, FlatAt f k W v l ∧ ∀ d ∈ l, G d := by
  rcases open_slice ht h with ⟨h0, _⟩ | ⟨a, len, cap, m, n', D, Pl, hcs, _, hl, hm, hmm, _, hx⟩
  · injection h0 with h0
    subst h0
    exact ⟨[], ⟨none, 0, rfl, by simp, Nat.zero_le _, Or.inl rfl⟩, by simp⟩
  · injection hcs with hcs
    subst hcs
    simp only [if_true] at hmm
    subst hmm
    obtain ⟨F, hF⟩ := choose_lt (α := α) (p := fun i d => (∀ j, j < k → W.cell? ((a.add (i * k)).add j) = (f d)[j]?) ∧ G d) (n := m) (fun i hi => by
      obtain ⟨cs', h1, h2⟩ := hx i hi
      obtain ⟨d, rfl, hg⟩ := hel _ _ _ h2
      rw [hc] at h1
      obtain ⟨_, _, h3⟩ := World.cells?_some h1
      exact ⟨d, h3, hg⟩)
    refine ⟨(List.range len).map F, ?_, ?_⟩
    · obtain ⟨ab, ao, spot⟩ := a
      refine ⟨some ⟨ab, ao, spot⟩, m - len, by simp; omega, by rw [flat_len f k hk, List.length_map], by simp; omega, ?_⟩
      rcases Nat.eq_zero_or_pos len with h0 | hpos
      · left; simp [h0]
      · right
        have g0 := (hF 0 (by omega)).1 0 hk0
        have hlen0 : 0 < (f (F 0)).length := by rw [hk]; exact hk0
        rw [List.getElem?_eq_getElem hlen0] at g0
        have hspot : spot = none := by
          have := World.cell?_spot g0
          simpa [Addr.add] using this
        subst hspot
        have hlt : ab < W.heap.size := by
          simp only [Addr.add_lit, Nat.zero_mul, Nat.add_zero] at g0
          exact World.block_lt_of_cell? W _ g0
        refine ⟨ab, ao, rfl, hlt, fun i hi => ?_⟩
        rw [List.length_map, List.length_range] at hi
        have hq : i / k < len := Nat.div_lt_of_lt_mul (by rw [Nat.mul_comm]; exact hi)
        have hr : i % k < k := Nat.mod_lt _ hk0
        have h1 := (hF (i / k) (by omega)).1 (i % k) hr
        rw [Addr.add_lit, Addr.add_lit] at h1
        have e1 : i / k * k + i % k = i := by rw [Nat.mul_comm]; exact Nat.div_add_mod i k
        rw [show ao + i / k * k + i % k = ao + i by omega] at h1
        rw [h1, ← e1, flat_get f k hk _ (i / k) (by simpa using hq) (i % k) hr]
        simp [e1]
    · intro d hd
      obtain ⟨i, hi, rfl⟩ := List.mem_map.1 hd
      exact (hF i (by have := List.mem_range.1 hi; omega)).2
theorem two_of {α : Type} {l : List α} (h : l.length = 2) : ∃ a b, l = [a, b] := by match l, h with | [a, b], _ => exact ⟨a, b, rfl⟩
theorem three_of {α : Type} {l : List α} (h : l.length = 3) : ∃ a b c, l = [a, b, c] := by match l, h with | [a, b, c], _ => exact ⟨a, b, c, rfl⟩
theorem four_of {α : Type} {l : List α} (h : l.length = 4) : ∃ a b c d, l = [a, b, c, d] := by match l, h with | [a, b, c, d], _ => exact ⟨a, b, c, d, rfl⟩
theorem five_of {α : Type} {l : List α} (h : l.length = 5) : ∃ a b c d e, l = [a, b, c, d, e] := by match l, h with | [a, b, c, d, e], _ => exact ⟨a, b, c, d, e, rfl⟩
end
section
variable {H : Type} {enc : TypeId × Value → H} {W : World}
end
end Go.Proofs.YtlkpinlkbikokabGreat
/- Arguments opened: flat structs. Written by gen/openflat.py. -/
namespace Go.Proofs.YtlkpinlkbikokabGreat
set_option linter.unusedVariables false
open Go.ChangeShapes Go.WideShapes Go.ChangeAt Go.RowKit Go.WideMaps Go.WideElems
open Go.Deep
section
variable {H : Type} {enc : TypeId × Value → H} {W : World}
end
end Go.Proofs.YtlkpinlkbikokabGreat
/- Arguments opened: flat structs. Written by gen/openflat.py. -/
namespace Go.Proofs.YtlkpinlkbikokabGreat
set_option linter.unusedVariables false
open Go.ChangeShapes Go.WideShapes Go.ChangeAt Go.RowKit Go.WideMaps Go.WideElems
open Go.Deep
section
variable {H : Type} {enc : TypeId × Value → H} {W : World}
set_option maxRecDepth 100000 in
theorem open_Call {n : Nat} {cs : List Value} {x : DataW H × List MemPlace} (h : DataW.trod enc Tryz.prog W 0 (fun _ => true) true n 58 cs = some x) : ∃ d : CallD, cs = cCall d ∧ okCall d := by
  obtain ⟨xs, m, rfl, _, hl, hn, hf⟩ := DataW.trod_struct Tryz.underlying58 h
  rw [show Tryz.prog.cellsOf 58 = 4 by kernel_rfl] at hl
  obtain ⟨c0, c1, c2, c3, rfl⟩ := four_of hl
  obtain ⟨y0, k0⟩ := field_one hn hf 0 _ 9 0 _ _ rfl rfl rfl (by kernel_rfl) rfl
  obtain ⟨y1, k1⟩ := field_one hn hf 1 _ 9 1 _ _ rfl rfl rfl (by kernel_rfl) rfl
  obtain ⟨y2, k2⟩ := field_one hn hf 2 _ 3 2 _ _ rfl rfl rfl (by kernel_rfl) rfl
  obtain ⟨y3, k3⟩ := field_one hn hf 3 _ 9 3 _ _ rfl rfl rfl (by kernel_rfl) rfl
  obtain ⟨l0, rfl, b0⟩ := leaf_str Tryz.underlying9 k0
  obtain ⟨l1, rfl, b1⟩ := leaf_str Tryz.underlying9 k1
  obtain ⟨l2, rfl, b2⟩ := leaf_int Tryz.underlying3 k2
  obtain ⟨l3, rfl, b3⟩ := leaf_str Tryz.underlying9 k3
  exact ⟨⟨l0, l1, l2, l3⟩, rfl, b0, b1, b2, b3⟩
set_option maxRecDepth 100000 in
theorem arg_Call {base : Nat} {v : Value} {d : DataW H} {p : List MemPlace} (hval : Value.okWide Tryz.prog W .any base 58 v) (h : DataW.Trod enc Tryz.prog W 0 (fun _ => true) true 58 v d p) : ∃ d : CallD, v = vCall d ∧ okCall d := by
  obtain ⟨cs, rfl, _⟩ := okWide_struct Tryz.underlying58 hval
  obtain ⟨fuel, hf⟩ := h
  obtain ⟨d, h1, h2⟩ := open_Call hf
  refine ⟨d, ?_, h2⟩
  simp only [Value.cells] at h1
  unfold vCall
  congr 1
  exact Array.toList_inj.1 h1
set_option maxRecDepth 100000 in
theorem open_Version {n : Nat} {cs : List Value} {x : DataW H × List MemPlace} (h : DataW.trod enc Tryz.prog W 0 (fun _ => true) true n 24 cs = some x) : ∃ d : VersionD, cs = cVersion d ∧ okVersion d := by
  obtain ⟨xs, m, rfl, _, hl, hn, hf⟩ := DataW.trod_struct Tryz.underlying24 h
  rw [show Tryz.prog.cellsOf 24 = 2 by kernel_rfl] at hl
  obtain ⟨c0, c1, rfl⟩ := two_of hl
  obtain ⟨y0, k0⟩ := field_one hn hf 0 _ 3 0 _ _ rfl rfl rfl (by kernel_rfl) rfl
  obtain ⟨y1, k1⟩ := field_one hn hf 1 _ 3 1 _ _ rfl rfl rfl (by kernel_rfl) rfl
  obtain ⟨l0, rfl, b0⟩ := leaf_int Tryz.underlying3 k0
  obtain ⟨l1, rfl, b1⟩ := leaf_int Tryz.underlying3 k1
  exact ⟨⟨l0, l1⟩, rfl, b0, b1⟩
set_option maxRecDepth 100000 in
theorem arg_Version {base : Nat} {v : Value} {d : DataW H} {p : List MemPlace} (hval : Value.okWide Tryz.prog W .any base 24 v) (h : DataW.Trod enc Tryz.prog W 0 (fun _ => true) true 24 v d p) : ∃ d : VersionD, v = vVersion d ∧ okVersion d := by
  obtain ⟨cs, rfl, _⟩ := okWide_struct Tryz.underlying24 hval
  obtain ⟨fuel, hf⟩ := h
  obtain ⟨d, h1, h2⟩ := open_Version hf
  refine ⟨d, ?_, h2⟩
  simp only [Value.cells] at h1
  unfold vVersion
  congr 1
  exact Array.toList_inj.1 h1
end
end Go.Proofs.YtlkpinlkbikokabGreat
/- Arguments opened: slices of structs that hold rows themselves. -/
namespace Go.Proofs.YtlkpinlkbikokabGreat
set_option linter.unusedVariables false
open Go.ChangeShapes Go.WideShapes Go.ChangeAt Go.RowKit Go.WideMaps Go.WideElems
open Go.Deep
section
variable {H : Type} {enc : TypeId × Value → H} {P : Program} {W : World}
theorem open_deep {α : Type} [Inhabited α] {R : Nat → World → List Value → α → Prop} {k : Nat} {G : α → Prop} (hg : Good R k) (hk0 : 0 < k) {t e : TypeId} {n : Nat} {v : Value} {x : DataW H × List MemPlace} (ht : P.underlying t = some (.slice e)) (hc : P.cellsOf e = k)
    (hel : ∀ n cs x, DataW.trod enc P W 0 (fun _ => true) true n e cs = some x → ∃ d, R 0 W cs d ∧ G d) (h : DataW.trod enc P W 0 (fun _ => true) true n t [v] = some x) :
    ∃ l : List α, SliceAt R k 0 W v l ∧ ∀ d ∈ l, G d := by
  rcases open_slice ht h with ⟨h0, _⟩ | ⟨a, len, cap, m, n', D, Pl, hcs, _, hl, hm, hmm, _, hx⟩
  · injection h0 with h0
    subst h0
    exact ⟨[], sliceAt_nil _ _, by simp⟩
  · injection hcs with hcs
    subst hcs
    simp only [if_true] at hmm
    subst hmm
    obtain ⟨F, hF⟩ := choose_lt (α := α) (p := fun i d => (∃ cs, R 0 W cs d ∧ ∀ j, j < k → W.cell? ((a.add (i * k)).add j) = cs[j]?) ∧ G d) (n := m) (fun i hi => by
      obtain ⟨cs', h1, h2⟩ := hx i hi
      obtain ⟨d, hr, hg2⟩ := hel _ _ _ h2
      rw [hc] at h1
      obtain ⟨_, _, h3⟩ := World.cells?_some h1
      exact ⟨d, ⟨cs', hr, h3⟩, hg2⟩)
    refine ⟨(List.range len).map F, ?_, ?_⟩
    · obtain ⟨ab, ao, spot⟩ := a
      refine ⟨some ⟨ab, ao, spot⟩, m - len, by simp; omega, by simp; omega, ?_⟩
      rcases Nat.eq_zero_or_pos len with h0 | hpos
      · left; simp [h0]
      · right
        obtain ⟨cs0, r0, g0⟩ := (hF 0 (by omega)).1
        have g0 := g0 0 hk0
        have hlen0 : 0 < cs0.length := by rw [hg.len r0]; exact hk0
        rw [List.getElem?_eq_getElem hlen0] at g0
        have hspot : spot = none := by
          have := World.cell?_spot g0
          simpa [Addr.add] using this
        subst hspot
        have hlt : ab < W.heap.size := by
          simp only [Addr.add_lit, Nat.zero_mul, Nat.add_zero] at g0
          exact World.block_lt_of_cell? W _ g0
        refine ⟨ab, ao, rfl, Nat.zero_le _, hlt, fun i hi => ?_⟩
        have hi2 : i < len := by simpa using hi
        obtain ⟨cs, r1, g1⟩ := (hF i (by omega)).1
        refine ⟨cs, by simpa using r1, fun j hj => ?_⟩
        have h2 := g1 j hj
        rw [Addr.add_lit, Addr.add_lit] at h2
        exact h2
    · intro d hd
      obtain ⟨i, hi, rfl⟩ := List.mem_map.1 hd
      exact (hF i (by have := List.mem_range.1 hi; omega)).2
end
end Go.Proofs.YtlkpinlkbikokabGreat
namespace Go.Proofs.YtlkpinlkbikokabGreat
set_option linter.unusedVariables false
open Go.ChangeShapes Go.WideShapes Go.ChangeAt Go.RowKit Go.WideMaps Go.WideElems
open Go.Deep
theorem belEvent {w w' : World} {cs : List Value} {x : EventD} {F B : Nat} (h : rEvent F w cs x) (hb : Below B w w') (hB : w.heap.size ≤ B) : rEvent F w' cs x := goodEvent.keep h (kept_below hb hB)
theorem seven_of {α : Type} {l : List α} (h : l.length = 7) : ∃ a b c d e f g, l = [a, b, c, d, e, f, g] := by match l, h with | [a, b, c, d, e, f, g], _ => exact ⟨a, b, c, d, e, f, g, rfl⟩
section
variable {H : Type} {enc : TypeId × Value → H} {W : World}
theorem openS_StrE {n : Nat} {v : Value} {x : DataW H × List MemPlace} (h : DataW.trod enc Tryz.prog W 0 (fun _ => true) true n 22 [v] = some x) : ∃ l : List (List UInt8), FlatAt cStr 1 W v l ∧ ∀ s ∈ l, s.length ≤ maxLen :=
  open_flat cStr_len (by decide) Tryz.underlying22 (by kernel_rfl) (fun n cs x h => by
    have h2 := h
    obtain ⟨s, h1, _, h3⟩ := DataW.trod_string Tryz.underlying9 h2
    exact ⟨s.data.toList, by rw [h1]; simp [cStr, strV], by rw [Array.length_toList]; exact h3⟩) h
set_option maxRecDepth 100000 in
theorem openR_Event {n : Nat} {cs : List Value} {x : DataW H × List MemPlace} (h : DataW.trod enc Tryz.prog W 0 (fun _ => true) true n 60 cs = some x) : ∃ d : EventD, rEvent 0 W cs d ∧ okEvent d := by
  obtain ⟨xs, m, rfl, _, hl, hn, hf⟩ := DataW.trod_struct Tryz.underlying60 h
  rw [show Tryz.prog.cellsOf 60 = 7 by kernel_rfl] at hl
  obtain ⟨c0, c1, c2, c3, c4, c5, c6, rfl⟩ := seven_of hl
  obtain ⟨y0, k0⟩ := field_one hn hf 0 _ 3 0 _ _ rfl rfl rfl (by kernel_rfl) rfl
  obtain ⟨y1, k1⟩ := field_one hn hf 1 _ 9 1 _ _ rfl rfl rfl (by kernel_rfl) rfl
  obtain ⟨y2, k2⟩ := field_at hn hf 2 _ rfl
  have k2 : DataW.trod enc Tryz.prog W 0 (fun _ => true) true m 58 [c2, c3, c4, c5] = some y2 := by
    have e : Tryz.prog.cellsOf 58 = 4 := by kernel_rfl
    simpa [e] using k2
  obtain ⟨y3, k3⟩ := field_one hn hf 3 _ 22 6 _ _ rfl rfl rfl (by kernel_rfl) rfl
  obtain ⟨l0, rfl, b0⟩ := leaf_int Tryz.underlying3 k0
  obtain ⟨l1, rfl, b1⟩ := leaf_str Tryz.underlying9 k1
  obtain ⟨⟨v0, v1, v2, v3⟩, e2, b2⟩ := open_Call k2
  obtain ⟨l6, b6, g6⟩ := openS_StrE k3
  simp only [cCall] at e2
  injection e2 with e2 e3
  injection e3 with e3 e4
  injection e4 with e4 e5
  injection e5 with e5 _
  subst e2 e3 e4 e5
  exact ⟨⟨l0, l1, ⟨v0, v1, v2, v3⟩, l6⟩, ⟨c6, rfl, sliceAt_of_flat cStr_len b6⟩, b0, b1, b2, g6⟩
set_option maxRecDepth 100000 in
theorem arg_Event {base : Nat} {v : Value} {d : DataW H} {p : List MemPlace} (hval : Value.okWide Tryz.prog W .any base 60 v) (h : DataW.Trod enc Tryz.prog W 0 (fun _ => true) true 60 v d p) : ∃ d : EventD, ValAt rEvent 0 W v d ∧ okEvent d := by
  obtain ⟨cs, rfl, _⟩ := okWide_struct Tryz.underlying60 hval
  obtain ⟨fuel, hf⟩ := h
  obtain ⟨d, h1, h2⟩ := openR_Event hf
  exact ⟨d, ⟨cs.toList, by simp, h1⟩, h2⟩
end
end Go.Proofs.YtlkpinlkbikokabGreat
