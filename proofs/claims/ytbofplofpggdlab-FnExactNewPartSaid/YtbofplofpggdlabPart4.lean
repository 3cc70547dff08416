/- Contracts of chapter 4: NewPart, both sides; what marks do to a part without rows. -/
import Derived.Test.YtbofplofpggdlabDPart
import Derived.Test.YtbofplofpggdlabCore5
namespace Go.Proofs.Ytbofplofpggdlab
set_option linter.unusedVariables false
set_option linter.unusedSimpArgs false
open Go.RowKit
def nmK (l : List UInt8) : List UInt8 := if 0 ≤ kindI l then l else []
theorem newCore_is (l : List UInt8) : newCoreD l = ⟨nmK l, false, false, [], 0⟩ := by unfold newCoreD nmK; split <;> rfl
def vNP (l : List UInt8) (a : Option Addr) (c : Nat) : Value := .agg #[.string ⟨(nmK l).toArray⟩, .bool false, .bool false, .slice a 0 c, .int .i64 0, .slice none 0 0]
def GivesNP (l : List UInt8) (w : World) (e : Ending) (w' : World) : Prop := ∃ a c, e = .returned (.tuple #[vNP l a c, .bool (decide (0 ≤ kindI l))]) ∧ Below w.heap.size w w'
theorem flat_none {α : Type} (f : α → List Value) (k : Nat) (w : World) (a : Option Addr) (c : Nat) : FlatAt f k w (.slice a 0 c) ([] : List α) := ⟨a, c, rfl, by simp, Nat.zero_le _, Or.inl rfl⟩
theorem slice_none {α : Type} (R : Nat → World → List Value → α → Prop) (k F : Nat) (w : World) (a : Option Addr) (c : Nat) : SliceAt R k F w (.slice a 0 c) ([] : List α) := ⟨a, c, rfl, Nat.zero_le _, Or.inl rfl⟩
set_option maxRecDepth 100000 in
set_option maxHeartbeats 1600000 in
theorem implNewPart_any (s : ByteArray) (w : World) (hs : s.size ≤ 1048576) :
    Calls Try.prog 17 #[.string s] w fun e w' => GivesNP s.data.toList w e w' := by
  have HC := Lib.hid (fun w0 => new_cells (implNewCore_any s w0 hs))
  have HS := Lib.hid (bx_start1 w [.string ⟨#[]⟩, .bool false, .bool false, .slice none 0 0, .int .i64 0, .slice none 0 0] 35)
  unfold GivesNP vNP
  simp only [newCore_is, vCore] at HC
  generalize nmK s.data.toList = n at *
  generalize decide (0 ≤ kindI s.data.toList) = b at *
  clear hs
  go_enter Try.func17, Try.ntmps17
  go_wp2_with fail
  refine (HC.out _).mono ?_
  rintro e w1 ⟨cv, rfl, ho, hb⟩
  obtain ⟨a, c, rfl, _⟩ := flatAt_len (ownsF_at ho (by simp))
  have BN := Lib.hid (HS.out.1.below hb)
  have HB := Lib.hid (belS HS.out.2 hb)
  clear ho hb
  have e0 := BN.out.cell 0 (by simp)
  have e1 := BN.out.cell 1 (by simp)
  have e2 := BN.out.cell 2 (by simp)
  have e3 := BN.out.cell 3 (by simp)
  have e4 := BN.out.cell 4 (by simp)
  have e5 := BN.out.cell 5 (by simp)
  have f0 := BN.out.froz 0 (by simp)
  have f1 := BN.out.froz 1 (by simp)
  have f2 := BN.out.froz 2 (by simp)
  have f3 := BN.out.froz 3 (by simp)
  have f4 := BN.out.froz 4 (by simp)
  have f5 := BN.out.froz 5 (by simp)
  have hl := BN.out.lt
  simp only [List.getElem_cons_zero, List.getElem_cons_succ] at e0 e1 e2 e3 e4 e5
  go_wp2_with fail
  clear e0 e1 e2 e3 e4 e5 f0 f1 f2 f3 f4 f5 hl
  have BN := Lib.hid (BN.out.set 0 (by simp) (.string ⟨n.toArray⟩))
  have HB := Lib.hid (HB.out.setCell (p := ⟨w.heap.size, 0, none⟩) (by simp) (.string ⟨n.toArray⟩))
  have BN := Lib.hid (BN.out.set 1 (by simp) (.bool false))
  have HB := Lib.hid (HB.out.setCell (p := ⟨w.heap.size, 1, none⟩) (by simp) (.bool false))
  have BN := Lib.hid (BN.out.set 2 (by simp) (.bool false))
  have HB := Lib.hid (HB.out.setCell (p := ⟨w.heap.size, 2, none⟩) (by simp) (.bool false))
  have BN := Lib.hid (BN.out.set 3 (by simp) (.slice a 0 c))
  have HB := Lib.hid (HB.out.setCell (p := ⟨w.heap.size, 3, none⟩) (by simp) (.slice a 0 c))
  have BN := Lib.hid (BN.out.set 4 (by simp) (.int .i64 0))
  have HB := Lib.hid (HB.out.setCell (p := ⟨w.heap.size, 4, none⟩) (by simp) (.int .i64 0))
  have BN := Lib.hid (BN.out.set 5 (by simp) (.slice none 0 0))
  have HB := Lib.hid (HB.out.setCell (p := ⟨w.heap.size, 5, none⟩) (by simp) (.slice none 0 0))
  have BN := Lib.hid (BN.out.alloc (.cells #[.string ⟨n.toArray⟩, .bool false, .bool false, .slice a 0 c, .int .i64 0] 32))
  have HB := Lib.hid (belS HB.out (bx_box _ (.cells #[.string ⟨n.toArray⟩, .bool false, .bool false, .slice a 0 c, .int .i64 0] 32)))
  simp only [List.set_cons_zero, List.set_cons_succ] at BN
  generalize (((((((w1).setCell ⟨w.heap.size, 0, none⟩ (.string ⟨n.toArray⟩)).setCell ⟨w.heap.size, 1, none⟩ (.bool false)).setCell ⟨w.heap.size, 2, none⟩ (.bool false)).setCell ⟨w.heap.size, 3, none⟩ (.slice a 0 c)).setCell ⟨w.heap.size, 4, none⟩ (.int .i64 0)).setCell ⟨w.heap.size, 5, none⟩ (.slice none 0 0)).alloc (.cells #[.string ⟨n.toArray⟩, .bool false, .bool false, .slice a 0 c, .int .i64 0] 32) = WE at *
  have e0 := BN.out.cell 0 (by simp)
  have e1 := BN.out.cell 1 (by simp)
  have e2 := BN.out.cell 2 (by simp)
  have e3 := BN.out.cell 3 (by simp)
  have e4 := BN.out.cell 4 (by simp)
  have e5 := BN.out.cell 5 (by simp)
  simp only [List.getElem_cons_zero, List.getElem_cons_succ] at e0 e1 e2 e3 e4 e5
  exact bodyPost_ret (v := .tuple #[.agg #[.string ⟨n.toArray⟩, .bool false, .bool false, .slice a 0 c, .int .i64 0, .slice none 0 0], .bool b]) (by simp [results, Try.results17, go_sem, e0, e1, e2, e3, e4, e5]) rfl ⟨a, c, rfl, HB.out⟩
set_option maxRecDepth 100000 in
set_option maxHeartbeats 1600000 in
theorem specNewPart_any (s : ByteArray) (w : World) (hs : s.size ≤ 1048576) :
    Calls Try.prog 16 #[.string s] w fun e w' => GivesNP s.data.toList w e w' := by
  have HC := Lib.hid (fun w0 => new_cells (specNewCore_any s w0 hs))
  have HS := Lib.hid (bx_start1 w [.string ⟨#[]⟩, .bool false, .bool false, .slice none 0 0, .int .i64 0, .slice none 0 0] 35)
  unfold GivesNP vNP
  simp only [newCore_is, vCore] at HC
  generalize nmK s.data.toList = n at *
  generalize decide (0 ≤ kindI s.data.toList) = b at *
  clear hs
  go_enter Try.func16, Try.ntmps16
  go_wp2_with fail
  refine (HC.out _).mono ?_
  rintro e w1 ⟨cv, rfl, ho, hb⟩
  obtain ⟨a, c, rfl, _⟩ := flatAt_len (ownsF_at ho (by simp))
  have BN := Lib.hid (HS.out.1.below hb)
  have HB := Lib.hid (belS HS.out.2 hb)
  clear ho hb
  have e0 := BN.out.cell 0 (by simp)
  have e1 := BN.out.cell 1 (by simp)
  have e2 := BN.out.cell 2 (by simp)
  have e3 := BN.out.cell 3 (by simp)
  have e4 := BN.out.cell 4 (by simp)
  have e5 := BN.out.cell 5 (by simp)
  have f0 := BN.out.froz 0 (by simp)
  have f1 := BN.out.froz 1 (by simp)
  have f2 := BN.out.froz 2 (by simp)
  have f3 := BN.out.froz 3 (by simp)
  have f4 := BN.out.froz 4 (by simp)
  have f5 := BN.out.froz 5 (by simp)
  have hl := BN.out.lt
  simp only [List.getElem_cons_zero, List.getElem_cons_succ] at e0 e1 e2 e3 e4 e5
  go_wp2_with fail
  clear e0 e1 e2 e3 e4 e5 f0 f1 f2 f3 f4 f5 hl
  have BN := Lib.hid (BN.out.set 0 (by simp) (.string ⟨n.toArray⟩))
  have HB := Lib.hid (HB.out.setCell (p := ⟨w.heap.size, 0, none⟩) (by simp) (.string ⟨n.toArray⟩))
  have BN := Lib.hid (BN.out.set 1 (by simp) (.bool false))
  have HB := Lib.hid (HB.out.setCell (p := ⟨w.heap.size, 1, none⟩) (by simp) (.bool false))
  have BN := Lib.hid (BN.out.set 2 (by simp) (.bool false))
  have HB := Lib.hid (HB.out.setCell (p := ⟨w.heap.size, 2, none⟩) (by simp) (.bool false))
  have BN := Lib.hid (BN.out.set 3 (by simp) (.slice a 0 c))
  have HB := Lib.hid (HB.out.setCell (p := ⟨w.heap.size, 3, none⟩) (by simp) (.slice a 0 c))
  have BN := Lib.hid (BN.out.set 4 (by simp) (.int .i64 0))
  have HB := Lib.hid (HB.out.setCell (p := ⟨w.heap.size, 4, none⟩) (by simp) (.int .i64 0))
  have BN := Lib.hid (BN.out.set 5 (by simp) (.slice none 0 0))
  have HB := Lib.hid (HB.out.setCell (p := ⟨w.heap.size, 5, none⟩) (by simp) (.slice none 0 0))
  have BN := Lib.hid (BN.out.alloc (.cells #[.string ⟨n.toArray⟩, .bool false, .bool false, .slice a 0 c, .int .i64 0] 32))
  have HB := Lib.hid (belS HB.out (bx_box _ (.cells #[.string ⟨n.toArray⟩, .bool false, .bool false, .slice a 0 c, .int .i64 0] 32)))
  simp only [List.set_cons_zero, List.set_cons_succ] at BN
  generalize (((((((w1).setCell ⟨w.heap.size, 0, none⟩ (.string ⟨n.toArray⟩)).setCell ⟨w.heap.size, 1, none⟩ (.bool false)).setCell ⟨w.heap.size, 2, none⟩ (.bool false)).setCell ⟨w.heap.size, 3, none⟩ (.slice a 0 c)).setCell ⟨w.heap.size, 4, none⟩ (.int .i64 0)).setCell ⟨w.heap.size, 5, none⟩ (.slice none 0 0)).alloc (.cells #[.string ⟨n.toArray⟩, .bool false, .bool false, .slice a 0 c, .int .i64 0] 32) = WE at *
  have e0 := BN.out.cell 0 (by simp)
  have e1 := BN.out.cell 1 (by simp)
  have e2 := BN.out.cell 2 (by simp)
  have e3 := BN.out.cell 3 (by simp)
  have e4 := BN.out.cell 4 (by simp)
  have e5 := BN.out.cell 5 (by simp)
  simp only [List.getElem_cons_zero, List.getElem_cons_succ] at e0 e1 e2 e3 e4 e5
  exact bodyPost_ret (v := .tuple #[.agg #[.string ⟨n.toArray⟩, .bool false, .bool false, .slice a 0 c, .int .i64 0, .slice none 0 0], .bool b]) (by simp [results, Try.results16, go_sem, e0, e1, e2, e3, e4, e5]) rfl ⟨a, c, rfl, HB.out⟩
theorem np_at (l : List UInt8) (a : Option Addr) (c : Nat) (w : World) : ValAt rPart 0 w (vNP l a c) ⟨⟨nmK l, false, false, [], 0⟩, []⟩ := ⟨_, rfl, _, _, rfl, slice_none _ _ _ _ _ _, slice_none _ _ _ _ _ _⟩
set_option maxHeartbeats 400000 in
theorem markCells_none (a : Option Addr) (c : Nat) (k : Int) (w : World) : Calls Try.prog 75 #[.slice a 0 c, .int .i64 k] w fun e w' => e = .returned (.int .i64 k) ∧ w = w' := by
  go_enter Try.func75, Try.ntmps75
  go_wp2_with fail
  refine wp_loop_rounds 1 ?_
  rw [rounds_succ]
  go_wp2_with fail
  go_ret
  exact ⟨rfl, rfl⟩
set_option maxHeartbeats 400000 in
theorem markLayers_none (a : Option Addr) (c : Nat) (k : Int) (w : World) : Calls Try.prog 49 #[.slice a 0 c, .int .i64 k] w fun e w' => e = .returned (.int .i64 k) ∧ w = w' := by
  go_enter Try.func49, Try.ntmps49
  go_wp2_with fail
  refine wp_loop_rounds 1 ?_
  rw [rounds_succ]
  go_wp2_with fail
  go_ret
  exact ⟨rfl, rfl⟩
set_option maxHeartbeats 800000 in
theorem markNP_any (l : List UInt8) (a : Option Addr) (c : Nat) (k : Int) (w : World) : Calls Try.prog 18 #[vNP l a c, .int .i64 k] w fun e w' => e = .returned (.int .i64 k) ∧ Below w.heap.size w w' := by
  unfold vNP
  generalize nmK l = n at *
  have HC := Lib.hid (fun w1 => show Calls Try.prog 48 #[.agg #[.string ⟨n.toArray⟩, .bool false, .bool false, .slice a 0 c, .int .i64 0], .int .i64 k] w1 fun e w' => e = .returned (.int .i64 k) ∧ Below w1.heap.size w1 w' from by
    go_enter Try.func48, Try.ntmps48
    go_wp2_with fail
    refine (markCells_none a c k _).mono ?_
    rintro e w2 ⟨rfl, rfl⟩
    go_wp2_with fail
    go_ret
    exact ⟨rfl, bx_box w1 _⟩)
  have HS := Lib.hid (bx_start1 w [.string ⟨n.toArray⟩, .bool false, .bool false, .slice a 0 c, .int .i64 0, .slice none 0 0] 35)
  go_enter Try.func18, Try.ntmps18
  go_wp2_with fail
  refine (HC.out _).mono ?_
  rintro e w1 ⟨rfl, hb⟩
  have BN := Lib.hid (HS.out.1.below hb)
  have HB := Lib.hid (belS HS.out.2 hb)
  clear hb
  have e5 := BN.out.cell 5 (by simp)
  simp only [List.getElem_cons_zero, List.getElem_cons_succ] at e5
  go_wp2_with fail
  refine (markLayers_none none 0 k _).mono ?_
  rintro e w2 ⟨rfl, rfl⟩
  go_wp2_with fail
  go_ret
  exact ⟨rfl, HB.out⟩
set_option maxHeartbeats 800000 in
theorem heldNP_any (l : List UInt8) (a : Option Addr) (c : Nat) (w : World) : Calls Try.prog 19 #[vNP l a c, .int .i64 1] w fun e w' => e = .returned (.int .i64 1) ∧ Below w.heap.size w w' := by
  unfold vNP
  generalize nmK l = n at *
  have HC := Lib.hid (fun w1 => (heldCore_any (.agg #[.string ⟨n.toArray⟩, .bool false, .bool false, .slice a 0 c, .int .i64 0]) ⟨n, false, false, [], 0⟩ 0 1 w1 ⟨.slice a 0 c, rfl, flat_none _ _ _ _ _⟩ (by decide) (by decide) (by decide)).mono fun e w' h => (show e = .returned (.int .i64 1) ∧ Below w1.heap.size w1 w' from by simpa using h))
  have HL := Lib.hid (fun w1 => (heldLayerS_any (.slice none 0 0) 0 1 w1 (flat_none _ _ _ _ _) (by decide) (by decide) (by decide)).mono fun e w' h => (show e = .returned (.int .i64 1) ∧ Below w1.heap.size w1 w' from by simpa using h))
  have HS := Lib.hid (bx_start1 w [.string ⟨n.toArray⟩, .bool false, .bool false, .slice a 0 c, .int .i64 0, .slice none 0 0] 35)
  go_enter Try.func19, Try.ntmps19
  go_wp2_with fail
  refine (HC.out _).mono ?_
  rintro e w1 ⟨rfl, hb⟩
  have BN := Lib.hid (HS.out.1.below hb)
  have HB := Lib.hid (belS HS.out.2 hb)
  clear hb
  have e5 := BN.out.cell 5 (by simp)
  simp only [List.getElem_cons_zero, List.getElem_cons_succ] at e5
  go_wp2_with fail
  refine (HL.out _).mono ?_
  rintro e w2 ⟨rfl, hb⟩
  have HB := Lib.hid (belS HB.out hb)
  clear hb
  go_wp2_with fail
  go_ret
  exact ⟨rfl, HB.out⟩
end Go.Proofs.Ytbofplofpggdlab
