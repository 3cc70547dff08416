/- The draws of chapter 5. -/
import Derived.Test.YtbjkalnahckfnabDraw
import Derived.Test.YtbjkalnahckfnabVar2
import Derived.Test.YtbjkalnahckfnabVerP
namespace Go.Proofs.Ytbjkalnahckfnab
set_option linter.unusedVariables false
open Go.RowKit
def I64p (x : Int) : Prop := -9223372036854775808 ≤ x ∧ x ≤ 9223372036854775807
def okV (d : VersionD) : Prop := I64p d.fMajor ∧ I64p d.fMinor
def DrawnVer (b : Nat) (v : Value) (l : List UInt8) (w : World) (e : Ending) (w' : World) : Prop := ∃ d : VersionD, e = .returned (vVersion d) ∧ okV d ∧ w.grownBy w' (some b) ∧ Cur w' b v l
def GivesVerD (w : World) (e : Ending) (w' : World) : Prop := ∃ d : VersionD, e = .returned (vVersion d) ∧ okV d ∧ Below w.heap.size w w'
def GivesVers (w : World) (e : Ending) (w' : World) : Prop := ∃ d c : VersionD, e = .returned (.tuple #[vVersion d, vVersion c]) ∧ okV d ∧ okV c ∧ Below w.heap.size w w'
theorem okV_of {x y : Int} (h : I64p x) (k : I64p y) : okV ⟨x, y⟩ := ⟨h, k⟩
theorem grown_setN {a w : World} {r : Option Nat} (h : a.grownBy w r) {c : Nat} (hc : a.heap.size ≤ c) (i : Nat) (u : Value) : a.grownBy (w.setCell ⟨c, i, none⟩ u) r :=
  ⟨h.os, h.tape, h.output, by simpa using h.size, fun k hk hne => by
    have := (grown_set (grown_refl w (some c)) i u).block k (Nat.lt_of_lt_of_le hk h.size) (by intro e; injection e with e; omega)
    rw [this]; exact h.block k hk hne⟩
theorem grown_var {a w : World} {r : Option Nat} (h : a.grownBy w r) {c : Nat} (hc : a.heap.size ≤ c) (x y : Int) : a.grownBy ((w.setCell ⟨c, 0, none⟩ (.int .i64 x)).setCell ⟨c, 1, none⟩ (.int .i64 y)) r := grown_setN (grown_setN h hc 0 _) hc 1 _
theorem cur_set {w : World} {b c : Nat} {v : Value} {l : List UInt8} (hC : Cur w b v l) (hb : b < c) (i : Nat) (u : Value) : Cur (w.setCell ⟨c, i, none⟩ u) b v l := hC.far (grown_set (grown_refl w (some c)) i u) hb
theorem cur_var {w : World} {b c : Nat} {v : Value} {l : List UInt8} (hC : Cur w b v l) (hb : b < c) (x y : Int) : Cur ((w.setCell ⟨c, 0, none⟩ (.int .i64 x)).setCell ⟨c, 1, none⟩ (.int .i64 y)) b v l := cur_set (cur_set hC hb 0 _) hb 1 _
set_option maxHeartbeats 400000 in
theorem l5Draw_any (b : Nat) (v : Value) (l : List UInt8) (w : World) (hC : Cur w b v l) :
    Calls Try.prog 61 #[.pointer (some ⟨b, 0, none⟩)] w fun e w' => DrawnVer b v l w e w' := by
  have HL := Lib.hid hC.lt
  have HC0 := Lib.hid (cur_alloc hC (.cells #[.int .i64 0, .int .i64 0] 25))
  have HV0 := Lib.hid (Var2.new w 0 0 25)
  have HG0 := Lib.hid (grown_alloc (grown_refl w (some b)) (.cells #[.int .i64 0, .int .i64 0] 25))
  clear hC
  go_enter Try.func61, Try.ntmps61
  go_wp2_with fail
  refine (l1Below_any b v l _ _ HC0.out (by omega) (by omega)).mono ?_
  rintro e w1 ⟨x, rfl, ⟨h0, h1, h2⟩, hg, hC⟩
  have h3 := h2 (by omega)
  have HG1 := Lib.hid (grown_trans HG0.out hg)
  have HC1 := Lib.hid hC
  have HV1 := Lib.hid (HV0.out.grown hg (by intro e; injection e with e; have := HL.out; omega))
  clear hg hC h2
  go_wp2_with fail
  refine (l1Below_any b v l _ _ HC1.out (by omega) (by omega)).mono ?_
  rintro e w2 ⟨y, rfl, ⟨k0, k1, k2⟩, hg, hC⟩
  have k3 := k2 (by omega)
  have HG2 := Lib.hid (grown_trans HG1.out hg)
  have HC2 := Lib.hid hC
  have HV2 := Lib.hid (HV1.out.grown hg (by intro e; injection e with e; have := HL.out; omega))
  clear hg hC k2
  obtain ⟨hl, c0, c1, f0, f1⟩ := HV2.out
  go_wp2_with fail
  refine bodyPost_ret (v := .agg #[.int .i64 x, .int .i64 y]) (by simp [results, Try.results61, go_sem, c0, c1]) rfl ⟨⟨x, y⟩, rfl, okV_of ⟨by omega, by omega⟩ ⟨by omega, by omega⟩, grown_var HG2.out (Nat.le_refl _) x y, cur_var HC2.out HL.out x y⟩
set_option maxHeartbeats 800000 in
theorem l5Any_any (b : Nat) (v : Value) (l : List UInt8) (w : World) (hC : Cur w b v l) :
    Calls Try.prog 50 #[.pointer (some ⟨b, 0, none⟩)] w fun e w' => DrawnVer b v l w e w' := by
  have HL := Lib.hid hC.lt
  have HC0 := Lib.hid (cur_alloc hC (.cells #[.int .i64 0, .int .i64 0] 25))
  have HV0 := Lib.hid (Var2.new w 0 0 25)
  have HG0 := Lib.hid (grown_alloc (grown_refl w (some b)) (.cells #[.int .i64 0, .int .i64 0] 25))
  clear hC
  go_enter Try.func50, Try.ntmps50
  go_wp2_with fail
  refine (l5Draw_any b v l _ HC0.out).mono ?_
  rintro e w1 ⟨⟨x, y⟩, rfl, hok, hg, hC⟩
  have HW := Lib.hid (show w.heap.size + 1 ≤ w1.heap.size by have := hg.size; simpa using this)
  have HG1 := Lib.hid (grown_alloc (grown_trans HG0.out hg) (.cells #[.int .i64 x, .int .i64 y] 25))
  have HC1 := Lib.hid (cur_alloc hC (.cells #[.int .i64 x, .int .i64 y] 25))
  have HV1 := Lib.hid ((HV0.out.grown hg (by intro e; injection e with e; have := HL.out; omega)).alloc (.cells #[.int .i64 x, .int .i64 y] 25))
  have HU1 := Lib.hid (Var2.new w1 x y 25)
  clear hg hC
  unfold vVersion
  simp only
  go_wp2_with fail
  refine (l1Once_any b v l _ _ HC1.out (by omega) (by omega)).mono ?_
  rintro e w2 ⟨q, rfl, hg, hC⟩
  have HG2 := Lib.hid (grown_trans HG1.out hg)
  have HC2 := Lib.hid hC
  have HV2 := Lib.hid (HV1.out.grown hg (by intro e; injection e with e; have := HL.out; omega))
  have HU2 := Lib.hid (HU1.out.grown hg (by intro e; injection e with e; have := HL.out; have := HW.out; omega))
  clear hg hC HG0 HC0 HV0 HG1 HC1 HV1 HU1
  cases q
  · go_wp2_with fail
    refine (l1Once_any b v l _ _ HC2.out (by omega) (by omega)).mono ?_
    rintro e w3 ⟨q, rfl, hg, hC⟩
    have HG3 := Lib.hid (grown_trans HG2.out hg)
    have HC3 := Lib.hid hC
    have HV3 := Lib.hid (HV2.out.grown hg (by intro e; injection e with e; have := HL.out; omega))
    have HU3 := Lib.hid (HU2.out.grown hg (by intro e; injection e with e; have := HL.out; have := HW.out; omega))
    clear hg hC HG2 HC2 HV2 HU2
    cases q
    · obtain ⟨vl, c0, c1, f0, f1⟩ := HV3.out
      obtain ⟨ul, u0, u1, uf0, uf1⟩ := HU3.out
      go_wp2_with fail
      refine bodyPost_ret (v := .agg #[.int .i64 x, .int .i64 y]) (by simp [results, Try.results50, go_sem, c0, c1]) rfl ⟨⟨x, y⟩, rfl, okV_of hok.1 hok.2, grown_var HG3.out (Nat.le_refl _) x y, cur_var HC3.out HL.out x y⟩
    · go_wp2_with fail
      refine (l1Odd_any b v l _ HC3.out).mono ?_
      rintro e w4 ⟨z3, rfl, ⟨z3a, z3b⟩, hg, hC⟩
      have HG4 := Lib.hid (grown_trans HG3.out hg)
      have HC4 := Lib.hid hC
      have HV4 := Lib.hid (HV3.out.grown hg (by intro e; injection e with e; have := HL.out; omega))
      have HU4 := Lib.hid (HU3.out.grown hg (by intro e; injection e with e; have := HL.out; have := HW.out; omega))
      clear hg hC HG3 HC3 HV3 HU3
      obtain ⟨ul, u0, u1, uf0, uf1⟩ := HU4.out
      have HG5 := Lib.hid (grown_setN HG4.out (show w.heap.size ≤ w1.heap.size by have := HW.out; omega) 0 (.int .i64 z3))
      have HC5 := Lib.hid (cur_set HC4.out (show b < w1.heap.size by have := HL.out; have := HW.out; omega) 0 (.int .i64 z3))
      have HV5 := Lib.hid (HV4.out.one (show w.heap.size ≠ w1.heap.size by have := HW.out; omega) 0 (.int .i64 z3))
      have HU5 := Lib.hid (HU4.out.set0 z3)
      clear HG4 HC4 HV4 HU4
      obtain ⟨vl, c0, c1, f0, f1⟩ := HV5.out
      obtain ⟨ul, u0, u1, uf0, uf1⟩ := HU5.out
      go_wp2_with fail
      refine bodyPost_ret (v := .agg #[.int .i64 z3, .int .i64 y]) (by simp [results, Try.results50, go_sem, c0, c1]) rfl ⟨⟨z3, y⟩, rfl, okV_of ⟨z3a, z3b⟩ hok.2, grown_var HG5.out (Nat.le_refl _) z3 y, cur_var HC5.out HL.out z3 y⟩
  · go_wp2_with fail
    refine (l1Odd_any b v l _ HC2.out).mono ?_
    rintro e w3 ⟨z2, rfl, ⟨z2a, z2b⟩, hg, hC⟩
    have HG3 := Lib.hid (grown_trans HG2.out hg)
    have HC3 := Lib.hid hC
    have HV3 := Lib.hid (HV2.out.grown hg (by intro e; injection e with e; have := HL.out; omega))
    have HU3 := Lib.hid (HU2.out.grown hg (by intro e; injection e with e; have := HL.out; have := HW.out; omega))
    clear hg hC HG2 HC2 HV2 HU2
    obtain ⟨ul, u0, u1, uf0, uf1⟩ := HU3.out
    have HG4 := Lib.hid (grown_setN HG3.out (show w.heap.size ≤ w1.heap.size by have := HW.out; omega) 1 (.int .i64 z2))
    have HC4 := Lib.hid (cur_set HC3.out (show b < w1.heap.size by have := HL.out; have := HW.out; omega) 1 (.int .i64 z2))
    have HV4 := Lib.hid (HV3.out.one (show w.heap.size ≠ w1.heap.size by have := HW.out; omega) 1 (.int .i64 z2))
    have HU4 := Lib.hid (HU3.out.set1 z2)
    clear HG3 HC3 HV3 HU3
    go_wp2_with fail
    refine (l1Once_any b v l _ _ HC4.out (by omega) (by omega)).mono ?_
    rintro e w5 ⟨q, rfl, hg, hC⟩
    have HG5 := Lib.hid (grown_trans HG4.out hg)
    have HC5 := Lib.hid hC
    have HV5 := Lib.hid (HV4.out.grown hg (by intro e; injection e with e; have := HL.out; omega))
    have HU5 := Lib.hid (HU4.out.grown hg (by intro e; injection e with e; have := HL.out; have := HW.out; omega))
    clear hg hC HG4 HC4 HV4 HU4
    cases q
    · obtain ⟨vl, c0, c1, f0, f1⟩ := HV5.out
      obtain ⟨ul, u0, u1, uf0, uf1⟩ := HU5.out
      go_wp2_with fail
      refine bodyPost_ret (v := .agg #[.int .i64 x, .int .i64 z2]) (by simp [results, Try.results50, go_sem, c0, c1]) rfl ⟨⟨x, z2⟩, rfl, okV_of hok.1 ⟨z2a, z2b⟩, grown_var HG5.out (Nat.le_refl _) x z2, cur_var HC5.out HL.out x z2⟩
    · go_wp2_with fail
      refine (l1Odd_any b v l _ HC5.out).mono ?_
      rintro e w6 ⟨z5, rfl, ⟨z5a, z5b⟩, hg, hC⟩
      have HG6 := Lib.hid (grown_trans HG5.out hg)
      have HC6 := Lib.hid hC
      have HV6 := Lib.hid (HV5.out.grown hg (by intro e; injection e with e; have := HL.out; omega))
      have HU6 := Lib.hid (HU5.out.grown hg (by intro e; injection e with e; have := HL.out; have := HW.out; omega))
      clear hg hC HG5 HC5 HV5 HU5
      obtain ⟨ul, u0, u1, uf0, uf1⟩ := HU6.out
      have HG7 := Lib.hid (grown_setN HG6.out (show w.heap.size ≤ w1.heap.size by have := HW.out; omega) 0 (.int .i64 z5))
      have HC7 := Lib.hid (cur_set HC6.out (show b < w1.heap.size by have := HL.out; have := HW.out; omega) 0 (.int .i64 z5))
      have HV7 := Lib.hid (HV6.out.one (show w.heap.size ≠ w1.heap.size by have := HW.out; omega) 0 (.int .i64 z5))
      have HU7 := Lib.hid (HU6.out.set0 z5)
      clear HG6 HC6 HV6 HU6
      obtain ⟨vl, c0, c1, f0, f1⟩ := HV7.out
      obtain ⟨ul, u0, u1, uf0, uf1⟩ := HU7.out
      go_wp2_with fail
      refine bodyPost_ret (v := .agg #[.int .i64 z5, .int .i64 z2]) (by simp [results, Try.results50, go_sem, c0, c1]) rfl ⟨⟨z5, z2⟩, rfl, okV_of ⟨z5a, z5b⟩ ⟨z2a, z2b⟩, grown_var HG7.out (Nat.le_refl _) z5 z2, cur_var HC7.out HL.out z5 z2⟩
set_option maxHeartbeats 800000 in
theorem drawCompareVersions_any (v : Value) (l : List UInt8) (w : World) (hR : RowAt w v (Lib.byteCells l)) :
    Calls Try.prog 23 #[v] w fun e w' => GivesVers w e w' := by
  have HB0 := Lib.hid (box2 w (.cells #[.int .i64 0, .int .i64 0] 25) (.cells #[.int .i64 0, .int .i64 0] 25))
  have V0 := Lib.hid ((Var2.new w 0 0 25).alloc (.cells #[.int .i64 0, .int .i64 0] 25))
  have U0 := Lib.hid (Var2.new (w.alloc (.cells #[.int .i64 0, .int .i64 0] 25)) 0 0 25)
  have HR := Lib.hid (RowAt.below hR HB0.out (Nat.le_refl _))
  have hn : (w.alloc (.cells #[.int .i64 0, .int .i64 0] 25)).heap.size = w.heap.size + 1 := by simp
  rw [hn] at U0
  have HS := Lib.hid (show ((w.alloc (.cells #[.int .i64 0, .int .i64 0] 25)).alloc (.cells #[.int .i64 0, .int .i64 0] 25)).heap.size = w.heap.size + 2 by simp)
  clear hR hn
  go_enter Try.func23, Try.ntmps23
  go_wp2_with fail
  refine (l1New_any v l _ HR.out).mono ?_
  rintro e w1 ⟨b, rfl, hb, hB, hC⟩
  have HB1 := Lib.hid (bel_to HB0.out hB)
  have HC1 := Lib.hid hC
  have V1 := Lib.hid (V0.out.below hB)
  have U1 := Lib.hid (U0.out.below hB)
  have HL := Lib.hid (show w.heap.size + 2 ≤ b by have := HS.out; omega)
  clear hB hC hb
  go_wp2_with fail
  refine (l5Any_any b v l _ HC1.out).mono ?_
  rintro e w2 ⟨⟨x, y⟩, rfl, hok, hg, hC⟩
  have HB2 := Lib.hid (below_grown HB1.out hg (by have := HL.out; omega) HB1.out.size)
  have HC2 := Lib.hid hC
  have V2 := Lib.hid (V1.out.grown hg (by intro e; injection e with e; have := HL.out; omega))
  have U2 := Lib.hid (U1.out.grown hg (by intro e; injection e with e; have := HL.out; omega))
  have HX := Lib.hid hok
  clear hg hC hok
  unfold vVersion
  simp only
  go_wp2_with fail
  refine (l5Any_any b v l _ HC2.out).mono ?_
  rintro e w3 ⟨⟨x2, y2⟩, rfl, hok, hg, hC⟩
  have HB3 := Lib.hid (below_grown HB2.out hg (by have := HL.out; omega) HB2.out.size)
  have V3 := Lib.hid (V2.out.grown hg (by intro e; injection e with e; have := HL.out; omega))
  have U3 := Lib.hid (U2.out.grown hg (by intro e; injection e with e; have := HL.out; omega))
  have HY := Lib.hid hok
  clear hg hC hok
  unfold vVersion
  simp only
  obtain ⟨vl, c0, c1, f0, f1⟩ := V3.out
  obtain ⟨ul, u0, u1, uf0, uf1⟩ := U3.out
  go_wp2_with fail
  refine bodyPost_ret (v := .tuple #[.agg #[.int .i64 x, .int .i64 y], .agg #[.int .i64 x2, .int .i64 y2]]) (by simp [results, Try.results23, go_sem, c0, c1, u0, u1]) rfl ⟨⟨x, y⟩, ⟨x2, y2⟩, rfl, HX.out, HY.out, ?_⟩
  repeat (refine Below.setCell ?_ (by simp; try omega) _)
  exact HB3.out
set_option maxHeartbeats 800000 in
theorem drawGainsOf_any (v : Value) (l : List UInt8) (w : World) (hR : RowAt w v (Lib.byteCells l)) :
    Calls Try.prog 30 #[v] w fun e w' => GivesVers w e w' := by
  have HB0 := Lib.hid (box2 w (.cells #[.int .i64 0, .int .i64 0] 25) (.cells #[.int .i64 0, .int .i64 0] 25))
  have V0 := Lib.hid ((Var2.new w 0 0 25).alloc (.cells #[.int .i64 0, .int .i64 0] 25))
  have U0 := Lib.hid (Var2.new (w.alloc (.cells #[.int .i64 0, .int .i64 0] 25)) 0 0 25)
  have HR := Lib.hid (RowAt.below hR HB0.out (Nat.le_refl _))
  have hn : (w.alloc (.cells #[.int .i64 0, .int .i64 0] 25)).heap.size = w.heap.size + 1 := by simp
  rw [hn] at U0
  have HS := Lib.hid (show ((w.alloc (.cells #[.int .i64 0, .int .i64 0] 25)).alloc (.cells #[.int .i64 0, .int .i64 0] 25)).heap.size = w.heap.size + 2 by simp)
  clear hR hn
  go_enter Try.func30, Try.ntmps30
  go_wp2_with fail
  refine (l1New_any v l _ HR.out).mono ?_
  rintro e w1 ⟨b, rfl, hb, hB, hC⟩
  have HB1 := Lib.hid (bel_to HB0.out hB)
  have HC1 := Lib.hid hC
  have V1 := Lib.hid (V0.out.below hB)
  have U1 := Lib.hid (U0.out.below hB)
  have HL := Lib.hid (show w.heap.size + 2 ≤ b by have := HS.out; omega)
  clear hB hC hb
  go_wp2_with fail
  refine (l5Any_any b v l _ HC1.out).mono ?_
  rintro e w2 ⟨⟨x, y⟩, rfl, hok, hg, hC⟩
  have HB2 := Lib.hid (below_grown HB1.out hg (by have := HL.out; omega) HB1.out.size)
  have HC2 := Lib.hid hC
  have V2 := Lib.hid (V1.out.grown hg (by intro e; injection e with e; have := HL.out; omega))
  have U2 := Lib.hid (U1.out.grown hg (by intro e; injection e with e; have := HL.out; omega))
  have HX := Lib.hid hok
  clear hg hC hok
  unfold vVersion
  simp only
  go_wp2_with fail
  refine (l5Any_any b v l _ HC2.out).mono ?_
  rintro e w3 ⟨⟨x2, y2⟩, rfl, hok, hg, hC⟩
  have HB3 := Lib.hid (below_grown HB2.out hg (by have := HL.out; omega) HB2.out.size)
  have V3 := Lib.hid (V2.out.grown hg (by intro e; injection e with e; have := HL.out; omega))
  have U3 := Lib.hid (U2.out.grown hg (by intro e; injection e with e; have := HL.out; omega))
  have HY := Lib.hid hok
  clear hg hC hok
  unfold vVersion
  simp only
  obtain ⟨vl, c0, c1, f0, f1⟩ := V3.out
  obtain ⟨ul, u0, u1, uf0, uf1⟩ := U3.out
  go_wp2_with fail
  refine bodyPost_ret (v := .tuple #[.agg #[.int .i64 x, .int .i64 y], .agg #[.int .i64 x2, .int .i64 y2]]) (by simp [results, Try.results30, go_sem, c0, c1, u0, u1]) rfl ⟨⟨x, y⟩, ⟨x2, y2⟩, rfl, HX.out, HY.out, ?_⟩
  repeat (refine Below.setCell ?_ (by simp; try omega) _)
  exact HB3.out
set_option maxHeartbeats 800000 in
theorem drawFormatVersion_any (v : Value) (l : List UInt8) (w : World) (hR : RowAt w v (Lib.byteCells l)) :
    Calls Try.prog 24 #[v] w fun e w' => GivesVerD w e w' := by
  have HB0 := Lib.hid (box1 w (.cells #[.int .i64 0, .int .i64 0] 25))
  have V0 := Lib.hid (Var2.new w 0 0 25)
  have HR := Lib.hid (RowAt.below hR HB0.out (Nat.le_refl _))
  have HS := Lib.hid (show (w.alloc (.cells #[.int .i64 0, .int .i64 0] 25)).heap.size = w.heap.size + 1 by simp)
  clear hR
  go_enter Try.func24, Try.ntmps24
  go_wp2_with fail
  refine (l1New_any v l _ HR.out).mono ?_
  rintro e w1 ⟨b, rfl, hb, hB, hC⟩
  have HB1 := Lib.hid (bel_to HB0.out hB)
  have HC1 := Lib.hid hC
  have V1 := Lib.hid (V0.out.below hB)
  have HL := Lib.hid (show w.heap.size + 1 ≤ b by have := HS.out; omega)
  clear hB hC hb
  go_wp2_with fail
  refine (l5Any_any b v l _ HC1.out).mono ?_
  rintro e w2 ⟨⟨x, y⟩, rfl, hok, hg, hC⟩
  have HB2 := Lib.hid (below_grown HB1.out hg (by have := HL.out; omega) HB1.out.size)
  have V2 := Lib.hid (V1.out.grown hg (by intro e; injection e with e; have := HL.out; omega))
  have HX := Lib.hid hok
  clear hg hC hok
  unfold vVersion
  simp only
  obtain ⟨vl, c0, c1, f0, f1⟩ := V2.out
  go_wp2_with fail
  refine bodyPost_ret (v := .agg #[.int .i64 x, .int .i64 y]) (by simp [results, Try.results24, go_sem, c0, c1]) rfl ⟨⟨x, y⟩, rfl, HX.out, ?_⟩
  repeat (refine Below.setCell ?_ (by simp; try omega) _)
  exact HB2.out
end Go.Proofs.Ytbjkalnahckfnab
