/- FnExactIsPart: at every part the program's IsPart answers as the model's (a part of more than 2^20 cells, layers and signs is not asked). No condition. -/
import Derived.Test.YtmoliamenekemaaLaw5
import Derived.Test.YtmoliamenekemaaPart6
import Derived.Test.YtmoliamenekemaaPart7
import Derived.Test.YtmoliamenekemaaOpenPart
namespace Go.Proofs.Ytmoliamenekemaa
set_option linter.unusedVariables false
open Go.ChangeShapes Go.WideShapes Go.ChangeAt Go.RowKit Go.WideMaps Go.WideElems
open Go.ChangeMaps (open_string shut_string)
set_option maxRecDepth 100000 in
set_option maxHeartbeats 3200000 in
theorem exactIsPart_any (v0 : Value) (x0 : PartD) (w : World) (a0 : ValAt rPart 0 w v0 x0) (g0 : okPart x0) :
    Calls Try.prog 3 #[v0] w fun e w' => e = .returned (.bool true) ∧ Below w.heap.size w w' := by
  obtain ⟨_, rfl, a0⟩ := a0
  obtain ⟨⟨n0_0_0, n0_0_1, n0_0_2, n0_0_3, n0_0_4⟩, n0_1⟩ := x0
  try simp only at *
  obtain ⟨ua0_3, ua0_5, rfl, hrua0_3, hrua0_5⟩ := a0
  simp only at hrua0_3 hrua0_5
  obtain ⟨ca0_3, cc0_3, rfl, _⟩ := sliceAt_len hrua0_3
  obtain ⟨ca0_5, cc0_5, rfl, _⟩ := sliceAt_len hrua0_5
  have A0 := Lib.hid (show rPart 0 _ _ (⟨⟨n0_0_0, n0_0_1, n0_0_2, n0_0_3, n0_0_4⟩, n0_1⟩ : PartD) from ⟨_, _, rfl, hrua0_3.mono (good_flat cCell_len) (Nat.zero_le _), hrua0_5.mono (good_flat cLayer_len) (Nat.zero_le _)⟩)
  have G0 := Lib.hid g0
  clear g0 hrua0_3 hrua0_5
  go_enter Try.func3, Try.ntmps3
  go_wp2_with fail
  refine (szPart_d _ (⟨⟨n0_0_0, n0_0_1, n0_0_2, n0_0_3, n0_0_4⟩, n0_1⟩ : PartD) 1048576 _ ⟨_, rfl, (belPart A0.out (by repeat (first | exact Below.refl _ _ | refine Below.alloc ?_ (by simp; try omega) _ | refine Below.setCell ?_ (by simp; try omega) _ | refine belN ?_ _ | refine belD ?_)) (Nat.le_refl _))⟩ G0.out (by omega) (by omega)).mono ?_
  rintro e w1 ⟨r0, rfl, hr0a, hr0b, hb0⟩
  have hb := below_step (w := w) (by repeat (first | exact Below.refl _ _ | refine Below.alloc ?_ (by simp; try omega) _ | refine Below.setCell ?_ (by simp; try omega) _ | refine belN ?_ _ | refine belD ?_)) hb0
  have Cw_w1 := Lib.hid hb
  have A0_w1 := Lib.hid (belPart A0.out hb (Nat.le_refl _))
  have ep0_0_w1 : w1.cell? ⟨w.heap.size, 0, none⟩ = some (.string ⟨n0_0_0.toArray⟩) := by rw [hb0.cell (p := ⟨w.heap.size, 0, none⟩) (by simp; try omega)]; simp
  have ep0_1_w1 : w1.cell? ⟨w.heap.size, 1, none⟩ = some (.bool n0_0_1) := by rw [hb0.cell (p := ⟨w.heap.size, 1, none⟩) (by simp; try omega)]; simp
  have ep0_2_w1 : w1.cell? ⟨w.heap.size, 2, none⟩ = some (.bool n0_0_2) := by rw [hb0.cell (p := ⟨w.heap.size, 2, none⟩) (by simp; try omega)]; simp
  have ep0_3_w1 : w1.cell? ⟨w.heap.size, 3, none⟩ = some (.slice ca0_3 n0_0_3.length cc0_3) := by rw [hb0.cell (p := ⟨w.heap.size, 3, none⟩) (by simp; try omega)]; simp
  have ep0_4_w1 : w1.cell? ⟨w.heap.size, 4, none⟩ = some (.int .i64 n0_0_4) := by rw [hb0.cell (p := ⟨w.heap.size, 4, none⟩) (by simp; try omega)]; simp
  have ep0_5_w1 : w1.cell? ⟨w.heap.size, 5, none⟩ = some (.slice ca0_5 n0_1.length cc0_5) := by rw [hb0.cell (p := ⟨w.heap.size, 5, none⟩) (by simp; try omega)]; simp
  have Lp0_w1 : w.heap.size < w1.heap.size := by have h := hb0.size; simp at h; omega
  clear hb hb0
  by_cases hr0 : r0 < 0
  · clear hr0b
    go_wp2_with fail
    go_ret
    exact ⟨rfl, below_to Cw_w1.out (by repeat (first | exact Below.refl _ _ | refine Below.alloc ?_ (by simp; try omega) _ | refine Below.setCell ?_ (by simp; try omega) _ | refine belN ?_ _ | refine belD ?_))⟩
  · have hs0 := hr0b (by omega)
    clear hr0b
    have HSZ := Lib.hid (show (zPart (⟨⟨n0_0_0, n0_0_1, n0_0_2, n0_0_3, n0_0_4⟩, n0_1⟩ : PartD)) ≤ 1048576 by push_cast; omega)
    clear hs0
    have HK := Lib.hid (show ∀ c ∈ (⟨⟨n0_0_0, n0_0_1, n0_0_2, n0_0_3, n0_0_4⟩, n0_1⟩ : PartD).fCore.fCells, c.fKey.length ≤ maxLen from fun c hc => (G0.out.1.2.1 c hc).1)
    have HSP := Lib.hid (fun cs w1 (h : rPart 0 w1 cs (⟨⟨n0_0_0, n0_0_1, n0_0_2, n0_0_3, n0_0_4⟩, n0_1⟩ : PartD)) => specIsPart_any (.agg cs.toArray) (⟨⟨n0_0_0, n0_0_1, n0_0_2, n0_0_3, n0_0_4⟩, n0_1⟩ : PartD) w1 ⟨cs, rfl, h⟩ HK.out)
    have HIM := Lib.hid (fun cs w1 (h : rPart 0 w1 cs (⟨⟨n0_0_0, n0_0_1, n0_0_2, n0_0_3, n0_0_4⟩, n0_1⟩ : PartD)) => implIsPart_any (.agg cs.toArray) (⟨⟨n0_0_0, n0_0_1, n0_0_2, n0_0_3, n0_0_4⟩, n0_1⟩ : PartD) w1 ⟨cs, rfl, h⟩ HK.out)
    generalize partB (⟨⟨n0_0_0, n0_0_1, n0_0_2, n0_0_3, n0_0_4⟩, n0_1⟩ : PartD) = f at *
    have K_p0 := Lp0_w1
    go_wp2_with fail
    refine (toPart_d _ (⟨⟨n0_0_0, n0_0_1, n0_0_2, n0_0_3, n0_0_4⟩, n0_1⟩ : PartD) _ ⟨_, rfl, (belPart A0_w1.out (by repeat (first | exact Below.refl _ _ | refine Below.alloc ?_ (by simp; try omega) _ | refine Below.setCell ?_ (by simp; try omega) _ | refine belN ?_ _ | refine belD ?_)) (Nat.le_refl _))⟩ (by have := HSZ.out; omega)).mono ?_
    rintro e w2 ⟨_, rfl, ho, hb0⟩
    have hb := below_step (w := w1) (by repeat (first | exact Below.refl _ _ | refine Below.alloc ?_ (by simp; try omega) _ | refine Below.setCell ?_ (by simp; try omega) _ | refine belN ?_ _ | refine belD ?_)) hb0
    have Cw_w2 := Lib.hid (Cw_w1.out.trans (hb.mono Cw_w1.out.size))
    have A0_w2 := Lib.hid (belPart A0_w1.out hb (Nat.le_refl _))
    have ep0_0_w2 := (hb.cell (p := ⟨w.heap.size, 0, none⟩) Lp0_w1).trans ep0_0_w1
    have ep0_1_w2 := (hb.cell (p := ⟨w.heap.size, 1, none⟩) Lp0_w1).trans ep0_1_w1
    have ep0_2_w2 := (hb.cell (p := ⟨w.heap.size, 2, none⟩) Lp0_w1).trans ep0_2_w1
    have ep0_3_w2 := (hb.cell (p := ⟨w.heap.size, 3, none⟩) Lp0_w1).trans ep0_3_w1
    have ep0_4_w2 := (hb.cell (p := ⟨w.heap.size, 4, none⟩) Lp0_w1).trans ep0_4_w1
    have ep0_5_w2 := (hb.cell (p := ⟨w.heap.size, 5, none⟩) Lp0_w1).trans ep0_5_w1
    have Lp0_w2 : w.heap.size < w2.heap.size := by have h := hb.size; omega
    clear ep0_0_w1 ep0_1_w1 ep0_2_w1 ep0_3_w1 ep0_4_w1 ep0_5_w1 Lp0_w1
    obtain ⟨uS1_3, uS1_5, rfl, hruS1_3, hruS1_5⟩ := ho
    simp only at hruS1_3 hruS1_5
    obtain ⟨pS1_3, qS1_3, rfl, _⟩ := sliceAt_len hruS1_3
    obtain ⟨pS1_5, qS1_5, rfl, _⟩ := sliceAt_len hruS1_5
    have S1 := Lib.hid (show rPart 0 _ _ (⟨⟨n0_0_0, n0_0_1, n0_0_2, n0_0_3, n0_0_4⟩, n0_1⟩ : PartD) from ⟨_, _, rfl, hruS1_3.mono (good_flat cCell_len) (Nat.zero_le _), hruS1_5.mono (good_flat cLayer_len) (Nat.zero_le _)⟩)
    clear hruS1_3 hruS1_5
    clear hb hb0
    have K_p0 := Lp0_w2
    go_wp2_with fail
    refine (HSP.out _ _ (belPart S1.out (by repeat (first | exact Below.refl _ _ | refine Below.alloc ?_ (by simp; try omega) _ | refine Below.setCell ?_ (by simp; try omega) _ | refine belN ?_ _ | refine belD ?_)) (Nat.le_refl _))).mono ?_
    rintro e w3 ⟨rfl, hb0⟩
    have hb := below_step (w := w2) (by repeat (first | exact Below.refl _ _ | refine Below.alloc ?_ (by simp; try omega) _ | refine Below.setCell ?_ (by simp; try omega) _ | refine belN ?_ _ | refine belD ?_)) hb0
    have Cw_w3 := Lib.hid (Cw_w2.out.trans (hb.mono Cw_w2.out.size))
    have A0_w3 := Lib.hid (belPart A0_w2.out hb (Nat.le_refl _))
    have S1_w3 := Lib.hid (belPart S1.out hb (Nat.le_refl _))
    have ep0_0_w3 := (hb.cell (p := ⟨w.heap.size, 0, none⟩) Lp0_w2).trans ep0_0_w2
    have ep0_1_w3 := (hb.cell (p := ⟨w.heap.size, 1, none⟩) Lp0_w2).trans ep0_1_w2
    have ep0_2_w3 := (hb.cell (p := ⟨w.heap.size, 2, none⟩) Lp0_w2).trans ep0_2_w2
    have ep0_3_w3 := (hb.cell (p := ⟨w.heap.size, 3, none⟩) Lp0_w2).trans ep0_3_w2
    have ep0_4_w3 := (hb.cell (p := ⟨w.heap.size, 4, none⟩) Lp0_w2).trans ep0_4_w2
    have ep0_5_w3 := (hb.cell (p := ⟨w.heap.size, 5, none⟩) Lp0_w2).trans ep0_5_w2
    have Lp0_w3 : w.heap.size < w3.heap.size := by have h := hb.size; omega
    clear ep0_0_w2 ep0_1_w2 ep0_2_w2 ep0_3_w2 ep0_4_w2 ep0_5_w2 Lp0_w2
    clear hb hb0
    have K_p0 := Lp0_w3
    go_wp2_with fail
    refine (toPart_d _ (⟨⟨n0_0_0, n0_0_1, n0_0_2, n0_0_3, n0_0_4⟩, n0_1⟩ : PartD) _ ⟨_, rfl, (belPart A0_w3.out (by repeat (first | exact Below.refl _ _ | refine Below.alloc ?_ (by simp; try omega) _ | refine Below.setCell ?_ (by simp; try omega) _ | refine belN ?_ _ | refine belD ?_)) (Nat.le_refl _))⟩ (by have := HSZ.out; omega)).mono ?_
    rintro e w4 ⟨_, rfl, ho, hb0⟩
    have hb := below_step (w := w3) (by repeat (first | exact Below.refl _ _ | refine Below.alloc ?_ (by simp; try omega) _ | refine Below.setCell ?_ (by simp; try omega) _ | refine belN ?_ _ | refine belD ?_)) hb0
    have Cw_w4 := Lib.hid (Cw_w3.out.trans (hb.mono Cw_w3.out.size))
    have A0_w4 := Lib.hid (belPart A0_w3.out hb (Nat.le_refl _))
    have ep0_0_w4 := (hb.cell (p := ⟨w.heap.size, 0, none⟩) Lp0_w3).trans ep0_0_w3
    have ep0_1_w4 := (hb.cell (p := ⟨w.heap.size, 1, none⟩) Lp0_w3).trans ep0_1_w3
    have ep0_2_w4 := (hb.cell (p := ⟨w.heap.size, 2, none⟩) Lp0_w3).trans ep0_2_w3
    have ep0_3_w4 := (hb.cell (p := ⟨w.heap.size, 3, none⟩) Lp0_w3).trans ep0_3_w3
    have ep0_4_w4 := (hb.cell (p := ⟨w.heap.size, 4, none⟩) Lp0_w3).trans ep0_4_w3
    have ep0_5_w4 := (hb.cell (p := ⟨w.heap.size, 5, none⟩) Lp0_w3).trans ep0_5_w3
    have Lp0_w4 : w.heap.size < w4.heap.size := by have h := hb.size; omega
    clear ep0_0_w3 ep0_1_w3 ep0_2_w3 ep0_3_w3 ep0_4_w3 ep0_5_w3 Lp0_w3
    obtain ⟨uX2_3, uX2_5, rfl, hruX2_3, hruX2_5⟩ := ho
    simp only at hruX2_3 hruX2_5
    obtain ⟨pX2_3, qX2_3, rfl, _⟩ := sliceAt_len hruX2_3
    obtain ⟨pX2_5, qX2_5, rfl, _⟩ := sliceAt_len hruX2_5
    have X2 := Lib.hid (show rPart 0 _ _ (⟨⟨n0_0_0, n0_0_1, n0_0_2, n0_0_3, n0_0_4⟩, n0_1⟩ : PartD) from ⟨_, _, rfl, hruX2_3.mono (good_flat cCell_len) (Nat.zero_le _), hruX2_5.mono (good_flat cLayer_len) (Nat.zero_le _)⟩)
    clear hruX2_3 hruX2_5
    clear hb hb0
    have K_p0 := Lp0_w4
    go_wp2_with fail
    refine (HIM.out _ _ (belPart X2.out (by repeat (first | exact Below.refl _ _ | refine Below.alloc ?_ (by simp; try omega) _ | refine Below.setCell ?_ (by simp; try omega) _ | refine belN ?_ _ | refine belD ?_)) (Nat.le_refl _))).mono ?_
    rintro e w5 ⟨rfl, hb0⟩
    have hb := below_step (w := w4) (by repeat (first | exact Below.refl _ _ | refine Below.alloc ?_ (by simp; try omega) _ | refine Below.setCell ?_ (by simp; try omega) _ | refine belN ?_ _ | refine belD ?_)) hb0
    have Cw_w5 := Lib.hid (Cw_w4.out.trans (hb.mono Cw_w4.out.size))
    have A0_w5 := Lib.hid (belPart A0_w4.out hb (Nat.le_refl _))
    have X2_w5 := Lib.hid (belPart X2.out hb (Nat.le_refl _))
    have ep0_0_w5 := (hb.cell (p := ⟨w.heap.size, 0, none⟩) Lp0_w4).trans ep0_0_w4
    have ep0_1_w5 := (hb.cell (p := ⟨w.heap.size, 1, none⟩) Lp0_w4).trans ep0_1_w4
    have ep0_2_w5 := (hb.cell (p := ⟨w.heap.size, 2, none⟩) Lp0_w4).trans ep0_2_w4
    have ep0_3_w5 := (hb.cell (p := ⟨w.heap.size, 3, none⟩) Lp0_w4).trans ep0_3_w4
    have ep0_4_w5 := (hb.cell (p := ⟨w.heap.size, 4, none⟩) Lp0_w4).trans ep0_4_w4
    have ep0_5_w5 := (hb.cell (p := ⟨w.heap.size, 5, none⟩) Lp0_w4).trans ep0_5_w4
    have Lp0_w5 : w.heap.size < w5.heap.size := by have h := hb.size; omega
    clear ep0_0_w4 ep0_1_w4 ep0_2_w4 ep0_3_w4 ep0_4_w4 ep0_5_w4 Lp0_w4
    have ex0_0_w5 : w5.cell? ⟨w4.heap.size, 0, none⟩ = some (.string ⟨n0_0_0.toArray⟩) := by rw [hb0.cell (p := ⟨w4.heap.size, 0, none⟩) (by simp; try omega)]; simp
    have ex0_1_w5 : w5.cell? ⟨w4.heap.size, 1, none⟩ = some (.bool n0_0_1) := by rw [hb0.cell (p := ⟨w4.heap.size, 1, none⟩) (by simp; try omega)]; simp
    have ex0_2_w5 : w5.cell? ⟨w4.heap.size, 2, none⟩ = some (.bool n0_0_2) := by rw [hb0.cell (p := ⟨w4.heap.size, 2, none⟩) (by simp; try omega)]; simp
    have ex0_3_w5 : w5.cell? ⟨w4.heap.size, 3, none⟩ = some (.slice pX2_3 n0_0_3.length qX2_3) := by rw [hb0.cell (p := ⟨w4.heap.size, 3, none⟩) (by simp; try omega)]; simp
    have ex0_4_w5 : w5.cell? ⟨w4.heap.size, 4, none⟩ = some (.int .i64 n0_0_4) := by rw [hb0.cell (p := ⟨w4.heap.size, 4, none⟩) (by simp; try omega)]; simp
    have ex0_5_w5 : w5.cell? ⟨w4.heap.size, 5, none⟩ = some (.slice pX2_5 n0_1.length qX2_5) := by rw [hb0.cell (p := ⟨w4.heap.size, 5, none⟩) (by simp; try omega)]; simp
    have Lx0_w5 : w4.heap.size < w5.heap.size := by have h := hb0.size; simp at h; omega
    clear hb hb0
    go_wp2_with fail
    go_region_held3 (fun w' => w'.cell? ⟨w4.heap.size, 0, none⟩ = some (.string ⟨n0_0_0.toArray⟩) ∧ w'.cell? ⟨w4.heap.size, 1, none⟩ = some (.bool n0_0_1) ∧ w'.cell? ⟨w4.heap.size, 2, none⟩ = some (.bool n0_0_2) ∧ w'.cell? ⟨w4.heap.size, 3, none⟩ = some (.slice pX2_3 n0_0_3.length qX2_3) ∧ w'.cell? ⟨w4.heap.size, 4, none⟩ = some (.int .i64 n0_0_4) ∧ w'.cell? ⟨w4.heap.size, 5, none⟩ = some (.slice pX2_5 n0_1.length qX2_5) ∧ w'.cell? ⟨w.heap.size, 0, none⟩ = some (.string ⟨n0_0_0.toArray⟩) ∧ w'.cell? ⟨w.heap.size, 1, none⟩ = some (.bool n0_0_1) ∧ w'.cell? ⟨w.heap.size, 2, none⟩ = some (.bool n0_0_2) ∧ w'.cell? ⟨w.heap.size, 3, none⟩ = some (.slice ca0_3 n0_0_3.length cc0_3) ∧ w'.cell? ⟨w.heap.size, 4, none⟩ = some (.int .i64 n0_0_4) ∧ w'.cell? ⟨w.heap.size, 5, none⟩ = some (.slice ca0_5 n0_1.length cc0_5))
      (first
        | exact ⟨(hbA.cell (p := ⟨w4.heap.size, 0, none⟩) (by simp; omega)).trans ex0_0_w5, (hbA.cell (p := ⟨w4.heap.size, 1, none⟩) (by simp; omega)).trans ex0_1_w5, (hbA.cell (p := ⟨w4.heap.size, 2, none⟩) (by simp; omega)).trans ex0_2_w5, (hbA.cell (p := ⟨w4.heap.size, 3, none⟩) (by simp; omega)).trans ex0_3_w5, (hbA.cell (p := ⟨w4.heap.size, 4, none⟩) (by simp; omega)).trans ex0_4_w5, (hbA.cell (p := ⟨w4.heap.size, 5, none⟩) (by simp; omega)).trans ex0_5_w5, (hbA.cell (p := ⟨w.heap.size, 0, none⟩) (by simp; omega)).trans ep0_0_w5, (hbA.cell (p := ⟨w.heap.size, 1, none⟩) (by simp; omega)).trans ep0_1_w5, (hbA.cell (p := ⟨w.heap.size, 2, none⟩) (by simp; omega)).trans ep0_2_w5, (hbA.cell (p := ⟨w.heap.size, 3, none⟩) (by simp; omega)).trans ep0_3_w5, (hbA.cell (p := ⟨w.heap.size, 4, none⟩) (by simp; omega)).trans ep0_4_w5, (hbA.cell (p := ⟨w.heap.size, 5, none⟩) (by simp; omega)).trans ep0_5_w5⟩
        | exact ⟨(hbB.cell (p := ⟨w4.heap.size, 0, none⟩) (by have h := hbA.size; simp at h; simp; omega)).trans ((hbA.cell (p := ⟨w4.heap.size, 0, none⟩) (by simp; omega)).trans ex0_0_w5), (hbB.cell (p := ⟨w4.heap.size, 1, none⟩) (by have h := hbA.size; simp at h; simp; omega)).trans ((hbA.cell (p := ⟨w4.heap.size, 1, none⟩) (by simp; omega)).trans ex0_1_w5), (hbB.cell (p := ⟨w4.heap.size, 2, none⟩) (by have h := hbA.size; simp at h; simp; omega)).trans ((hbA.cell (p := ⟨w4.heap.size, 2, none⟩) (by simp; omega)).trans ex0_2_w5), (hbB.cell (p := ⟨w4.heap.size, 3, none⟩) (by have h := hbA.size; simp at h; simp; omega)).trans ((hbA.cell (p := ⟨w4.heap.size, 3, none⟩) (by simp; omega)).trans ex0_3_w5), (hbB.cell (p := ⟨w4.heap.size, 4, none⟩) (by have h := hbA.size; simp at h; simp; omega)).trans ((hbA.cell (p := ⟨w4.heap.size, 4, none⟩) (by simp; omega)).trans ex0_4_w5), (hbB.cell (p := ⟨w4.heap.size, 5, none⟩) (by have h := hbA.size; simp at h; simp; omega)).trans ((hbA.cell (p := ⟨w4.heap.size, 5, none⟩) (by simp; omega)).trans ex0_5_w5), (hbB.cell (p := ⟨w.heap.size, 0, none⟩) (by have h := hbA.size; simp at h; simp; omega)).trans ((hbA.cell (p := ⟨w.heap.size, 0, none⟩) (by simp; omega)).trans ep0_0_w5), (hbB.cell (p := ⟨w.heap.size, 1, none⟩) (by have h := hbA.size; simp at h; simp; omega)).trans ((hbA.cell (p := ⟨w.heap.size, 1, none⟩) (by simp; omega)).trans ep0_1_w5), (hbB.cell (p := ⟨w.heap.size, 2, none⟩) (by have h := hbA.size; simp at h; simp; omega)).trans ((hbA.cell (p := ⟨w.heap.size, 2, none⟩) (by simp; omega)).trans ep0_2_w5), (hbB.cell (p := ⟨w.heap.size, 3, none⟩) (by have h := hbA.size; simp at h; simp; omega)).trans ((hbA.cell (p := ⟨w.heap.size, 3, none⟩) (by simp; omega)).trans ep0_3_w5), (hbB.cell (p := ⟨w.heap.size, 4, none⟩) (by have h := hbA.size; simp at h; simp; omega)).trans ((hbA.cell (p := ⟨w.heap.size, 4, none⟩) (by simp; omega)).trans ep0_4_w5), (hbB.cell (p := ⟨w.heap.size, 5, none⟩) (by have h := hbA.size; simp at h; simp; omega)).trans ((hbA.cell (p := ⟨w.heap.size, 5, none⟩) (by simp; omega)).trans ep0_5_w5)⟩
        | go_keep)
      (first
        | (go_at_call 11; refine (toPart_d _ (⟨⟨n0_0_0, n0_0_1, n0_0_2, n0_0_3, n0_0_4⟩, n0_1⟩ : PartD) _ ⟨_, rfl, (belPart A0_w5.out (by repeat (first | exact Below.refl _ _ | refine Below.alloc ?_ (by simp; try omega) _ | refine Below.setCell ?_ (by simp; try omega) _ | refine belN ?_ _ | refine belD ?_)) (Nat.le_refl _))⟩ (by have := HSZ.out; omega)).mono ?_; rintro e w6 ⟨_, rfl, hoZ, hbA⟩)
        | (go_at_call 13; refine (eqPart_d _ _ (⟨⟨n0_0_0, n0_0_1, n0_0_2, n0_0_3, n0_0_4⟩, n0_1⟩ : PartD) (⟨⟨n0_0_0, n0_0_1, n0_0_2, n0_0_3, n0_0_4⟩, n0_1⟩ : PartD) _ ⟨_, rfl, (belPart X2_w5.out (below_step (w := w5) (by repeat (first | exact Below.refl _ _ | refine Below.alloc ?_ (by simp; try omega) _ | refine Below.setCell ?_ (by simp; try omega) _ | refine belN ?_ _ | refine belD ?_)) hbA) (Nat.le_refl _))⟩ ⟨_, rfl, (goodPart.mono hoZ (Nat.zero_le _))⟩).mono ?_; rintro e w7 ⟨rfl, hbB⟩))
    have hb1 := below_step (w := w5) (by repeat (first | exact Below.refl _ _ | refine Below.alloc ?_ (by simp; try omega) _ | refine Below.setCell ?_ (by simp; try omega) _ | refine belN ?_ _ | refine belD ?_)) hbA
    have hb := hb1.trans (hbB.mono hb1.size)
    rename_i hheld
    clear hheld hoZ
    have Cw_w7 := Lib.hid (Cw_w5.out.trans (hb.mono Cw_w5.out.size))
    have A0_w7 := Lib.hid (belPart A0_w5.out hb (Nat.le_refl _))
    have X2_w7 := Lib.hid (belPart X2_w5.out hb (Nat.le_refl _))
    have ep0_0_w7 := (hb.cell (p := ⟨w.heap.size, 0, none⟩) Lp0_w5).trans ep0_0_w5
    have ep0_1_w7 := (hb.cell (p := ⟨w.heap.size, 1, none⟩) Lp0_w5).trans ep0_1_w5
    have ep0_2_w7 := (hb.cell (p := ⟨w.heap.size, 2, none⟩) Lp0_w5).trans ep0_2_w5
    have ep0_3_w7 := (hb.cell (p := ⟨w.heap.size, 3, none⟩) Lp0_w5).trans ep0_3_w5
    have ep0_4_w7 := (hb.cell (p := ⟨w.heap.size, 4, none⟩) Lp0_w5).trans ep0_4_w5
    have ep0_5_w7 := (hb.cell (p := ⟨w.heap.size, 5, none⟩) Lp0_w5).trans ep0_5_w5
    have Lp0_w7 : w.heap.size < w7.heap.size := by have h := hb.size; omega
    clear ep0_0_w5 ep0_1_w5 ep0_2_w5 ep0_3_w5 ep0_4_w5 ep0_5_w5 Lp0_w5
    have ex0_0_w7 := (hb.cell (p := ⟨w4.heap.size, 0, none⟩) Lx0_w5).trans ex0_0_w5
    have ex0_1_w7 := (hb.cell (p := ⟨w4.heap.size, 1, none⟩) Lx0_w5).trans ex0_1_w5
    have ex0_2_w7 := (hb.cell (p := ⟨w4.heap.size, 2, none⟩) Lx0_w5).trans ex0_2_w5
    have ex0_3_w7 := (hb.cell (p := ⟨w4.heap.size, 3, none⟩) Lx0_w5).trans ex0_3_w5
    have ex0_4_w7 := (hb.cell (p := ⟨w4.heap.size, 4, none⟩) Lx0_w5).trans ex0_4_w5
    have ex0_5_w7 := (hb.cell (p := ⟨w4.heap.size, 5, none⟩) Lx0_w5).trans ex0_5_w5
    have Lx0_w7 : w4.heap.size < w7.heap.size := by have h := hb.size; omega
    clear ex0_0_w5 ex0_1_w5 ex0_2_w5 ex0_3_w5 ex0_4_w5 ex0_5_w5 Lx0_w5
    clear hb hb1 hbA hbB
    go_wp2_with fail
    go_ret
    exact ⟨rfl, below_to Cw_w7.out (by repeat (first | exact Below.refl _ _ | refine Below.alloc ?_ (by simp; try omega) _ | refine Below.setCell ?_ (by simp; try omega) _ | refine belN ?_ _ | refine belD ?_))⟩
set_option maxRecDepth 100000 in
theorem fnExactIsPart_lifted (os : Os) (started : os.Started) (H : Type) (enc : TypeId × Value → H) :
    ReturnsInHanded {} Try.checked os 3 .any (Rows.fnExactIsPartSpec.pre6 enc Try.prog Try.f3 Rows.fnExactIsPartRow.domain false) (Rows.fnExactIsPartSpec.post enc Try.prog Try.f3 false true false false) := by
  refine returnsInHanded_of_change (C := Try.checked) ownK started (by kernel_rfl) Try.func3
    (ChangeSpec.witness6 (enc := enc) (C := Try.checked) false ⟨#[], #[.agg #[.string ⟨#[]⟩, .bool false, .bool false, .slice none 0 0, .int .i64 0, .slice none 0 0]], []⟩ 8 (by kernel_rfl) (by kernel_rfl) (by kernel_rfl) (by kernel_rfl)) ?_
  intro W base args ds gs before hval0 hW _ _
  have hval : ∀ (j : Nat) t v, Try.f3.params[j]? = some t → args[j]? = some v → Value.okWide Try.prog W .any base t v := hval0
  have hW' := hW
  obtain ⟨p, q, hA0, _, rfl, _, _⟩ := hW
  have hA : DataW.TrodAll enc Try.prog W 0 (fun _ => true) true Try.f3.params.toList args.toList ds p := hA0
  rw [Try.params3] at hA hval
  obtain ⟨v0, vs0, d0, ds0, p0, q0, hargs, rfl, rfl, h0, r0⟩ := trodAll_cons hA
  obtain ⟨rfl, rfl, rfl⟩ := trodAll_nil r0
  obtain rfl : args = #[v0] := by cases args; simp_all
  obtain ⟨x0, w0, z0⟩ := arg_Part (hval 0 27 v0 rfl rfl) h0
  clear hA0 hval0
  refine (exactIsPart_any v0 x0 W w0 z0).mono fun e W1 ⟨he, hb⟩ => ?_
  subst he
  exact ⟨_, rfl, law_post laidK rfl (by kernel_rfl) Try.underlying4 (by kernel_rfl) (fun ds h => by match ds, h with | [_], _ => rfl) hW' hb⟩
theorem fnExactIsPart_closed : joinedFacts Try.prog 3 Try.f3 Rows.fnExactIsPartSpec Rows.fnExactIsPartRow = true := by unfold joinedFacts; rw [mayEnter_k, liftsFinal_k, make_k]; kernel_rfl
theorem fnExactIsPart_holds : Rows.FnExactIsPartSaid :=
  OpenClaim.holds_of_wide 3 Try.f3 rfl rfl rfl rfl rfl rfl rfl ⟨rfl, rfl, rfl, rfl, rfl⟩ rfl rfl rfl rfl rfl (by kernel_rfl) Try.func3 fnExactIsPart_closed
    (of_decide_eq_true (by kernel_rfl)) (by unfold Func.isWrapper; first | (rw [if_pos (by decide +kernel)]; kernel_rfl) | (rw [if_neg (by decide +kernel)]; exact ⟨rfl, rfl⟩))
    (fun os started H enc _ => fnExactIsPart_lifted os started H enc)
end Go.Proofs.Ytmoliamenekemaa
