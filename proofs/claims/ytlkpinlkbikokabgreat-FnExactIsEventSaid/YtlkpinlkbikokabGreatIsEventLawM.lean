/- FnExactIsEvent: at every event the program's IsEvent answers as the model's (an event of more than 2^20 texts and signs is not asked). No condition. -/
import Derived.Test.YtlkpinlkbikokabGreatServesLawM0
import Derived.Test.YtlkpinlkbikokabGreatIsEventLawM0
namespace Go.Proofs.YtlkpinlkbikokabGreat
set_option linter.unusedVariables false
open Go.ChangeShapes Go.WideShapes Go.ChangeAt Go.RowKit Go.WideMaps Go.WideElems
open Go.ChangeMaps (open_string shut_string)
set_option maxRecDepth 100000 in
set_option maxHeartbeats 3200000 in
theorem exactIsEvent_any (v0 : Value) (x0 : EventD) (w : World) (a0 : ValAt rEvent 0 w v0 x0) (g0 : okEvent x0) :
    Calls Tryz.prog 7 #[v0] w fun e w' => e = .returned (.bool true) ∧ Below w.heap.size w w' := by
  obtain ⟨_, rfl, a0⟩ := a0
  obtain ⟨n0_0, n0_1, ⟨n0_2_0, n0_2_1, n0_2_2, n0_2_3⟩, n0_3⟩ := x0
  try simp only at *
  obtain ⟨ua0_6, rfl, hrua0_6⟩ := a0
  simp only at hrua0_6
  obtain ⟨ca0_6, cc0_6, rfl, _⟩ := sliceAt_len hrua0_6
  have A0 := Lib.hid (show rEvent 0 _ _ (⟨n0_0, n0_1, ⟨n0_2_0, n0_2_1, n0_2_2, n0_2_3⟩, n0_3⟩ : EventD) from ⟨_, rfl, hrua0_6.mono good_str (Nat.zero_le _)⟩)
  have G0 := Lib.hid g0
  clear g0 hrua0_6
  go_enter Tryz.func7, Tryz.ntmps7
  go_wp2_with fail
  refine (szEvent_d _ (⟨n0_0, n0_1, ⟨n0_2_0, n0_2_1, n0_2_2, n0_2_3⟩, n0_3⟩ : EventD) 1048576 _ ⟨_, rfl, (belEvent A0.out (by repeat (first | exact Below.refl _ _ | refine Below.alloc ?_ (by simp; try omega) _ | refine Below.setCell ?_ (by simp; try omega) _ | refine belN ?_ _ | refine belD ?_)) (Nat.le_refl _))⟩ G0.out (by omega) (by omega)).mono ?_
  rintro e w1 ⟨r0, rfl, hr0a, hr0b, hb0⟩
  have hb := below_step (w := w) (by repeat (first | exact Below.refl _ _ | refine Below.alloc ?_ (by simp; try omega) _ | refine Below.setCell ?_ (by simp; try omega) _ | refine belN ?_ _ | refine belD ?_)) hb0
  have Cw_w1 := Lib.hid hb
  have A0_w1 := Lib.hid (belEvent A0.out hb (Nat.le_refl _))
  have ep0_0_w1 : w1.cell? ⟨w.heap.size, 0, none⟩ = some (.int .i64 n0_0) := by rw [hb0.cell (p := ⟨w.heap.size, 0, none⟩) (by simp; try omega)]; simp
  have ep0_1_w1 : w1.cell? ⟨w.heap.size, 1, none⟩ = some (.string ⟨n0_1.toArray⟩) := by rw [hb0.cell (p := ⟨w.heap.size, 1, none⟩) (by simp; try omega)]; simp
  have ep0_2_w1 : w1.cell? ⟨w.heap.size, 2, none⟩ = some (.string ⟨n0_2_0.toArray⟩) := by rw [hb0.cell (p := ⟨w.heap.size, 2, none⟩) (by simp; try omega)]; simp
  have ep0_3_w1 : w1.cell? ⟨w.heap.size, 3, none⟩ = some (.string ⟨n0_2_1.toArray⟩) := by rw [hb0.cell (p := ⟨w.heap.size, 3, none⟩) (by simp; try omega)]; simp
  have ep0_4_w1 : w1.cell? ⟨w.heap.size, 4, none⟩ = some (.int .i64 n0_2_2) := by rw [hb0.cell (p := ⟨w.heap.size, 4, none⟩) (by simp; try omega)]; simp
  have ep0_5_w1 : w1.cell? ⟨w.heap.size, 5, none⟩ = some (.string ⟨n0_2_3.toArray⟩) := by rw [hb0.cell (p := ⟨w.heap.size, 5, none⟩) (by simp; try omega)]; simp
  have ep0_6_w1 : w1.cell? ⟨w.heap.size, 6, none⟩ = some (.slice ca0_6 n0_3.length cc0_6) := by rw [hb0.cell (p := ⟨w.heap.size, 6, none⟩) (by simp; try omega)]; simp
  have Lp0_w1 : w.heap.size < w1.heap.size := by have h := hb0.size; simp at h; omega
  clear hb hb0
  by_cases hr0 : r0 < 0
  · clear hr0b
    go_wp2_with fail
    go_ret
    exact ⟨rfl, below_to Cw_w1.out (by repeat (first | exact Below.refl _ _ | refine Below.alloc ?_ (by simp; try omega) _ | refine Below.setCell ?_ (by simp; try omega) _ | refine belN ?_ _ | refine belD ?_))⟩
  · have hs0 := hr0b (by omega)
    clear hr0b
    have HSZ := Lib.hid (show (zEvent (⟨n0_0, n0_1, ⟨n0_2_0, n0_2_1, n0_2_2, n0_2_3⟩, n0_3⟩ : EventD)) ≤ 1048576 by push_cast; omega)
    clear hs0
    have HN := Lib.hid (show (⟨n0_0, n0_1, ⟨n0_2_0, n0_2_1, n0_2_2, n0_2_3⟩, n0_3⟩ : EventD).fName.length ≤ maxLen from G0.out.2.1)
    have HK := Lib.hid (show (⟨n0_0, n0_1, ⟨n0_2_0, n0_2_1, n0_2_2, n0_2_3⟩, n0_3⟩ : EventD).fCall.fKey.length ≤ maxLen from G0.out.2.2.1.2.1)
    have HZ := Lib.hid (show ∀ s ∈ (⟨n0_0, n0_1, ⟨n0_2_0, n0_2_1, n0_2_2, n0_2_3⟩, n0_3⟩ : EventD).fRecipe, s.length ≤ 1048576 from fun s hs => by have h := HSZ.out; simp only [zEvent] at h; have h2 := sumF_mem List.length _ s hs; simp only at h2; omega)
    have HSP := Lib.hid (fun cs w1 (h : rEvent 0 w1 cs (⟨n0_0, n0_1, ⟨n0_2_0, n0_2_1, n0_2_2, n0_2_3⟩, n0_3⟩ : EventD)) => specIsEvent_any (.agg cs.toArray) (⟨n0_0, n0_1, ⟨n0_2_0, n0_2_1, n0_2_2, n0_2_3⟩, n0_3⟩ : EventD) w1 ⟨cs, rfl, h⟩ HN.out HK.out HZ.out)
    have HIM := Lib.hid (fun cs w1 (h : rEvent 0 w1 cs (⟨n0_0, n0_1, ⟨n0_2_0, n0_2_1, n0_2_2, n0_2_3⟩, n0_3⟩ : EventD)) => implIsEvent_any (.agg cs.toArray) (⟨n0_0, n0_1, ⟨n0_2_0, n0_2_1, n0_2_2, n0_2_3⟩, n0_3⟩ : EventD) w1 ⟨cs, rfl, h⟩ HN.out HK.out HZ.out)
    generalize evB (⟨n0_0, n0_1, ⟨n0_2_0, n0_2_1, n0_2_2, n0_2_3⟩, n0_3⟩ : EventD) = f at *
    have K_p0 := Lp0_w1
    go_wp2_with fail
    refine (toEvent_d _ (⟨n0_0, n0_1, ⟨n0_2_0, n0_2_1, n0_2_2, n0_2_3⟩, n0_3⟩ : EventD) _ ⟨_, rfl, (belEvent A0_w1.out (by repeat (first | exact Below.refl _ _ | refine Below.alloc ?_ (by simp; try omega) _ | refine Below.setCell ?_ (by simp; try omega) _ | refine belN ?_ _ | refine belD ?_)) (Nat.le_refl _))⟩ (by have := HSZ.out; omega)).mono ?_
    rintro e w2 ⟨_, rfl, ho, hb0⟩
    have hb := below_step (w := w1) (by repeat (first | exact Below.refl _ _ | refine Below.alloc ?_ (by simp; try omega) _ | refine Below.setCell ?_ (by simp; try omega) _ | refine belN ?_ _ | refine belD ?_)) hb0
    have Cw_w2 := Lib.hid (Cw_w1.out.trans (hb.mono Cw_w1.out.size))
    have A0_w2 := Lib.hid (belEvent A0_w1.out hb (Nat.le_refl _))
    have ep0_0_w2 := (hb.cell (p := ⟨w.heap.size, 0, none⟩) Lp0_w1).trans ep0_0_w1
    have ep0_1_w2 := (hb.cell (p := ⟨w.heap.size, 1, none⟩) Lp0_w1).trans ep0_1_w1
    have ep0_2_w2 := (hb.cell (p := ⟨w.heap.size, 2, none⟩) Lp0_w1).trans ep0_2_w1
    have ep0_3_w2 := (hb.cell (p := ⟨w.heap.size, 3, none⟩) Lp0_w1).trans ep0_3_w1
    have ep0_4_w2 := (hb.cell (p := ⟨w.heap.size, 4, none⟩) Lp0_w1).trans ep0_4_w1
    have ep0_5_w2 := (hb.cell (p := ⟨w.heap.size, 5, none⟩) Lp0_w1).trans ep0_5_w1
    have ep0_6_w2 := (hb.cell (p := ⟨w.heap.size, 6, none⟩) Lp0_w1).trans ep0_6_w1
    have Lp0_w2 : w.heap.size < w2.heap.size := by have h := hb.size; omega
    clear ep0_0_w1 ep0_1_w1 ep0_2_w1 ep0_3_w1 ep0_4_w1 ep0_5_w1 ep0_6_w1 Lp0_w1
    obtain ⟨uS1_6, rfl, hruS1_6⟩ := ho
    simp only at hruS1_6
    obtain ⟨pS1_6, qS1_6, rfl, _⟩ := sliceAt_len hruS1_6
    have S1 := Lib.hid (show rEvent 0 _ _ (⟨n0_0, n0_1, ⟨n0_2_0, n0_2_1, n0_2_2, n0_2_3⟩, n0_3⟩ : EventD) from ⟨_, rfl, hruS1_6.mono good_str (Nat.zero_le _)⟩)
    clear hruS1_6
    clear hb hb0
    have K_p0 := Lp0_w2
    go_wp2_with fail
    refine (HSP.out _ _ (belEvent S1.out (by repeat (first | exact Below.refl _ _ | refine Below.alloc ?_ (by simp; try omega) _ | refine Below.setCell ?_ (by simp; try omega) _ | refine belN ?_ _ | refine belD ?_)) (Nat.le_refl _))).mono ?_
    rintro e w3 ⟨rfl, hb0⟩
    have hb := below_step (w := w2) (by repeat (first | exact Below.refl _ _ | refine Below.alloc ?_ (by simp; try omega) _ | refine Below.setCell ?_ (by simp; try omega) _ | refine belN ?_ _ | refine belD ?_)) hb0
    have Cw_w3 := Lib.hid (Cw_w2.out.trans (hb.mono Cw_w2.out.size))
    have A0_w3 := Lib.hid (belEvent A0_w2.out hb (Nat.le_refl _))
    have S1_w3 := Lib.hid (belEvent S1.out hb (Nat.le_refl _))
    have ep0_0_w3 := (hb.cell (p := ⟨w.heap.size, 0, none⟩) Lp0_w2).trans ep0_0_w2
    have ep0_1_w3 := (hb.cell (p := ⟨w.heap.size, 1, none⟩) Lp0_w2).trans ep0_1_w2
    have ep0_2_w3 := (hb.cell (p := ⟨w.heap.size, 2, none⟩) Lp0_w2).trans ep0_2_w2
    have ep0_3_w3 := (hb.cell (p := ⟨w.heap.size, 3, none⟩) Lp0_w2).trans ep0_3_w2
    have ep0_4_w3 := (hb.cell (p := ⟨w.heap.size, 4, none⟩) Lp0_w2).trans ep0_4_w2
    have ep0_5_w3 := (hb.cell (p := ⟨w.heap.size, 5, none⟩) Lp0_w2).trans ep0_5_w2
    have ep0_6_w3 := (hb.cell (p := ⟨w.heap.size, 6, none⟩) Lp0_w2).trans ep0_6_w2
    have Lp0_w3 : w.heap.size < w3.heap.size := by have h := hb.size; omega
    clear ep0_0_w2 ep0_1_w2 ep0_2_w2 ep0_3_w2 ep0_4_w2 ep0_5_w2 ep0_6_w2 Lp0_w2
    clear hb hb0
    have K_p0 := Lp0_w3
    go_wp2_with fail
    refine (toEvent_d _ (⟨n0_0, n0_1, ⟨n0_2_0, n0_2_1, n0_2_2, n0_2_3⟩, n0_3⟩ : EventD) _ ⟨_, rfl, (belEvent A0_w3.out (by repeat (first | exact Below.refl _ _ | refine Below.alloc ?_ (by simp; try omega) _ | refine Below.setCell ?_ (by simp; try omega) _ | refine belN ?_ _ | refine belD ?_)) (Nat.le_refl _))⟩ (by have := HSZ.out; omega)).mono ?_
    rintro e w4 ⟨_, rfl, ho, hb0⟩
    have hb := below_step (w := w3) (by repeat (first | exact Below.refl _ _ | refine Below.alloc ?_ (by simp; try omega) _ | refine Below.setCell ?_ (by simp; try omega) _ | refine belN ?_ _ | refine belD ?_)) hb0
    have Cw_w4 := Lib.hid (Cw_w3.out.trans (hb.mono Cw_w3.out.size))
    have A0_w4 := Lib.hid (belEvent A0_w3.out hb (Nat.le_refl _))
    have ep0_0_w4 := (hb.cell (p := ⟨w.heap.size, 0, none⟩) Lp0_w3).trans ep0_0_w3
    have ep0_1_w4 := (hb.cell (p := ⟨w.heap.size, 1, none⟩) Lp0_w3).trans ep0_1_w3
    have ep0_2_w4 := (hb.cell (p := ⟨w.heap.size, 2, none⟩) Lp0_w3).trans ep0_2_w3
    have ep0_3_w4 := (hb.cell (p := ⟨w.heap.size, 3, none⟩) Lp0_w3).trans ep0_3_w3
    have ep0_4_w4 := (hb.cell (p := ⟨w.heap.size, 4, none⟩) Lp0_w3).trans ep0_4_w3
    have ep0_5_w4 := (hb.cell (p := ⟨w.heap.size, 5, none⟩) Lp0_w3).trans ep0_5_w3
    have ep0_6_w4 := (hb.cell (p := ⟨w.heap.size, 6, none⟩) Lp0_w3).trans ep0_6_w3
    have Lp0_w4 : w.heap.size < w4.heap.size := by have h := hb.size; omega
    clear ep0_0_w3 ep0_1_w3 ep0_2_w3 ep0_3_w3 ep0_4_w3 ep0_5_w3 ep0_6_w3 Lp0_w3
    obtain ⟨uX2_6, rfl, hruX2_6⟩ := ho
    simp only at hruX2_6
    obtain ⟨pX2_6, qX2_6, rfl, _⟩ := sliceAt_len hruX2_6
    have X2 := Lib.hid (show rEvent 0 _ _ (⟨n0_0, n0_1, ⟨n0_2_0, n0_2_1, n0_2_2, n0_2_3⟩, n0_3⟩ : EventD) from ⟨_, rfl, hruX2_6.mono good_str (Nat.zero_le _)⟩)
    clear hruX2_6
    clear hb hb0
    have K_p0 := Lp0_w4
    go_wp2_with fail
    refine (HIM.out _ _ (belEvent X2.out (by repeat (first | exact Below.refl _ _ | refine Below.alloc ?_ (by simp; try omega) _ | refine Below.setCell ?_ (by simp; try omega) _ | refine belN ?_ _ | refine belD ?_)) (Nat.le_refl _))).mono ?_
    rintro e w5 ⟨rfl, hb0⟩
    have hb := below_step (w := w4) (by repeat (first | exact Below.refl _ _ | refine Below.alloc ?_ (by simp; try omega) _ | refine Below.setCell ?_ (by simp; try omega) _ | refine belN ?_ _ | refine belD ?_)) hb0
    have Cw_w5 := Lib.hid (Cw_w4.out.trans (hb.mono Cw_w4.out.size))
    have A0_w5 := Lib.hid (belEvent A0_w4.out hb (Nat.le_refl _))
    have X2_w5 := Lib.hid (belEvent X2.out hb (Nat.le_refl _))
    have ep0_0_w5 := (hb.cell (p := ⟨w.heap.size, 0, none⟩) Lp0_w4).trans ep0_0_w4
    have ep0_1_w5 := (hb.cell (p := ⟨w.heap.size, 1, none⟩) Lp0_w4).trans ep0_1_w4
    have ep0_2_w5 := (hb.cell (p := ⟨w.heap.size, 2, none⟩) Lp0_w4).trans ep0_2_w4
    have ep0_3_w5 := (hb.cell (p := ⟨w.heap.size, 3, none⟩) Lp0_w4).trans ep0_3_w4
    have ep0_4_w5 := (hb.cell (p := ⟨w.heap.size, 4, none⟩) Lp0_w4).trans ep0_4_w4
    have ep0_5_w5 := (hb.cell (p := ⟨w.heap.size, 5, none⟩) Lp0_w4).trans ep0_5_w4
    have ep0_6_w5 := (hb.cell (p := ⟨w.heap.size, 6, none⟩) Lp0_w4).trans ep0_6_w4
    have Lp0_w5 : w.heap.size < w5.heap.size := by have h := hb.size; omega
    clear ep0_0_w4 ep0_1_w4 ep0_2_w4 ep0_3_w4 ep0_4_w4 ep0_5_w4 ep0_6_w4 Lp0_w4
    have ex0_0_w5 : w5.cell? ⟨w4.heap.size, 0, none⟩ = some (.int .i64 n0_0) := by rw [hb0.cell (p := ⟨w4.heap.size, 0, none⟩) (by simp; try omega)]; simp
    have ex0_1_w5 : w5.cell? ⟨w4.heap.size, 1, none⟩ = some (.string ⟨n0_1.toArray⟩) := by rw [hb0.cell (p := ⟨w4.heap.size, 1, none⟩) (by simp; try omega)]; simp
    have ex0_2_w5 : w5.cell? ⟨w4.heap.size, 2, none⟩ = some (.string ⟨n0_2_0.toArray⟩) := by rw [hb0.cell (p := ⟨w4.heap.size, 2, none⟩) (by simp; try omega)]; simp
    have ex0_3_w5 : w5.cell? ⟨w4.heap.size, 3, none⟩ = some (.string ⟨n0_2_1.toArray⟩) := by rw [hb0.cell (p := ⟨w4.heap.size, 3, none⟩) (by simp; try omega)]; simp
    have ex0_4_w5 : w5.cell? ⟨w4.heap.size, 4, none⟩ = some (.int .i64 n0_2_2) := by rw [hb0.cell (p := ⟨w4.heap.size, 4, none⟩) (by simp; try omega)]; simp
    have ex0_5_w5 : w5.cell? ⟨w4.heap.size, 5, none⟩ = some (.string ⟨n0_2_3.toArray⟩) := by rw [hb0.cell (p := ⟨w4.heap.size, 5, none⟩) (by simp; try omega)]; simp
    have ex0_6_w5 : w5.cell? ⟨w4.heap.size, 6, none⟩ = some (.slice pX2_6 n0_3.length qX2_6) := by rw [hb0.cell (p := ⟨w4.heap.size, 6, none⟩) (by simp; try omega)]; simp
    have Lx0_w5 : w4.heap.size < w5.heap.size := by have h := hb0.size; simp at h; omega
    clear hb hb0
    go_wp2_with fail
    go_region_held3 (fun w' => w'.cell? ⟨w4.heap.size, 0, none⟩ = some (.int .i64 n0_0) ∧ w'.cell? ⟨w4.heap.size, 1, none⟩ = some (.string ⟨n0_1.toArray⟩) ∧ w'.cell? ⟨w4.heap.size, 2, none⟩ = some (.string ⟨n0_2_0.toArray⟩) ∧ w'.cell? ⟨w4.heap.size, 3, none⟩ = some (.string ⟨n0_2_1.toArray⟩) ∧ w'.cell? ⟨w4.heap.size, 4, none⟩ = some (.int .i64 n0_2_2) ∧ w'.cell? ⟨w4.heap.size, 5, none⟩ = some (.string ⟨n0_2_3.toArray⟩) ∧ w'.cell? ⟨w4.heap.size, 6, none⟩ = some (.slice pX2_6 n0_3.length qX2_6) ∧ w'.cell? ⟨w.heap.size, 0, none⟩ = some (.int .i64 n0_0) ∧ w'.cell? ⟨w.heap.size, 1, none⟩ = some (.string ⟨n0_1.toArray⟩) ∧ w'.cell? ⟨w.heap.size, 2, none⟩ = some (.string ⟨n0_2_0.toArray⟩) ∧ w'.cell? ⟨w.heap.size, 3, none⟩ = some (.string ⟨n0_2_1.toArray⟩) ∧ w'.cell? ⟨w.heap.size, 4, none⟩ = some (.int .i64 n0_2_2) ∧ w'.cell? ⟨w.heap.size, 5, none⟩ = some (.string ⟨n0_2_3.toArray⟩) ∧ w'.cell? ⟨w.heap.size, 6, none⟩ = some (.slice ca0_6 n0_3.length cc0_6))
      (first
        | exact ⟨(hbA.cell (p := ⟨w4.heap.size, 0, none⟩) (by simp; omega)).trans ex0_0_w5, (hbA.cell (p := ⟨w4.heap.size, 1, none⟩) (by simp; omega)).trans ex0_1_w5, (hbA.cell (p := ⟨w4.heap.size, 2, none⟩) (by simp; omega)).trans ex0_2_w5, (hbA.cell (p := ⟨w4.heap.size, 3, none⟩) (by simp; omega)).trans ex0_3_w5, (hbA.cell (p := ⟨w4.heap.size, 4, none⟩) (by simp; omega)).trans ex0_4_w5, (hbA.cell (p := ⟨w4.heap.size, 5, none⟩) (by simp; omega)).trans ex0_5_w5, (hbA.cell (p := ⟨w4.heap.size, 6, none⟩) (by simp; omega)).trans ex0_6_w5, (hbA.cell (p := ⟨w.heap.size, 0, none⟩) (by simp; omega)).trans ep0_0_w5, (hbA.cell (p := ⟨w.heap.size, 1, none⟩) (by simp; omega)).trans ep0_1_w5, (hbA.cell (p := ⟨w.heap.size, 2, none⟩) (by simp; omega)).trans ep0_2_w5, (hbA.cell (p := ⟨w.heap.size, 3, none⟩) (by simp; omega)).trans ep0_3_w5, (hbA.cell (p := ⟨w.heap.size, 4, none⟩) (by simp; omega)).trans ep0_4_w5, (hbA.cell (p := ⟨w.heap.size, 5, none⟩) (by simp; omega)).trans ep0_5_w5, (hbA.cell (p := ⟨w.heap.size, 6, none⟩) (by simp; omega)).trans ep0_6_w5⟩
        | exact ⟨(hbB.cell (p := ⟨w4.heap.size, 0, none⟩) (by have h := hbA.size; simp at h; simp; omega)).trans ((hbA.cell (p := ⟨w4.heap.size, 0, none⟩) (by simp; omega)).trans ex0_0_w5), (hbB.cell (p := ⟨w4.heap.size, 1, none⟩) (by have h := hbA.size; simp at h; simp; omega)).trans ((hbA.cell (p := ⟨w4.heap.size, 1, none⟩) (by simp; omega)).trans ex0_1_w5), (hbB.cell (p := ⟨w4.heap.size, 2, none⟩) (by have h := hbA.size; simp at h; simp; omega)).trans ((hbA.cell (p := ⟨w4.heap.size, 2, none⟩) (by simp; omega)).trans ex0_2_w5), (hbB.cell (p := ⟨w4.heap.size, 3, none⟩) (by have h := hbA.size; simp at h; simp; omega)).trans ((hbA.cell (p := ⟨w4.heap.size, 3, none⟩) (by simp; omega)).trans ex0_3_w5), (hbB.cell (p := ⟨w4.heap.size, 4, none⟩) (by have h := hbA.size; simp at h; simp; omega)).trans ((hbA.cell (p := ⟨w4.heap.size, 4, none⟩) (by simp; omega)).trans ex0_4_w5), (hbB.cell (p := ⟨w4.heap.size, 5, none⟩) (by have h := hbA.size; simp at h; simp; omega)).trans ((hbA.cell (p := ⟨w4.heap.size, 5, none⟩) (by simp; omega)).trans ex0_5_w5), (hbB.cell (p := ⟨w4.heap.size, 6, none⟩) (by have h := hbA.size; simp at h; simp; omega)).trans ((hbA.cell (p := ⟨w4.heap.size, 6, none⟩) (by simp; omega)).trans ex0_6_w5), (hbB.cell (p := ⟨w.heap.size, 0, none⟩) (by have h := hbA.size; simp at h; simp; omega)).trans ((hbA.cell (p := ⟨w.heap.size, 0, none⟩) (by simp; omega)).trans ep0_0_w5), (hbB.cell (p := ⟨w.heap.size, 1, none⟩) (by have h := hbA.size; simp at h; simp; omega)).trans ((hbA.cell (p := ⟨w.heap.size, 1, none⟩) (by simp; omega)).trans ep0_1_w5), (hbB.cell (p := ⟨w.heap.size, 2, none⟩) (by have h := hbA.size; simp at h; simp; omega)).trans ((hbA.cell (p := ⟨w.heap.size, 2, none⟩) (by simp; omega)).trans ep0_2_w5), (hbB.cell (p := ⟨w.heap.size, 3, none⟩) (by have h := hbA.size; simp at h; simp; omega)).trans ((hbA.cell (p := ⟨w.heap.size, 3, none⟩) (by simp; omega)).trans ep0_3_w5), (hbB.cell (p := ⟨w.heap.size, 4, none⟩) (by have h := hbA.size; simp at h; simp; omega)).trans ((hbA.cell (p := ⟨w.heap.size, 4, none⟩) (by simp; omega)).trans ep0_4_w5), (hbB.cell (p := ⟨w.heap.size, 5, none⟩) (by have h := hbA.size; simp at h; simp; omega)).trans ((hbA.cell (p := ⟨w.heap.size, 5, none⟩) (by simp; omega)).trans ep0_5_w5), (hbB.cell (p := ⟨w.heap.size, 6, none⟩) (by have h := hbA.size; simp at h; simp; omega)).trans ((hbA.cell (p := ⟨w.heap.size, 6, none⟩) (by simp; omega)).trans ep0_6_w5)⟩
        | go_keep)
      (first
        | (go_at_call 30; refine (toEvent_d _ (⟨n0_0, n0_1, ⟨n0_2_0, n0_2_1, n0_2_2, n0_2_3⟩, n0_3⟩ : EventD) _ ⟨_, rfl, (belEvent A0_w5.out (by repeat (first | exact Below.refl _ _ | refine Below.alloc ?_ (by simp; try omega) _ | refine Below.setCell ?_ (by simp; try omega) _ | refine belN ?_ _ | refine belD ?_)) (Nat.le_refl _))⟩ (by have := HSZ.out; omega)).mono ?_; rintro e w6 ⟨_, rfl, hoZ, hbA⟩)
        | (go_at_call 32; refine (eqEvent_d _ _ (⟨n0_0, n0_1, ⟨n0_2_0, n0_2_1, n0_2_2, n0_2_3⟩, n0_3⟩ : EventD) (⟨n0_0, n0_1, ⟨n0_2_0, n0_2_1, n0_2_2, n0_2_3⟩, n0_3⟩ : EventD) _ ⟨_, rfl, (belEvent X2_w5.out (below_step (w := w5) (by repeat (first | exact Below.refl _ _ | refine Below.alloc ?_ (by simp; try omega) _ | refine Below.setCell ?_ (by simp; try omega) _ | refine belN ?_ _ | refine belD ?_)) hbA) (Nat.le_refl _))⟩ ⟨_, rfl, (goodEvent.mono hoZ (Nat.zero_le _))⟩).mono ?_; rintro e w7 ⟨rfl, hbB⟩))
    have hb1 := below_step (w := w5) (by repeat (first | exact Below.refl _ _ | refine Below.alloc ?_ (by simp; try omega) _ | refine Below.setCell ?_ (by simp; try omega) _ | refine belN ?_ _ | refine belD ?_)) hbA
    have hb := hb1.trans (hbB.mono hb1.size)
    rename_i hheld
    clear hheld hoZ
    have Cw_w7 := Lib.hid (Cw_w5.out.trans (hb.mono Cw_w5.out.size))
    have A0_w7 := Lib.hid (belEvent A0_w5.out hb (Nat.le_refl _))
    have X2_w7 := Lib.hid (belEvent X2_w5.out hb (Nat.le_refl _))
    have ep0_0_w7 := (hb.cell (p := ⟨w.heap.size, 0, none⟩) Lp0_w5).trans ep0_0_w5
    have ep0_1_w7 := (hb.cell (p := ⟨w.heap.size, 1, none⟩) Lp0_w5).trans ep0_1_w5
    have ep0_2_w7 := (hb.cell (p := ⟨w.heap.size, 2, none⟩) Lp0_w5).trans ep0_2_w5
    have ep0_3_w7 := (hb.cell (p := ⟨w.heap.size, 3, none⟩) Lp0_w5).trans ep0_3_w5
    have ep0_4_w7 := (hb.cell (p := ⟨w.heap.size, 4, none⟩) Lp0_w5).trans ep0_4_w5
    have ep0_5_w7 := (hb.cell (p := ⟨w.heap.size, 5, none⟩) Lp0_w5).trans ep0_5_w5
    have ep0_6_w7 := (hb.cell (p := ⟨w.heap.size, 6, none⟩) Lp0_w5).trans ep0_6_w5
    have Lp0_w7 : w.heap.size < w7.heap.size := by have h := hb.size; omega
    clear ep0_0_w5 ep0_1_w5 ep0_2_w5 ep0_3_w5 ep0_4_w5 ep0_5_w5 ep0_6_w5 Lp0_w5
    have ex0_0_w7 := (hb.cell (p := ⟨w4.heap.size, 0, none⟩) Lx0_w5).trans ex0_0_w5
    have ex0_1_w7 := (hb.cell (p := ⟨w4.heap.size, 1, none⟩) Lx0_w5).trans ex0_1_w5
    have ex0_2_w7 := (hb.cell (p := ⟨w4.heap.size, 2, none⟩) Lx0_w5).trans ex0_2_w5
    have ex0_3_w7 := (hb.cell (p := ⟨w4.heap.size, 3, none⟩) Lx0_w5).trans ex0_3_w5
    have ex0_4_w7 := (hb.cell (p := ⟨w4.heap.size, 4, none⟩) Lx0_w5).trans ex0_4_w5
    have ex0_5_w7 := (hb.cell (p := ⟨w4.heap.size, 5, none⟩) Lx0_w5).trans ex0_5_w5
    have ex0_6_w7 := (hb.cell (p := ⟨w4.heap.size, 6, none⟩) Lx0_w5).trans ex0_6_w5
    have Lx0_w7 : w4.heap.size < w7.heap.size := by have h := hb.size; omega
    clear ex0_0_w5 ex0_1_w5 ex0_2_w5 ex0_3_w5 ex0_4_w5 ex0_5_w5 ex0_6_w5 Lx0_w5
    clear hb hb1 hbA hbB
    go_wp2_with fail
    go_ret
    exact ⟨rfl, below_to Cw_w7.out (by repeat (first | exact Below.refl _ _ | refine Below.alloc ?_ (by simp; try omega) _ | refine Below.setCell ?_ (by simp; try omega) _ | refine belN ?_ _ | refine belD ?_))⟩
set_option maxRecDepth 100000 in
theorem fnExactIsEvent_lifted (os : Os) (started : os.Started) (H : Type) (enc : TypeId × Value → H) :
    ReturnsInHanded {} Tryz.checked os 7 .any (Rows.fnExactIsEventSpec.pre6 enc Tryz.prog Tryz.f7 Rows.fnExactIsEventRow.domain false) (Rows.fnExactIsEventSpec.post enc Tryz.prog Tryz.f7 false true false false) := by
  refine returnsInHanded_of_change (C := Tryz.checked) ownK started (by kernel_rfl) Tryz.func7
    (ChangeSpec.witness6 (enc := enc) (C := Tryz.checked) false ⟨#[], #[.agg #[.int .i64 0, .string ⟨#[]⟩, .string ⟨#[]⟩, .string ⟨#[]⟩, .int .i64 0, .string ⟨#[]⟩, .slice none 0 0]], []⟩ 8 (by kernel_rfl) (by kernel_rfl) (by kernel_rfl) (by kernel_rfl)) ?_
  intro W base args ds gs before hval0 hW _ _
  have hval : ∀ (j : Nat) t v, Tryz.f7.params[j]? = some t → args[j]? = some v → Value.okWide Tryz.prog W .any base t v := hval0
  have hW' := hW
  obtain ⟨p, q, hA0, _, rfl, _, _⟩ := hW
  have hA : DataW.TrodAll enc Tryz.prog W 0 (fun _ => true) true Tryz.f7.params.toList args.toList ds p := hA0
  rw [Tryz.params7] at hA hval
  obtain ⟨v0, vs0, d0, ds0, p0, q0, hargs, rfl, rfl, h0, r0⟩ := trodAll_cons hA
  obtain ⟨rfl, rfl, rfl⟩ := trodAll_nil r0
  obtain rfl : args = #[v0] := by cases args; simp_all
  obtain ⟨x0, w0, z0⟩ := arg_Event (hval 0 60 v0 rfl rfl) h0
  clear hA0 hval0
  refine (exactIsEvent_any v0 x0 W w0 z0).mono fun e W1 ⟨he, hb⟩ => ?_
  subst he
  exact ⟨_, rfl, law_post laidK rfl (by kernel_rfl) Tryz.underlying4 (by kernel_rfl) (fun ds h => by match ds, h with | [_], _ => rfl) hW' hb⟩
theorem fnExactIsEvent_closed : joinedFacts Tryz.prog 7 Tryz.f7 Rows.fnExactIsEventSpec Rows.fnExactIsEventRow = true := by unfold joinedFacts; rw [mayEnter_k, liftsFinal_k, make_k]; kernel_rfl
theorem fnExactIsEvent_holds : Rows.FnExactIsEventSaid :=
  OpenClaim.holds_of_wide 7 Tryz.f7 rfl rfl rfl rfl rfl rfl rfl ⟨rfl, rfl, rfl, rfl, rfl⟩ rfl rfl rfl rfl rfl (by kernel_rfl) Tryz.func7 fnExactIsEvent_closed
    (of_decide_eq_true (by kernel_rfl)) (by unfold Func.isWrapper; first | (rw [if_pos (by decide +kernel)]; kernel_rfl) | (rw [if_neg (by decide +kernel)]; exact ⟨rfl, rfl⟩))
    (fun os started H enc _ => fnExactIsEvent_lifted os started H enc)
end Go.Proofs.YtlkpinlkbikokabGreat
