/- FnExactSamePart: at every two parts the program's SamePart answers as the model's (parts of more than 2^20 cells, layers and signs together are not asked). No condition. -/
import Derived.Test.YtbofplofpggdlabLaw5
import Derived.Test.YtbofplofpggdlabPart2
import Derived.Test.YtbofplofpggdlabPart3
import Derived.Test.YtbofplofpggdlabOpenPart
namespace Go.Proofs.Ytbofplofpggdlab
set_option linter.unusedVariables false
open Go.ChangeShapes Go.WideShapes Go.ChangeAt Go.RowKit Go.WideMaps Go.WideElems
open Go.ChangeMaps (open_string shut_string)
set_option maxRecDepth 100000 in
set_option maxHeartbeats 3200000 in
theorem exactSamePart_any (v0 : Value) (x0 : PartD) (v1 : Value) (x1 : PartD) (w : World) (a0 : ValAt rPart 0 w v0 x0) (g0 : okPart x0) (a1 : ValAt rPart 0 w v1 x1) (g1 : okPart x1) :
    Calls Try.prog 8 #[v0, v1] w fun e w' => e = .returned (.bool true) ∧ Below w.heap.size w w' := by
  obtain ⟨_, rfl, a0⟩ := a0
  obtain ⟨⟨n0_0_0, n0_0_1, n0_0_2, n0_0_3, n0_0_4⟩, n0_1⟩ := x0
  obtain ⟨_, rfl, a1⟩ := a1
  obtain ⟨⟨n1_0_0, n1_0_1, n1_0_2, n1_0_3, n1_0_4⟩, n1_1⟩ := x1
  try simp only at *
  obtain ⟨ua0_3, ua0_5, rfl, hrua0_3, hrua0_5⟩ := a0
  simp only at hrua0_3 hrua0_5
  obtain ⟨ca0_3, cc0_3, rfl, _⟩ := sliceAt_len hrua0_3
  obtain ⟨ca0_5, cc0_5, rfl, _⟩ := sliceAt_len hrua0_5
  have A0 := Lib.hid (show rPart 0 _ _ (⟨⟨n0_0_0, n0_0_1, n0_0_2, n0_0_3, n0_0_4⟩, n0_1⟩ : PartD) from ⟨_, _, rfl, hrua0_3.mono (good_flat cCell_len) (Nat.zero_le _), hrua0_5.mono (good_flat cLayer_len) (Nat.zero_le _)⟩)
  have G0 := Lib.hid g0
  clear g0 hrua0_3 hrua0_5
  obtain ⟨ua1_3, ua1_5, rfl, hrua1_3, hrua1_5⟩ := a1
  simp only at hrua1_3 hrua1_5
  obtain ⟨ca1_3, cc1_3, rfl, _⟩ := sliceAt_len hrua1_3
  obtain ⟨ca1_5, cc1_5, rfl, _⟩ := sliceAt_len hrua1_5
  have A1 := Lib.hid (show rPart 0 _ _ (⟨⟨n1_0_0, n1_0_1, n1_0_2, n1_0_3, n1_0_4⟩, n1_1⟩ : PartD) from ⟨_, _, rfl, hrua1_3.mono (good_flat cCell_len) (Nat.zero_le _), hrua1_5.mono (good_flat cLayer_len) (Nat.zero_le _)⟩)
  have G1 := Lib.hid g1
  clear g1 hrua1_3 hrua1_5
  go_enter Try.func8, Try.ntmps8
  go_wp2_with fail
  refine (szPart_d _ (⟨⟨n0_0_0, n0_0_1, n0_0_2, n0_0_3, n0_0_4⟩, n0_1⟩ : PartD) 1048576 _ ⟨_, rfl, (belPart A0.out (by repeat (first | exact Below.refl _ _ | refine Below.alloc ?_ (by simp; try omega) _ | refine Below.setCell ?_ (by simp; try omega) _ | refine belN ?_ _ | refine belD ?_)) (Nat.le_refl _))⟩ G0.out (by omega) (by omega)).mono ?_
  rintro e w1 ⟨r0, rfl, hr0a, hr0b, hb0⟩
  have hb := below_step (w := w) (by repeat (first | exact Below.refl _ _ | refine Below.alloc ?_ (by simp; try omega) _ | refine Below.setCell ?_ (by simp; try omega) _ | refine belN ?_ _ | refine belD ?_)) hb0
  have Cw_w1 := Lib.hid hb
  have A0_w1 := Lib.hid (belPart A0.out hb (Nat.le_refl _))
  have A1_w1 := Lib.hid (belPart A1.out hb (Nat.le_refl _))
  have ep0_0_w1 : w1.cell? ⟨w.heap.size, 0, none⟩ = some (.string ⟨n0_0_0.toArray⟩) := by rw [hb0.cell (p := ⟨w.heap.size, 0, none⟩) (by simp; try omega)]; simp
  have ep0_1_w1 : w1.cell? ⟨w.heap.size, 1, none⟩ = some (.bool n0_0_1) := by rw [hb0.cell (p := ⟨w.heap.size, 1, none⟩) (by simp; try omega)]; simp
  have ep0_2_w1 : w1.cell? ⟨w.heap.size, 2, none⟩ = some (.bool n0_0_2) := by rw [hb0.cell (p := ⟨w.heap.size, 2, none⟩) (by simp; try omega)]; simp
  have ep0_3_w1 : w1.cell? ⟨w.heap.size, 3, none⟩ = some (.slice ca0_3 n0_0_3.length cc0_3) := by rw [hb0.cell (p := ⟨w.heap.size, 3, none⟩) (by simp; try omega)]; simp
  have ep0_4_w1 : w1.cell? ⟨w.heap.size, 4, none⟩ = some (.int .i64 n0_0_4) := by rw [hb0.cell (p := ⟨w.heap.size, 4, none⟩) (by simp; try omega)]; simp
  have ep0_5_w1 : w1.cell? ⟨w.heap.size, 5, none⟩ = some (.slice ca0_5 n0_1.length cc0_5) := by rw [hb0.cell (p := ⟨w.heap.size, 5, none⟩) (by simp; try omega)]; simp
  have Lp0_w1 : w.heap.size < w1.heap.size := by have h := hb0.size; simp at h; omega
  have ep1_0_w1 : w1.cell? ⟨w.heap.size + 1, 0, none⟩ = some (.string ⟨n1_0_0.toArray⟩) := by rw [hb0.cell (p := ⟨w.heap.size + 1, 0, none⟩) (by simp; try omega)]; simp
  have ep1_1_w1 : w1.cell? ⟨w.heap.size + 1, 1, none⟩ = some (.bool n1_0_1) := by rw [hb0.cell (p := ⟨w.heap.size + 1, 1, none⟩) (by simp; try omega)]; simp
  have ep1_2_w1 : w1.cell? ⟨w.heap.size + 1, 2, none⟩ = some (.bool n1_0_2) := by rw [hb0.cell (p := ⟨w.heap.size + 1, 2, none⟩) (by simp; try omega)]; simp
  have ep1_3_w1 : w1.cell? ⟨w.heap.size + 1, 3, none⟩ = some (.slice ca1_3 n1_0_3.length cc1_3) := by rw [hb0.cell (p := ⟨w.heap.size + 1, 3, none⟩) (by simp; try omega)]; simp
  have ep1_4_w1 : w1.cell? ⟨w.heap.size + 1, 4, none⟩ = some (.int .i64 n1_0_4) := by rw [hb0.cell (p := ⟨w.heap.size + 1, 4, none⟩) (by simp; try omega)]; simp
  have ep1_5_w1 : w1.cell? ⟨w.heap.size + 1, 5, none⟩ = some (.slice ca1_5 n1_1.length cc1_5) := by rw [hb0.cell (p := ⟨w.heap.size + 1, 5, none⟩) (by simp; try omega)]; simp
  have Lp1_w1 : w.heap.size + 1 < w1.heap.size := by have h := hb0.size; simp at h; omega
  clear hb hb0
  by_cases hr0 : r0 < 0
  · clear hr0b
    go_wp2_with fail
    go_ret
    exact ⟨rfl, below_to Cw_w1.out (by repeat (first | exact Below.refl _ _ | refine Below.alloc ?_ (by simp; try omega) _ | refine Below.setCell ?_ (by simp; try omega) _ | refine belN ?_ _ | refine belD ?_))⟩
  · have hs0 := hr0b (by omega)
    clear hr0b
    go_wp2_with fail
    refine (szPart_d _ (⟨⟨n1_0_0, n1_0_1, n1_0_2, n1_0_3, n1_0_4⟩, n1_1⟩ : PartD) r0 _ ⟨_, rfl, (belPart A1_w1.out (by repeat (first | exact Below.refl _ _ | refine Below.alloc ?_ (by simp; try omega) _ | refine Below.setCell ?_ (by simp; try omega) _ | refine belN ?_ _ | refine belD ?_)) (Nat.le_refl _))⟩ G1.out (by omega) (by omega)).mono ?_
    rintro e w2 ⟨r1, rfl, hr1a, hr1b, hb0⟩
    have hb := below_step (w := w1) (by repeat (first | exact Below.refl _ _ | refine Below.alloc ?_ (by simp; try omega) _ | refine Below.setCell ?_ (by simp; try omega) _ | refine belN ?_ _ | refine belD ?_)) hb0
    have Cw_w2 := Lib.hid (Cw_w1.out.trans (hb.mono Cw_w1.out.size))
    have A0_w2 := Lib.hid (belPart A0_w1.out hb (Nat.le_refl _))
    have A1_w2 := Lib.hid (belPart A1_w1.out hb (Nat.le_refl _))
    have ep0_0_w2 := (hb.cell (p := ⟨w.heap.size, 0, none⟩) Lp0_w1).trans ep0_0_w1
    have ep0_1_w2 := (hb.cell (p := ⟨w.heap.size, 1, none⟩) Lp0_w1).trans ep0_1_w1
    have ep0_2_w2 := (hb.cell (p := ⟨w.heap.size, 2, none⟩) Lp0_w1).trans ep0_2_w1
    have ep0_3_w2 := (hb.cell (p := ⟨w.heap.size, 3, none⟩) Lp0_w1).trans ep0_3_w1
    have ep0_4_w2 := (hb.cell (p := ⟨w.heap.size, 4, none⟩) Lp0_w1).trans ep0_4_w1
    have ep0_5_w2 := (hb.cell (p := ⟨w.heap.size, 5, none⟩) Lp0_w1).trans ep0_5_w1
    have Lp0_w2 : w.heap.size < w2.heap.size := by have h := hb.size; omega
    clear ep0_0_w1 ep0_1_w1 ep0_2_w1 ep0_3_w1 ep0_4_w1 ep0_5_w1 Lp0_w1
    have ep1_0_w2 := (hb.cell (p := ⟨w.heap.size + 1, 0, none⟩) Lp1_w1).trans ep1_0_w1
    have ep1_1_w2 := (hb.cell (p := ⟨w.heap.size + 1, 1, none⟩) Lp1_w1).trans ep1_1_w1
    have ep1_2_w2 := (hb.cell (p := ⟨w.heap.size + 1, 2, none⟩) Lp1_w1).trans ep1_2_w1
    have ep1_3_w2 := (hb.cell (p := ⟨w.heap.size + 1, 3, none⟩) Lp1_w1).trans ep1_3_w1
    have ep1_4_w2 := (hb.cell (p := ⟨w.heap.size + 1, 4, none⟩) Lp1_w1).trans ep1_4_w1
    have ep1_5_w2 := (hb.cell (p := ⟨w.heap.size + 1, 5, none⟩) Lp1_w1).trans ep1_5_w1
    have Lp1_w2 : w.heap.size + 1 < w2.heap.size := by have h := hb.size; omega
    clear ep1_0_w1 ep1_1_w1 ep1_2_w1 ep1_3_w1 ep1_4_w1 ep1_5_w1 Lp1_w1
    clear hb hb0
    by_cases hr1 : r1 < 0
    · clear hr1b
      go_wp2_with fail
      go_ret
      exact ⟨rfl, below_to Cw_w2.out (by repeat (first | exact Below.refl _ _ | refine Below.alloc ?_ (by simp; try omega) _ | refine Below.setCell ?_ (by simp; try omega) _ | refine belN ?_ _ | refine belD ?_))⟩
    · have hs1 := hr1b (by omega)
      clear hr1b
      have HSZ := Lib.hid (show (zPart (⟨⟨n0_0_0, n0_0_1, n0_0_2, n0_0_3, n0_0_4⟩, n0_1⟩ : PartD)) + (zPart (⟨⟨n1_0_0, n1_0_1, n1_0_2, n1_0_3, n1_0_4⟩, n1_1⟩ : PartD)) ≤ 1048576 by push_cast; omega)
      clear hs0 hs1
      have HSP := Lib.hid (fun cs ds w1 (h : rPart 0 w1 cs (⟨⟨n0_0_0, n0_0_1, n0_0_2, n0_0_3, n0_0_4⟩, n0_1⟩ : PartD)) (h2 : rPart 0 w1 ds (⟨⟨n1_0_0, n1_0_1, n1_0_2, n1_0_3, n1_0_4⟩, n1_1⟩ : PartD)) => specSamePart_any (.agg cs.toArray) (.agg ds.toArray) (⟨⟨n0_0_0, n0_0_1, n0_0_2, n0_0_3, n0_0_4⟩, n0_1⟩ : PartD) (⟨⟨n1_0_0, n1_0_1, n1_0_2, n1_0_3, n1_0_4⟩, n1_1⟩ : PartD) w1 ⟨cs, rfl, h⟩ ⟨ds, rfl, h2⟩)
      have HIM := Lib.hid (fun cs ds w1 (h : rPart 0 w1 cs (⟨⟨n0_0_0, n0_0_1, n0_0_2, n0_0_3, n0_0_4⟩, n0_1⟩ : PartD)) (h2 : rPart 0 w1 ds (⟨⟨n1_0_0, n1_0_1, n1_0_2, n1_0_3, n1_0_4⟩, n1_1⟩ : PartD)) => implSamePart_any (.agg cs.toArray) (.agg ds.toArray) (⟨⟨n0_0_0, n0_0_1, n0_0_2, n0_0_3, n0_0_4⟩, n0_1⟩ : PartD) (⟨⟨n1_0_0, n1_0_1, n1_0_2, n1_0_3, n1_0_4⟩, n1_1⟩ : PartD) w1 ⟨cs, rfl, h⟩ ⟨ds, rfl, h2⟩)
      generalize decide ((⟨⟨n0_0_0, n0_0_1, n0_0_2, n0_0_3, n0_0_4⟩, n0_1⟩ : PartD) = (⟨⟨n1_0_0, n1_0_1, n1_0_2, n1_0_3, n1_0_4⟩, n1_1⟩ : PartD)) = f at *
      have T0 := Lib.hid (fun w0 (h : rPart 0 w0 [.string ⟨n0_0_0.toArray⟩, .bool n0_0_1, .bool n0_0_2, .slice ca0_3 n0_0_3.length cc0_3, .int .i64 n0_0_4, .slice ca0_5 n0_1.length cc0_5] (⟨⟨n0_0_0, n0_0_1, n0_0_2, n0_0_3, n0_0_4⟩, n0_1⟩ : PartD)) => toPart_d _ (⟨⟨n0_0_0, n0_0_1, n0_0_2, n0_0_3, n0_0_4⟩, n0_1⟩ : PartD) w0 ⟨_, rfl, h⟩ (by have := HSZ.out; omega))
      have T1 := Lib.hid (fun w0 (h : rPart 0 w0 [.string ⟨n1_0_0.toArray⟩, .bool n1_0_1, .bool n1_0_2, .slice ca1_3 n1_0_3.length cc1_3, .int .i64 n1_0_4, .slice ca1_5 n1_1.length cc1_5] (⟨⟨n1_0_0, n1_0_1, n1_0_2, n1_0_3, n1_0_4⟩, n1_1⟩ : PartD)) => toPart_d _ (⟨⟨n1_0_0, n1_0_1, n1_0_2, n1_0_3, n1_0_4⟩, n1_1⟩ : PartD) w0 ⟨_, rfl, h⟩ (by have := HSZ.out; omega))
      go_wp2_with fail
      go_region_held3 (fun w' => w'.cell? ⟨w.heap.size, 0, none⟩ = some (.string ⟨n0_0_0.toArray⟩) ∧ w'.cell? ⟨w.heap.size, 1, none⟩ = some (.bool n0_0_1) ∧ w'.cell? ⟨w.heap.size, 2, none⟩ = some (.bool n0_0_2) ∧ w'.cell? ⟨w.heap.size, 3, none⟩ = some (.slice ca0_3 n0_0_3.length cc0_3) ∧ w'.cell? ⟨w.heap.size, 4, none⟩ = some (.int .i64 n0_0_4) ∧ w'.cell? ⟨w.heap.size, 5, none⟩ = some (.slice ca0_5 n0_1.length cc0_5) ∧ w'.cell? ⟨w.heap.size + 1, 0, none⟩ = some (.string ⟨n1_0_0.toArray⟩) ∧ w'.cell? ⟨w.heap.size + 1, 1, none⟩ = some (.bool n1_0_1) ∧ w'.cell? ⟨w.heap.size + 1, 2, none⟩ = some (.bool n1_0_2) ∧ w'.cell? ⟨w.heap.size + 1, 3, none⟩ = some (.slice ca1_3 n1_0_3.length cc1_3) ∧ w'.cell? ⟨w.heap.size + 1, 4, none⟩ = some (.int .i64 n1_0_4) ∧ w'.cell? ⟨w.heap.size + 1, 5, none⟩ = some (.slice ca1_5 n1_1.length cc1_5))
        (first
          | exact ⟨(hbZ2.cell (p := ⟨w.heap.size, 0, none⟩) (by have h0 := hbZ0.size; (try simp at h0); have h1 := hbZ1.size; (try simp at h1); simp; try omega)).trans ((hbZ1.cell (p := ⟨w.heap.size, 0, none⟩) (by have h0 := hbZ0.size; (try simp at h0); simp; try omega)).trans ((hbZ0.cell (p := ⟨w.heap.size, 0, none⟩) (by simp; try omega)).trans ep0_0_w2)), (hbZ2.cell (p := ⟨w.heap.size, 1, none⟩) (by have h0 := hbZ0.size; (try simp at h0); have h1 := hbZ1.size; (try simp at h1); simp; try omega)).trans ((hbZ1.cell (p := ⟨w.heap.size, 1, none⟩) (by have h0 := hbZ0.size; (try simp at h0); simp; try omega)).trans ((hbZ0.cell (p := ⟨w.heap.size, 1, none⟩) (by simp; try omega)).trans ep0_1_w2)), (hbZ2.cell (p := ⟨w.heap.size, 2, none⟩) (by have h0 := hbZ0.size; (try simp at h0); have h1 := hbZ1.size; (try simp at h1); simp; try omega)).trans ((hbZ1.cell (p := ⟨w.heap.size, 2, none⟩) (by have h0 := hbZ0.size; (try simp at h0); simp; try omega)).trans ((hbZ0.cell (p := ⟨w.heap.size, 2, none⟩) (by simp; try omega)).trans ep0_2_w2)), (hbZ2.cell (p := ⟨w.heap.size, 3, none⟩) (by have h0 := hbZ0.size; (try simp at h0); have h1 := hbZ1.size; (try simp at h1); simp; try omega)).trans ((hbZ1.cell (p := ⟨w.heap.size, 3, none⟩) (by have h0 := hbZ0.size; (try simp at h0); simp; try omega)).trans ((hbZ0.cell (p := ⟨w.heap.size, 3, none⟩) (by simp; try omega)).trans ep0_3_w2)), (hbZ2.cell (p := ⟨w.heap.size, 4, none⟩) (by have h0 := hbZ0.size; (try simp at h0); have h1 := hbZ1.size; (try simp at h1); simp; try omega)).trans ((hbZ1.cell (p := ⟨w.heap.size, 4, none⟩) (by have h0 := hbZ0.size; (try simp at h0); simp; try omega)).trans ((hbZ0.cell (p := ⟨w.heap.size, 4, none⟩) (by simp; try omega)).trans ep0_4_w2)), (hbZ2.cell (p := ⟨w.heap.size, 5, none⟩) (by have h0 := hbZ0.size; (try simp at h0); have h1 := hbZ1.size; (try simp at h1); simp; try omega)).trans ((hbZ1.cell (p := ⟨w.heap.size, 5, none⟩) (by have h0 := hbZ0.size; (try simp at h0); simp; try omega)).trans ((hbZ0.cell (p := ⟨w.heap.size, 5, none⟩) (by simp; try omega)).trans ep0_5_w2)), (hbZ2.cell (p := ⟨w.heap.size + 1, 0, none⟩) (by have h0 := hbZ0.size; (try simp at h0); have h1 := hbZ1.size; (try simp at h1); simp; try omega)).trans ((hbZ1.cell (p := ⟨w.heap.size + 1, 0, none⟩) (by have h0 := hbZ0.size; (try simp at h0); simp; try omega)).trans ((hbZ0.cell (p := ⟨w.heap.size + 1, 0, none⟩) (by simp; try omega)).trans ep1_0_w2)), (hbZ2.cell (p := ⟨w.heap.size + 1, 1, none⟩) (by have h0 := hbZ0.size; (try simp at h0); have h1 := hbZ1.size; (try simp at h1); simp; try omega)).trans ((hbZ1.cell (p := ⟨w.heap.size + 1, 1, none⟩) (by have h0 := hbZ0.size; (try simp at h0); simp; try omega)).trans ((hbZ0.cell (p := ⟨w.heap.size + 1, 1, none⟩) (by simp; try omega)).trans ep1_1_w2)), (hbZ2.cell (p := ⟨w.heap.size + 1, 2, none⟩) (by have h0 := hbZ0.size; (try simp at h0); have h1 := hbZ1.size; (try simp at h1); simp; try omega)).trans ((hbZ1.cell (p := ⟨w.heap.size + 1, 2, none⟩) (by have h0 := hbZ0.size; (try simp at h0); simp; try omega)).trans ((hbZ0.cell (p := ⟨w.heap.size + 1, 2, none⟩) (by simp; try omega)).trans ep1_2_w2)), (hbZ2.cell (p := ⟨w.heap.size + 1, 3, none⟩) (by have h0 := hbZ0.size; (try simp at h0); have h1 := hbZ1.size; (try simp at h1); simp; try omega)).trans ((hbZ1.cell (p := ⟨w.heap.size + 1, 3, none⟩) (by have h0 := hbZ0.size; (try simp at h0); simp; try omega)).trans ((hbZ0.cell (p := ⟨w.heap.size + 1, 3, none⟩) (by simp; try omega)).trans ep1_3_w2)), (hbZ2.cell (p := ⟨w.heap.size + 1, 4, none⟩) (by have h0 := hbZ0.size; (try simp at h0); have h1 := hbZ1.size; (try simp at h1); simp; try omega)).trans ((hbZ1.cell (p := ⟨w.heap.size + 1, 4, none⟩) (by have h0 := hbZ0.size; (try simp at h0); simp; try omega)).trans ((hbZ0.cell (p := ⟨w.heap.size + 1, 4, none⟩) (by simp; try omega)).trans ep1_4_w2)), (hbZ2.cell (p := ⟨w.heap.size + 1, 5, none⟩) (by have h0 := hbZ0.size; (try simp at h0); have h1 := hbZ1.size; (try simp at h1); simp; try omega)).trans ((hbZ1.cell (p := ⟨w.heap.size + 1, 5, none⟩) (by have h0 := hbZ0.size; (try simp at h0); simp; try omega)).trans ((hbZ0.cell (p := ⟨w.heap.size + 1, 5, none⟩) (by simp; try omega)).trans ep1_5_w2))⟩
          | exact ⟨(hbZ1.cell (p := ⟨w.heap.size, 0, none⟩) (by have h0 := hbZ0.size; (try simp at h0); simp; try omega)).trans ((hbZ0.cell (p := ⟨w.heap.size, 0, none⟩) (by simp; try omega)).trans ep0_0_w2), (hbZ1.cell (p := ⟨w.heap.size, 1, none⟩) (by have h0 := hbZ0.size; (try simp at h0); simp; try omega)).trans ((hbZ0.cell (p := ⟨w.heap.size, 1, none⟩) (by simp; try omega)).trans ep0_1_w2), (hbZ1.cell (p := ⟨w.heap.size, 2, none⟩) (by have h0 := hbZ0.size; (try simp at h0); simp; try omega)).trans ((hbZ0.cell (p := ⟨w.heap.size, 2, none⟩) (by simp; try omega)).trans ep0_2_w2), (hbZ1.cell (p := ⟨w.heap.size, 3, none⟩) (by have h0 := hbZ0.size; (try simp at h0); simp; try omega)).trans ((hbZ0.cell (p := ⟨w.heap.size, 3, none⟩) (by simp; try omega)).trans ep0_3_w2), (hbZ1.cell (p := ⟨w.heap.size, 4, none⟩) (by have h0 := hbZ0.size; (try simp at h0); simp; try omega)).trans ((hbZ0.cell (p := ⟨w.heap.size, 4, none⟩) (by simp; try omega)).trans ep0_4_w2), (hbZ1.cell (p := ⟨w.heap.size, 5, none⟩) (by have h0 := hbZ0.size; (try simp at h0); simp; try omega)).trans ((hbZ0.cell (p := ⟨w.heap.size, 5, none⟩) (by simp; try omega)).trans ep0_5_w2), (hbZ1.cell (p := ⟨w.heap.size + 1, 0, none⟩) (by have h0 := hbZ0.size; (try simp at h0); simp; try omega)).trans ((hbZ0.cell (p := ⟨w.heap.size + 1, 0, none⟩) (by simp; try omega)).trans ep1_0_w2), (hbZ1.cell (p := ⟨w.heap.size + 1, 1, none⟩) (by have h0 := hbZ0.size; (try simp at h0); simp; try omega)).trans ((hbZ0.cell (p := ⟨w.heap.size + 1, 1, none⟩) (by simp; try omega)).trans ep1_1_w2), (hbZ1.cell (p := ⟨w.heap.size + 1, 2, none⟩) (by have h0 := hbZ0.size; (try simp at h0); simp; try omega)).trans ((hbZ0.cell (p := ⟨w.heap.size + 1, 2, none⟩) (by simp; try omega)).trans ep1_2_w2), (hbZ1.cell (p := ⟨w.heap.size + 1, 3, none⟩) (by have h0 := hbZ0.size; (try simp at h0); simp; try omega)).trans ((hbZ0.cell (p := ⟨w.heap.size + 1, 3, none⟩) (by simp; try omega)).trans ep1_3_w2), (hbZ1.cell (p := ⟨w.heap.size + 1, 4, none⟩) (by have h0 := hbZ0.size; (try simp at h0); simp; try omega)).trans ((hbZ0.cell (p := ⟨w.heap.size + 1, 4, none⟩) (by simp; try omega)).trans ep1_4_w2), (hbZ1.cell (p := ⟨w.heap.size + 1, 5, none⟩) (by have h0 := hbZ0.size; (try simp at h0); simp; try omega)).trans ((hbZ0.cell (p := ⟨w.heap.size + 1, 5, none⟩) (by simp; try omega)).trans ep1_5_w2)⟩
          | exact ⟨(hbZ0.cell (p := ⟨w.heap.size, 0, none⟩) (by simp; try omega)).trans ep0_0_w2, (hbZ0.cell (p := ⟨w.heap.size, 1, none⟩) (by simp; try omega)).trans ep0_1_w2, (hbZ0.cell (p := ⟨w.heap.size, 2, none⟩) (by simp; try omega)).trans ep0_2_w2, (hbZ0.cell (p := ⟨w.heap.size, 3, none⟩) (by simp; try omega)).trans ep0_3_w2, (hbZ0.cell (p := ⟨w.heap.size, 4, none⟩) (by simp; try omega)).trans ep0_4_w2, (hbZ0.cell (p := ⟨w.heap.size, 5, none⟩) (by simp; try omega)).trans ep0_5_w2, (hbZ0.cell (p := ⟨w.heap.size + 1, 0, none⟩) (by simp; try omega)).trans ep1_0_w2, (hbZ0.cell (p := ⟨w.heap.size + 1, 1, none⟩) (by simp; try omega)).trans ep1_1_w2, (hbZ0.cell (p := ⟨w.heap.size + 1, 2, none⟩) (by simp; try omega)).trans ep1_2_w2, (hbZ0.cell (p := ⟨w.heap.size + 1, 3, none⟩) (by simp; try omega)).trans ep1_3_w2, (hbZ0.cell (p := ⟨w.heap.size + 1, 4, none⟩) (by simp; try omega)).trans ep1_4_w2, (hbZ0.cell (p := ⟨w.heap.size + 1, 5, none⟩) (by simp; try omega)).trans ep1_5_w2⟩
          | go_keep)
        (first
          | (go_at_call 11; (with_reducible refine (T0.out _ (belPart A0_w2.out (by repeat (first | exact Below.refl _ _ | refine Below.alloc ?_ (by simp; try omega) _ | refine Below.setCell ?_ (by simp; try omega) _ | refine belN ?_ _ | refine belD ?_)) (Nat.le_refl _))).mono ?_); rintro e w3 ⟨_, rfl, houZ0, hbZ0⟩)
          | (go_at_call 11; (with_reducible refine (T1.out _ (belPart A1_w2.out (below_step (w := w2) (by repeat (first | exact Below.refl _ _ | refine Below.alloc ?_ (by simp; try omega) _ | refine Below.setCell ?_ (by simp; try omega) _ | refine belN ?_ _ | refine belD ?_)) hbZ0) (Nat.le_refl _))).mono ?_); rintro e w4 ⟨_, rfl, houZ1, hbZ1⟩)
          | (go_at_call 27; refine (HSP.out _ _ _ (goodPart.mono (goodPart.keep houZ0 (kept_below (below_list1 hbZ1) (Nat.le_refl _))) (Nat.zero_le _)) (goodPart.mono (goodPart.keep houZ1 (kept_below (Below.refl _ _) (Nat.le_refl _))) (Nat.zero_le _))).mono ?_; rintro e w5 ⟨rfl, hbZ2⟩))
      have hb1 := below_step (w := w2) (by repeat (first | exact Below.refl _ _ | refine Below.alloc ?_ (by simp; try omega) _ | refine Below.setCell ?_ (by simp; try omega) _ | refine belN ?_ _ | refine belD ?_)) hbZ0
      have hb2 := hb1.trans (hbZ1.mono hb1.size)
      have hb3 := hb2.trans (hbZ2.mono hb2.size)
      have hb := hb3
      have hszF := hb2.size
      have Cw_w5 := Lib.hid (Cw_w2.out.trans (hb.mono Cw_w2.out.size))
      have A0_w5 := Lib.hid (belPart A0_w2.out hb (Nat.le_refl _))
      have A1_w5 := Lib.hid (belPart A1_w2.out hb (Nat.le_refl _))
      have ep0_0_w5 := (hb.cell (p := ⟨w.heap.size, 0, none⟩) Lp0_w2).trans ep0_0_w2
      have ep0_1_w5 := (hb.cell (p := ⟨w.heap.size, 1, none⟩) Lp0_w2).trans ep0_1_w2
      have ep0_2_w5 := (hb.cell (p := ⟨w.heap.size, 2, none⟩) Lp0_w2).trans ep0_2_w2
      have ep0_3_w5 := (hb.cell (p := ⟨w.heap.size, 3, none⟩) Lp0_w2).trans ep0_3_w2
      have ep0_4_w5 := (hb.cell (p := ⟨w.heap.size, 4, none⟩) Lp0_w2).trans ep0_4_w2
      have ep0_5_w5 := (hb.cell (p := ⟨w.heap.size, 5, none⟩) Lp0_w2).trans ep0_5_w2
      have Lp0_w5 : w.heap.size < w5.heap.size := by have h := hb.size; omega
      clear ep0_0_w2 ep0_1_w2 ep0_2_w2 ep0_3_w2 ep0_4_w2 ep0_5_w2 Lp0_w2
      have ep1_0_w5 := (hb.cell (p := ⟨w.heap.size + 1, 0, none⟩) Lp1_w2).trans ep1_0_w2
      have ep1_1_w5 := (hb.cell (p := ⟨w.heap.size + 1, 1, none⟩) Lp1_w2).trans ep1_1_w2
      have ep1_2_w5 := (hb.cell (p := ⟨w.heap.size + 1, 2, none⟩) Lp1_w2).trans ep1_2_w2
      have ep1_3_w5 := (hb.cell (p := ⟨w.heap.size + 1, 3, none⟩) Lp1_w2).trans ep1_3_w2
      have ep1_4_w5 := (hb.cell (p := ⟨w.heap.size + 1, 4, none⟩) Lp1_w2).trans ep1_4_w2
      have ep1_5_w5 := (hb.cell (p := ⟨w.heap.size + 1, 5, none⟩) Lp1_w2).trans ep1_5_w2
      have Lp1_w5 : w.heap.size + 1 < w5.heap.size := by have h := hb.size; omega
      clear ep1_0_w2 ep1_1_w2 ep1_2_w2 ep1_3_w2 ep1_4_w2 ep1_5_w2 Lp1_w2
      rename_i hheld
      clear hheld
      clear hb hb1 hb2 hb3 hbZ0 hbZ1 hbZ2 houZ0 houZ1 hszF
      have K_p0 := Lp0_w5
      have K_p1 := Lp1_w5
      go_wp2_with fail
      refine (toPart_d _ (⟨⟨n0_0_0, n0_0_1, n0_0_2, n0_0_3, n0_0_4⟩, n0_1⟩ : PartD) _ ⟨_, rfl, (belPart A0_w5.out (by repeat (first | exact Below.refl _ _ | refine Below.alloc ?_ (by simp; try omega) _ | refine Below.setCell ?_ (by simp; try omega) _ | refine belN ?_ _ | refine belD ?_)) (Nat.le_refl _))⟩ (by have := HSZ.out; omega)).mono ?_
      rintro e w6 ⟨_, rfl, ho, hb0⟩
      have hb := below_step (w := w5) (by repeat (first | exact Below.refl _ _ | refine Below.alloc ?_ (by simp; try omega) _ | refine Below.setCell ?_ (by simp; try omega) _ | refine belN ?_ _ | refine belD ?_)) hb0
      have Cw_w6 := Lib.hid (Cw_w5.out.trans (hb.mono Cw_w5.out.size))
      have A0_w6 := Lib.hid (belPart A0_w5.out hb (Nat.le_refl _))
      have A1_w6 := Lib.hid (belPart A1_w5.out hb (Nat.le_refl _))
      have ep0_0_w6 := (hb.cell (p := ⟨w.heap.size, 0, none⟩) Lp0_w5).trans ep0_0_w5
      have ep0_1_w6 := (hb.cell (p := ⟨w.heap.size, 1, none⟩) Lp0_w5).trans ep0_1_w5
      have ep0_2_w6 := (hb.cell (p := ⟨w.heap.size, 2, none⟩) Lp0_w5).trans ep0_2_w5
      have ep0_3_w6 := (hb.cell (p := ⟨w.heap.size, 3, none⟩) Lp0_w5).trans ep0_3_w5
      have ep0_4_w6 := (hb.cell (p := ⟨w.heap.size, 4, none⟩) Lp0_w5).trans ep0_4_w5
      have ep0_5_w6 := (hb.cell (p := ⟨w.heap.size, 5, none⟩) Lp0_w5).trans ep0_5_w5
      have Lp0_w6 : w.heap.size < w6.heap.size := by have h := hb.size; omega
      clear ep0_0_w5 ep0_1_w5 ep0_2_w5 ep0_3_w5 ep0_4_w5 ep0_5_w5 Lp0_w5
      have ep1_0_w6 := (hb.cell (p := ⟨w.heap.size + 1, 0, none⟩) Lp1_w5).trans ep1_0_w5
      have ep1_1_w6 := (hb.cell (p := ⟨w.heap.size + 1, 1, none⟩) Lp1_w5).trans ep1_1_w5
      have ep1_2_w6 := (hb.cell (p := ⟨w.heap.size + 1, 2, none⟩) Lp1_w5).trans ep1_2_w5
      have ep1_3_w6 := (hb.cell (p := ⟨w.heap.size + 1, 3, none⟩) Lp1_w5).trans ep1_3_w5
      have ep1_4_w6 := (hb.cell (p := ⟨w.heap.size + 1, 4, none⟩) Lp1_w5).trans ep1_4_w5
      have ep1_5_w6 := (hb.cell (p := ⟨w.heap.size + 1, 5, none⟩) Lp1_w5).trans ep1_5_w5
      have Lp1_w6 : w.heap.size + 1 < w6.heap.size := by have h := hb.size; omega
      clear ep1_0_w5 ep1_1_w5 ep1_2_w5 ep1_3_w5 ep1_4_w5 ep1_5_w5 Lp1_w5
      obtain ⟨uX1_3, uX1_5, rfl, hruX1_3, hruX1_5⟩ := ho
      simp only at hruX1_3 hruX1_5
      obtain ⟨pX1_3, qX1_3, rfl, _⟩ := sliceAt_len hruX1_3
      obtain ⟨pX1_5, qX1_5, rfl, _⟩ := sliceAt_len hruX1_5
      have X1 := Lib.hid (show rPart 0 _ _ (⟨⟨n0_0_0, n0_0_1, n0_0_2, n0_0_3, n0_0_4⟩, n0_1⟩ : PartD) from ⟨_, _, rfl, hruX1_3.mono (good_flat cCell_len) (Nat.zero_le _), hruX1_5.mono (good_flat cLayer_len) (Nat.zero_le _)⟩)
      clear hruX1_3 hruX1_5
      clear hb hb0
      have K_p0 := Lp0_w6
      have K_p1 := Lp1_w6
      go_wp2_with fail
      refine (toPart_d _ (⟨⟨n1_0_0, n1_0_1, n1_0_2, n1_0_3, n1_0_4⟩, n1_1⟩ : PartD) _ ⟨_, rfl, (belPart A1_w6.out (by repeat (first | exact Below.refl _ _ | refine Below.alloc ?_ (by simp; try omega) _ | refine Below.setCell ?_ (by simp; try omega) _ | refine belN ?_ _ | refine belD ?_)) (Nat.le_refl _))⟩ (by have := HSZ.out; omega)).mono ?_
      rintro e w7 ⟨_, rfl, ho, hb0⟩
      have hb := below_step (w := w6) (by repeat (first | exact Below.refl _ _ | refine Below.alloc ?_ (by simp; try omega) _ | refine Below.setCell ?_ (by simp; try omega) _ | refine belN ?_ _ | refine belD ?_)) hb0
      have Cw_w7 := Lib.hid (Cw_w6.out.trans (hb.mono Cw_w6.out.size))
      have A0_w7 := Lib.hid (belPart A0_w6.out hb (Nat.le_refl _))
      have A1_w7 := Lib.hid (belPart A1_w6.out hb (Nat.le_refl _))
      have X1_w7 := Lib.hid (belPart X1.out hb (Nat.le_refl _))
      have ep0_0_w7 := (hb.cell (p := ⟨w.heap.size, 0, none⟩) Lp0_w6).trans ep0_0_w6
      have ep0_1_w7 := (hb.cell (p := ⟨w.heap.size, 1, none⟩) Lp0_w6).trans ep0_1_w6
      have ep0_2_w7 := (hb.cell (p := ⟨w.heap.size, 2, none⟩) Lp0_w6).trans ep0_2_w6
      have ep0_3_w7 := (hb.cell (p := ⟨w.heap.size, 3, none⟩) Lp0_w6).trans ep0_3_w6
      have ep0_4_w7 := (hb.cell (p := ⟨w.heap.size, 4, none⟩) Lp0_w6).trans ep0_4_w6
      have ep0_5_w7 := (hb.cell (p := ⟨w.heap.size, 5, none⟩) Lp0_w6).trans ep0_5_w6
      have Lp0_w7 : w.heap.size < w7.heap.size := by have h := hb.size; omega
      clear ep0_0_w6 ep0_1_w6 ep0_2_w6 ep0_3_w6 ep0_4_w6 ep0_5_w6 Lp0_w6
      have ep1_0_w7 := (hb.cell (p := ⟨w.heap.size + 1, 0, none⟩) Lp1_w6).trans ep1_0_w6
      have ep1_1_w7 := (hb.cell (p := ⟨w.heap.size + 1, 1, none⟩) Lp1_w6).trans ep1_1_w6
      have ep1_2_w7 := (hb.cell (p := ⟨w.heap.size + 1, 2, none⟩) Lp1_w6).trans ep1_2_w6
      have ep1_3_w7 := (hb.cell (p := ⟨w.heap.size + 1, 3, none⟩) Lp1_w6).trans ep1_3_w6
      have ep1_4_w7 := (hb.cell (p := ⟨w.heap.size + 1, 4, none⟩) Lp1_w6).trans ep1_4_w6
      have ep1_5_w7 := (hb.cell (p := ⟨w.heap.size + 1, 5, none⟩) Lp1_w6).trans ep1_5_w6
      have Lp1_w7 : w.heap.size + 1 < w7.heap.size := by have h := hb.size; omega
      clear ep1_0_w6 ep1_1_w6 ep1_2_w6 ep1_3_w6 ep1_4_w6 ep1_5_w6 Lp1_w6
      have ex0_0_w7 : w7.cell? ⟨w6.heap.size, 0, none⟩ = some (.string ⟨n0_0_0.toArray⟩) := by rw [hb0.cell (p := ⟨w6.heap.size, 0, none⟩) (by simp; try omega)]; simp
      have ex0_1_w7 : w7.cell? ⟨w6.heap.size, 1, none⟩ = some (.bool n0_0_1) := by rw [hb0.cell (p := ⟨w6.heap.size, 1, none⟩) (by simp; try omega)]; simp
      have ex0_2_w7 : w7.cell? ⟨w6.heap.size, 2, none⟩ = some (.bool n0_0_2) := by rw [hb0.cell (p := ⟨w6.heap.size, 2, none⟩) (by simp; try omega)]; simp
      have ex0_3_w7 : w7.cell? ⟨w6.heap.size, 3, none⟩ = some (.slice pX1_3 n0_0_3.length qX1_3) := by rw [hb0.cell (p := ⟨w6.heap.size, 3, none⟩) (by simp; try omega)]; simp
      have ex0_4_w7 : w7.cell? ⟨w6.heap.size, 4, none⟩ = some (.int .i64 n0_0_4) := by rw [hb0.cell (p := ⟨w6.heap.size, 4, none⟩) (by simp; try omega)]; simp
      have ex0_5_w7 : w7.cell? ⟨w6.heap.size, 5, none⟩ = some (.slice pX1_5 n0_1.length qX1_5) := by rw [hb0.cell (p := ⟨w6.heap.size, 5, none⟩) (by simp; try omega)]; simp
      have Lx0_w7 : w6.heap.size < w7.heap.size := by have h := hb0.size; simp at h; omega
      obtain ⟨uX2_3, uX2_5, rfl, hruX2_3, hruX2_5⟩ := ho
      simp only at hruX2_3 hruX2_5
      obtain ⟨pX2_3, qX2_3, rfl, _⟩ := sliceAt_len hruX2_3
      obtain ⟨pX2_5, qX2_5, rfl, _⟩ := sliceAt_len hruX2_5
      have X2 := Lib.hid (show rPart 0 _ _ (⟨⟨n1_0_0, n1_0_1, n1_0_2, n1_0_3, n1_0_4⟩, n1_1⟩ : PartD) from ⟨_, _, rfl, hruX2_3.mono (good_flat cCell_len) (Nat.zero_le _), hruX2_5.mono (good_flat cLayer_len) (Nat.zero_le _)⟩)
      clear hruX2_3 hruX2_5
      clear hb hb0
      have K_p0 := Lp0_w7
      have K_p1 := Lp1_w7
      have K_x0 := Lx0_w7
      go_wp2_with fail
      refine (HIM.out _ _ _ (belPart X1_w7.out (by repeat (first | exact Below.refl _ _ | refine Below.alloc ?_ (by simp; try omega) _ | refine Below.setCell ?_ (by simp; try omega) _ | refine belN ?_ _ | refine belD ?_)) (Nat.le_refl _)) (belPart X2.out (by repeat (first | exact Below.refl _ _ | refine Below.alloc ?_ (by simp; try omega) _ | refine Below.setCell ?_ (by simp; try omega) _ | refine belN ?_ _ | refine belD ?_)) (Nat.le_refl _))).mono ?_
      rintro e w8 ⟨rfl, hb0⟩
      have hb := below_step (w := w7) (by repeat (first | exact Below.refl _ _ | refine Below.alloc ?_ (by simp; try omega) _ | refine Below.setCell ?_ (by simp; try omega) _ | refine belN ?_ _ | refine belD ?_)) hb0
      have Cw_w8 := Lib.hid (Cw_w7.out.trans (hb.mono Cw_w7.out.size))
      have A0_w8 := Lib.hid (belPart A0_w7.out hb (Nat.le_refl _))
      have A1_w8 := Lib.hid (belPart A1_w7.out hb (Nat.le_refl _))
      have X1_w8 := Lib.hid (belPart X1_w7.out hb (Nat.le_refl _))
      have X2_w8 := Lib.hid (belPart X2.out hb (Nat.le_refl _))
      have ep0_0_w8 := (hb.cell (p := ⟨w.heap.size, 0, none⟩) Lp0_w7).trans ep0_0_w7
      have ep0_1_w8 := (hb.cell (p := ⟨w.heap.size, 1, none⟩) Lp0_w7).trans ep0_1_w7
      have ep0_2_w8 := (hb.cell (p := ⟨w.heap.size, 2, none⟩) Lp0_w7).trans ep0_2_w7
      have ep0_3_w8 := (hb.cell (p := ⟨w.heap.size, 3, none⟩) Lp0_w7).trans ep0_3_w7
      have ep0_4_w8 := (hb.cell (p := ⟨w.heap.size, 4, none⟩) Lp0_w7).trans ep0_4_w7
      have ep0_5_w8 := (hb.cell (p := ⟨w.heap.size, 5, none⟩) Lp0_w7).trans ep0_5_w7
      have Lp0_w8 : w.heap.size < w8.heap.size := by have h := hb.size; omega
      clear ep0_0_w7 ep0_1_w7 ep0_2_w7 ep0_3_w7 ep0_4_w7 ep0_5_w7 Lp0_w7
      have ep1_0_w8 := (hb.cell (p := ⟨w.heap.size + 1, 0, none⟩) Lp1_w7).trans ep1_0_w7
      have ep1_1_w8 := (hb.cell (p := ⟨w.heap.size + 1, 1, none⟩) Lp1_w7).trans ep1_1_w7
      have ep1_2_w8 := (hb.cell (p := ⟨w.heap.size + 1, 2, none⟩) Lp1_w7).trans ep1_2_w7
      have ep1_3_w8 := (hb.cell (p := ⟨w.heap.size + 1, 3, none⟩) Lp1_w7).trans ep1_3_w7
      have ep1_4_w8 := (hb.cell (p := ⟨w.heap.size + 1, 4, none⟩) Lp1_w7).trans ep1_4_w7
      have ep1_5_w8 := (hb.cell (p := ⟨w.heap.size + 1, 5, none⟩) Lp1_w7).trans ep1_5_w7
      have Lp1_w8 : w.heap.size + 1 < w8.heap.size := by have h := hb.size; omega
      clear ep1_0_w7 ep1_1_w7 ep1_2_w7 ep1_3_w7 ep1_4_w7 ep1_5_w7 Lp1_w7
      have ex0_0_w8 := (hb.cell (p := ⟨w6.heap.size, 0, none⟩) Lx0_w7).trans ex0_0_w7
      have ex0_1_w8 := (hb.cell (p := ⟨w6.heap.size, 1, none⟩) Lx0_w7).trans ex0_1_w7
      have ex0_2_w8 := (hb.cell (p := ⟨w6.heap.size, 2, none⟩) Lx0_w7).trans ex0_2_w7
      have ex0_3_w8 := (hb.cell (p := ⟨w6.heap.size, 3, none⟩) Lx0_w7).trans ex0_3_w7
      have ex0_4_w8 := (hb.cell (p := ⟨w6.heap.size, 4, none⟩) Lx0_w7).trans ex0_4_w7
      have ex0_5_w8 := (hb.cell (p := ⟨w6.heap.size, 5, none⟩) Lx0_w7).trans ex0_5_w7
      have Lx0_w8 : w6.heap.size < w8.heap.size := by have h := hb.size; omega
      clear ex0_0_w7 ex0_1_w7 ex0_2_w7 ex0_3_w7 ex0_4_w7 ex0_5_w7 Lx0_w7
      have ex1_0_w8 : w8.cell? ⟨w7.heap.size, 0, none⟩ = some (.string ⟨n1_0_0.toArray⟩) := by rw [hb0.cell (p := ⟨w7.heap.size, 0, none⟩) (by simp; try omega)]; simp
      have ex1_1_w8 : w8.cell? ⟨w7.heap.size, 1, none⟩ = some (.bool n1_0_1) := by rw [hb0.cell (p := ⟨w7.heap.size, 1, none⟩) (by simp; try omega)]; simp
      have ex1_2_w8 : w8.cell? ⟨w7.heap.size, 2, none⟩ = some (.bool n1_0_2) := by rw [hb0.cell (p := ⟨w7.heap.size, 2, none⟩) (by simp; try omega)]; simp
      have ex1_3_w8 : w8.cell? ⟨w7.heap.size, 3, none⟩ = some (.slice pX2_3 n1_0_3.length qX2_3) := by rw [hb0.cell (p := ⟨w7.heap.size, 3, none⟩) (by simp; try omega)]; simp
      have ex1_4_w8 : w8.cell? ⟨w7.heap.size, 4, none⟩ = some (.int .i64 n1_0_4) := by rw [hb0.cell (p := ⟨w7.heap.size, 4, none⟩) (by simp; try omega)]; simp
      have ex1_5_w8 : w8.cell? ⟨w7.heap.size, 5, none⟩ = some (.slice pX2_5 n1_1.length qX2_5) := by rw [hb0.cell (p := ⟨w7.heap.size, 5, none⟩) (by simp; try omega)]; simp
      have Lx1_w8 : w7.heap.size < w8.heap.size := by have h := hb0.size; simp at h; omega
      clear hb hb0
      go_wp2_with fail
      go_region_held3 (fun w' => w'.cell? ⟨w6.heap.size, 0, none⟩ = some (.string ⟨n0_0_0.toArray⟩) ∧ w'.cell? ⟨w6.heap.size, 1, none⟩ = some (.bool n0_0_1) ∧ w'.cell? ⟨w6.heap.size, 2, none⟩ = some (.bool n0_0_2) ∧ w'.cell? ⟨w6.heap.size, 3, none⟩ = some (.slice pX1_3 n0_0_3.length qX1_3) ∧ w'.cell? ⟨w6.heap.size, 4, none⟩ = some (.int .i64 n0_0_4) ∧ w'.cell? ⟨w6.heap.size, 5, none⟩ = some (.slice pX1_5 n0_1.length qX1_5) ∧ w'.cell? ⟨w.heap.size, 0, none⟩ = some (.string ⟨n0_0_0.toArray⟩) ∧ w'.cell? ⟨w.heap.size, 1, none⟩ = some (.bool n0_0_1) ∧ w'.cell? ⟨w.heap.size, 2, none⟩ = some (.bool n0_0_2) ∧ w'.cell? ⟨w.heap.size, 3, none⟩ = some (.slice ca0_3 n0_0_3.length cc0_3) ∧ w'.cell? ⟨w.heap.size, 4, none⟩ = some (.int .i64 n0_0_4) ∧ w'.cell? ⟨w.heap.size, 5, none⟩ = some (.slice ca0_5 n0_1.length cc0_5))
        (first
          | exact ⟨(hbA.cell (p := ⟨w6.heap.size, 0, none⟩) (by simp; omega)).trans ex0_0_w8, (hbA.cell (p := ⟨w6.heap.size, 1, none⟩) (by simp; omega)).trans ex0_1_w8, (hbA.cell (p := ⟨w6.heap.size, 2, none⟩) (by simp; omega)).trans ex0_2_w8, (hbA.cell (p := ⟨w6.heap.size, 3, none⟩) (by simp; omega)).trans ex0_3_w8, (hbA.cell (p := ⟨w6.heap.size, 4, none⟩) (by simp; omega)).trans ex0_4_w8, (hbA.cell (p := ⟨w6.heap.size, 5, none⟩) (by simp; omega)).trans ex0_5_w8, (hbA.cell (p := ⟨w.heap.size, 0, none⟩) (by simp; omega)).trans ep0_0_w8, (hbA.cell (p := ⟨w.heap.size, 1, none⟩) (by simp; omega)).trans ep0_1_w8, (hbA.cell (p := ⟨w.heap.size, 2, none⟩) (by simp; omega)).trans ep0_2_w8, (hbA.cell (p := ⟨w.heap.size, 3, none⟩) (by simp; omega)).trans ep0_3_w8, (hbA.cell (p := ⟨w.heap.size, 4, none⟩) (by simp; omega)).trans ep0_4_w8, (hbA.cell (p := ⟨w.heap.size, 5, none⟩) (by simp; omega)).trans ep0_5_w8⟩
          | exact ⟨(hbB.cell (p := ⟨w6.heap.size, 0, none⟩) (by have h := hbA.size; simp at h; simp; omega)).trans ((hbA.cell (p := ⟨w6.heap.size, 0, none⟩) (by simp; omega)).trans ex0_0_w8), (hbB.cell (p := ⟨w6.heap.size, 1, none⟩) (by have h := hbA.size; simp at h; simp; omega)).trans ((hbA.cell (p := ⟨w6.heap.size, 1, none⟩) (by simp; omega)).trans ex0_1_w8), (hbB.cell (p := ⟨w6.heap.size, 2, none⟩) (by have h := hbA.size; simp at h; simp; omega)).trans ((hbA.cell (p := ⟨w6.heap.size, 2, none⟩) (by simp; omega)).trans ex0_2_w8), (hbB.cell (p := ⟨w6.heap.size, 3, none⟩) (by have h := hbA.size; simp at h; simp; omega)).trans ((hbA.cell (p := ⟨w6.heap.size, 3, none⟩) (by simp; omega)).trans ex0_3_w8), (hbB.cell (p := ⟨w6.heap.size, 4, none⟩) (by have h := hbA.size; simp at h; simp; omega)).trans ((hbA.cell (p := ⟨w6.heap.size, 4, none⟩) (by simp; omega)).trans ex0_4_w8), (hbB.cell (p := ⟨w6.heap.size, 5, none⟩) (by have h := hbA.size; simp at h; simp; omega)).trans ((hbA.cell (p := ⟨w6.heap.size, 5, none⟩) (by simp; omega)).trans ex0_5_w8), (hbB.cell (p := ⟨w.heap.size, 0, none⟩) (by have h := hbA.size; simp at h; simp; omega)).trans ((hbA.cell (p := ⟨w.heap.size, 0, none⟩) (by simp; omega)).trans ep0_0_w8), (hbB.cell (p := ⟨w.heap.size, 1, none⟩) (by have h := hbA.size; simp at h; simp; omega)).trans ((hbA.cell (p := ⟨w.heap.size, 1, none⟩) (by simp; omega)).trans ep0_1_w8), (hbB.cell (p := ⟨w.heap.size, 2, none⟩) (by have h := hbA.size; simp at h; simp; omega)).trans ((hbA.cell (p := ⟨w.heap.size, 2, none⟩) (by simp; omega)).trans ep0_2_w8), (hbB.cell (p := ⟨w.heap.size, 3, none⟩) (by have h := hbA.size; simp at h; simp; omega)).trans ((hbA.cell (p := ⟨w.heap.size, 3, none⟩) (by simp; omega)).trans ep0_3_w8), (hbB.cell (p := ⟨w.heap.size, 4, none⟩) (by have h := hbA.size; simp at h; simp; omega)).trans ((hbA.cell (p := ⟨w.heap.size, 4, none⟩) (by simp; omega)).trans ep0_4_w8), (hbB.cell (p := ⟨w.heap.size, 5, none⟩) (by have h := hbA.size; simp at h; simp; omega)).trans ((hbA.cell (p := ⟨w.heap.size, 5, none⟩) (by simp; omega)).trans ep0_5_w8)⟩
          | go_keep)
        (first
          | (go_at_call 11; refine (toPart_d _ (⟨⟨n0_0_0, n0_0_1, n0_0_2, n0_0_3, n0_0_4⟩, n0_1⟩ : PartD) _ ⟨_, rfl, (belPart A0_w8.out (by repeat (first | exact Below.refl _ _ | refine Below.alloc ?_ (by simp; try omega) _ | refine Below.setCell ?_ (by simp; try omega) _ | refine belN ?_ _ | refine belD ?_)) (Nat.le_refl _))⟩ (by have := HSZ.out; omega)).mono ?_; rintro e w9 ⟨_, rfl, hoZ, hbA⟩)
          | (go_at_call 13; refine (eqPart_d _ _ (⟨⟨n0_0_0, n0_0_1, n0_0_2, n0_0_3, n0_0_4⟩, n0_1⟩ : PartD) (⟨⟨n0_0_0, n0_0_1, n0_0_2, n0_0_3, n0_0_4⟩, n0_1⟩ : PartD) _ ⟨_, rfl, (belPart X1_w8.out (below_step (w := w8) (by repeat (first | exact Below.refl _ _ | refine Below.alloc ?_ (by simp; try omega) _ | refine Below.setCell ?_ (by simp; try omega) _ | refine belN ?_ _ | refine belD ?_)) hbA) (Nat.le_refl _))⟩ ⟨_, rfl, (goodPart.mono hoZ (Nat.zero_le _))⟩).mono ?_; rintro e w10 ⟨rfl, hbB⟩))
      have hb1 := below_step (w := w8) (by repeat (first | exact Below.refl _ _ | refine Below.alloc ?_ (by simp; try omega) _ | refine Below.setCell ?_ (by simp; try omega) _ | refine belN ?_ _ | refine belD ?_)) hbA
      have hb := hb1.trans (hbB.mono hb1.size)
      rename_i hheld
      clear hheld hoZ
      have Cw_w10 := Lib.hid (Cw_w8.out.trans (hb.mono Cw_w8.out.size))
      have A0_w10 := Lib.hid (belPart A0_w8.out hb (Nat.le_refl _))
      have A1_w10 := Lib.hid (belPart A1_w8.out hb (Nat.le_refl _))
      have X1_w10 := Lib.hid (belPart X1_w8.out hb (Nat.le_refl _))
      have X2_w10 := Lib.hid (belPart X2_w8.out hb (Nat.le_refl _))
      have ep0_0_w10 := (hb.cell (p := ⟨w.heap.size, 0, none⟩) Lp0_w8).trans ep0_0_w8
      have ep0_1_w10 := (hb.cell (p := ⟨w.heap.size, 1, none⟩) Lp0_w8).trans ep0_1_w8
      have ep0_2_w10 := (hb.cell (p := ⟨w.heap.size, 2, none⟩) Lp0_w8).trans ep0_2_w8
      have ep0_3_w10 := (hb.cell (p := ⟨w.heap.size, 3, none⟩) Lp0_w8).trans ep0_3_w8
      have ep0_4_w10 := (hb.cell (p := ⟨w.heap.size, 4, none⟩) Lp0_w8).trans ep0_4_w8
      have ep0_5_w10 := (hb.cell (p := ⟨w.heap.size, 5, none⟩) Lp0_w8).trans ep0_5_w8
      have Lp0_w10 : w.heap.size < w10.heap.size := by have h := hb.size; omega
      clear ep0_0_w8 ep0_1_w8 ep0_2_w8 ep0_3_w8 ep0_4_w8 ep0_5_w8 Lp0_w8
      have ep1_0_w10 := (hb.cell (p := ⟨w.heap.size + 1, 0, none⟩) Lp1_w8).trans ep1_0_w8
      have ep1_1_w10 := (hb.cell (p := ⟨w.heap.size + 1, 1, none⟩) Lp1_w8).trans ep1_1_w8
      have ep1_2_w10 := (hb.cell (p := ⟨w.heap.size + 1, 2, none⟩) Lp1_w8).trans ep1_2_w8
      have ep1_3_w10 := (hb.cell (p := ⟨w.heap.size + 1, 3, none⟩) Lp1_w8).trans ep1_3_w8
      have ep1_4_w10 := (hb.cell (p := ⟨w.heap.size + 1, 4, none⟩) Lp1_w8).trans ep1_4_w8
      have ep1_5_w10 := (hb.cell (p := ⟨w.heap.size + 1, 5, none⟩) Lp1_w8).trans ep1_5_w8
      have Lp1_w10 : w.heap.size + 1 < w10.heap.size := by have h := hb.size; omega
      clear ep1_0_w8 ep1_1_w8 ep1_2_w8 ep1_3_w8 ep1_4_w8 ep1_5_w8 Lp1_w8
      have ex0_0_w10 := (hb.cell (p := ⟨w6.heap.size, 0, none⟩) Lx0_w8).trans ex0_0_w8
      have ex0_1_w10 := (hb.cell (p := ⟨w6.heap.size, 1, none⟩) Lx0_w8).trans ex0_1_w8
      have ex0_2_w10 := (hb.cell (p := ⟨w6.heap.size, 2, none⟩) Lx0_w8).trans ex0_2_w8
      have ex0_3_w10 := (hb.cell (p := ⟨w6.heap.size, 3, none⟩) Lx0_w8).trans ex0_3_w8
      have ex0_4_w10 := (hb.cell (p := ⟨w6.heap.size, 4, none⟩) Lx0_w8).trans ex0_4_w8
      have ex0_5_w10 := (hb.cell (p := ⟨w6.heap.size, 5, none⟩) Lx0_w8).trans ex0_5_w8
      have Lx0_w10 : w6.heap.size < w10.heap.size := by have h := hb.size; omega
      clear ex0_0_w8 ex0_1_w8 ex0_2_w8 ex0_3_w8 ex0_4_w8 ex0_5_w8 Lx0_w8
      have ex1_0_w10 := (hb.cell (p := ⟨w7.heap.size, 0, none⟩) Lx1_w8).trans ex1_0_w8
      have ex1_1_w10 := (hb.cell (p := ⟨w7.heap.size, 1, none⟩) Lx1_w8).trans ex1_1_w8
      have ex1_2_w10 := (hb.cell (p := ⟨w7.heap.size, 2, none⟩) Lx1_w8).trans ex1_2_w8
      have ex1_3_w10 := (hb.cell (p := ⟨w7.heap.size, 3, none⟩) Lx1_w8).trans ex1_3_w8
      have ex1_4_w10 := (hb.cell (p := ⟨w7.heap.size, 4, none⟩) Lx1_w8).trans ex1_4_w8
      have ex1_5_w10 := (hb.cell (p := ⟨w7.heap.size, 5, none⟩) Lx1_w8).trans ex1_5_w8
      have Lx1_w10 : w7.heap.size < w10.heap.size := by have h := hb.size; omega
      clear ex1_0_w8 ex1_1_w8 ex1_2_w8 ex1_3_w8 ex1_4_w8 ex1_5_w8 Lx1_w8
      clear hb hb1 hbA hbB
      go_wp2_with fail
      go_region_held3 (fun w' => w'.cell? ⟨w7.heap.size, 0, none⟩ = some (.string ⟨n1_0_0.toArray⟩) ∧ w'.cell? ⟨w7.heap.size, 1, none⟩ = some (.bool n1_0_1) ∧ w'.cell? ⟨w7.heap.size, 2, none⟩ = some (.bool n1_0_2) ∧ w'.cell? ⟨w7.heap.size, 3, none⟩ = some (.slice pX2_3 n1_0_3.length qX2_3) ∧ w'.cell? ⟨w7.heap.size, 4, none⟩ = some (.int .i64 n1_0_4) ∧ w'.cell? ⟨w7.heap.size, 5, none⟩ = some (.slice pX2_5 n1_1.length qX2_5) ∧ w'.cell? ⟨w.heap.size + 1, 0, none⟩ = some (.string ⟨n1_0_0.toArray⟩) ∧ w'.cell? ⟨w.heap.size + 1, 1, none⟩ = some (.bool n1_0_1) ∧ w'.cell? ⟨w.heap.size + 1, 2, none⟩ = some (.bool n1_0_2) ∧ w'.cell? ⟨w.heap.size + 1, 3, none⟩ = some (.slice ca1_3 n1_0_3.length cc1_3) ∧ w'.cell? ⟨w.heap.size + 1, 4, none⟩ = some (.int .i64 n1_0_4) ∧ w'.cell? ⟨w.heap.size + 1, 5, none⟩ = some (.slice ca1_5 n1_1.length cc1_5))
        (first
          | exact ⟨(hbA.cell (p := ⟨w7.heap.size, 0, none⟩) (by simp; omega)).trans ex1_0_w10, (hbA.cell (p := ⟨w7.heap.size, 1, none⟩) (by simp; omega)).trans ex1_1_w10, (hbA.cell (p := ⟨w7.heap.size, 2, none⟩) (by simp; omega)).trans ex1_2_w10, (hbA.cell (p := ⟨w7.heap.size, 3, none⟩) (by simp; omega)).trans ex1_3_w10, (hbA.cell (p := ⟨w7.heap.size, 4, none⟩) (by simp; omega)).trans ex1_4_w10, (hbA.cell (p := ⟨w7.heap.size, 5, none⟩) (by simp; omega)).trans ex1_5_w10, (hbA.cell (p := ⟨w.heap.size + 1, 0, none⟩) (by simp; omega)).trans ep1_0_w10, (hbA.cell (p := ⟨w.heap.size + 1, 1, none⟩) (by simp; omega)).trans ep1_1_w10, (hbA.cell (p := ⟨w.heap.size + 1, 2, none⟩) (by simp; omega)).trans ep1_2_w10, (hbA.cell (p := ⟨w.heap.size + 1, 3, none⟩) (by simp; omega)).trans ep1_3_w10, (hbA.cell (p := ⟨w.heap.size + 1, 4, none⟩) (by simp; omega)).trans ep1_4_w10, (hbA.cell (p := ⟨w.heap.size + 1, 5, none⟩) (by simp; omega)).trans ep1_5_w10⟩
          | exact ⟨(hbB.cell (p := ⟨w7.heap.size, 0, none⟩) (by have h := hbA.size; simp at h; simp; omega)).trans ((hbA.cell (p := ⟨w7.heap.size, 0, none⟩) (by simp; omega)).trans ex1_0_w10), (hbB.cell (p := ⟨w7.heap.size, 1, none⟩) (by have h := hbA.size; simp at h; simp; omega)).trans ((hbA.cell (p := ⟨w7.heap.size, 1, none⟩) (by simp; omega)).trans ex1_1_w10), (hbB.cell (p := ⟨w7.heap.size, 2, none⟩) (by have h := hbA.size; simp at h; simp; omega)).trans ((hbA.cell (p := ⟨w7.heap.size, 2, none⟩) (by simp; omega)).trans ex1_2_w10), (hbB.cell (p := ⟨w7.heap.size, 3, none⟩) (by have h := hbA.size; simp at h; simp; omega)).trans ((hbA.cell (p := ⟨w7.heap.size, 3, none⟩) (by simp; omega)).trans ex1_3_w10), (hbB.cell (p := ⟨w7.heap.size, 4, none⟩) (by have h := hbA.size; simp at h; simp; omega)).trans ((hbA.cell (p := ⟨w7.heap.size, 4, none⟩) (by simp; omega)).trans ex1_4_w10), (hbB.cell (p := ⟨w7.heap.size, 5, none⟩) (by have h := hbA.size; simp at h; simp; omega)).trans ((hbA.cell (p := ⟨w7.heap.size, 5, none⟩) (by simp; omega)).trans ex1_5_w10), (hbB.cell (p := ⟨w.heap.size + 1, 0, none⟩) (by have h := hbA.size; simp at h; simp; omega)).trans ((hbA.cell (p := ⟨w.heap.size + 1, 0, none⟩) (by simp; omega)).trans ep1_0_w10), (hbB.cell (p := ⟨w.heap.size + 1, 1, none⟩) (by have h := hbA.size; simp at h; simp; omega)).trans ((hbA.cell (p := ⟨w.heap.size + 1, 1, none⟩) (by simp; omega)).trans ep1_1_w10), (hbB.cell (p := ⟨w.heap.size + 1, 2, none⟩) (by have h := hbA.size; simp at h; simp; omega)).trans ((hbA.cell (p := ⟨w.heap.size + 1, 2, none⟩) (by simp; omega)).trans ep1_2_w10), (hbB.cell (p := ⟨w.heap.size + 1, 3, none⟩) (by have h := hbA.size; simp at h; simp; omega)).trans ((hbA.cell (p := ⟨w.heap.size + 1, 3, none⟩) (by simp; omega)).trans ep1_3_w10), (hbB.cell (p := ⟨w.heap.size + 1, 4, none⟩) (by have h := hbA.size; simp at h; simp; omega)).trans ((hbA.cell (p := ⟨w.heap.size + 1, 4, none⟩) (by simp; omega)).trans ep1_4_w10), (hbB.cell (p := ⟨w.heap.size + 1, 5, none⟩) (by have h := hbA.size; simp at h; simp; omega)).trans ((hbA.cell (p := ⟨w.heap.size + 1, 5, none⟩) (by simp; omega)).trans ep1_5_w10)⟩
          | go_keep)
        (first
          | (go_at_call 11; refine (toPart_d _ (⟨⟨n1_0_0, n1_0_1, n1_0_2, n1_0_3, n1_0_4⟩, n1_1⟩ : PartD) _ ⟨_, rfl, (belPart A1_w10.out (by repeat (first | exact Below.refl _ _ | refine Below.alloc ?_ (by simp; try omega) _ | refine Below.setCell ?_ (by simp; try omega) _ | refine belN ?_ _ | refine belD ?_)) (Nat.le_refl _))⟩ (by have := HSZ.out; omega)).mono ?_; rintro e w11 ⟨_, rfl, hoZ, hbA⟩)
          | (go_at_call 13; refine (eqPart_d _ _ (⟨⟨n1_0_0, n1_0_1, n1_0_2, n1_0_3, n1_0_4⟩, n1_1⟩ : PartD) (⟨⟨n1_0_0, n1_0_1, n1_0_2, n1_0_3, n1_0_4⟩, n1_1⟩ : PartD) _ ⟨_, rfl, (belPart X2_w10.out (below_step (w := w10) (by repeat (first | exact Below.refl _ _ | refine Below.alloc ?_ (by simp; try omega) _ | refine Below.setCell ?_ (by simp; try omega) _ | refine belN ?_ _ | refine belD ?_)) hbA) (Nat.le_refl _))⟩ ⟨_, rfl, (goodPart.mono hoZ (Nat.zero_le _))⟩).mono ?_; rintro e w12 ⟨rfl, hbB⟩))
      have hb1 := below_step (w := w10) (by repeat (first | exact Below.refl _ _ | refine Below.alloc ?_ (by simp; try omega) _ | refine Below.setCell ?_ (by simp; try omega) _ | refine belN ?_ _ | refine belD ?_)) hbA
      have hb := hb1.trans (hbB.mono hb1.size)
      rename_i hheld
      clear hheld hoZ
      have Cw_w12 := Lib.hid (Cw_w10.out.trans (hb.mono Cw_w10.out.size))
      have A0_w12 := Lib.hid (belPart A0_w10.out hb (Nat.le_refl _))
      have A1_w12 := Lib.hid (belPart A1_w10.out hb (Nat.le_refl _))
      have X1_w12 := Lib.hid (belPart X1_w10.out hb (Nat.le_refl _))
      have X2_w12 := Lib.hid (belPart X2_w10.out hb (Nat.le_refl _))
      have ep0_0_w12 := (hb.cell (p := ⟨w.heap.size, 0, none⟩) Lp0_w10).trans ep0_0_w10
      have ep0_1_w12 := (hb.cell (p := ⟨w.heap.size, 1, none⟩) Lp0_w10).trans ep0_1_w10
      have ep0_2_w12 := (hb.cell (p := ⟨w.heap.size, 2, none⟩) Lp0_w10).trans ep0_2_w10
      have ep0_3_w12 := (hb.cell (p := ⟨w.heap.size, 3, none⟩) Lp0_w10).trans ep0_3_w10
      have ep0_4_w12 := (hb.cell (p := ⟨w.heap.size, 4, none⟩) Lp0_w10).trans ep0_4_w10
      have ep0_5_w12 := (hb.cell (p := ⟨w.heap.size, 5, none⟩) Lp0_w10).trans ep0_5_w10
      have Lp0_w12 : w.heap.size < w12.heap.size := by have h := hb.size; omega
      clear ep0_0_w10 ep0_1_w10 ep0_2_w10 ep0_3_w10 ep0_4_w10 ep0_5_w10 Lp0_w10
      have ep1_0_w12 := (hb.cell (p := ⟨w.heap.size + 1, 0, none⟩) Lp1_w10).trans ep1_0_w10
      have ep1_1_w12 := (hb.cell (p := ⟨w.heap.size + 1, 1, none⟩) Lp1_w10).trans ep1_1_w10
      have ep1_2_w12 := (hb.cell (p := ⟨w.heap.size + 1, 2, none⟩) Lp1_w10).trans ep1_2_w10
      have ep1_3_w12 := (hb.cell (p := ⟨w.heap.size + 1, 3, none⟩) Lp1_w10).trans ep1_3_w10
      have ep1_4_w12 := (hb.cell (p := ⟨w.heap.size + 1, 4, none⟩) Lp1_w10).trans ep1_4_w10
      have ep1_5_w12 := (hb.cell (p := ⟨w.heap.size + 1, 5, none⟩) Lp1_w10).trans ep1_5_w10
      have Lp1_w12 : w.heap.size + 1 < w12.heap.size := by have h := hb.size; omega
      clear ep1_0_w10 ep1_1_w10 ep1_2_w10 ep1_3_w10 ep1_4_w10 ep1_5_w10 Lp1_w10
      have ex0_0_w12 := (hb.cell (p := ⟨w6.heap.size, 0, none⟩) Lx0_w10).trans ex0_0_w10
      have ex0_1_w12 := (hb.cell (p := ⟨w6.heap.size, 1, none⟩) Lx0_w10).trans ex0_1_w10
      have ex0_2_w12 := (hb.cell (p := ⟨w6.heap.size, 2, none⟩) Lx0_w10).trans ex0_2_w10
      have ex0_3_w12 := (hb.cell (p := ⟨w6.heap.size, 3, none⟩) Lx0_w10).trans ex0_3_w10
      have ex0_4_w12 := (hb.cell (p := ⟨w6.heap.size, 4, none⟩) Lx0_w10).trans ex0_4_w10
      have ex0_5_w12 := (hb.cell (p := ⟨w6.heap.size, 5, none⟩) Lx0_w10).trans ex0_5_w10
      have Lx0_w12 : w6.heap.size < w12.heap.size := by have h := hb.size; omega
      clear ex0_0_w10 ex0_1_w10 ex0_2_w10 ex0_3_w10 ex0_4_w10 ex0_5_w10 Lx0_w10
      have ex1_0_w12 := (hb.cell (p := ⟨w7.heap.size, 0, none⟩) Lx1_w10).trans ex1_0_w10
      have ex1_1_w12 := (hb.cell (p := ⟨w7.heap.size, 1, none⟩) Lx1_w10).trans ex1_1_w10
      have ex1_2_w12 := (hb.cell (p := ⟨w7.heap.size, 2, none⟩) Lx1_w10).trans ex1_2_w10
      have ex1_3_w12 := (hb.cell (p := ⟨w7.heap.size, 3, none⟩) Lx1_w10).trans ex1_3_w10
      have ex1_4_w12 := (hb.cell (p := ⟨w7.heap.size, 4, none⟩) Lx1_w10).trans ex1_4_w10
      have ex1_5_w12 := (hb.cell (p := ⟨w7.heap.size, 5, none⟩) Lx1_w10).trans ex1_5_w10
      have Lx1_w12 : w7.heap.size < w12.heap.size := by have h := hb.size; omega
      clear ex1_0_w10 ex1_1_w10 ex1_2_w10 ex1_3_w10 ex1_4_w10 ex1_5_w10 Lx1_w10
      clear hb hb1 hbA hbB
      go_wp2_with fail
      go_ret
      exact ⟨rfl, below_to Cw_w12.out (by repeat (first | exact Below.refl _ _ | refine Below.alloc ?_ (by simp; try omega) _ | refine Below.setCell ?_ (by simp; try omega) _ | refine belN ?_ _ | refine belD ?_))⟩
set_option maxRecDepth 100000 in
theorem fnExactSamePart_lifted (os : Os) (started : os.Started) (H : Type) (enc : TypeId × Value → H) :
    ReturnsInHanded {} Try.checked os 8 .any (Rows.fnExactSamePartSpec.pre6 enc Try.prog Try.f8 Rows.fnExactSamePartRow.domain false) (Rows.fnExactSamePartSpec.post enc Try.prog Try.f8 false true false false) := by
  refine returnsInHanded_of_change (C := Try.checked) ownK started (by kernel_rfl) Try.func8
    (ChangeSpec.witness6 (enc := enc) (C := Try.checked) false ⟨#[], #[.agg #[.string ⟨#[]⟩, .bool false, .bool false, .slice none 0 0, .int .i64 0, .slice none 0 0], .agg #[.string ⟨#[]⟩, .bool false, .bool false, .slice none 0 0, .int .i64 0, .slice none 0 0]], []⟩ 8 (by kernel_rfl) (by kernel_rfl) (by kernel_rfl) (by kernel_rfl)) ?_
  intro W base args ds gs before hval0 hW _ _
  have hval : ∀ (j : Nat) t v, Try.f8.params[j]? = some t → args[j]? = some v → Value.okWide Try.prog W .any base t v := hval0
  have hW' := hW
  obtain ⟨p, q, hA0, _, rfl, _, _⟩ := hW
  have hA : DataW.TrodAll enc Try.prog W 0 (fun _ => true) true Try.f8.params.toList args.toList ds p := hA0
  rw [Try.params8] at hA hval
  obtain ⟨v0, vs0, d0, ds0, p0, q0, hargs, rfl, rfl, h0, r0⟩ := trodAll_cons hA
  obtain ⟨v1, vs1, d1, ds1, p1, q1, rfl, rfl, rfl, h1, r1⟩ := trodAll_cons r0
  obtain ⟨rfl, rfl, rfl⟩ := trodAll_nil r1
  obtain rfl : args = #[v0, v1] := by cases args; simp_all
  obtain ⟨x0, w0, z0⟩ := arg_Part (hval 0 27 v0 rfl rfl) h0
  obtain ⟨x1, w1, z1⟩ := arg_Part (hval 1 27 v1 rfl rfl) h1
  clear hA0 hval0
  refine (exactSamePart_any v0 x0 v1 x1 W w0 z0 w1 z1).mono fun e W1 ⟨he, hb⟩ => ?_
  subst he
  exact ⟨_, rfl, law_post laidK rfl (by kernel_rfl) Try.underlying4 (by kernel_rfl) (fun ds h => by match ds, h with | [_, _], _ => rfl) hW' hb⟩
theorem fnExactSamePart_closed : joinedFacts Try.prog 8 Try.f8 Rows.fnExactSamePartSpec Rows.fnExactSamePartRow = true := by unfold joinedFacts; rw [mayEnter_k, liftsFinal_k, make_k]; kernel_rfl
theorem fnExactSamePart_holds : Rows.FnExactSamePartSaid :=
  OpenClaim.holds_of_wide 8 Try.f8 rfl rfl rfl rfl rfl rfl rfl ⟨rfl, rfl, rfl, rfl, rfl⟩ rfl rfl rfl rfl rfl (by kernel_rfl) Try.func8 fnExactSamePart_closed
    (of_decide_eq_true (by kernel_rfl)) (by unfold Func.isWrapper; first | (rw [if_pos (by decide +kernel)]; kernel_rfl) | (rw [if_neg (by decide +kernel)]; exact ⟨rfl, rfl⟩))
    (fun os started H enc _ => fnExactSamePart_lifted os started H enc)
end Go.Proofs.Ytbofplofpggdlab
