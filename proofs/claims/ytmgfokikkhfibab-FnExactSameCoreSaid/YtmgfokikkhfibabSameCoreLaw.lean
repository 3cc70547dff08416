/- FnExactSameCore: at every two cores the program's SameCore answers as the model's (cores of more than 2^20 cells and signs are not asked). No condition. -/
import Derived.Test.YtmgfokikkhfibabLaw5
import Derived.Test.YtmgfokikkhfibabSame2
import Derived.Test.YtmgfokikkhfibabOpenCore
import Derived.Test.YtmgfokikkhfibabTCoreE
namespace Go.Proofs.Ytmgfokikkhfibab
set_option linter.unusedVariables false
open Go.ChangeShapes Go.WideShapes Go.ChangeAt Go.RowKit Go.WideMaps Go.WideElems
open Go.ChangeMaps (open_string shut_string)
set_option maxRecDepth 100000 in
set_option maxHeartbeats 3200000 in
theorem exactSameCore_any (v0 : Value) (x0 : CoreD) (v1 : Value) (x1 : CoreD) (w : World) (a0 : CoreAt w v0 x0) (g0 : okCore x0) (a1 : CoreAt w v1 x1) (g1 : okCore x1) :
    Calls Try.prog 5 #[v0, v1] w fun e w' => e = .returned (.bool true) ∧ Below w.heap.size w w' := by
  obtain ⟨c0, rfl, a0⟩ := a0
  obtain ⟨n0_0, n0_1, n0_2, n0_3, n0_4⟩ := x0
  unfold vCore
  unfold okCore at g0
  obtain ⟨c1, rfl, a1⟩ := a1
  obtain ⟨n1_0, n1_1, n1_2, n1_3, n1_4⟩ := x1
  unfold vCore
  unfold okCore at g1
  simp only at *
  obtain ⟨ca0, cc0, rfl, _⟩ := flatAt_len a0
  have A0 := Lib.hid a0
  have G0 := Lib.hid g0
  clear a0 g0
  obtain ⟨ca1, cc1, rfl, _⟩ := flatAt_len a1
  have A1 := Lib.hid a1
  have G1 := Lib.hid g1
  clear a1 g1
  go_enter Try.func5, Try.ntmps5
  go_wp2_with fail
  refine (szCore_any (vCore (⟨n0_0, n0_1, n0_2, n0_3, n0_4⟩ : CoreD) (.slice ca0 n0_3.length cc0)) (⟨n0_0, n0_1, n0_2, n0_3, n0_4⟩ : CoreD) 1048576 _ ⟨(.slice ca0 n0_3.length cc0), rfl, (FlatAt.below A0.out (by repeat (first | exact Below.refl _ _ | refine Below.alloc ?_ (by simp; try omega) _ | refine Below.setCell ?_ (by simp; try omega) _ | refine belN ?_ _ | refine belD ?_)) (Nat.le_refl _))⟩ (by omega) (by omega) G0.out.1 G0.out.2.1).mono ?_
  rintro e w1 ⟨r0, rfl, hr0a, hr0b, hb0⟩
  have hb := below_step (w := w) (by repeat (first | exact Below.refl _ _ | refine Below.alloc ?_ (by simp; try omega) _ | refine Below.setCell ?_ (by simp; try omega) _ | refine belN ?_ _ | refine belD ?_)) hb0
  have Cw_w1 := Lib.hid hb
  have A0_w1 := Lib.hid (FlatAt.below A0.out hb (Nat.le_refl _))
  have A1_w1 := Lib.hid (FlatAt.below A1.out hb (Nat.le_refl _))
  have ep0_0_w1 : w1.cell? ⟨w.heap.size, 0, none⟩ = some (.string ⟨n0_0.toArray⟩) := by rw [hb0.cell (p := ⟨w.heap.size, 0, none⟩) (by simp; try omega)]; simp
  have ep0_1_w1 : w1.cell? ⟨w.heap.size, 1, none⟩ = some (.bool n0_1) := by rw [hb0.cell (p := ⟨w.heap.size, 1, none⟩) (by simp; try omega)]; simp
  have ep0_2_w1 : w1.cell? ⟨w.heap.size, 2, none⟩ = some (.bool n0_2) := by rw [hb0.cell (p := ⟨w.heap.size, 2, none⟩) (by simp; try omega)]; simp
  have ep0_3_w1 : w1.cell? ⟨w.heap.size, 3, none⟩ = some ((.slice ca0 n0_3.length cc0)) := by rw [hb0.cell (p := ⟨w.heap.size, 3, none⟩) (by simp; try omega)]; simp
  have ep0_4_w1 : w1.cell? ⟨w.heap.size, 4, none⟩ = some (.int .i64 n0_4) := by rw [hb0.cell (p := ⟨w.heap.size, 4, none⟩) (by simp; try omega)]; simp
  have Lp0_w1 : w.heap.size < w1.heap.size := by have h := hb0.size; simp at h; omega
  have ep1_0_w1 : w1.cell? ⟨w.heap.size + 1, 0, none⟩ = some (.string ⟨n1_0.toArray⟩) := by rw [hb0.cell (p := ⟨w.heap.size + 1, 0, none⟩) (by simp; try omega)]; simp
  have ep1_1_w1 : w1.cell? ⟨w.heap.size + 1, 1, none⟩ = some (.bool n1_1) := by rw [hb0.cell (p := ⟨w.heap.size + 1, 1, none⟩) (by simp; try omega)]; simp
  have ep1_2_w1 : w1.cell? ⟨w.heap.size + 1, 2, none⟩ = some (.bool n1_2) := by rw [hb0.cell (p := ⟨w.heap.size + 1, 2, none⟩) (by simp; try omega)]; simp
  have ep1_3_w1 : w1.cell? ⟨w.heap.size + 1, 3, none⟩ = some ((.slice ca1 n1_3.length cc1)) := by rw [hb0.cell (p := ⟨w.heap.size + 1, 3, none⟩) (by simp; try omega)]; simp
  have ep1_4_w1 : w1.cell? ⟨w.heap.size + 1, 4, none⟩ = some (.int .i64 n1_4) := by rw [hb0.cell (p := ⟨w.heap.size + 1, 4, none⟩) (by simp; try omega)]; simp
  have Lp1_w1 : w.heap.size + 1 < w1.heap.size := by have h := hb0.size; simp at h; omega
  clear hb hb0
  by_cases hr0 : r0 < 0
  · clear hr0b
    go_wp2_with fail
    go_ret
    exact ⟨rfl, below_to Cw_w1.out (by repeat (first | exact Below.refl _ _ | refine Below.alloc ?_ (by simp; try omega) _ | refine Below.setCell ?_ (by simp; try omega) _ | refine belN ?_ _ | refine belD ?_))⟩
  · have hs0 := hr0b (by omega)
    clear hr0b
    go_wp2_with fail
    refine (szCore_any (vCore (⟨n1_0, n1_1, n1_2, n1_3, n1_4⟩ : CoreD) (.slice ca1 n1_3.length cc1)) (⟨n1_0, n1_1, n1_2, n1_3, n1_4⟩ : CoreD) r0 _ ⟨(.slice ca1 n1_3.length cc1), rfl, (FlatAt.below A1_w1.out (by repeat (first | exact Below.refl _ _ | refine Below.alloc ?_ (by simp; try omega) _ | refine Below.setCell ?_ (by simp; try omega) _ | refine belN ?_ _ | refine belD ?_)) (Nat.le_refl _))⟩ (by omega) (by omega) G1.out.1 G1.out.2.1).mono ?_
    rintro e w2 ⟨r1, rfl, hr1a, hr1b, hb0⟩
    have hb := below_step (w := w1) (by repeat (first | exact Below.refl _ _ | refine Below.alloc ?_ (by simp; try omega) _ | refine Below.setCell ?_ (by simp; try omega) _ | refine belN ?_ _ | refine belD ?_)) hb0
    have Cw_w2 := Lib.hid (Cw_w1.out.trans (hb.mono Cw_w1.out.size))
    have A0_w2 := Lib.hid (FlatAt.below A0_w1.out hb (Nat.le_refl _))
    have A1_w2 := Lib.hid (FlatAt.below A1_w1.out hb (Nat.le_refl _))
    have ep0_0_w2 := (hb.cell (p := ⟨w.heap.size, 0, none⟩) Lp0_w1).trans ep0_0_w1
    have ep0_1_w2 := (hb.cell (p := ⟨w.heap.size, 1, none⟩) Lp0_w1).trans ep0_1_w1
    have ep0_2_w2 := (hb.cell (p := ⟨w.heap.size, 2, none⟩) Lp0_w1).trans ep0_2_w1
    have ep0_3_w2 := (hb.cell (p := ⟨w.heap.size, 3, none⟩) Lp0_w1).trans ep0_3_w1
    have ep0_4_w2 := (hb.cell (p := ⟨w.heap.size, 4, none⟩) Lp0_w1).trans ep0_4_w1
    have Lp0_w2 : w.heap.size < w2.heap.size := by have h := hb.size; omega
    clear ep0_0_w1 ep0_1_w1 ep0_2_w1 ep0_3_w1 ep0_4_w1 Lp0_w1
    have ep1_0_w2 := (hb.cell (p := ⟨w.heap.size + 1, 0, none⟩) Lp1_w1).trans ep1_0_w1
    have ep1_1_w2 := (hb.cell (p := ⟨w.heap.size + 1, 1, none⟩) Lp1_w1).trans ep1_1_w1
    have ep1_2_w2 := (hb.cell (p := ⟨w.heap.size + 1, 2, none⟩) Lp1_w1).trans ep1_2_w1
    have ep1_3_w2 := (hb.cell (p := ⟨w.heap.size + 1, 3, none⟩) Lp1_w1).trans ep1_3_w1
    have ep1_4_w2 := (hb.cell (p := ⟨w.heap.size + 1, 4, none⟩) Lp1_w1).trans ep1_4_w1
    have Lp1_w2 : w.heap.size + 1 < w2.heap.size := by have h := hb.size; omega
    clear ep1_0_w1 ep1_1_w1 ep1_2_w1 ep1_3_w1 ep1_4_w1 Lp1_w1
    clear hb hb0
    by_cases hr1 : r1 < 0
    · clear hr1b
      go_wp2_with fail
      go_ret
      exact ⟨rfl, below_to Cw_w2.out (by repeat (first | exact Below.refl _ _ | refine Below.alloc ?_ (by simp; try omega) _ | refine Below.setCell ?_ (by simp; try omega) _ | refine belN ?_ _ | refine belD ?_))⟩
    · have hs1 := hr1b (by omega)
      clear hr1b
      have HSZ := Lib.hid (show (zCore (⟨n0_0, n0_1, n0_2, n0_3, n0_4⟩ : CoreD)) + (zCore (⟨n1_0, n1_1, n1_2, n1_3, n1_4⟩ : CoreD)) ≤ 1048576 by push_cast; omega)
      clear hs0 hs1
      have HSM0 := Lib.hid (show n0_3.length ≤ 1048576 by have h := HSZ.out; simp only [zCore] at h; omega)
      have HSM1 := Lib.hid (show n1_3.length ≤ 1048576 by have h := HSZ.out; simp only [zCore] at h; omega)
      have T0 := Lib.hid (fun w0 (h : FlatAt cCell 2 w0 (.slice ca0 n0_3.length cc0) n0_3) => toCore_any (vCore (⟨n0_0, n0_1, n0_2, n0_3, n0_4⟩ : CoreD) (.slice ca0 n0_3.length cc0)) (⟨n0_0, n0_1, n0_2, n0_3, n0_4⟩ : CoreD) w0 ⟨(.slice ca0 n0_3.length cc0), rfl, h⟩ (by show n0_3.length ≤ _; have := HSM0.out; omega))
      unfold GivesCore at T0
      simp only [vCore] at T0
      have T1 := Lib.hid (fun w0 (h : FlatAt cCell 2 w0 (.slice ca1 n1_3.length cc1) n1_3) => toCore_any (vCore (⟨n1_0, n1_1, n1_2, n1_3, n1_4⟩ : CoreD) (.slice ca1 n1_3.length cc1)) (⟨n1_0, n1_1, n1_2, n1_3, n1_4⟩ : CoreD) w0 ⟨(.slice ca1 n1_3.length cc1), rfl, h⟩ (by show n1_3.length ≤ _; have := HSM1.out; omega))
      unfold GivesCore at T1
      simp only [vCore] at T1
      go_wp2_with fail
      go_region_held3 (fun w' => w'.cell? ⟨w.heap.size, 0, none⟩ = some (.string ⟨n0_0.toArray⟩) ∧ w'.cell? ⟨w.heap.size, 1, none⟩ = some (.bool n0_1) ∧ w'.cell? ⟨w.heap.size, 2, none⟩ = some (.bool n0_2) ∧ w'.cell? ⟨w.heap.size, 3, none⟩ = some ((.slice ca0 n0_3.length cc0)) ∧ w'.cell? ⟨w.heap.size, 4, none⟩ = some (.int .i64 n0_4) ∧ w'.cell? ⟨w.heap.size + 1, 0, none⟩ = some (.string ⟨n1_0.toArray⟩) ∧ w'.cell? ⟨w.heap.size + 1, 1, none⟩ = some (.bool n1_1) ∧ w'.cell? ⟨w.heap.size + 1, 2, none⟩ = some (.bool n1_2) ∧ w'.cell? ⟨w.heap.size + 1, 3, none⟩ = some ((.slice ca1 n1_3.length cc1)) ∧ w'.cell? ⟨w.heap.size + 1, 4, none⟩ = some (.int .i64 n1_4))
        (first
          | exact ⟨(hbZ2.cell (p := ⟨w.heap.size, 0, none⟩) (by have h0 := hbZ0.size; (try simp at h0); have h1 := hbZ1.size; (try simp at h1); simp; omega)).trans ((hbZ1.cell (p := ⟨w.heap.size, 0, none⟩) (by have h0 := hbZ0.size; (try simp at h0); simp; omega)).trans ((hbZ0.cell (p := ⟨w.heap.size, 0, none⟩) (by simp; omega)).trans ep0_0_w2)), (hbZ2.cell (p := ⟨w.heap.size, 1, none⟩) (by have h0 := hbZ0.size; (try simp at h0); have h1 := hbZ1.size; (try simp at h1); simp; omega)).trans ((hbZ1.cell (p := ⟨w.heap.size, 1, none⟩) (by have h0 := hbZ0.size; (try simp at h0); simp; omega)).trans ((hbZ0.cell (p := ⟨w.heap.size, 1, none⟩) (by simp; omega)).trans ep0_1_w2)), (hbZ2.cell (p := ⟨w.heap.size, 2, none⟩) (by have h0 := hbZ0.size; (try simp at h0); have h1 := hbZ1.size; (try simp at h1); simp; omega)).trans ((hbZ1.cell (p := ⟨w.heap.size, 2, none⟩) (by have h0 := hbZ0.size; (try simp at h0); simp; omega)).trans ((hbZ0.cell (p := ⟨w.heap.size, 2, none⟩) (by simp; omega)).trans ep0_2_w2)), (hbZ2.cell (p := ⟨w.heap.size, 3, none⟩) (by have h0 := hbZ0.size; (try simp at h0); have h1 := hbZ1.size; (try simp at h1); simp; omega)).trans ((hbZ1.cell (p := ⟨w.heap.size, 3, none⟩) (by have h0 := hbZ0.size; (try simp at h0); simp; omega)).trans ((hbZ0.cell (p := ⟨w.heap.size, 3, none⟩) (by simp; omega)).trans ep0_3_w2)), (hbZ2.cell (p := ⟨w.heap.size, 4, none⟩) (by have h0 := hbZ0.size; (try simp at h0); have h1 := hbZ1.size; (try simp at h1); simp; omega)).trans ((hbZ1.cell (p := ⟨w.heap.size, 4, none⟩) (by have h0 := hbZ0.size; (try simp at h0); simp; omega)).trans ((hbZ0.cell (p := ⟨w.heap.size, 4, none⟩) (by simp; omega)).trans ep0_4_w2)), (hbZ2.cell (p := ⟨w.heap.size + 1, 0, none⟩) (by have h0 := hbZ0.size; (try simp at h0); have h1 := hbZ1.size; (try simp at h1); simp; omega)).trans ((hbZ1.cell (p := ⟨w.heap.size + 1, 0, none⟩) (by have h0 := hbZ0.size; (try simp at h0); simp; omega)).trans ((hbZ0.cell (p := ⟨w.heap.size + 1, 0, none⟩) (by simp; omega)).trans ep1_0_w2)), (hbZ2.cell (p := ⟨w.heap.size + 1, 1, none⟩) (by have h0 := hbZ0.size; (try simp at h0); have h1 := hbZ1.size; (try simp at h1); simp; omega)).trans ((hbZ1.cell (p := ⟨w.heap.size + 1, 1, none⟩) (by have h0 := hbZ0.size; (try simp at h0); simp; omega)).trans ((hbZ0.cell (p := ⟨w.heap.size + 1, 1, none⟩) (by simp; omega)).trans ep1_1_w2)), (hbZ2.cell (p := ⟨w.heap.size + 1, 2, none⟩) (by have h0 := hbZ0.size; (try simp at h0); have h1 := hbZ1.size; (try simp at h1); simp; omega)).trans ((hbZ1.cell (p := ⟨w.heap.size + 1, 2, none⟩) (by have h0 := hbZ0.size; (try simp at h0); simp; omega)).trans ((hbZ0.cell (p := ⟨w.heap.size + 1, 2, none⟩) (by simp; omega)).trans ep1_2_w2)), (hbZ2.cell (p := ⟨w.heap.size + 1, 3, none⟩) (by have h0 := hbZ0.size; (try simp at h0); have h1 := hbZ1.size; (try simp at h1); simp; omega)).trans ((hbZ1.cell (p := ⟨w.heap.size + 1, 3, none⟩) (by have h0 := hbZ0.size; (try simp at h0); simp; omega)).trans ((hbZ0.cell (p := ⟨w.heap.size + 1, 3, none⟩) (by simp; omega)).trans ep1_3_w2)), (hbZ2.cell (p := ⟨w.heap.size + 1, 4, none⟩) (by have h0 := hbZ0.size; (try simp at h0); have h1 := hbZ1.size; (try simp at h1); simp; omega)).trans ((hbZ1.cell (p := ⟨w.heap.size + 1, 4, none⟩) (by have h0 := hbZ0.size; (try simp at h0); simp; omega)).trans ((hbZ0.cell (p := ⟨w.heap.size + 1, 4, none⟩) (by simp; omega)).trans ep1_4_w2))⟩
          | exact ⟨(hbZ1.cell (p := ⟨w.heap.size, 0, none⟩) (by have h0 := hbZ0.size; (try simp at h0); simp; omega)).trans ((hbZ0.cell (p := ⟨w.heap.size, 0, none⟩) (by simp; omega)).trans ep0_0_w2), (hbZ1.cell (p := ⟨w.heap.size, 1, none⟩) (by have h0 := hbZ0.size; (try simp at h0); simp; omega)).trans ((hbZ0.cell (p := ⟨w.heap.size, 1, none⟩) (by simp; omega)).trans ep0_1_w2), (hbZ1.cell (p := ⟨w.heap.size, 2, none⟩) (by have h0 := hbZ0.size; (try simp at h0); simp; omega)).trans ((hbZ0.cell (p := ⟨w.heap.size, 2, none⟩) (by simp; omega)).trans ep0_2_w2), (hbZ1.cell (p := ⟨w.heap.size, 3, none⟩) (by have h0 := hbZ0.size; (try simp at h0); simp; omega)).trans ((hbZ0.cell (p := ⟨w.heap.size, 3, none⟩) (by simp; omega)).trans ep0_3_w2), (hbZ1.cell (p := ⟨w.heap.size, 4, none⟩) (by have h0 := hbZ0.size; (try simp at h0); simp; omega)).trans ((hbZ0.cell (p := ⟨w.heap.size, 4, none⟩) (by simp; omega)).trans ep0_4_w2), (hbZ1.cell (p := ⟨w.heap.size + 1, 0, none⟩) (by have h0 := hbZ0.size; (try simp at h0); simp; omega)).trans ((hbZ0.cell (p := ⟨w.heap.size + 1, 0, none⟩) (by simp; omega)).trans ep1_0_w2), (hbZ1.cell (p := ⟨w.heap.size + 1, 1, none⟩) (by have h0 := hbZ0.size; (try simp at h0); simp; omega)).trans ((hbZ0.cell (p := ⟨w.heap.size + 1, 1, none⟩) (by simp; omega)).trans ep1_1_w2), (hbZ1.cell (p := ⟨w.heap.size + 1, 2, none⟩) (by have h0 := hbZ0.size; (try simp at h0); simp; omega)).trans ((hbZ0.cell (p := ⟨w.heap.size + 1, 2, none⟩) (by simp; omega)).trans ep1_2_w2), (hbZ1.cell (p := ⟨w.heap.size + 1, 3, none⟩) (by have h0 := hbZ0.size; (try simp at h0); simp; omega)).trans ((hbZ0.cell (p := ⟨w.heap.size + 1, 3, none⟩) (by simp; omega)).trans ep1_3_w2), (hbZ1.cell (p := ⟨w.heap.size + 1, 4, none⟩) (by have h0 := hbZ0.size; (try simp at h0); simp; omega)).trans ((hbZ0.cell (p := ⟨w.heap.size + 1, 4, none⟩) (by simp; omega)).trans ep1_4_w2)⟩
          | exact ⟨(hbZ0.cell (p := ⟨w.heap.size, 0, none⟩) (by simp; omega)).trans ep0_0_w2, (hbZ0.cell (p := ⟨w.heap.size, 1, none⟩) (by simp; omega)).trans ep0_1_w2, (hbZ0.cell (p := ⟨w.heap.size, 2, none⟩) (by simp; omega)).trans ep0_2_w2, (hbZ0.cell (p := ⟨w.heap.size, 3, none⟩) (by simp; omega)).trans ep0_3_w2, (hbZ0.cell (p := ⟨w.heap.size, 4, none⟩) (by simp; omega)).trans ep0_4_w2, (hbZ0.cell (p := ⟨w.heap.size + 1, 0, none⟩) (by simp; omega)).trans ep1_0_w2, (hbZ0.cell (p := ⟨w.heap.size + 1, 1, none⟩) (by simp; omega)).trans ep1_1_w2, (hbZ0.cell (p := ⟨w.heap.size + 1, 2, none⟩) (by simp; omega)).trans ep1_2_w2, (hbZ0.cell (p := ⟨w.heap.size + 1, 3, none⟩) (by simp; omega)).trans ep1_3_w2, (hbZ0.cell (p := ⟨w.heap.size + 1, 4, none⟩) (by simp; omega)).trans ep1_4_w2⟩
          | go_keep)
        (first
          | (go_at_call 17; (with_reducible refine (T0.out _ (FlatAt.below A0_w2.out (by repeat (first | exact Below.refl _ _ | refine Below.alloc ?_ (by simp; try omega) _ | refine Below.setCell ?_ (by simp; try omega) _ | refine belN ?_ _ | refine belD ?_)) (Nat.le_refl _))).mono ?_); rintro e w3 ⟨_, rfl, ⟨uZ0, rfl, houZ0⟩, hbZ0⟩)
          | (go_at_call 17; (with_reducible refine (T1.out _ (FlatAt.below A1_w2.out (below_step (w := w2) (by repeat (first | exact Below.refl _ _ | refine Below.alloc ?_ (by simp; try omega) _ | refine Below.setCell ?_ (by simp; try omega) _ | refine belN ?_ _ | refine belD ?_)) hbZ0) (Nat.le_refl _))).mono ?_); rintro e w4 ⟨_, rfl, ⟨uZ1, rfl, houZ1⟩, hbZ1⟩)
          | (go_at_call 16; refine (specSame_any (vCore (⟨n0_0, n0_1, n0_2, n0_3, n0_4⟩ : CoreD) uZ0) (vCore (⟨n1_0, n1_1, n1_2, n1_3, n1_4⟩ : CoreD) uZ1) (⟨n0_0, n0_1, n0_2, n0_3, n0_4⟩ : CoreD) (⟨n1_0, n1_1, n1_2, n1_3, n1_4⟩ : CoreD) _ ⟨_, rfl, (ownsF_at (ownsF_all houZ0 (below_list1 hbZ1)) (by show n0_3.length ≤ _; have := HSM0.out; omega))⟩ ⟨_, rfl, (ownsF_at (ownsF_all houZ1 (Below.refl _ _)) (by show n1_3.length ≤ _; have := HSM1.out; omega))⟩).mono ?_; rintro e w5 ⟨rfl, hbZ2⟩))
      have hb1 := below_step (w := w2) (by repeat (first | exact Below.refl _ _ | refine Below.alloc ?_ (by simp; try omega) _ | refine Below.setCell ?_ (by simp; try omega) _ | refine belN ?_ _ | refine belD ?_)) hbZ0
      have hb2 := hb1.trans (hbZ1.mono hb1.size)
      have hb3 := hb2.trans (hbZ2.mono hb2.size)
      have hb := hb3
      have hszF := hb2.size
      have Cw_w5 := Lib.hid (Cw_w2.out.trans (hb.mono Cw_w2.out.size))
      have A0_w5 := Lib.hid (FlatAt.below A0_w2.out hb (Nat.le_refl _))
      have A1_w5 := Lib.hid (FlatAt.below A1_w2.out hb (Nat.le_refl _))
      have ep0_0_w5 := (hb.cell (p := ⟨w.heap.size, 0, none⟩) Lp0_w2).trans ep0_0_w2
      have ep0_1_w5 := (hb.cell (p := ⟨w.heap.size, 1, none⟩) Lp0_w2).trans ep0_1_w2
      have ep0_2_w5 := (hb.cell (p := ⟨w.heap.size, 2, none⟩) Lp0_w2).trans ep0_2_w2
      have ep0_3_w5 := (hb.cell (p := ⟨w.heap.size, 3, none⟩) Lp0_w2).trans ep0_3_w2
      have ep0_4_w5 := (hb.cell (p := ⟨w.heap.size, 4, none⟩) Lp0_w2).trans ep0_4_w2
      have Lp0_w5 : w.heap.size < w5.heap.size := by have h := hb.size; omega
      clear ep0_0_w2 ep0_1_w2 ep0_2_w2 ep0_3_w2 ep0_4_w2 Lp0_w2
      have ep1_0_w5 := (hb.cell (p := ⟨w.heap.size + 1, 0, none⟩) Lp1_w2).trans ep1_0_w2
      have ep1_1_w5 := (hb.cell (p := ⟨w.heap.size + 1, 1, none⟩) Lp1_w2).trans ep1_1_w2
      have ep1_2_w5 := (hb.cell (p := ⟨w.heap.size + 1, 2, none⟩) Lp1_w2).trans ep1_2_w2
      have ep1_3_w5 := (hb.cell (p := ⟨w.heap.size + 1, 3, none⟩) Lp1_w2).trans ep1_3_w2
      have ep1_4_w5 := (hb.cell (p := ⟨w.heap.size + 1, 4, none⟩) Lp1_w2).trans ep1_4_w2
      have Lp1_w5 : w.heap.size + 1 < w5.heap.size := by have h := hb.size; omega
      clear ep1_0_w2 ep1_1_w2 ep1_2_w2 ep1_3_w2 ep1_4_w2 Lp1_w2
      rename_i hheld
      clear hheld
      clear hb hb1 hb2 hb3 hbZ0 hbZ1 hbZ2 houZ0 houZ1 hszF
      have K_p0 := Lp0_w5
      have K_p1 := Lp1_w5
      go_wp2_with fail
      refine (toCore_any (vCore (⟨n0_0, n0_1, n0_2, n0_3, n0_4⟩ : CoreD) (.slice ca0 n0_3.length cc0)) (⟨n0_0, n0_1, n0_2, n0_3, n0_4⟩ : CoreD) _ ⟨(.slice ca0 n0_3.length cc0), rfl, (FlatAt.below A0_w5.out (by repeat (first | exact Below.refl _ _ | refine Below.alloc ?_ (by simp; try omega) _ | refine Below.setCell ?_ (by simp; try omega) _ | refine belN ?_ _ | refine belD ?_)) (Nat.le_refl _))⟩ (by show n0_3.length ≤ _; have := HSM0.out; omega)).mono ?_
      rintro e w6 ⟨_, rfl, ⟨u1, rfl, ho⟩, hb0⟩
      have hb := below_step (w := w5) (by repeat (first | exact Below.refl _ _ | refine Below.alloc ?_ (by simp; try omega) _ | refine Below.setCell ?_ (by simp; try omega) _ | refine belN ?_ _ | refine belD ?_)) hb0
      have Cw_w6 := Lib.hid (Cw_w5.out.trans (hb.mono Cw_w5.out.size))
      have A0_w6 := Lib.hid (FlatAt.below A0_w5.out hb (Nat.le_refl _))
      have A1_w6 := Lib.hid (FlatAt.below A1_w5.out hb (Nat.le_refl _))
      have ep0_0_w6 := (hb.cell (p := ⟨w.heap.size, 0, none⟩) Lp0_w5).trans ep0_0_w5
      have ep0_1_w6 := (hb.cell (p := ⟨w.heap.size, 1, none⟩) Lp0_w5).trans ep0_1_w5
      have ep0_2_w6 := (hb.cell (p := ⟨w.heap.size, 2, none⟩) Lp0_w5).trans ep0_2_w5
      have ep0_3_w6 := (hb.cell (p := ⟨w.heap.size, 3, none⟩) Lp0_w5).trans ep0_3_w5
      have ep0_4_w6 := (hb.cell (p := ⟨w.heap.size, 4, none⟩) Lp0_w5).trans ep0_4_w5
      have Lp0_w6 : w.heap.size < w6.heap.size := by have h := hb.size; omega
      clear ep0_0_w5 ep0_1_w5 ep0_2_w5 ep0_3_w5 ep0_4_w5 Lp0_w5
      have ep1_0_w6 := (hb.cell (p := ⟨w.heap.size + 1, 0, none⟩) Lp1_w5).trans ep1_0_w5
      have ep1_1_w6 := (hb.cell (p := ⟨w.heap.size + 1, 1, none⟩) Lp1_w5).trans ep1_1_w5
      have ep1_2_w6 := (hb.cell (p := ⟨w.heap.size + 1, 2, none⟩) Lp1_w5).trans ep1_2_w5
      have ep1_3_w6 := (hb.cell (p := ⟨w.heap.size + 1, 3, none⟩) Lp1_w5).trans ep1_3_w5
      have ep1_4_w6 := (hb.cell (p := ⟨w.heap.size + 1, 4, none⟩) Lp1_w5).trans ep1_4_w5
      have Lp1_w6 : w.heap.size + 1 < w6.heap.size := by have h := hb.size; omega
      clear ep1_0_w5 ep1_1_w5 ep1_2_w5 ep1_3_w5 ep1_4_w5 Lp1_w5
      simp only [vCore]
      have ho := (show OwnsF cCell 55 2 _ _ _ n0_3 from ho)
      obtain ⟨p1, q1, rfl, _⟩ := flatAt_len (ownsF_at ho (by show n0_3.length ≤ _; have := HSM0.out; omega))
      obtain ⟨LX1, hLX1, ho⟩ := own_lo ho
      try simp at hLX1
      have HLX1 := Lib.hid hLX1
      clear hLX1
      have X1 := Lib.hid (ownR_of ho)
      have X1a := Lib.hid (ownsF_at ho (by show n0_3.length ≤ _; have := HSM0.out; omega))
      clear ho
      clear hb hb0
      have K_p0 := Lp0_w6
      have K_p1 := Lp1_w6
      go_wp2_with fail
      refine (toCore_any (vCore (⟨n1_0, n1_1, n1_2, n1_3, n1_4⟩ : CoreD) (.slice ca1 n1_3.length cc1)) (⟨n1_0, n1_1, n1_2, n1_3, n1_4⟩ : CoreD) _ ⟨(.slice ca1 n1_3.length cc1), rfl, (FlatAt.below A1_w6.out (by repeat (first | exact Below.refl _ _ | refine Below.alloc ?_ (by simp; try omega) _ | refine Below.setCell ?_ (by simp; try omega) _ | refine belN ?_ _ | refine belD ?_)) (Nat.le_refl _))⟩ (by show n1_3.length ≤ _; have := HSM1.out; omega)).mono ?_
      rintro e w7 ⟨_, rfl, ⟨u2, rfl, ho⟩, hb0⟩
      have hb := below_step (w := w6) (by repeat (first | exact Below.refl _ _ | refine Below.alloc ?_ (by simp; try omega) _ | refine Below.setCell ?_ (by simp; try omega) _ | refine belN ?_ _ | refine belD ?_)) hb0
      have Cw_w7 := Lib.hid (Cw_w6.out.trans (hb.mono Cw_w6.out.size))
      have A0_w7 := Lib.hid (FlatAt.below A0_w6.out hb (Nat.le_refl _))
      have A1_w7 := Lib.hid (FlatAt.below A1_w6.out hb (Nat.le_refl _))
      have X1a_w7 := Lib.hid (FlatAt.below X1a.out hb (Nat.le_refl _))
      have X1_w7 := Lib.hid (ownR_below X1.out hb (Nat.le_refl _))
      have ep0_0_w7 := (hb.cell (p := ⟨w.heap.size, 0, none⟩) Lp0_w6).trans ep0_0_w6
      have ep0_1_w7 := (hb.cell (p := ⟨w.heap.size, 1, none⟩) Lp0_w6).trans ep0_1_w6
      have ep0_2_w7 := (hb.cell (p := ⟨w.heap.size, 2, none⟩) Lp0_w6).trans ep0_2_w6
      have ep0_3_w7 := (hb.cell (p := ⟨w.heap.size, 3, none⟩) Lp0_w6).trans ep0_3_w6
      have ep0_4_w7 := (hb.cell (p := ⟨w.heap.size, 4, none⟩) Lp0_w6).trans ep0_4_w6
      have Lp0_w7 : w.heap.size < w7.heap.size := by have h := hb.size; omega
      clear ep0_0_w6 ep0_1_w6 ep0_2_w6 ep0_3_w6 ep0_4_w6 Lp0_w6
      have ep1_0_w7 := (hb.cell (p := ⟨w.heap.size + 1, 0, none⟩) Lp1_w6).trans ep1_0_w6
      have ep1_1_w7 := (hb.cell (p := ⟨w.heap.size + 1, 1, none⟩) Lp1_w6).trans ep1_1_w6
      have ep1_2_w7 := (hb.cell (p := ⟨w.heap.size + 1, 2, none⟩) Lp1_w6).trans ep1_2_w6
      have ep1_3_w7 := (hb.cell (p := ⟨w.heap.size + 1, 3, none⟩) Lp1_w6).trans ep1_3_w6
      have ep1_4_w7 := (hb.cell (p := ⟨w.heap.size + 1, 4, none⟩) Lp1_w6).trans ep1_4_w6
      have Lp1_w7 : w.heap.size + 1 < w7.heap.size := by have h := hb.size; omega
      clear ep1_0_w6 ep1_1_w6 ep1_2_w6 ep1_3_w6 ep1_4_w6 Lp1_w6
      have ex0_0_w7 : w7.cell? ⟨w6.heap.size, 0, none⟩ = some (.string ⟨n0_0.toArray⟩) := by rw [hb0.cell (p := ⟨w6.heap.size, 0, none⟩) (by simp; try omega)]; simp
      have ex0_1_w7 : w7.cell? ⟨w6.heap.size, 1, none⟩ = some (.bool n0_1) := by rw [hb0.cell (p := ⟨w6.heap.size, 1, none⟩) (by simp; try omega)]; simp
      have ex0_2_w7 : w7.cell? ⟨w6.heap.size, 2, none⟩ = some (.bool n0_2) := by rw [hb0.cell (p := ⟨w6.heap.size, 2, none⟩) (by simp; try omega)]; simp
      have ex0_3_w7 : w7.cell? ⟨w6.heap.size, 3, none⟩ = some ((.slice p1 n0_3.length q1)) := by rw [hb0.cell (p := ⟨w6.heap.size, 3, none⟩) (by simp; try omega)]; simp
      have ex0_4_w7 : w7.cell? ⟨w6.heap.size, 4, none⟩ = some (.int .i64 n0_4) := by rw [hb0.cell (p := ⟨w6.heap.size, 4, none⟩) (by simp; try omega)]; simp
      have Lx0_w7 : w6.heap.size < w7.heap.size := by have h := hb0.size; simp at h; omega
      simp only [vCore]
      have ho := (show OwnsF cCell 55 2 _ _ _ n1_3 from ho)
      obtain ⟨p2, q2, rfl, _⟩ := flatAt_len (ownsF_at ho (by show n1_3.length ≤ _; have := HSM1.out; omega))
      obtain ⟨LX2, hLX2, ho⟩ := own_lo ho
      try simp at hLX2
      have HLX2 := Lib.hid hLX2
      clear hLX2
      have X2 := Lib.hid (ownR_of ho)
      have X2a := Lib.hid (ownsF_at ho (by show n1_3.length ≤ _; have := HSM1.out; omega))
      clear ho
      clear hb hb0
      have K_p0 := Lp0_w7
      have K_p1 := Lp1_w7
      have K_x0 := Lx0_w7
      go_wp2_with fail
      refine (implSame_any (vCore (⟨n0_0, n0_1, n0_2, n0_3, n0_4⟩ : CoreD) (.slice p1 n0_3.length q1)) (vCore (⟨n1_0, n1_1, n1_2, n1_3, n1_4⟩ : CoreD) (.slice p2 n1_3.length q2)) (⟨n0_0, n0_1, n0_2, n0_3, n0_4⟩ : CoreD) (⟨n1_0, n1_1, n1_2, n1_3, n1_4⟩ : CoreD) _ ⟨_, rfl, (FlatAt.below X1a_w7.out (by repeat (first | exact Below.refl _ _ | refine Below.alloc ?_ (by simp; try omega) _ | refine Below.setCell ?_ (by simp; try omega) _ | refine belN ?_ _ | refine belD ?_)) (Nat.le_refl _))⟩ ⟨_, rfl, (FlatAt.below X2a.out (by repeat (first | exact Below.refl _ _ | refine Below.alloc ?_ (by simp; try omega) _ | refine Below.setCell ?_ (by simp; try omega) _ | refine belN ?_ _ | refine belD ?_)) (Nat.le_refl _))⟩).mono ?_
      rintro e w8 ⟨rfl, hb0⟩
      have hb := below_step (w := w7) (by repeat (first | exact Below.refl _ _ | refine Below.alloc ?_ (by simp; try omega) _ | refine Below.setCell ?_ (by simp; try omega) _ | refine belN ?_ _ | refine belD ?_)) hb0
      have Cw_w8 := Lib.hid (Cw_w7.out.trans (hb.mono Cw_w7.out.size))
      have A0_w8 := Lib.hid (FlatAt.below A0_w7.out hb (Nat.le_refl _))
      have A1_w8 := Lib.hid (FlatAt.below A1_w7.out hb (Nat.le_refl _))
      have X1a_w8 := Lib.hid (FlatAt.below X1a_w7.out hb (Nat.le_refl _))
      have X1_w8 := Lib.hid (ownR_below X1_w7.out hb (Nat.le_refl _))
      have X2a_w8 := Lib.hid (FlatAt.below X2a.out hb (Nat.le_refl _))
      have X2_w8 := Lib.hid (ownR_below X2.out hb (Nat.le_refl _))
      have ep0_0_w8 := (hb.cell (p := ⟨w.heap.size, 0, none⟩) Lp0_w7).trans ep0_0_w7
      have ep0_1_w8 := (hb.cell (p := ⟨w.heap.size, 1, none⟩) Lp0_w7).trans ep0_1_w7
      have ep0_2_w8 := (hb.cell (p := ⟨w.heap.size, 2, none⟩) Lp0_w7).trans ep0_2_w7
      have ep0_3_w8 := (hb.cell (p := ⟨w.heap.size, 3, none⟩) Lp0_w7).trans ep0_3_w7
      have ep0_4_w8 := (hb.cell (p := ⟨w.heap.size, 4, none⟩) Lp0_w7).trans ep0_4_w7
      have Lp0_w8 : w.heap.size < w8.heap.size := by have h := hb.size; omega
      clear ep0_0_w7 ep0_1_w7 ep0_2_w7 ep0_3_w7 ep0_4_w7 Lp0_w7
      have ep1_0_w8 := (hb.cell (p := ⟨w.heap.size + 1, 0, none⟩) Lp1_w7).trans ep1_0_w7
      have ep1_1_w8 := (hb.cell (p := ⟨w.heap.size + 1, 1, none⟩) Lp1_w7).trans ep1_1_w7
      have ep1_2_w8 := (hb.cell (p := ⟨w.heap.size + 1, 2, none⟩) Lp1_w7).trans ep1_2_w7
      have ep1_3_w8 := (hb.cell (p := ⟨w.heap.size + 1, 3, none⟩) Lp1_w7).trans ep1_3_w7
      have ep1_4_w8 := (hb.cell (p := ⟨w.heap.size + 1, 4, none⟩) Lp1_w7).trans ep1_4_w7
      have Lp1_w8 : w.heap.size + 1 < w8.heap.size := by have h := hb.size; omega
      clear ep1_0_w7 ep1_1_w7 ep1_2_w7 ep1_3_w7 ep1_4_w7 Lp1_w7
      have ex0_0_w8 := (hb.cell (p := ⟨w6.heap.size, 0, none⟩) Lx0_w7).trans ex0_0_w7
      have ex0_1_w8 := (hb.cell (p := ⟨w6.heap.size, 1, none⟩) Lx0_w7).trans ex0_1_w7
      have ex0_2_w8 := (hb.cell (p := ⟨w6.heap.size, 2, none⟩) Lx0_w7).trans ex0_2_w7
      have ex0_3_w8 := (hb.cell (p := ⟨w6.heap.size, 3, none⟩) Lx0_w7).trans ex0_3_w7
      have ex0_4_w8 := (hb.cell (p := ⟨w6.heap.size, 4, none⟩) Lx0_w7).trans ex0_4_w7
      have Lx0_w8 : w6.heap.size < w8.heap.size := by have h := hb.size; omega
      clear ex0_0_w7 ex0_1_w7 ex0_2_w7 ex0_3_w7 ex0_4_w7 Lx0_w7
      have ex1_0_w8 : w8.cell? ⟨w7.heap.size, 0, none⟩ = some (.string ⟨n1_0.toArray⟩) := by rw [hb0.cell (p := ⟨w7.heap.size, 0, none⟩) (by simp; try omega)]; simp
      have ex1_1_w8 : w8.cell? ⟨w7.heap.size, 1, none⟩ = some (.bool n1_1) := by rw [hb0.cell (p := ⟨w7.heap.size, 1, none⟩) (by simp; try omega)]; simp
      have ex1_2_w8 : w8.cell? ⟨w7.heap.size, 2, none⟩ = some (.bool n1_2) := by rw [hb0.cell (p := ⟨w7.heap.size, 2, none⟩) (by simp; try omega)]; simp
      have ex1_3_w8 : w8.cell? ⟨w7.heap.size, 3, none⟩ = some ((.slice p2 n1_3.length q2)) := by rw [hb0.cell (p := ⟨w7.heap.size, 3, none⟩) (by simp; try omega)]; simp
      have ex1_4_w8 : w8.cell? ⟨w7.heap.size, 4, none⟩ = some (.int .i64 n1_4) := by rw [hb0.cell (p := ⟨w7.heap.size, 4, none⟩) (by simp; try omega)]; simp
      have Lx1_w8 : w7.heap.size < w8.heap.size := by have h := hb0.size; simp at h; omega
      clear hb hb0
      go_wp2_with fail
      go_region_held3 (fun w' => w'.cell? ⟨w6.heap.size, 0, none⟩ = some (.string ⟨n0_0.toArray⟩) ∧ w'.cell? ⟨w6.heap.size, 1, none⟩ = some (.bool n0_1) ∧ w'.cell? ⟨w6.heap.size, 2, none⟩ = some (.bool n0_2) ∧ w'.cell? ⟨w6.heap.size, 3, none⟩ = some ((.slice p1 n0_3.length q1)) ∧ w'.cell? ⟨w6.heap.size, 4, none⟩ = some (.int .i64 n0_4) ∧ w'.cell? ⟨w.heap.size, 0, none⟩ = some (.string ⟨n0_0.toArray⟩) ∧ w'.cell? ⟨w.heap.size, 1, none⟩ = some (.bool n0_1) ∧ w'.cell? ⟨w.heap.size, 2, none⟩ = some (.bool n0_2) ∧ w'.cell? ⟨w.heap.size, 3, none⟩ = some ((.slice ca0 n0_3.length cc0)) ∧ w'.cell? ⟨w.heap.size, 4, none⟩ = some (.int .i64 n0_4))
        (first
          | exact ⟨(hbA.cell (p := ⟨w6.heap.size, 0, none⟩) (by simp; omega)).trans ex0_0_w8, (hbA.cell (p := ⟨w6.heap.size, 1, none⟩) (by simp; omega)).trans ex0_1_w8, (hbA.cell (p := ⟨w6.heap.size, 2, none⟩) (by simp; omega)).trans ex0_2_w8, (hbA.cell (p := ⟨w6.heap.size, 3, none⟩) (by simp; omega)).trans ex0_3_w8, (hbA.cell (p := ⟨w6.heap.size, 4, none⟩) (by simp; omega)).trans ex0_4_w8, (hbA.cell (p := ⟨w.heap.size, 0, none⟩) (by simp; omega)).trans ep0_0_w8, (hbA.cell (p := ⟨w.heap.size, 1, none⟩) (by simp; omega)).trans ep0_1_w8, (hbA.cell (p := ⟨w.heap.size, 2, none⟩) (by simp; omega)).trans ep0_2_w8, (hbA.cell (p := ⟨w.heap.size, 3, none⟩) (by simp; omega)).trans ep0_3_w8, (hbA.cell (p := ⟨w.heap.size, 4, none⟩) (by simp; omega)).trans ep0_4_w8⟩
          | exact ⟨(hbB.cell (p := ⟨w6.heap.size, 0, none⟩) (by have h := hbA.size; simp at h; simp; omega)).trans ((hbA.cell (p := ⟨w6.heap.size, 0, none⟩) (by simp; omega)).trans ex0_0_w8), (hbB.cell (p := ⟨w6.heap.size, 1, none⟩) (by have h := hbA.size; simp at h; simp; omega)).trans ((hbA.cell (p := ⟨w6.heap.size, 1, none⟩) (by simp; omega)).trans ex0_1_w8), (hbB.cell (p := ⟨w6.heap.size, 2, none⟩) (by have h := hbA.size; simp at h; simp; omega)).trans ((hbA.cell (p := ⟨w6.heap.size, 2, none⟩) (by simp; omega)).trans ex0_2_w8), (hbB.cell (p := ⟨w6.heap.size, 3, none⟩) (by have h := hbA.size; simp at h; simp; omega)).trans ((hbA.cell (p := ⟨w6.heap.size, 3, none⟩) (by simp; omega)).trans ex0_3_w8), (hbB.cell (p := ⟨w6.heap.size, 4, none⟩) (by have h := hbA.size; simp at h; simp; omega)).trans ((hbA.cell (p := ⟨w6.heap.size, 4, none⟩) (by simp; omega)).trans ex0_4_w8), (hbB.cell (p := ⟨w.heap.size, 0, none⟩) (by have h := hbA.size; simp at h; simp; omega)).trans ((hbA.cell (p := ⟨w.heap.size, 0, none⟩) (by simp; omega)).trans ep0_0_w8), (hbB.cell (p := ⟨w.heap.size, 1, none⟩) (by have h := hbA.size; simp at h; simp; omega)).trans ((hbA.cell (p := ⟨w.heap.size, 1, none⟩) (by simp; omega)).trans ep0_1_w8), (hbB.cell (p := ⟨w.heap.size, 2, none⟩) (by have h := hbA.size; simp at h; simp; omega)).trans ((hbA.cell (p := ⟨w.heap.size, 2, none⟩) (by simp; omega)).trans ep0_2_w8), (hbB.cell (p := ⟨w.heap.size, 3, none⟩) (by have h := hbA.size; simp at h; simp; omega)).trans ((hbA.cell (p := ⟨w.heap.size, 3, none⟩) (by simp; omega)).trans ep0_3_w8), (hbB.cell (p := ⟨w.heap.size, 4, none⟩) (by have h := hbA.size; simp at h; simp; omega)).trans ((hbA.cell (p := ⟨w.heap.size, 4, none⟩) (by simp; omega)).trans ep0_4_w8)⟩
          | go_keep)
        (first
          | (go_at_call 17; refine (toCore_any (vCore (⟨n0_0, n0_1, n0_2, n0_3, n0_4⟩ : CoreD) (.slice ca0 n0_3.length cc0)) (⟨n0_0, n0_1, n0_2, n0_3, n0_4⟩ : CoreD) _ ⟨(.slice ca0 n0_3.length cc0), rfl, (FlatAt.below A0_w8.out (by repeat (first | exact Below.refl _ _ | refine Below.alloc ?_ (by simp; try omega) _ | refine Below.setCell ?_ (by simp; try omega) _ | refine belN ?_ _ | refine belD ?_)) (Nat.le_refl _))⟩ (by show n0_3.length ≤ _; have := HSM0.out; omega)).mono ?_; rintro e w9 ⟨_, rfl, ⟨uZ, rfl, hoZ⟩, hbA⟩)
          | (go_at_call 19; refine (eqCore_any (vCore (⟨n0_0, n0_1, n0_2, n0_3, n0_4⟩ : CoreD) (.slice p1 n0_3.length q1)) (vCore (⟨n0_0, n0_1, n0_2, n0_3, n0_4⟩ : CoreD) uZ) (⟨n0_0, n0_1, n0_2, n0_3, n0_4⟩ : CoreD) (⟨n0_0, n0_1, n0_2, n0_3, n0_4⟩ : CoreD) _ ⟨(.slice p1 n0_3.length q1), rfl, (FlatAt.below X1a_w8.out (below_step (w := w8) (by repeat (first | exact Below.refl _ _ | refine Below.alloc ?_ (by simp; try omega) _ | refine Below.setCell ?_ (by simp; try omega) _ | refine belN ?_ _ | refine belD ?_)) hbA) (Nat.le_refl _))⟩ ⟨uZ, rfl, (ownsF_at hoZ (by show n0_3.length ≤ _; have := HSM0.out; omega))⟩).mono ?_; rintro e w10 ⟨rfl, hbB⟩))
      have hb1 := below_step (w := w8) (by repeat (first | exact Below.refl _ _ | refine Below.alloc ?_ (by simp; try omega) _ | refine Below.setCell ?_ (by simp; try omega) _ | refine belN ?_ _ | refine belD ?_)) hbA
      have hb := hb1.trans (hbB.mono hb1.size)
      rename_i hheld
      clear hheld hoZ
      have Cw_w10 := Lib.hid (Cw_w8.out.trans (hb.mono Cw_w8.out.size))
      have A0_w10 := Lib.hid (FlatAt.below A0_w8.out hb (Nat.le_refl _))
      have A1_w10 := Lib.hid (FlatAt.below A1_w8.out hb (Nat.le_refl _))
      have X1a_w10 := Lib.hid (FlatAt.below X1a_w8.out hb (Nat.le_refl _))
      have X1_w10 := Lib.hid (ownR_below X1_w8.out hb (Nat.le_refl _))
      have X2a_w10 := Lib.hid (FlatAt.below X2a_w8.out hb (Nat.le_refl _))
      have X2_w10 := Lib.hid (ownR_below X2_w8.out hb (Nat.le_refl _))
      have ep0_0_w10 := (hb.cell (p := ⟨w.heap.size, 0, none⟩) Lp0_w8).trans ep0_0_w8
      have ep0_1_w10 := (hb.cell (p := ⟨w.heap.size, 1, none⟩) Lp0_w8).trans ep0_1_w8
      have ep0_2_w10 := (hb.cell (p := ⟨w.heap.size, 2, none⟩) Lp0_w8).trans ep0_2_w8
      have ep0_3_w10 := (hb.cell (p := ⟨w.heap.size, 3, none⟩) Lp0_w8).trans ep0_3_w8
      have ep0_4_w10 := (hb.cell (p := ⟨w.heap.size, 4, none⟩) Lp0_w8).trans ep0_4_w8
      have Lp0_w10 : w.heap.size < w10.heap.size := by have h := hb.size; omega
      clear ep0_0_w8 ep0_1_w8 ep0_2_w8 ep0_3_w8 ep0_4_w8 Lp0_w8
      have ep1_0_w10 := (hb.cell (p := ⟨w.heap.size + 1, 0, none⟩) Lp1_w8).trans ep1_0_w8
      have ep1_1_w10 := (hb.cell (p := ⟨w.heap.size + 1, 1, none⟩) Lp1_w8).trans ep1_1_w8
      have ep1_2_w10 := (hb.cell (p := ⟨w.heap.size + 1, 2, none⟩) Lp1_w8).trans ep1_2_w8
      have ep1_3_w10 := (hb.cell (p := ⟨w.heap.size + 1, 3, none⟩) Lp1_w8).trans ep1_3_w8
      have ep1_4_w10 := (hb.cell (p := ⟨w.heap.size + 1, 4, none⟩) Lp1_w8).trans ep1_4_w8
      have Lp1_w10 : w.heap.size + 1 < w10.heap.size := by have h := hb.size; omega
      clear ep1_0_w8 ep1_1_w8 ep1_2_w8 ep1_3_w8 ep1_4_w8 Lp1_w8
      have ex0_0_w10 := (hb.cell (p := ⟨w6.heap.size, 0, none⟩) Lx0_w8).trans ex0_0_w8
      have ex0_1_w10 := (hb.cell (p := ⟨w6.heap.size, 1, none⟩) Lx0_w8).trans ex0_1_w8
      have ex0_2_w10 := (hb.cell (p := ⟨w6.heap.size, 2, none⟩) Lx0_w8).trans ex0_2_w8
      have ex0_3_w10 := (hb.cell (p := ⟨w6.heap.size, 3, none⟩) Lx0_w8).trans ex0_3_w8
      have ex0_4_w10 := (hb.cell (p := ⟨w6.heap.size, 4, none⟩) Lx0_w8).trans ex0_4_w8
      have Lx0_w10 : w6.heap.size < w10.heap.size := by have h := hb.size; omega
      clear ex0_0_w8 ex0_1_w8 ex0_2_w8 ex0_3_w8 ex0_4_w8 Lx0_w8
      have ex1_0_w10 := (hb.cell (p := ⟨w7.heap.size, 0, none⟩) Lx1_w8).trans ex1_0_w8
      have ex1_1_w10 := (hb.cell (p := ⟨w7.heap.size, 1, none⟩) Lx1_w8).trans ex1_1_w8
      have ex1_2_w10 := (hb.cell (p := ⟨w7.heap.size, 2, none⟩) Lx1_w8).trans ex1_2_w8
      have ex1_3_w10 := (hb.cell (p := ⟨w7.heap.size, 3, none⟩) Lx1_w8).trans ex1_3_w8
      have ex1_4_w10 := (hb.cell (p := ⟨w7.heap.size, 4, none⟩) Lx1_w8).trans ex1_4_w8
      have Lx1_w10 : w7.heap.size < w10.heap.size := by have h := hb.size; omega
      clear ex1_0_w8 ex1_1_w8 ex1_2_w8 ex1_3_w8 ex1_4_w8 Lx1_w8
      clear hb hb1 hbA hbB
      go_wp2_with fail
      go_region_held3 (fun w' => w'.cell? ⟨w7.heap.size, 0, none⟩ = some (.string ⟨n1_0.toArray⟩) ∧ w'.cell? ⟨w7.heap.size, 1, none⟩ = some (.bool n1_1) ∧ w'.cell? ⟨w7.heap.size, 2, none⟩ = some (.bool n1_2) ∧ w'.cell? ⟨w7.heap.size, 3, none⟩ = some ((.slice p2 n1_3.length q2)) ∧ w'.cell? ⟨w7.heap.size, 4, none⟩ = some (.int .i64 n1_4) ∧ w'.cell? ⟨w.heap.size + 1, 0, none⟩ = some (.string ⟨n1_0.toArray⟩) ∧ w'.cell? ⟨w.heap.size + 1, 1, none⟩ = some (.bool n1_1) ∧ w'.cell? ⟨w.heap.size + 1, 2, none⟩ = some (.bool n1_2) ∧ w'.cell? ⟨w.heap.size + 1, 3, none⟩ = some ((.slice ca1 n1_3.length cc1)) ∧ w'.cell? ⟨w.heap.size + 1, 4, none⟩ = some (.int .i64 n1_4))
        (first
          | exact ⟨(hbA.cell (p := ⟨w7.heap.size, 0, none⟩) (by simp; omega)).trans ex1_0_w10, (hbA.cell (p := ⟨w7.heap.size, 1, none⟩) (by simp; omega)).trans ex1_1_w10, (hbA.cell (p := ⟨w7.heap.size, 2, none⟩) (by simp; omega)).trans ex1_2_w10, (hbA.cell (p := ⟨w7.heap.size, 3, none⟩) (by simp; omega)).trans ex1_3_w10, (hbA.cell (p := ⟨w7.heap.size, 4, none⟩) (by simp; omega)).trans ex1_4_w10, (hbA.cell (p := ⟨w.heap.size + 1, 0, none⟩) (by simp; omega)).trans ep1_0_w10, (hbA.cell (p := ⟨w.heap.size + 1, 1, none⟩) (by simp; omega)).trans ep1_1_w10, (hbA.cell (p := ⟨w.heap.size + 1, 2, none⟩) (by simp; omega)).trans ep1_2_w10, (hbA.cell (p := ⟨w.heap.size + 1, 3, none⟩) (by simp; omega)).trans ep1_3_w10, (hbA.cell (p := ⟨w.heap.size + 1, 4, none⟩) (by simp; omega)).trans ep1_4_w10⟩
          | exact ⟨(hbB.cell (p := ⟨w7.heap.size, 0, none⟩) (by have h := hbA.size; simp at h; simp; omega)).trans ((hbA.cell (p := ⟨w7.heap.size, 0, none⟩) (by simp; omega)).trans ex1_0_w10), (hbB.cell (p := ⟨w7.heap.size, 1, none⟩) (by have h := hbA.size; simp at h; simp; omega)).trans ((hbA.cell (p := ⟨w7.heap.size, 1, none⟩) (by simp; omega)).trans ex1_1_w10), (hbB.cell (p := ⟨w7.heap.size, 2, none⟩) (by have h := hbA.size; simp at h; simp; omega)).trans ((hbA.cell (p := ⟨w7.heap.size, 2, none⟩) (by simp; omega)).trans ex1_2_w10), (hbB.cell (p := ⟨w7.heap.size, 3, none⟩) (by have h := hbA.size; simp at h; simp; omega)).trans ((hbA.cell (p := ⟨w7.heap.size, 3, none⟩) (by simp; omega)).trans ex1_3_w10), (hbB.cell (p := ⟨w7.heap.size, 4, none⟩) (by have h := hbA.size; simp at h; simp; omega)).trans ((hbA.cell (p := ⟨w7.heap.size, 4, none⟩) (by simp; omega)).trans ex1_4_w10), (hbB.cell (p := ⟨w.heap.size + 1, 0, none⟩) (by have h := hbA.size; simp at h; simp; omega)).trans ((hbA.cell (p := ⟨w.heap.size + 1, 0, none⟩) (by simp; omega)).trans ep1_0_w10), (hbB.cell (p := ⟨w.heap.size + 1, 1, none⟩) (by have h := hbA.size; simp at h; simp; omega)).trans ((hbA.cell (p := ⟨w.heap.size + 1, 1, none⟩) (by simp; omega)).trans ep1_1_w10), (hbB.cell (p := ⟨w.heap.size + 1, 2, none⟩) (by have h := hbA.size; simp at h; simp; omega)).trans ((hbA.cell (p := ⟨w.heap.size + 1, 2, none⟩) (by simp; omega)).trans ep1_2_w10), (hbB.cell (p := ⟨w.heap.size + 1, 3, none⟩) (by have h := hbA.size; simp at h; simp; omega)).trans ((hbA.cell (p := ⟨w.heap.size + 1, 3, none⟩) (by simp; omega)).trans ep1_3_w10), (hbB.cell (p := ⟨w.heap.size + 1, 4, none⟩) (by have h := hbA.size; simp at h; simp; omega)).trans ((hbA.cell (p := ⟨w.heap.size + 1, 4, none⟩) (by simp; omega)).trans ep1_4_w10)⟩
          | go_keep)
        (first
          | (go_at_call 17; refine (toCore_any (vCore (⟨n1_0, n1_1, n1_2, n1_3, n1_4⟩ : CoreD) (.slice ca1 n1_3.length cc1)) (⟨n1_0, n1_1, n1_2, n1_3, n1_4⟩ : CoreD) _ ⟨(.slice ca1 n1_3.length cc1), rfl, (FlatAt.below A1_w10.out (by repeat (first | exact Below.refl _ _ | refine Below.alloc ?_ (by simp; try omega) _ | refine Below.setCell ?_ (by simp; try omega) _ | refine belN ?_ _ | refine belD ?_)) (Nat.le_refl _))⟩ (by show n1_3.length ≤ _; have := HSM1.out; omega)).mono ?_; rintro e w11 ⟨_, rfl, ⟨uZ, rfl, hoZ⟩, hbA⟩)
          | (go_at_call 19; refine (eqCore_any (vCore (⟨n1_0, n1_1, n1_2, n1_3, n1_4⟩ : CoreD) (.slice p2 n1_3.length q2)) (vCore (⟨n1_0, n1_1, n1_2, n1_3, n1_4⟩ : CoreD) uZ) (⟨n1_0, n1_1, n1_2, n1_3, n1_4⟩ : CoreD) (⟨n1_0, n1_1, n1_2, n1_3, n1_4⟩ : CoreD) _ ⟨(.slice p2 n1_3.length q2), rfl, (FlatAt.below X2a_w10.out (below_step (w := w10) (by repeat (first | exact Below.refl _ _ | refine Below.alloc ?_ (by simp; try omega) _ | refine Below.setCell ?_ (by simp; try omega) _ | refine belN ?_ _ | refine belD ?_)) hbA) (Nat.le_refl _))⟩ ⟨uZ, rfl, (ownsF_at hoZ (by show n1_3.length ≤ _; have := HSM1.out; omega))⟩).mono ?_; rintro e w12 ⟨rfl, hbB⟩))
      have hb1 := below_step (w := w10) (by repeat (first | exact Below.refl _ _ | refine Below.alloc ?_ (by simp; try omega) _ | refine Below.setCell ?_ (by simp; try omega) _ | refine belN ?_ _ | refine belD ?_)) hbA
      have hb := hb1.trans (hbB.mono hb1.size)
      rename_i hheld
      clear hheld hoZ
      have Cw_w12 := Lib.hid (Cw_w10.out.trans (hb.mono Cw_w10.out.size))
      have A0_w12 := Lib.hid (FlatAt.below A0_w10.out hb (Nat.le_refl _))
      have A1_w12 := Lib.hid (FlatAt.below A1_w10.out hb (Nat.le_refl _))
      have X1a_w12 := Lib.hid (FlatAt.below X1a_w10.out hb (Nat.le_refl _))
      have X1_w12 := Lib.hid (ownR_below X1_w10.out hb (Nat.le_refl _))
      have X2a_w12 := Lib.hid (FlatAt.below X2a_w10.out hb (Nat.le_refl _))
      have X2_w12 := Lib.hid (ownR_below X2_w10.out hb (Nat.le_refl _))
      have ep0_0_w12 := (hb.cell (p := ⟨w.heap.size, 0, none⟩) Lp0_w10).trans ep0_0_w10
      have ep0_1_w12 := (hb.cell (p := ⟨w.heap.size, 1, none⟩) Lp0_w10).trans ep0_1_w10
      have ep0_2_w12 := (hb.cell (p := ⟨w.heap.size, 2, none⟩) Lp0_w10).trans ep0_2_w10
      have ep0_3_w12 := (hb.cell (p := ⟨w.heap.size, 3, none⟩) Lp0_w10).trans ep0_3_w10
      have ep0_4_w12 := (hb.cell (p := ⟨w.heap.size, 4, none⟩) Lp0_w10).trans ep0_4_w10
      have Lp0_w12 : w.heap.size < w12.heap.size := by have h := hb.size; omega
      clear ep0_0_w10 ep0_1_w10 ep0_2_w10 ep0_3_w10 ep0_4_w10 Lp0_w10
      have ep1_0_w12 := (hb.cell (p := ⟨w.heap.size + 1, 0, none⟩) Lp1_w10).trans ep1_0_w10
      have ep1_1_w12 := (hb.cell (p := ⟨w.heap.size + 1, 1, none⟩) Lp1_w10).trans ep1_1_w10
      have ep1_2_w12 := (hb.cell (p := ⟨w.heap.size + 1, 2, none⟩) Lp1_w10).trans ep1_2_w10
      have ep1_3_w12 := (hb.cell (p := ⟨w.heap.size + 1, 3, none⟩) Lp1_w10).trans ep1_3_w10
      have ep1_4_w12 := (hb.cell (p := ⟨w.heap.size + 1, 4, none⟩) Lp1_w10).trans ep1_4_w10
      have Lp1_w12 : w.heap.size + 1 < w12.heap.size := by have h := hb.size; omega
      clear ep1_0_w10 ep1_1_w10 ep1_2_w10 ep1_3_w10 ep1_4_w10 Lp1_w10
      have ex0_0_w12 := (hb.cell (p := ⟨w6.heap.size, 0, none⟩) Lx0_w10).trans ex0_0_w10
      have ex0_1_w12 := (hb.cell (p := ⟨w6.heap.size, 1, none⟩) Lx0_w10).trans ex0_1_w10
      have ex0_2_w12 := (hb.cell (p := ⟨w6.heap.size, 2, none⟩) Lx0_w10).trans ex0_2_w10
      have ex0_3_w12 := (hb.cell (p := ⟨w6.heap.size, 3, none⟩) Lx0_w10).trans ex0_3_w10
      have ex0_4_w12 := (hb.cell (p := ⟨w6.heap.size, 4, none⟩) Lx0_w10).trans ex0_4_w10
      have Lx0_w12 : w6.heap.size < w12.heap.size := by have h := hb.size; omega
      clear ex0_0_w10 ex0_1_w10 ex0_2_w10 ex0_3_w10 ex0_4_w10 Lx0_w10
      have ex1_0_w12 := (hb.cell (p := ⟨w7.heap.size, 0, none⟩) Lx1_w10).trans ex1_0_w10
      have ex1_1_w12 := (hb.cell (p := ⟨w7.heap.size, 1, none⟩) Lx1_w10).trans ex1_1_w10
      have ex1_2_w12 := (hb.cell (p := ⟨w7.heap.size, 2, none⟩) Lx1_w10).trans ex1_2_w10
      have ex1_3_w12 := (hb.cell (p := ⟨w7.heap.size, 3, none⟩) Lx1_w10).trans ex1_3_w10
      have ex1_4_w12 := (hb.cell (p := ⟨w7.heap.size, 4, none⟩) Lx1_w10).trans ex1_4_w10
      have Lx1_w12 : w7.heap.size < w12.heap.size := by have h := hb.size; omega
      clear ex1_0_w10 ex1_1_w10 ex1_2_w10 ex1_3_w10 ex1_4_w10 Lx1_w10
      clear hb hb1 hbA hbB
      go_wp2_with fail
      go_ret
      exact ⟨rfl, below_to Cw_w12.out (by repeat (first | exact Below.refl _ _ | refine Below.alloc ?_ (by simp; try omega) _ | refine Below.setCell ?_ (by simp; try omega) _ | refine belN ?_ _ | refine belD ?_))⟩
set_option maxRecDepth 100000 in
theorem fnExactSameCore_lifted (os : Os) (started : os.Started) (H : Type) (enc : TypeId × Value → H) :
    ReturnsInHanded {} Try.checked os 5 .any (Rows.fnExactSameCoreSpec.pre6 enc Try.prog Try.f5 Rows.fnExactSameCoreRow.domain false) (Rows.fnExactSameCoreSpec.post enc Try.prog Try.f5 false true false false) := by
  refine returnsInHanded_of_change (C := Try.checked) ownK started (by kernel_rfl) Try.func5
    (ChangeSpec.witness6 (enc := enc) (C := Try.checked) false ⟨#[], #[.agg #[.string ⟨#[]⟩, .bool false, .bool false, .slice none 0 0, .int .i64 0], .agg #[.string ⟨#[]⟩, .bool false, .bool false, .slice none 0 0, .int .i64 0]], []⟩ 8 (by kernel_rfl) (by kernel_rfl) (by kernel_rfl) (by kernel_rfl)) ?_
  intro W base args ds gs before hval0 hW _ _
  have hval : ∀ (j : Nat) t v, Try.f5.params[j]? = some t → args[j]? = some v → Value.okWide Try.prog W .any base t v := hval0
  have hW' := hW
  obtain ⟨p, q, hA0, _, rfl, _, _⟩ := hW
  have hA : DataW.TrodAll enc Try.prog W 0 (fun _ => true) true Try.f5.params.toList args.toList ds p := hA0
  rw [Try.params5] at hA hval
  obtain ⟨v0, vs0, d0, ds0, p0, q0, hargs, rfl, rfl, h0, r0⟩ := trodAll_cons hA
  obtain ⟨v1, vs1, d1, ds1, p1, q1, rfl, rfl, rfl, h1, r1⟩ := trodAll_cons r0
  obtain ⟨rfl, rfl, rfl⟩ := trodAll_nil r1
  obtain rfl : args = #[v0, v1] := by cases args; simp_all
  obtain ⟨x0, w0, z0⟩ := arg_Core (hval 0 33 v0 rfl rfl) h0
  obtain ⟨x1, w1, z1⟩ := arg_Core (hval 1 33 v1 rfl rfl) h1
  clear hA0 hval0
  refine (exactSameCore_any v0 x0 v1 x1 W w0 z0 w1 z1).mono fun e W1 ⟨he, hb⟩ => ?_
  subst he
  exact ⟨_, rfl, law_post laidK rfl (by kernel_rfl) Try.underlying4 (by kernel_rfl) (fun ds h => by match ds, h with | [_, _], _ => rfl) hW' hb⟩
theorem fnExactSameCore_closed : joinedFacts Try.prog 5 Try.f5 Rows.fnExactSameCoreSpec Rows.fnExactSameCoreRow = true := by unfold joinedFacts; rw [mayEnter_k, liftsFinal_k, make_k]; kernel_rfl
theorem fnExactSameCore_holds : Rows.FnExactSameCoreSaid :=
  OpenClaim.holds_of_wide 5 Try.f5 rfl rfl rfl rfl rfl rfl rfl ⟨rfl, rfl, rfl, rfl, rfl⟩ rfl rfl rfl rfl rfl (by kernel_rfl) Try.func5 fnExactSameCore_closed
    (of_decide_eq_true (by kernel_rfl)) (by unfold Func.isWrapper; first | (rw [if_pos (by decide +kernel)]; kernel_rfl) | (rw [if_neg (by decide +kernel)]; exact ⟨rfl, rfl⟩))
    (fun os started H enc _ => fnExactSameCore_lifted os started H enc)
end Go.Proofs.Ytmgfokikkhfibab
