/- FnExactNegotiate: at every two offers the program's Negotiate answers as the model's (offers of more than 2^20 versions together are not asked). No condition. -/
import Derived.Test.YtbofplofpggdlaaLaw5
import Derived.Test.YtbofplofpggdlaaNeg5
import Derived.Test.YtbofplofpggdlaaNeg8
import Derived.Test.YtbofplofpggdlaaTDeal
import Derived.Test.YtbofplofpggdlaaOpenOffer
namespace Go.Proofs.Ytbofplofpggdlaa
set_option linter.unusedVariables false
open Go.ChangeShapes Go.WideShapes Go.ChangeAt Go.RowKit Go.WideMaps Go.WideElems
open Go.ChangeMaps (open_string shut_string)
set_option maxRecDepth 100000 in
set_option maxHeartbeats 3200000 in
theorem exactNegotiate_any (v0 : Value) (x0 : OfferD) (v1 : Value) (x1 : OfferD) (w : World) (a0 : OfferAt w v0 x0) (g0 : okOffer x0) (a1 : OfferAt w v1 x1) (g1 : okOffer x1) :
    Calls Try.prog 3 #[v0, v1] w fun e w' => e = .returned (.bool true) ∧ Below w.heap.size w w' := by
  obtain ⟨c0, rfl, a0⟩ := a0
  obtain ⟨n0_0, n0_1⟩ := x0
  unfold vOffer
  unfold okOffer at g0
  obtain ⟨c1, rfl, a1⟩ := a1
  obtain ⟨n1_0, n1_1⟩ := x1
  unfold vOffer
  unfold okOffer at g1
  simp only at *
  obtain ⟨ca0, cc0, rfl, _⟩ := flatAt_len a0
  have A0 := Lib.hid a0
  have G0 := Lib.hid g0
  clear a0 g0
  obtain ⟨ca1, cc1, rfl, _⟩ := flatAt_len a1
  have A1 := Lib.hid a1
  have G1 := Lib.hid g1
  clear a1 g1
  go_enter Try.func3, Try.ntmps3
  go_wp2_with fail
  refine (szOffer_any (vOffer (⟨n0_0, n0_1⟩ : OfferD) (.slice ca0 n0_0.length cc0)) (⟨n0_0, n0_1⟩ : OfferD) 1048576 _ ⟨(.slice ca0 n0_0.length cc0), rfl, (FlatAt.below A0.out (by repeat (first | exact Below.refl _ _ | refine Below.alloc ?_ (by simp; try omega) _ | refine Below.setCell ?_ (by simp; try omega) _ | refine belN ?_ _ | refine belD ?_)) (Nat.le_refl _))⟩ (by omega) (by omega)).mono ?_
  rintro e w1 ⟨r0, rfl, hr0a, hr0b, hb0⟩
  have hb := below_step (w := w) (by repeat (first | exact Below.refl _ _ | refine Below.alloc ?_ (by simp; try omega) _ | refine Below.setCell ?_ (by simp; try omega) _ | refine belN ?_ _ | refine belD ?_)) hb0
  have Cw_w1 := Lib.hid hb
  have A0_w1 := Lib.hid (FlatAt.below A0.out hb (Nat.le_refl _))
  have A1_w1 := Lib.hid (FlatAt.below A1.out hb (Nat.le_refl _))
  have ep0_0_w1 : w1.cell? ⟨w.heap.size, 0, none⟩ = some ((.slice ca0 n0_0.length cc0)) := by rw [hb0.cell (p := ⟨w.heap.size, 0, none⟩) (by simp; try omega)]; simp
  have ep0_1_w1 : w1.cell? ⟨w.heap.size, 1, none⟩ = some (.int .i64 n0_1) := by rw [hb0.cell (p := ⟨w.heap.size, 1, none⟩) (by simp; try omega)]; simp
  have Lp0_w1 : w.heap.size < w1.heap.size := by have h := hb0.size; simp at h; omega
  have ep1_0_w1 : w1.cell? ⟨w.heap.size + 1, 0, none⟩ = some ((.slice ca1 n1_0.length cc1)) := by rw [hb0.cell (p := ⟨w.heap.size + 1, 0, none⟩) (by simp; try omega)]; simp
  have ep1_1_w1 : w1.cell? ⟨w.heap.size + 1, 1, none⟩ = some (.int .i64 n1_1) := by rw [hb0.cell (p := ⟨w.heap.size + 1, 1, none⟩) (by simp; try omega)]; simp
  have Lp1_w1 : w.heap.size + 1 < w1.heap.size := by have h := hb0.size; simp at h; omega
  clear hb hb0
  by_cases hr0 : r0 < 0
  · clear hr0b
    go_wp2_with fail
    go_ret
    exact ⟨rfl, below_to Cw_w1.out (by repeat (first | exact Below.refl _ _ | refine Below.alloc ?_ (by simp; try omega) _ | refine Below.setCell ?_ (by simp; try omega) _ | refine belN ?_ _ | refine belD ?_))⟩
  · have hs0 := hr0b (by omega)
    clear hr0b
    go_wp2_with fail
    refine (szOffer_any (vOffer (⟨n1_0, n1_1⟩ : OfferD) (.slice ca1 n1_0.length cc1)) (⟨n1_0, n1_1⟩ : OfferD) r0 _ ⟨(.slice ca1 n1_0.length cc1), rfl, (FlatAt.below A1_w1.out (by repeat (first | exact Below.refl _ _ | refine Below.alloc ?_ (by simp; try omega) _ | refine Below.setCell ?_ (by simp; try omega) _ | refine belN ?_ _ | refine belD ?_)) (Nat.le_refl _))⟩ (by omega) (by omega)).mono ?_
    rintro e w2 ⟨r1, rfl, hr1a, hr1b, hb0⟩
    have hb := below_step (w := w1) (by repeat (first | exact Below.refl _ _ | refine Below.alloc ?_ (by simp; try omega) _ | refine Below.setCell ?_ (by simp; try omega) _ | refine belN ?_ _ | refine belD ?_)) hb0
    have Cw_w2 := Lib.hid (Cw_w1.out.trans (hb.mono Cw_w1.out.size))
    have A0_w2 := Lib.hid (FlatAt.below A0_w1.out hb (Nat.le_refl _))
    have A1_w2 := Lib.hid (FlatAt.below A1_w1.out hb (Nat.le_refl _))
    have ep0_0_w2 := (hb.cell (p := ⟨w.heap.size, 0, none⟩) Lp0_w1).trans ep0_0_w1
    have ep0_1_w2 := (hb.cell (p := ⟨w.heap.size, 1, none⟩) Lp0_w1).trans ep0_1_w1
    have Lp0_w2 : w.heap.size < w2.heap.size := by have h := hb.size; omega
    clear ep0_0_w1 ep0_1_w1 Lp0_w1
    have ep1_0_w2 := (hb.cell (p := ⟨w.heap.size + 1, 0, none⟩) Lp1_w1).trans ep1_0_w1
    have ep1_1_w2 := (hb.cell (p := ⟨w.heap.size + 1, 1, none⟩) Lp1_w1).trans ep1_1_w1
    have Lp1_w2 : w.heap.size + 1 < w2.heap.size := by have h := hb.size; omega
    clear ep1_0_w1 ep1_1_w1 Lp1_w1
    clear hb hb0
    by_cases hr1 : r1 < 0
    · clear hr1b
      go_wp2_with fail
      go_ret
      exact ⟨rfl, below_to Cw_w2.out (by repeat (first | exact Below.refl _ _ | refine Below.alloc ?_ (by simp; try omega) _ | refine Below.setCell ?_ (by simp; try omega) _ | refine belN ?_ _ | refine belD ?_))⟩
    · have hs1 := hr1b (by omega)
      clear hr1b
      have HSZ := Lib.hid (show (zOffer (⟨n0_0, n0_1⟩ : OfferD)) + (zOffer (⟨n1_0, n1_1⟩ : OfferD)) ≤ 1048576 by push_cast; omega)
      clear hs0 hs1
      have HSM0 := Lib.hid (show n0_0.length ≤ 1048576 by have h := HSZ.out; simp only [zOffer] at h; omega)
      have HSM1 := Lib.hid (show n1_0.length ≤ 1048576 by have h := HSZ.out; simp only [zOffer] at h; omega)
      have HSP := Lib.hid (fun v u w1 (h : ValAt rOffer 0 w1 v (⟨n0_0, n0_1⟩ : OfferD)) (h2 : ValAt rOffer 0 w1 u (⟨n1_0, n1_1⟩ : OfferD)) => specNeg_any v u _ _ w1 h h2)
      have HIM := Lib.hid (fun v u w1 (h : ValAt rOffer 0 w1 v (⟨n0_0, n0_1⟩ : OfferD)) (h2 : ValAt rOffer 0 w1 u (⟨n1_0, n1_1⟩ : OfferD)) => implNeg_any v u _ _ w1 h h2)
      generalize dealV [(⟨n0_0, n0_1⟩ : OfferD), (⟨n1_0, n1_1⟩ : OfferD)] = d at *
      generalize dealB [(⟨n0_0, n0_1⟩ : OfferD), (⟨n1_0, n1_1⟩ : OfferD)] = y at *
      obtain ⟨e0, e1, e2⟩ := d
      simp only [vDeal] at HSP HIM
      have T0 := Lib.hid (fun w0 (h : FlatAt cVersion 2 w0 (.slice ca0 n0_0.length cc0) n0_0) => toOffer_any (vOffer (⟨n0_0, n0_1⟩ : OfferD) (.slice ca0 n0_0.length cc0)) (⟨n0_0, n0_1⟩ : OfferD) w0 ⟨(.slice ca0 n0_0.length cc0), rfl, h⟩ (by show n0_0.length ≤ _; have := HSM0.out; omega))
      unfold GivesOffer at T0
      simp only [vOffer] at T0
      have T1 := Lib.hid (fun w0 (h : FlatAt cVersion 2 w0 (.slice ca1 n1_0.length cc1) n1_0) => toOffer_any (vOffer (⟨n1_0, n1_1⟩ : OfferD) (.slice ca1 n1_0.length cc1)) (⟨n1_0, n1_1⟩ : OfferD) w0 ⟨(.slice ca1 n1_0.length cc1), rfl, h⟩ (by show n1_0.length ≤ _; have := HSM1.out; omega))
      unfold GivesOffer at T1
      simp only [vOffer] at T1
      have HSof := Lib.hid (fun W (h : Below w2.heap.size w2 W) => (show W.cell? ⟨w.heap.size, 0, none⟩ = some ((.slice ca0 n0_0.length cc0)) ∧ W.cell? ⟨w.heap.size, 1, none⟩ = some (.int .i64 n0_1) ∧ W.cell? ⟨w.heap.size + 1, 0, none⟩ = some ((.slice ca1 n1_0.length cc1)) ∧ W.cell? ⟨w.heap.size + 1, 1, none⟩ = some (.int .i64 n1_1) ∧ Below w2.heap.size w2 W from ⟨(h.cell (p := ⟨w.heap.size, 0, none⟩) Lp0_w2).trans ep0_0_w2, (h.cell (p := ⟨w.heap.size, 1, none⟩) Lp0_w2).trans ep0_1_w2, (h.cell (p := ⟨w.heap.size + 1, 0, none⟩) Lp1_w2).trans ep1_0_w2, (h.cell (p := ⟨w.heap.size + 1, 1, none⟩) Lp1_w2).trans ep1_1_w2, h⟩))
      go_upto_region 8 with fail
      go_cut [6, 7] from 22 to 29 (fun s6 s7 wx => ∃ (bs_6 : Nat), s6 = .pointer (some ⟨bs_6, 0, none⟩) ∧ s7 = .bool y ∧ wx.cell? ⟨bs_6, 0, none⟩ = some (.int .i64 e0) ∧ wx.cell? ⟨bs_6, 1, none⟩ = some (.int .i64 e1) ∧ wx.cell? ⟨bs_6, 2, none⟩ = some (.int .i64 e2) ∧ bs_6 < wx.heap.size ∧ Below w2.heap.size w2 wx)
      case first =>
        go_region_held3 (fun w' => w'.cell? ⟨w.heap.size, 0, none⟩ = some ((.slice ca0 n0_0.length cc0)) ∧ w'.cell? ⟨w.heap.size, 1, none⟩ = some (.int .i64 n0_1) ∧ w'.cell? ⟨w.heap.size + 1, 0, none⟩ = some ((.slice ca1 n1_0.length cc1)) ∧ w'.cell? ⟨w.heap.size + 1, 1, none⟩ = some (.int .i64 n1_1) ∧ Below w2.heap.size w2 w')
          (exact HSof.out _ (by repeat (first | exact Below.refl _ _ | exact ‹_ ∧ _ ∧ _ ∧ _ ∧ Below w2.heap.size w2 _›.2.2.2.2 | refine belA ?_ _ | refine Below.setCell ?_ (by simp; try omega) _ | refine belN ?_ _ | refine belD ?_ | refine below_step ?_ hbZ0 | refine below_step ?_ hbZ1 | refine below_step ?_ hbZ2)))
          (first
            | (go_at_call 11; (with_reducible refine (T0.out _ (FlatAt.below A0_w2.out (by repeat (first | exact Below.refl _ _ | exact ‹_ ∧ _ ∧ _ ∧ _ ∧ Below w2.heap.size w2 _›.2.2.2.2 | refine belA ?_ _ | refine Below.setCell ?_ (by simp; try omega) _ | refine belN ?_ _ | refine belD ?_ | refine below_step ?_ hbZ0 | refine below_step ?_ hbZ1 | refine below_step ?_ hbZ2)) (Nat.le_refl _))).mono ?_); rintro e w3 ⟨_, rfl, ⟨uZ0, rfl, houZ0⟩, hbZ0⟩; have hP0 : w2.heap.size ≤ w3.heap.size := (by have a := hbZ0.size; (try simp at a); omega))
            | (go_at_call 11; (with_reducible refine (T1.out _ (FlatAt.below A1_w2.out (by repeat (first | exact Below.refl _ _ | exact ‹_ ∧ _ ∧ _ ∧ _ ∧ Below w2.heap.size w2 _›.2.2.2.2 | refine belA ?_ _ | refine Below.setCell ?_ (by simp; try omega) _ | refine belN ?_ _ | refine belD ?_ | refine below_step ?_ hbZ0 | refine below_step ?_ hbZ1 | refine below_step ?_ hbZ2)) (Nat.le_refl _))).mono ?_); rintro e w4 ⟨_, rfl, ⟨uZ1, rfl, houZ1⟩, hbZ1⟩; have hP1 : w2.heap.size ≤ w4.heap.size := (by have a := hbZ1.size; (try simp at a); omega))
            | (go_at_call 10; refine (HSP.out _ _ _ (ofOfferAt ⟨_, rfl, (ownsF_at (ownsF_all houZ0 (by repeat (first | exact Below.refl _ _ | refine belA ?_ _ | refine Below.setCell ?_ (by simp; try omega) _ | refine belN ?_ _ | refine belD ?_ | refine below_step ?_ hbZ1 | refine below_step ?_ hbZ2))) (by show n0_0.length ≤ _; have := HSM0.out; omega))⟩) (ofOfferAt ⟨_, rfl, (ownsF_at (ownsF_all houZ1 (by repeat (first | exact Below.refl _ _ | refine belA ?_ _ | refine Below.setCell ?_ (by simp; try omega) _ | refine belN ?_ _ | refine belD ?_ | refine below_step ?_ hbZ2))) (by show n1_0.length ≤ _; have := HSM1.out; omega))⟩)).mono ?_; rintro e w5 ⟨rfl, hbZ2⟩; have hP2 : w2.heap.size ≤ w5.heap.size := (by have a := hbZ2.size; (try simp at a); omega); (first | (have cV0 : w5.cell? ⟨w2.heap.size, 0, none⟩ = some (.int .i64 0) := (hbZ2.cell (p := ⟨w2.heap.size, 0, none⟩) (by have z0 := hbZ0.size; (try simp at z0); have z1 := hbZ1.size; (try simp at z1); first | (simp; done) | (simp; omega) | omega)).trans ((hbZ1.cell (p := ⟨w2.heap.size, 0, none⟩) (by have z0 := hbZ0.size; (try simp at z0); first | (simp; done) | (simp; omega) | omega)).trans ((hbZ0.cell (p := ⟨w2.heap.size, 0, none⟩) (by first | (simp; done) | (simp; omega) | omega)).trans (by (simp; done)))); have fV0 : w5.frozen? ⟨w2.heap.size, 0, none⟩ = false := (hbZ2.frozen (p := ⟨w2.heap.size, 0, none⟩) (by have z0 := hbZ0.size; (try simp at z0); have z1 := hbZ1.size; (try simp at z1); first | (simp; done) | (simp; omega) | omega)).trans ((hbZ1.frozen (p := ⟨w2.heap.size, 0, none⟩) (by have z0 := hbZ0.size; (try simp at z0); first | (simp; done) | (simp; omega) | omega)).trans ((hbZ0.frozen (p := ⟨w2.heap.size, 0, none⟩) (by first | (simp; done) | (simp; omega) | omega)).trans (by (simp; done)))); have cV1 : w5.cell? ⟨w2.heap.size, 1, none⟩ = some (.int .i64 0) := (hbZ2.cell (p := ⟨w2.heap.size, 1, none⟩) (by have z0 := hbZ0.size; (try simp at z0); have z1 := hbZ1.size; (try simp at z1); first | (simp; done) | (simp; omega) | omega)).trans ((hbZ1.cell (p := ⟨w2.heap.size, 1, none⟩) (by have z0 := hbZ0.size; (try simp at z0); first | (simp; done) | (simp; omega) | omega)).trans ((hbZ0.cell (p := ⟨w2.heap.size, 1, none⟩) (by first | (simp; done) | (simp; omega) | omega)).trans (by (simp; done)))); have fV1 : w5.frozen? ⟨w2.heap.size, 1, none⟩ = false := (hbZ2.frozen (p := ⟨w2.heap.size, 1, none⟩) (by have z0 := hbZ0.size; (try simp at z0); have z1 := hbZ1.size; (try simp at z1); first | (simp; done) | (simp; omega) | omega)).trans ((hbZ1.frozen (p := ⟨w2.heap.size, 1, none⟩) (by have z0 := hbZ0.size; (try simp at z0); first | (simp; done) | (simp; omega) | omega)).trans ((hbZ0.frozen (p := ⟨w2.heap.size, 1, none⟩) (by first | (simp; done) | (simp; omega) | omega)).trans (by (simp; done)))); have cV2 : w5.cell? ⟨w2.heap.size, 2, none⟩ = some (.int .i64 0) := (hbZ2.cell (p := ⟨w2.heap.size, 2, none⟩) (by have z0 := hbZ0.size; (try simp at z0); have z1 := hbZ1.size; (try simp at z1); first | (simp; done) | (simp; omega) | omega)).trans ((hbZ1.cell (p := ⟨w2.heap.size, 2, none⟩) (by have z0 := hbZ0.size; (try simp at z0); first | (simp; done) | (simp; omega) | omega)).trans ((hbZ0.cell (p := ⟨w2.heap.size, 2, none⟩) (by first | (simp; done) | (simp; omega) | omega)).trans (by (simp; done)))); have fV2 : w5.frozen? ⟨w2.heap.size, 2, none⟩ = false := (hbZ2.frozen (p := ⟨w2.heap.size, 2, none⟩) (by have z0 := hbZ0.size; (try simp at z0); have z1 := hbZ1.size; (try simp at z1); first | (simp; done) | (simp; omega) | omega)).trans ((hbZ1.frozen (p := ⟨w2.heap.size, 2, none⟩) (by have z0 := hbZ0.size; (try simp at z0); first | (simp; done) | (simp; omega) | omega)).trans ((hbZ0.frozen (p := ⟨w2.heap.size, 2, none⟩) (by first | (simp; done) | (simp; omega) | omega)).trans (by (simp; done)))); have lV : w2.heap.size < w5.heap.size := (by have z0 := hbZ0.size; (try simp at z0); have z1 := hbZ1.size; (try simp at z1); have z2 := hbZ2.size; (try simp at z2); first | (simp; done) | (simp; omega) | omega)) | (have cV0 : w5.cell? ⟨w3.heap.size, 0, none⟩ = some (.int .i64 0) := (hbZ2.cell (p := ⟨w3.heap.size, 0, none⟩) (by have z1 := hbZ1.size; (try simp at z1); first | (simp; done) | (simp; omega) | omega)).trans ((hbZ1.cell (p := ⟨w3.heap.size, 0, none⟩) (by first | (simp; done) | (simp; omega) | omega)).trans (by (simp; done))); have fV0 : w5.frozen? ⟨w3.heap.size, 0, none⟩ = false := (hbZ2.frozen (p := ⟨w3.heap.size, 0, none⟩) (by have z1 := hbZ1.size; (try simp at z1); first | (simp; done) | (simp; omega) | omega)).trans ((hbZ1.frozen (p := ⟨w3.heap.size, 0, none⟩) (by first | (simp; done) | (simp; omega) | omega)).trans (by (simp; done))); have cV1 : w5.cell? ⟨w3.heap.size, 1, none⟩ = some (.int .i64 0) := (hbZ2.cell (p := ⟨w3.heap.size, 1, none⟩) (by have z1 := hbZ1.size; (try simp at z1); first | (simp; done) | (simp; omega) | omega)).trans ((hbZ1.cell (p := ⟨w3.heap.size, 1, none⟩) (by first | (simp; done) | (simp; omega) | omega)).trans (by (simp; done))); have fV1 : w5.frozen? ⟨w3.heap.size, 1, none⟩ = false := (hbZ2.frozen (p := ⟨w3.heap.size, 1, none⟩) (by have z1 := hbZ1.size; (try simp at z1); first | (simp; done) | (simp; omega) | omega)).trans ((hbZ1.frozen (p := ⟨w3.heap.size, 1, none⟩) (by first | (simp; done) | (simp; omega) | omega)).trans (by (simp; done))); have cV2 : w5.cell? ⟨w3.heap.size, 2, none⟩ = some (.int .i64 0) := (hbZ2.cell (p := ⟨w3.heap.size, 2, none⟩) (by have z1 := hbZ1.size; (try simp at z1); first | (simp; done) | (simp; omega) | omega)).trans ((hbZ1.cell (p := ⟨w3.heap.size, 2, none⟩) (by first | (simp; done) | (simp; omega) | omega)).trans (by (simp; done))); have fV2 : w5.frozen? ⟨w3.heap.size, 2, none⟩ = false := (hbZ2.frozen (p := ⟨w3.heap.size, 2, none⟩) (by have z1 := hbZ1.size; (try simp at z1); first | (simp; done) | (simp; omega) | omega)).trans ((hbZ1.frozen (p := ⟨w3.heap.size, 2, none⟩) (by first | (simp; done) | (simp; omega) | omega)).trans (by (simp; done))); have lV : w3.heap.size < w5.heap.size := (by have z1 := hbZ1.size; (try simp at z1); have z2 := hbZ2.size; (try simp at z2); first | (simp; done) | (simp; omega) | omega)) | (have cV0 : w5.cell? ⟨w4.heap.size, 0, none⟩ = some (.int .i64 0) := (hbZ2.cell (p := ⟨w4.heap.size, 0, none⟩) (by first | (simp; done) | (simp; omega) | omega)).trans (by (simp; done)); have fV0 : w5.frozen? ⟨w4.heap.size, 0, none⟩ = false := (hbZ2.frozen (p := ⟨w4.heap.size, 0, none⟩) (by first | (simp; done) | (simp; omega) | omega)).trans (by (simp; done)); have cV1 : w5.cell? ⟨w4.heap.size, 1, none⟩ = some (.int .i64 0) := (hbZ2.cell (p := ⟨w4.heap.size, 1, none⟩) (by first | (simp; done) | (simp; omega) | omega)).trans (by (simp; done)); have fV1 : w5.frozen? ⟨w4.heap.size, 1, none⟩ = false := (hbZ2.frozen (p := ⟨w4.heap.size, 1, none⟩) (by first | (simp; done) | (simp; omega) | omega)).trans (by (simp; done)); have cV2 : w5.cell? ⟨w4.heap.size, 2, none⟩ = some (.int .i64 0) := (hbZ2.cell (p := ⟨w4.heap.size, 2, none⟩) (by first | (simp; done) | (simp; omega) | omega)).trans (by (simp; done)); have fV2 : w5.frozen? ⟨w4.heap.size, 2, none⟩ = false := (hbZ2.frozen (p := ⟨w4.heap.size, 2, none⟩) (by first | (simp; done) | (simp; omega) | omega)).trans (by (simp; done)); have lV : w4.heap.size < w5.heap.size := (by have z2 := hbZ2.size; (try simp at z2); first | (simp; done) | (simp; omega) | omega)) | skip)))
        all_goals
          have HBE := Lib.hid (show Below w2.heap.size w2 _ from ‹_ ∧ _ ∧ _ ∧ _ ∧ Below w2.heap.size w2 _›.2.2.2.2)
          go_wp2_with fail
          go_meet
          refine ⟨_, rfl, rfl, ?_, ?_, ?_, ?_, HBE.out⟩
          all_goals first | (simp; done) | (simp; omega) | exact ((set_ne (Or.inr (by decide))).trans ((set_ne (Or.inr (by decide))).trans (set_at cV0))) | exact ((set_ne (Or.inr (by decide))).trans (set_at ((set_ne (Or.inr (by decide))).trans cV1))) | exact (set_at ((set_ne (Or.inr (by decide))).trans ((set_ne (Or.inr (by decide))).trans cV2)))
      case rest =>
        obtain ⟨bs_6, rfl, rfl, hcs_6_0, hcs_6_1, hcs_6_2, hls_6, hb⟩ := hcut
        obtain ⟨w6, rfl⟩ : ∃ u, u = wc := ⟨_, rfl⟩
        have Cw_w6 := Lib.hid (Cw_w2.out.trans (hb.mono Cw_w2.out.size))
        have A0_w6 := Lib.hid (FlatAt.below A0_w2.out hb (Nat.le_refl _))
        have A1_w6 := Lib.hid (FlatAt.below A1_w2.out hb (Nat.le_refl _))
        have ep0_0_w6 := (hb.cell (p := ⟨w.heap.size, 0, none⟩) Lp0_w2).trans ep0_0_w2
        have ep0_1_w6 := (hb.cell (p := ⟨w.heap.size, 1, none⟩) Lp0_w2).trans ep0_1_w2
        have Lp0_w6 : w.heap.size < w6.heap.size := by have h := hb.size; omega
        clear ep0_0_w2 ep0_1_w2 Lp0_w2
        have ep1_0_w6 := (hb.cell (p := ⟨w.heap.size + 1, 0, none⟩) Lp1_w2).trans ep1_0_w2
        have ep1_1_w6 := (hb.cell (p := ⟨w.heap.size + 1, 1, none⟩) Lp1_w2).trans ep1_1_w2
        have Lp1_w6 : w.heap.size + 1 < w6.heap.size := by have h := hb.size; omega
        clear ep1_0_w2 ep1_1_w2 Lp1_w2
        clear hb HSof
        have K_p0 := Lp0_w6
        have K_p1 := Lp1_w6
        have K_s0 := hls_6
        go_wp2_with fail
        refine (toOffer_any (vOffer (⟨n0_0, n0_1⟩ : OfferD) (.slice ca0 n0_0.length cc0)) (⟨n0_0, n0_1⟩ : OfferD) _ ⟨(.slice ca0 n0_0.length cc0), rfl, (FlatAt.below A0_w6.out (by repeat (first | exact Below.refl _ _ | refine Below.alloc ?_ (by simp; try omega) _ | refine Below.setCell ?_ (by simp; try omega) _ | refine belN ?_ _ | refine belD ?_)) (Nat.le_refl _))⟩ (by show n0_0.length ≤ _; have := HSM0.out; omega)).mono ?_
        rintro e w7 ⟨_, rfl, ⟨u1, rfl, ho⟩, hb0⟩
        have hb := below_step (w := w6) (by repeat (first | exact Below.refl _ _ | refine Below.alloc ?_ (by simp; try omega) _ | refine Below.setCell ?_ (by simp; try omega) _ | refine belN ?_ _ | refine belD ?_)) hb0
        have Cw_w7 := Lib.hid (Cw_w6.out.trans (hb.mono Cw_w6.out.size))
        have A0_w7 := Lib.hid (FlatAt.below A0_w6.out hb (Nat.le_refl _))
        have A1_w7 := Lib.hid (FlatAt.below A1_w6.out hb (Nat.le_refl _))
        have ep0_0_w7 := (hb.cell (p := ⟨w.heap.size, 0, none⟩) Lp0_w6).trans ep0_0_w6
        have ep0_1_w7 := (hb.cell (p := ⟨w.heap.size, 1, none⟩) Lp0_w6).trans ep0_1_w6
        have Lp0_w7 : w.heap.size < w7.heap.size := by have h := hb.size; omega
        clear ep0_0_w6 ep0_1_w6 Lp0_w6
        have ep1_0_w7 := (hb.cell (p := ⟨w.heap.size + 1, 0, none⟩) Lp1_w6).trans ep1_0_w6
        have ep1_1_w7 := (hb.cell (p := ⟨w.heap.size + 1, 1, none⟩) Lp1_w6).trans ep1_1_w6
        have Lp1_w7 : w.heap.size + 1 < w7.heap.size := by have h := hb.size; omega
        clear ep1_0_w6 ep1_1_w6 Lp1_w6
        have es0_0_w7 := (hb.cell (p := ⟨bs_6, 0, none⟩) hls_6).trans hcs_6_0
        have es0_1_w7 := (hb.cell (p := ⟨bs_6, 1, none⟩) hls_6).trans hcs_6_1
        have es0_2_w7 := (hb.cell (p := ⟨bs_6, 2, none⟩) hls_6).trans hcs_6_2
        have Ls0_w7 : bs_6 < w7.heap.size := by have h := hb.size; omega
        clear hcs_6_0 hcs_6_1 hcs_6_2 hls_6
        simp only [vOffer]
        have ho := (show OwnsF cVersion 27 2 _ _ _ n0_0 from ho)
        obtain ⟨p1, q1, rfl, _⟩ := flatAt_len (ownsF_at ho (by show n0_0.length ≤ _; have := HSM0.out; omega))
        obtain ⟨LX1, hLX1, ho⟩ := own_lo ho
        try simp at hLX1
        have HLX1 := Lib.hid hLX1
        clear hLX1
        have X1 := Lib.hid (ownR_of ho)
        have X1a := Lib.hid (ownsF_at ho (by show n0_0.length ≤ _; have := HSM0.out; omega))
        clear ho
        clear hb hb0
        have K_p0 := Lp0_w7
        have K_p1 := Lp1_w7
        have K_s0 := Ls0_w7
        go_wp2_with fail
        refine (toOffer_any (vOffer (⟨n1_0, n1_1⟩ : OfferD) (.slice ca1 n1_0.length cc1)) (⟨n1_0, n1_1⟩ : OfferD) _ ⟨(.slice ca1 n1_0.length cc1), rfl, (FlatAt.below A1_w7.out (by repeat (first | exact Below.refl _ _ | refine Below.alloc ?_ (by simp; try omega) _ | refine Below.setCell ?_ (by simp; try omega) _ | refine belN ?_ _ | refine belD ?_)) (Nat.le_refl _))⟩ (by show n1_0.length ≤ _; have := HSM1.out; omega)).mono ?_
        rintro e w8 ⟨_, rfl, ⟨u2, rfl, ho⟩, hb0⟩
        have hb := below_step (w := w7) (by repeat (first | exact Below.refl _ _ | refine Below.alloc ?_ (by simp; try omega) _ | refine Below.setCell ?_ (by simp; try omega) _ | refine belN ?_ _ | refine belD ?_)) hb0
        have Cw_w8 := Lib.hid (Cw_w7.out.trans (hb.mono Cw_w7.out.size))
        have A0_w8 := Lib.hid (FlatAt.below A0_w7.out hb (Nat.le_refl _))
        have A1_w8 := Lib.hid (FlatAt.below A1_w7.out hb (Nat.le_refl _))
        have X1a_w8 := Lib.hid (FlatAt.below X1a.out hb (Nat.le_refl _))
        have X1_w8 := Lib.hid (ownR_below X1.out hb (Nat.le_refl _))
        have ep0_0_w8 := (hb.cell (p := ⟨w.heap.size, 0, none⟩) Lp0_w7).trans ep0_0_w7
        have ep0_1_w8 := (hb.cell (p := ⟨w.heap.size, 1, none⟩) Lp0_w7).trans ep0_1_w7
        have Lp0_w8 : w.heap.size < w8.heap.size := by have h := hb.size; omega
        clear ep0_0_w7 ep0_1_w7 Lp0_w7
        have ep1_0_w8 := (hb.cell (p := ⟨w.heap.size + 1, 0, none⟩) Lp1_w7).trans ep1_0_w7
        have ep1_1_w8 := (hb.cell (p := ⟨w.heap.size + 1, 1, none⟩) Lp1_w7).trans ep1_1_w7
        have Lp1_w8 : w.heap.size + 1 < w8.heap.size := by have h := hb.size; omega
        clear ep1_0_w7 ep1_1_w7 Lp1_w7
        have es0_0_w8 := (hb.cell (p := ⟨bs_6, 0, none⟩) Ls0_w7).trans es0_0_w7
        have es0_1_w8 := (hb.cell (p := ⟨bs_6, 1, none⟩) Ls0_w7).trans es0_1_w7
        have es0_2_w8 := (hb.cell (p := ⟨bs_6, 2, none⟩) Ls0_w7).trans es0_2_w7
        have Ls0_w8 : bs_6 < w8.heap.size := by have h := hb.size; omega
        clear es0_0_w7 es0_1_w7 es0_2_w7 Ls0_w7
        have ex0_0_w8 : w8.cell? ⟨w7.heap.size, 0, none⟩ = some ((.slice p1 n0_0.length q1)) := by rw [hb0.cell (p := ⟨w7.heap.size, 0, none⟩) (by simp; try omega)]; simp
        have ex0_1_w8 : w8.cell? ⟨w7.heap.size, 1, none⟩ = some (.int .i64 n0_1) := by rw [hb0.cell (p := ⟨w7.heap.size, 1, none⟩) (by simp; try omega)]; simp
        have Lx0_w8 : w7.heap.size < w8.heap.size := by have h := hb0.size; simp at h; omega
        simp only [vOffer]
        have ho := (show OwnsF cVersion 27 2 _ _ _ n1_0 from ho)
        obtain ⟨p2, q2, rfl, _⟩ := flatAt_len (ownsF_at ho (by show n1_0.length ≤ _; have := HSM1.out; omega))
        obtain ⟨LX2, hLX2, ho⟩ := own_lo ho
        try simp at hLX2
        have HLX2 := Lib.hid hLX2
        clear hLX2
        have X2 := Lib.hid (ownR_of ho)
        have X2a := Lib.hid (ownsF_at ho (by show n1_0.length ≤ _; have := HSM1.out; omega))
        clear ho
        clear hb hb0
        have K_p0 := Lp0_w8
        have K_p1 := Lp1_w8
        have K_s0 := Ls0_w8
        have K_x0 := Lx0_w8
        go_wp2_with fail
        refine (HIM.out _ _ _ (ofOfferAt ⟨_, rfl, (FlatAt.below X1a_w8.out (by repeat (first | exact Below.refl _ _ | refine Below.alloc ?_ (by simp; try omega) _ | refine Below.setCell ?_ (by simp; try omega) _ | refine belN ?_ _ | refine belD ?_)) (Nat.le_refl _))⟩) (ofOfferAt ⟨_, rfl, (FlatAt.below X2a.out (by repeat (first | exact Below.refl _ _ | refine Below.alloc ?_ (by simp; try omega) _ | refine Below.setCell ?_ (by simp; try omega) _ | refine belN ?_ _ | refine belD ?_)) (Nat.le_refl _))⟩)).mono ?_
        rintro e w9 ⟨rfl, hb0⟩
        have hb := below_step (w := w8) (by repeat (first | exact Below.refl _ _ | refine Below.alloc ?_ (by simp; try omega) _ | refine Below.setCell ?_ (by simp; try omega) _ | refine belN ?_ _ | refine belD ?_)) hb0
        have Cw_w9 := Lib.hid (Cw_w8.out.trans (hb.mono Cw_w8.out.size))
        have A0_w9 := Lib.hid (FlatAt.below A0_w8.out hb (Nat.le_refl _))
        have A1_w9 := Lib.hid (FlatAt.below A1_w8.out hb (Nat.le_refl _))
        have X1a_w9 := Lib.hid (FlatAt.below X1a_w8.out hb (Nat.le_refl _))
        have X1_w9 := Lib.hid (ownR_below X1_w8.out hb (Nat.le_refl _))
        have X2a_w9 := Lib.hid (FlatAt.below X2a.out hb (Nat.le_refl _))
        have X2_w9 := Lib.hid (ownR_below X2.out hb (Nat.le_refl _))
        have ep0_0_w9 := (hb.cell (p := ⟨w.heap.size, 0, none⟩) Lp0_w8).trans ep0_0_w8
        have ep0_1_w9 := (hb.cell (p := ⟨w.heap.size, 1, none⟩) Lp0_w8).trans ep0_1_w8
        have Lp0_w9 : w.heap.size < w9.heap.size := by have h := hb.size; omega
        clear ep0_0_w8 ep0_1_w8 Lp0_w8
        have ep1_0_w9 := (hb.cell (p := ⟨w.heap.size + 1, 0, none⟩) Lp1_w8).trans ep1_0_w8
        have ep1_1_w9 := (hb.cell (p := ⟨w.heap.size + 1, 1, none⟩) Lp1_w8).trans ep1_1_w8
        have Lp1_w9 : w.heap.size + 1 < w9.heap.size := by have h := hb.size; omega
        clear ep1_0_w8 ep1_1_w8 Lp1_w8
        have es0_0_w9 := (hb.cell (p := ⟨bs_6, 0, none⟩) Ls0_w8).trans es0_0_w8
        have es0_1_w9 := (hb.cell (p := ⟨bs_6, 1, none⟩) Ls0_w8).trans es0_1_w8
        have es0_2_w9 := (hb.cell (p := ⟨bs_6, 2, none⟩) Ls0_w8).trans es0_2_w8
        have Ls0_w9 : bs_6 < w9.heap.size := by have h := hb.size; omega
        clear es0_0_w8 es0_1_w8 es0_2_w8 Ls0_w8
        have ex0_0_w9 := (hb.cell (p := ⟨w7.heap.size, 0, none⟩) Lx0_w8).trans ex0_0_w8
        have ex0_1_w9 := (hb.cell (p := ⟨w7.heap.size, 1, none⟩) Lx0_w8).trans ex0_1_w8
        have Lx0_w9 : w7.heap.size < w9.heap.size := by have h := hb.size; omega
        clear ex0_0_w8 ex0_1_w8 Lx0_w8
        have ex1_0_w9 : w9.cell? ⟨w8.heap.size, 0, none⟩ = some ((.slice p2 n1_0.length q2)) := by rw [hb0.cell (p := ⟨w8.heap.size, 0, none⟩) (by simp; try omega)]; simp
        have ex1_1_w9 : w9.cell? ⟨w8.heap.size, 1, none⟩ = some (.int .i64 n1_1) := by rw [hb0.cell (p := ⟨w8.heap.size, 1, none⟩) (by simp; try omega)]; simp
        have Lx1_w9 : w8.heap.size < w9.heap.size := by have h := hb0.size; simp at h; omega
        clear hb hb0
        cases y
        all_goals
          go_wp2_with fail
          refine (eqDeal_any (⟨e0, e1, e2⟩ : DealD) (⟨e0, e1, e2⟩ : DealD) _).mono ?_
          rintro e w10 ⟨rfl, hb0⟩
          have hb := below_step (w := w9) (by repeat (first | exact Below.refl _ _ | refine Below.alloc ?_ (by simp; try omega) _ | refine Below.setCell ?_ (by simp; try omega) _ | refine belN ?_ _ | refine belD ?_)) hb0
          have Cw_w10 := Lib.hid (Cw_w9.out.trans (hb.mono Cw_w9.out.size))
          have A0_w10 := Lib.hid (FlatAt.below A0_w9.out hb (Nat.le_refl _))
          have A1_w10 := Lib.hid (FlatAt.below A1_w9.out hb (Nat.le_refl _))
          have X1a_w10 := Lib.hid (FlatAt.below X1a_w9.out hb (Nat.le_refl _))
          have X1_w10 := Lib.hid (ownR_below X1_w9.out hb (Nat.le_refl _))
          have X2a_w10 := Lib.hid (FlatAt.below X2a_w9.out hb (Nat.le_refl _))
          have X2_w10 := Lib.hid (ownR_below X2_w9.out hb (Nat.le_refl _))
          have ep0_0_w10 := (hb.cell (p := ⟨w.heap.size, 0, none⟩) Lp0_w9).trans ep0_0_w9
          have ep0_1_w10 := (hb.cell (p := ⟨w.heap.size, 1, none⟩) Lp0_w9).trans ep0_1_w9
          have Lp0_w10 : w.heap.size < w10.heap.size := by have h := hb.size; omega
          clear ep0_0_w9 ep0_1_w9 Lp0_w9
          have ep1_0_w10 := (hb.cell (p := ⟨w.heap.size + 1, 0, none⟩) Lp1_w9).trans ep1_0_w9
          have ep1_1_w10 := (hb.cell (p := ⟨w.heap.size + 1, 1, none⟩) Lp1_w9).trans ep1_1_w9
          have Lp1_w10 : w.heap.size + 1 < w10.heap.size := by have h := hb.size; omega
          clear ep1_0_w9 ep1_1_w9 Lp1_w9
          have es0_0_w10 := (hb.cell (p := ⟨bs_6, 0, none⟩) Ls0_w9).trans es0_0_w9
          have es0_1_w10 := (hb.cell (p := ⟨bs_6, 1, none⟩) Ls0_w9).trans es0_1_w9
          have es0_2_w10 := (hb.cell (p := ⟨bs_6, 2, none⟩) Ls0_w9).trans es0_2_w9
          have Ls0_w10 : bs_6 < w10.heap.size := by have h := hb.size; omega
          clear es0_0_w9 es0_1_w9 es0_2_w9 Ls0_w9
          have ex0_0_w10 := (hb.cell (p := ⟨w7.heap.size, 0, none⟩) Lx0_w9).trans ex0_0_w9
          have ex0_1_w10 := (hb.cell (p := ⟨w7.heap.size, 1, none⟩) Lx0_w9).trans ex0_1_w9
          have Lx0_w10 : w7.heap.size < w10.heap.size := by have h := hb.size; omega
          clear ex0_0_w9 ex0_1_w9 Lx0_w9
          have ex1_0_w10 := (hb.cell (p := ⟨w8.heap.size, 0, none⟩) Lx1_w9).trans ex1_0_w9
          have ex1_1_w10 := (hb.cell (p := ⟨w8.heap.size, 1, none⟩) Lx1_w9).trans ex1_1_w9
          have Lx1_w10 : w8.heap.size < w10.heap.size := by have h := hb.size; omega
          clear ex1_0_w9 ex1_1_w9 Lx1_w9
          have eg0_0_w10 : w10.cell? ⟨w9.heap.size, 0, none⟩ = some (.int .i64 e0) := by rw [hb0.cell (p := ⟨w9.heap.size, 0, none⟩) (by simp; try omega)]; simp
          have eg0_1_w10 : w10.cell? ⟨w9.heap.size, 1, none⟩ = some (.int .i64 e1) := by rw [hb0.cell (p := ⟨w9.heap.size, 1, none⟩) (by simp; try omega)]; simp
          have eg0_2_w10 : w10.cell? ⟨w9.heap.size, 2, none⟩ = some (.int .i64 e2) := by rw [hb0.cell (p := ⟨w9.heap.size, 2, none⟩) (by simp; try omega)]; simp
          have Lg0_w10 : w9.heap.size < w10.heap.size := by have h := hb0.size; simp at h; omega
          rw [show decide ((⟨e0, e1, e2⟩ : DealD) = (⟨e0, e1, e2⟩ : DealD)) = true by simp]
          clear hb hb0
          go_wp2_with fail
          go_region_held3 (fun w' => w'.cell? ⟨w7.heap.size, 0, none⟩ = some ((.slice p1 n0_0.length q1)) ∧ w'.cell? ⟨w7.heap.size, 1, none⟩ = some (.int .i64 n0_1) ∧ w'.cell? ⟨w.heap.size, 0, none⟩ = some ((.slice ca0 n0_0.length cc0)) ∧ w'.cell? ⟨w.heap.size, 1, none⟩ = some (.int .i64 n0_1))
            (first
              | exact ⟨(hbA.cell (p := ⟨w7.heap.size, 0, none⟩) (by simp; omega)).trans ex0_0_w10, (hbA.cell (p := ⟨w7.heap.size, 1, none⟩) (by simp; omega)).trans ex0_1_w10, (hbA.cell (p := ⟨w.heap.size, 0, none⟩) (by simp; omega)).trans ep0_0_w10, (hbA.cell (p := ⟨w.heap.size, 1, none⟩) (by simp; omega)).trans ep0_1_w10⟩
              | exact ⟨(hbB.cell (p := ⟨w7.heap.size, 0, none⟩) (by have h := hbA.size; simp at h; simp; omega)).trans ((hbA.cell (p := ⟨w7.heap.size, 0, none⟩) (by simp; omega)).trans ex0_0_w10), (hbB.cell (p := ⟨w7.heap.size, 1, none⟩) (by have h := hbA.size; simp at h; simp; omega)).trans ((hbA.cell (p := ⟨w7.heap.size, 1, none⟩) (by simp; omega)).trans ex0_1_w10), (hbB.cell (p := ⟨w.heap.size, 0, none⟩) (by have h := hbA.size; simp at h; simp; omega)).trans ((hbA.cell (p := ⟨w.heap.size, 0, none⟩) (by simp; omega)).trans ep0_0_w10), (hbB.cell (p := ⟨w.heap.size, 1, none⟩) (by have h := hbA.size; simp at h; simp; omega)).trans ((hbA.cell (p := ⟨w.heap.size, 1, none⟩) (by simp; omega)).trans ep0_1_w10)⟩
              | go_keep)
            (first
              | (go_at_call 11; refine (toOffer_any (vOffer (⟨n0_0, n0_1⟩ : OfferD) (.slice ca0 n0_0.length cc0)) (⟨n0_0, n0_1⟩ : OfferD) _ ⟨(.slice ca0 n0_0.length cc0), rfl, (FlatAt.below A0_w10.out (by repeat (first | exact Below.refl _ _ | refine Below.alloc ?_ (by simp; try omega) _ | refine Below.setCell ?_ (by simp; try omega) _ | refine belN ?_ _ | refine belD ?_)) (Nat.le_refl _))⟩ (by show n0_0.length ≤ _; have := HSM0.out; omega)).mono ?_; rintro e w11 ⟨_, rfl, ⟨uZ, rfl, hoZ⟩, hbA⟩)
              | (go_at_call 14; refine (eqOffer_any (vOffer (⟨n0_0, n0_1⟩ : OfferD) (.slice p1 n0_0.length q1)) (vOffer (⟨n0_0, n0_1⟩ : OfferD) uZ) (⟨n0_0, n0_1⟩ : OfferD) (⟨n0_0, n0_1⟩ : OfferD) _ ⟨(.slice p1 n0_0.length q1), rfl, (FlatAt.below X1a_w10.out (below_step (w := w10) (by repeat (first | exact Below.refl _ _ | refine Below.alloc ?_ (by simp; try omega) _ | refine Below.setCell ?_ (by simp; try omega) _ | refine belN ?_ _ | refine belD ?_)) hbA) (Nat.le_refl _))⟩ ⟨uZ, rfl, (ownsF_at hoZ (by show n0_0.length ≤ _; have := HSM0.out; omega))⟩).mono ?_; rintro e w12 ⟨rfl, hbB⟩))
          have hb1 := below_step (w := w10) (by repeat (first | exact Below.refl _ _ | refine Below.alloc ?_ (by simp; try omega) _ | refine Below.setCell ?_ (by simp; try omega) _ | refine belN ?_ _ | refine belD ?_)) hbA
          have hb := hb1.trans (hbB.mono hb1.size)
          rename_i hheld
          clear hheld hoZ
          have Cw_w12 := Lib.hid (Cw_w10.out.trans (hb.mono Cw_w10.out.size))
          have A0_w12 := Lib.hid (FlatAt.below A0_w10.out hb (Nat.le_refl _))
          have A1_w12 := Lib.hid (FlatAt.below A1_w10.out hb (Nat.le_refl _))
          have X1a_w12 := Lib.hid (FlatAt.below X1a_w10.out hb (Nat.le_refl _))
          have X1_w12 := Lib.hid (ownR_below X1_w10.out hb (Nat.le_refl _))
          have X2a_w12 := Lib.hid (FlatAt.below X2a_w10.out hb (Nat.le_refl _))
          have X2_w12 := Lib.hid (ownR_below X2_w10.out hb (Nat.le_refl _))
          have ep0_0_w12 := (hb.cell (p := ⟨w.heap.size, 0, none⟩) Lp0_w10).trans ep0_0_w10
          have ep0_1_w12 := (hb.cell (p := ⟨w.heap.size, 1, none⟩) Lp0_w10).trans ep0_1_w10
          have Lp0_w12 : w.heap.size < w12.heap.size := by have h := hb.size; omega
          clear ep0_0_w10 ep0_1_w10 Lp0_w10
          have ep1_0_w12 := (hb.cell (p := ⟨w.heap.size + 1, 0, none⟩) Lp1_w10).trans ep1_0_w10
          have ep1_1_w12 := (hb.cell (p := ⟨w.heap.size + 1, 1, none⟩) Lp1_w10).trans ep1_1_w10
          have Lp1_w12 : w.heap.size + 1 < w12.heap.size := by have h := hb.size; omega
          clear ep1_0_w10 ep1_1_w10 Lp1_w10
          have es0_0_w12 := (hb.cell (p := ⟨bs_6, 0, none⟩) Ls0_w10).trans es0_0_w10
          have es0_1_w12 := (hb.cell (p := ⟨bs_6, 1, none⟩) Ls0_w10).trans es0_1_w10
          have es0_2_w12 := (hb.cell (p := ⟨bs_6, 2, none⟩) Ls0_w10).trans es0_2_w10
          have Ls0_w12 : bs_6 < w12.heap.size := by have h := hb.size; omega
          clear es0_0_w10 es0_1_w10 es0_2_w10 Ls0_w10
          have ex0_0_w12 := (hb.cell (p := ⟨w7.heap.size, 0, none⟩) Lx0_w10).trans ex0_0_w10
          have ex0_1_w12 := (hb.cell (p := ⟨w7.heap.size, 1, none⟩) Lx0_w10).trans ex0_1_w10
          have Lx0_w12 : w7.heap.size < w12.heap.size := by have h := hb.size; omega
          clear ex0_0_w10 ex0_1_w10 Lx0_w10
          have ex1_0_w12 := (hb.cell (p := ⟨w8.heap.size, 0, none⟩) Lx1_w10).trans ex1_0_w10
          have ex1_1_w12 := (hb.cell (p := ⟨w8.heap.size, 1, none⟩) Lx1_w10).trans ex1_1_w10
          have Lx1_w12 : w8.heap.size < w12.heap.size := by have h := hb.size; omega
          clear ex1_0_w10 ex1_1_w10 Lx1_w10
          have eg0_0_w12 := (hb.cell (p := ⟨w9.heap.size, 0, none⟩) Lg0_w10).trans eg0_0_w10
          have eg0_1_w12 := (hb.cell (p := ⟨w9.heap.size, 1, none⟩) Lg0_w10).trans eg0_1_w10
          have eg0_2_w12 := (hb.cell (p := ⟨w9.heap.size, 2, none⟩) Lg0_w10).trans eg0_2_w10
          have Lg0_w12 : w9.heap.size < w12.heap.size := by have h := hb.size; omega
          clear eg0_0_w10 eg0_1_w10 eg0_2_w10 Lg0_w10
          clear hb hb1 hbA hbB
          go_wp2_with fail
          go_region_held3 (fun w' => w'.cell? ⟨w8.heap.size, 0, none⟩ = some ((.slice p2 n1_0.length q2)) ∧ w'.cell? ⟨w8.heap.size, 1, none⟩ = some (.int .i64 n1_1) ∧ w'.cell? ⟨w.heap.size + 1, 0, none⟩ = some ((.slice ca1 n1_0.length cc1)) ∧ w'.cell? ⟨w.heap.size + 1, 1, none⟩ = some (.int .i64 n1_1))
            (first
              | exact ⟨(hbA.cell (p := ⟨w8.heap.size, 0, none⟩) (by simp; omega)).trans ex1_0_w12, (hbA.cell (p := ⟨w8.heap.size, 1, none⟩) (by simp; omega)).trans ex1_1_w12, (hbA.cell (p := ⟨w.heap.size + 1, 0, none⟩) (by simp; omega)).trans ep1_0_w12, (hbA.cell (p := ⟨w.heap.size + 1, 1, none⟩) (by simp; omega)).trans ep1_1_w12⟩
              | exact ⟨(hbB.cell (p := ⟨w8.heap.size, 0, none⟩) (by have h := hbA.size; simp at h; simp; omega)).trans ((hbA.cell (p := ⟨w8.heap.size, 0, none⟩) (by simp; omega)).trans ex1_0_w12), (hbB.cell (p := ⟨w8.heap.size, 1, none⟩) (by have h := hbA.size; simp at h; simp; omega)).trans ((hbA.cell (p := ⟨w8.heap.size, 1, none⟩) (by simp; omega)).trans ex1_1_w12), (hbB.cell (p := ⟨w.heap.size + 1, 0, none⟩) (by have h := hbA.size; simp at h; simp; omega)).trans ((hbA.cell (p := ⟨w.heap.size + 1, 0, none⟩) (by simp; omega)).trans ep1_0_w12), (hbB.cell (p := ⟨w.heap.size + 1, 1, none⟩) (by have h := hbA.size; simp at h; simp; omega)).trans ((hbA.cell (p := ⟨w.heap.size + 1, 1, none⟩) (by simp; omega)).trans ep1_1_w12)⟩
              | go_keep)
            (first
              | (go_at_call 11; refine (toOffer_any (vOffer (⟨n1_0, n1_1⟩ : OfferD) (.slice ca1 n1_0.length cc1)) (⟨n1_0, n1_1⟩ : OfferD) _ ⟨(.slice ca1 n1_0.length cc1), rfl, (FlatAt.below A1_w12.out (by repeat (first | exact Below.refl _ _ | refine Below.alloc ?_ (by simp; try omega) _ | refine Below.setCell ?_ (by simp; try omega) _ | refine belN ?_ _ | refine belD ?_)) (Nat.le_refl _))⟩ (by show n1_0.length ≤ _; have := HSM1.out; omega)).mono ?_; rintro e w13 ⟨_, rfl, ⟨uZ, rfl, hoZ⟩, hbA⟩)
              | (go_at_call 14; refine (eqOffer_any (vOffer (⟨n1_0, n1_1⟩ : OfferD) (.slice p2 n1_0.length q2)) (vOffer (⟨n1_0, n1_1⟩ : OfferD) uZ) (⟨n1_0, n1_1⟩ : OfferD) (⟨n1_0, n1_1⟩ : OfferD) _ ⟨(.slice p2 n1_0.length q2), rfl, (FlatAt.below X2a_w12.out (below_step (w := w12) (by repeat (first | exact Below.refl _ _ | refine Below.alloc ?_ (by simp; try omega) _ | refine Below.setCell ?_ (by simp; try omega) _ | refine belN ?_ _ | refine belD ?_)) hbA) (Nat.le_refl _))⟩ ⟨uZ, rfl, (ownsF_at hoZ (by show n1_0.length ≤ _; have := HSM1.out; omega))⟩).mono ?_; rintro e w14 ⟨rfl, hbB⟩))
          have hb1 := below_step (w := w12) (by repeat (first | exact Below.refl _ _ | refine Below.alloc ?_ (by simp; try omega) _ | refine Below.setCell ?_ (by simp; try omega) _ | refine belN ?_ _ | refine belD ?_)) hbA
          have hb := hb1.trans (hbB.mono hb1.size)
          rename_i hheld
          clear hheld hoZ
          have Cw_w14 := Lib.hid (Cw_w12.out.trans (hb.mono Cw_w12.out.size))
          have A0_w14 := Lib.hid (FlatAt.below A0_w12.out hb (Nat.le_refl _))
          have A1_w14 := Lib.hid (FlatAt.below A1_w12.out hb (Nat.le_refl _))
          have X1a_w14 := Lib.hid (FlatAt.below X1a_w12.out hb (Nat.le_refl _))
          have X1_w14 := Lib.hid (ownR_below X1_w12.out hb (Nat.le_refl _))
          have X2a_w14 := Lib.hid (FlatAt.below X2a_w12.out hb (Nat.le_refl _))
          have X2_w14 := Lib.hid (ownR_below X2_w12.out hb (Nat.le_refl _))
          have ep0_0_w14 := (hb.cell (p := ⟨w.heap.size, 0, none⟩) Lp0_w12).trans ep0_0_w12
          have ep0_1_w14 := (hb.cell (p := ⟨w.heap.size, 1, none⟩) Lp0_w12).trans ep0_1_w12
          have Lp0_w14 : w.heap.size < w14.heap.size := by have h := hb.size; omega
          clear ep0_0_w12 ep0_1_w12 Lp0_w12
          have ep1_0_w14 := (hb.cell (p := ⟨w.heap.size + 1, 0, none⟩) Lp1_w12).trans ep1_0_w12
          have ep1_1_w14 := (hb.cell (p := ⟨w.heap.size + 1, 1, none⟩) Lp1_w12).trans ep1_1_w12
          have Lp1_w14 : w.heap.size + 1 < w14.heap.size := by have h := hb.size; omega
          clear ep1_0_w12 ep1_1_w12 Lp1_w12
          have es0_0_w14 := (hb.cell (p := ⟨bs_6, 0, none⟩) Ls0_w12).trans es0_0_w12
          have es0_1_w14 := (hb.cell (p := ⟨bs_6, 1, none⟩) Ls0_w12).trans es0_1_w12
          have es0_2_w14 := (hb.cell (p := ⟨bs_6, 2, none⟩) Ls0_w12).trans es0_2_w12
          have Ls0_w14 : bs_6 < w14.heap.size := by have h := hb.size; omega
          clear es0_0_w12 es0_1_w12 es0_2_w12 Ls0_w12
          have ex0_0_w14 := (hb.cell (p := ⟨w7.heap.size, 0, none⟩) Lx0_w12).trans ex0_0_w12
          have ex0_1_w14 := (hb.cell (p := ⟨w7.heap.size, 1, none⟩) Lx0_w12).trans ex0_1_w12
          have Lx0_w14 : w7.heap.size < w14.heap.size := by have h := hb.size; omega
          clear ex0_0_w12 ex0_1_w12 Lx0_w12
          have ex1_0_w14 := (hb.cell (p := ⟨w8.heap.size, 0, none⟩) Lx1_w12).trans ex1_0_w12
          have ex1_1_w14 := (hb.cell (p := ⟨w8.heap.size, 1, none⟩) Lx1_w12).trans ex1_1_w12
          have Lx1_w14 : w8.heap.size < w14.heap.size := by have h := hb.size; omega
          clear ex1_0_w12 ex1_1_w12 Lx1_w12
          have eg0_0_w14 := (hb.cell (p := ⟨w9.heap.size, 0, none⟩) Lg0_w12).trans eg0_0_w12
          have eg0_1_w14 := (hb.cell (p := ⟨w9.heap.size, 1, none⟩) Lg0_w12).trans eg0_1_w12
          have eg0_2_w14 := (hb.cell (p := ⟨w9.heap.size, 2, none⟩) Lg0_w12).trans eg0_2_w12
          have Lg0_w14 : w9.heap.size < w14.heap.size := by have h := hb.size; omega
          clear eg0_0_w12 eg0_1_w12 eg0_2_w12 Lg0_w12
          clear hb hb1 hbA hbB
          go_wp2_with fail
          go_ret
          exact ⟨rfl, below_to Cw_w14.out (by repeat (first | exact Below.refl _ _ | refine Below.alloc ?_ (by simp; try omega) _ | refine Below.setCell ?_ (by simp; try omega) _ | refine belN ?_ _ | refine belD ?_))⟩
set_option maxRecDepth 100000 in
theorem fnExactNegotiate_lifted (os : Os) (started : os.Started) (H : Type) (enc : TypeId × Value → H) :
    ReturnsInHanded {} Try.checked os 3 .any (Rows.fnExactNegotiateSpec.pre6 enc Try.prog Try.f3 Rows.fnExactNegotiateRow.domain false) (Rows.fnExactNegotiateSpec.post enc Try.prog Try.f3 false true false false) := by
  refine returnsInHanded_of_change (C := Try.checked) ownK started (by kernel_rfl) Try.func3
    (ChangeSpec.witness6 (enc := enc) (C := Try.checked) false ⟨#[], #[.agg #[.slice none 0 0, .int .i64 0], .agg #[.slice none 0 0, .int .i64 0]], []⟩ 8 (by kernel_rfl) (by kernel_rfl) (by kernel_rfl) (by kernel_rfl)) ?_
  intro W base args ds gs before hval0 hW _ _
  have hval : ∀ (j : Nat) t v, Try.f3.params[j]? = some t → args[j]? = some v → Value.okWide Try.prog W .any base t v := hval0
  have hW' := hW
  obtain ⟨p, q, hA0, _, rfl, _, _⟩ := hW
  have hA : DataW.TrodAll enc Try.prog W 0 (fun _ => true) true Try.f3.params.toList args.toList ds p := hA0
  rw [Try.params3] at hA hval
  obtain ⟨v0, vs0, d0, ds0, p0, q0, hargs, rfl, rfl, h0, r0⟩ := trodAll_cons hA
  obtain ⟨v1, vs1, d1, ds1, p1, q1, rfl, rfl, rfl, h1, r1⟩ := trodAll_cons r0
  obtain ⟨rfl, rfl, rfl⟩ := trodAll_nil r1
  obtain rfl : args = #[v0, v1] := by cases args; simp_all
  obtain ⟨x0, w0, z0⟩ := arg_Offer (hval 0 24 v0 rfl rfl) h0
  obtain ⟨x1, w1, z1⟩ := arg_Offer (hval 1 24 v1 rfl rfl) h1
  clear hA0 hval0
  refine (exactNegotiate_any v0 x0 v1 x1 W w0 z0 w1 z1).mono fun e W1 ⟨he, hb⟩ => ?_
  subst he
  exact ⟨_, rfl, law_post laidK rfl (by kernel_rfl) Try.underlying4 (by kernel_rfl) (fun ds h => by match ds, h with | [_, _], _ => rfl) hW' hb⟩
theorem fnExactNegotiate_closed : joinedFacts Try.prog 3 Try.f3 Rows.fnExactNegotiateSpec Rows.fnExactNegotiateRow = true := by unfold joinedFacts; rw [mayEnter_k, liftsFinal_k, make_k]; kernel_rfl
theorem fnExactNegotiate_holds : Rows.FnExactNegotiateSaid :=
  OpenClaim.holds_of_wide 3 Try.f3 rfl rfl rfl rfl rfl rfl rfl ⟨rfl, rfl, rfl, rfl, rfl⟩ rfl rfl rfl rfl rfl (by kernel_rfl) Try.func3 fnExactNegotiate_closed
    (of_decide_eq_true (by kernel_rfl)) (by unfold Func.isWrapper; first | (rw [if_pos (by decide +kernel)]; kernel_rfl) | (rw [if_neg (by decide +kernel)]; exact ⟨rfl, rfl⟩))
    (fun os started H enc _ => fnExactNegotiate_lifted os started H enc)
end Go.Proofs.Ytbofplofpggdlaa
