/- FnExactNegotiateAll: at every list of offers the program's NegotiateAll answers as the model's (lists of more than 2^20 offers and versions are not asked). No condition. -/
import Derived.Test.YtbofplofpggdlaaLaw5
import Derived.Test.YtbofplofpggdlaaNeg4
import Derived.Test.YtbofplofpggdlaaNeg7
import Derived.Test.YtbofplofpggdlaaTDeal
import Derived.Test.YtbofplofpggdlaaOpenOffers
namespace Go.Proofs.Ytbofplofpggdlaa
set_option linter.unusedVariables false
open Go.ChangeShapes Go.WideShapes Go.ChangeAt Go.RowKit Go.WideMaps Go.WideElems
open Go.ChangeMaps (open_string shut_string)
set_option maxRecDepth 100000 in
set_option maxHeartbeats 3200000 in
theorem exactNegotiateAll_any (v0 : Value) (x0 : List OfferD) (w : World) (a0 : SliceAt rOffer 2 0 w v0 x0) (g0 : ∀ d ∈ x0, okOffer d) :
    Calls Try.prog 4 #[v0] w fun e w' => e = .returned (.bool true) ∧ Below w.heap.size w w' := by
  have A0 := Lib.hid a0
  have G0 := Lib.hid g0
  clear a0 g0
  go_enter Try.func4, Try.ntmps4
  go_wp2_with fail
  refine (szOfferS_d v0 x0 1048576 _ (belOfferS A0.out (by repeat (first | exact Below.refl _ _ | refine Below.alloc ?_ (by simp; try omega) _ | refine Below.setCell ?_ (by simp; try omega) _ | refine belN ?_ _ | refine belD ?_)) (Nat.le_refl _)) G0.out (by omega) (by omega)).mono ?_
  rintro e w1 ⟨r0, rfl, hr0a, hr0b, hb0⟩
  have hb := below_step (w := w) (by repeat (first | exact Below.refl _ _ | refine Below.alloc ?_ (by simp; try omega) _ | refine Below.setCell ?_ (by simp; try omega) _ | refine belN ?_ _ | refine belD ?_)) hb0
  have Cw_w1 := Lib.hid hb
  have A0_w1 := Lib.hid (belOfferS A0.out hb (Nat.le_refl _))
  clear hb hb0
  by_cases hr0 : r0 < 0
  · clear hr0b
    go_wp2_with fail
    go_ret
    exact ⟨rfl, below_to Cw_w1.out (by repeat (first | exact Below.refl _ _ | refine Below.alloc ?_ (by simp; try omega) _ | refine Below.setCell ?_ (by simp; try omega) _ | refine belN ?_ _ | refine belD ?_))⟩
  · have hs0 := hr0b (by omega)
    clear hr0b
    have HSZ := Lib.hid (show (x0.length + sumF zOffer x0) ≤ 1048576 by push_cast; omega)
    clear hs0
    have HSM0 := Lib.hid (show x0.length ≤ 1048576 by have h := HSZ.out; omega)
    have HSP := Lib.hid (fun v w1 (h : SliceAt rOffer 2 0 w1 v x0) => specNegAll_any v x0 w1 h)
    have HIM := Lib.hid (fun v w1 (h : SliceAt rOffer 2 0 w1 v x0) => implNegAll_any v x0 w1 h)
    generalize dealV x0 = d at *
    generalize dealB x0 = y at *
    obtain ⟨e0, e1, e2⟩ := d
    simp only [vDeal] at HSP HIM
    go_wp2_with fail
    refine (toOfferS_d v0 x0 _ (belOfferS A0_w1.out (by repeat (first | exact Below.refl _ _ | refine Below.alloc ?_ (by simp; try omega) _ | refine Below.setCell ?_ (by simp; try omega) _ | refine belN ?_ _ | refine belD ?_)) (Nat.le_refl _)) (by have := HSZ.out; omega)).mono ?_
    rintro e w2 ⟨u1, rfl, ho, hb0⟩
    have hb := below_step (w := w1) (by repeat (first | exact Below.refl _ _ | refine Below.alloc ?_ (by simp; try omega) _ | refine Below.setCell ?_ (by simp; try omega) _ | refine belN ?_ _ | refine belD ?_)) hb0
    have Cw_w2 := Lib.hid (Cw_w1.out.trans (hb.mono Cw_w1.out.size))
    have A0_w2 := Lib.hid (belOfferS A0_w1.out hb (Nat.le_refl _))
    have S1 := Lib.hid (zeroOfferS ho)
    clear ho
    clear hb hb0
    go_wp2_with fail
    refine (HSP.out _ _ (belOfferS S1.out (by repeat (first | exact Below.refl _ _ | refine Below.alloc ?_ (by simp; try omega) _ | refine Below.setCell ?_ (by simp; try omega) _ | refine belN ?_ _ | refine belD ?_)) (Nat.le_refl _))).mono ?_
    rintro e w3 ⟨rfl, hb0⟩
    have hb := below_step (w := w2) (by repeat (first | exact Below.refl _ _ | refine Below.alloc ?_ (by simp; try omega) _ | refine Below.setCell ?_ (by simp; try omega) _ | refine belN ?_ _ | refine belD ?_)) hb0
    have Cw_w3 := Lib.hid (Cw_w2.out.trans (hb.mono Cw_w2.out.size))
    have A0_w3 := Lib.hid (belOfferS A0_w2.out hb (Nat.le_refl _))
    have S1_w3 := Lib.hid (belOfferS S1.out hb (Nat.le_refl _))
    clear hb hb0
    go_wp2_with fail
    refine (toOfferS_d v0 x0 _ (belOfferS A0_w3.out (by repeat (first | exact Below.refl _ _ | refine Below.alloc ?_ (by simp; try omega) _ | refine Below.setCell ?_ (by simp; try omega) _ | refine belN ?_ _ | refine belD ?_)) (Nat.le_refl _)) (by have := HSZ.out; omega)).mono ?_
    rintro e w4 ⟨u2, rfl, ho, hb0⟩
    have hb := below_step (w := w3) (by repeat (first | exact Below.refl _ _ | refine Below.alloc ?_ (by simp; try omega) _ | refine Below.setCell ?_ (by simp; try omega) _ | refine belN ?_ _ | refine belD ?_)) hb0
    have Cw_w4 := Lib.hid (Cw_w3.out.trans (hb.mono Cw_w3.out.size))
    have A0_w4 := Lib.hid (belOfferS A0_w3.out hb (Nat.le_refl _))
    have es0_0_w4 : w4.cell? ⟨w3.heap.size, 0, none⟩ = some (.int .i64 e0) := by rw [hb0.cell (p := ⟨w3.heap.size, 0, none⟩) (by simp; try omega)]; simp
    have es0_1_w4 : w4.cell? ⟨w3.heap.size, 1, none⟩ = some (.int .i64 e1) := by rw [hb0.cell (p := ⟨w3.heap.size, 1, none⟩) (by simp; try omega)]; simp
    have es0_2_w4 : w4.cell? ⟨w3.heap.size, 2, none⟩ = some (.int .i64 e2) := by rw [hb0.cell (p := ⟨w3.heap.size, 2, none⟩) (by simp; try omega)]; simp
    have Ls0_w4 : w3.heap.size < w4.heap.size := by have h := hb0.size; simp at h; omega
    have X2 := Lib.hid (zeroOfferS ho)
    clear ho
    clear hb hb0
    have K_s0 := Ls0_w4
    go_wp2_with fail
    refine (HIM.out _ _ (belOfferS X2.out (by repeat (first | exact Below.refl _ _ | refine Below.alloc ?_ (by simp; try omega) _ | refine Below.setCell ?_ (by simp; try omega) _ | refine belN ?_ _ | refine belD ?_)) (Nat.le_refl _))).mono ?_
    rintro e w5 ⟨rfl, hb0⟩
    have hb := below_step (w := w4) (by repeat (first | exact Below.refl _ _ | refine Below.alloc ?_ (by simp; try omega) _ | refine Below.setCell ?_ (by simp; try omega) _ | refine belN ?_ _ | refine belD ?_)) hb0
    have Cw_w5 := Lib.hid (Cw_w4.out.trans (hb.mono Cw_w4.out.size))
    have A0_w5 := Lib.hid (belOfferS A0_w4.out hb (Nat.le_refl _))
    have X2_w5 := Lib.hid (belOfferS X2.out hb (Nat.le_refl _))
    have es0_0_w5 := (hb.cell (p := ⟨w3.heap.size, 0, none⟩) Ls0_w4).trans es0_0_w4
    have es0_1_w5 := (hb.cell (p := ⟨w3.heap.size, 1, none⟩) Ls0_w4).trans es0_1_w4
    have es0_2_w5 := (hb.cell (p := ⟨w3.heap.size, 2, none⟩) Ls0_w4).trans es0_2_w4
    have Ls0_w5 : w3.heap.size < w5.heap.size := by have h := hb.size; omega
    clear es0_0_w4 es0_1_w4 es0_2_w4 Ls0_w4
    clear hb hb0
    cases y
    all_goals
      go_wp2_with fail
      refine (eqDeal_any (⟨e0, e1, e2⟩ : DealD) (⟨e0, e1, e2⟩ : DealD) _).mono ?_
      rintro e w6 ⟨rfl, hb0⟩
      have hb := below_step (w := w5) (by repeat (first | exact Below.refl _ _ | refine Below.alloc ?_ (by simp; try omega) _ | refine Below.setCell ?_ (by simp; try omega) _ | refine belN ?_ _ | refine belD ?_)) hb0
      have Cw_w6 := Lib.hid (Cw_w5.out.trans (hb.mono Cw_w5.out.size))
      have A0_w6 := Lib.hid (belOfferS A0_w5.out hb (Nat.le_refl _))
      have X2_w6 := Lib.hid (belOfferS X2_w5.out hb (Nat.le_refl _))
      have es0_0_w6 := (hb.cell (p := ⟨w3.heap.size, 0, none⟩) Ls0_w5).trans es0_0_w5
      have es0_1_w6 := (hb.cell (p := ⟨w3.heap.size, 1, none⟩) Ls0_w5).trans es0_1_w5
      have es0_2_w6 := (hb.cell (p := ⟨w3.heap.size, 2, none⟩) Ls0_w5).trans es0_2_w5
      have Ls0_w6 : w3.heap.size < w6.heap.size := by have h := hb.size; omega
      clear es0_0_w5 es0_1_w5 es0_2_w5 Ls0_w5
      have eg0_0_w6 : w6.cell? ⟨w5.heap.size, 0, none⟩ = some (.int .i64 e0) := by rw [hb0.cell (p := ⟨w5.heap.size, 0, none⟩) (by simp; try omega)]; simp
      have eg0_1_w6 : w6.cell? ⟨w5.heap.size, 1, none⟩ = some (.int .i64 e1) := by rw [hb0.cell (p := ⟨w5.heap.size, 1, none⟩) (by simp; try omega)]; simp
      have eg0_2_w6 : w6.cell? ⟨w5.heap.size, 2, none⟩ = some (.int .i64 e2) := by rw [hb0.cell (p := ⟨w5.heap.size, 2, none⟩) (by simp; try omega)]; simp
      have Lg0_w6 : w5.heap.size < w6.heap.size := by have h := hb0.size; simp at h; omega
      rw [show decide ((⟨e0, e1, e2⟩ : DealD) = (⟨e0, e1, e2⟩ : DealD)) = true by simp]
      clear hb hb0
      have K_s0 := Ls0_w6
      have K_g0 := Lg0_w6
      go_wp2_with fail
      refine (toOfferS_d v0 x0 _ (belOfferS A0_w6.out (by repeat (first | exact Below.refl _ _ | refine Below.alloc ?_ (by simp; try omega) _ | refine Below.setCell ?_ (by simp; try omega) _ | refine belN ?_ _ | refine belD ?_)) (Nat.le_refl _)) (by have := HSZ.out; omega)).mono ?_
      rintro e w7 ⟨u3, rfl, ho, hb0⟩
      have hb := below_step (w := w6) (by repeat (first | exact Below.refl _ _ | refine Below.alloc ?_ (by simp; try omega) _ | refine Below.setCell ?_ (by simp; try omega) _ | refine belN ?_ _ | refine belD ?_)) hb0
      have Cw_w7 := Lib.hid (Cw_w6.out.trans (hb.mono Cw_w6.out.size))
      have A0_w7 := Lib.hid (belOfferS A0_w6.out hb (Nat.le_refl _))
      have X2_w7 := Lib.hid (belOfferS X2_w6.out hb (Nat.le_refl _))
      have es0_0_w7 := (hb.cell (p := ⟨w3.heap.size, 0, none⟩) Ls0_w6).trans es0_0_w6
      have es0_1_w7 := (hb.cell (p := ⟨w3.heap.size, 1, none⟩) Ls0_w6).trans es0_1_w6
      have es0_2_w7 := (hb.cell (p := ⟨w3.heap.size, 2, none⟩) Ls0_w6).trans es0_2_w6
      have Ls0_w7 : w3.heap.size < w7.heap.size := by have h := hb.size; omega
      clear es0_0_w6 es0_1_w6 es0_2_w6 Ls0_w6
      have eg0_0_w7 := (hb.cell (p := ⟨w5.heap.size, 0, none⟩) Lg0_w6).trans eg0_0_w6
      have eg0_1_w7 := (hb.cell (p := ⟨w5.heap.size, 1, none⟩) Lg0_w6).trans eg0_1_w6
      have eg0_2_w7 := (hb.cell (p := ⟨w5.heap.size, 2, none⟩) Lg0_w6).trans eg0_2_w6
      have Lg0_w7 : w5.heap.size < w7.heap.size := by have h := hb.size; omega
      clear eg0_0_w6 eg0_1_w6 eg0_2_w6 Lg0_w6
      have Z3 := Lib.hid (zeroOfferS ho)
      clear ho
      clear hb hb0
      go_wp2_with fail
      refine (eqOfferS_d u2 u3 x0 x0 _ (belOfferS X2_w7.out (by repeat (first | exact Below.refl _ _ | refine Below.alloc ?_ (by simp; try omega) _ | refine Below.setCell ?_ (by simp; try omega) _ | refine belN ?_ _ | refine belD ?_)) (Nat.le_refl _)) (belOfferS Z3.out (by repeat (first | exact Below.refl _ _ | refine Below.alloc ?_ (by simp; try omega) _ | refine Below.setCell ?_ (by simp; try omega) _ | refine belN ?_ _ | refine belD ?_)) (Nat.le_refl _))).mono ?_
      rintro e w8 ⟨rfl, hb0⟩
      have hb := below_step (w := w7) (by repeat (first | exact Below.refl _ _ | refine Below.alloc ?_ (by simp; try omega) _ | refine Below.setCell ?_ (by simp; try omega) _ | refine belN ?_ _ | refine belD ?_)) hb0
      have Cw_w8 := Lib.hid (Cw_w7.out.trans (hb.mono Cw_w7.out.size))
      have A0_w8 := Lib.hid (belOfferS A0_w7.out hb (Nat.le_refl _))
      have X2_w8 := Lib.hid (belOfferS X2_w7.out hb (Nat.le_refl _))
      have Z3_w8 := Lib.hid (belOfferS Z3.out hb (Nat.le_refl _))
      have es0_0_w8 := (hb.cell (p := ⟨w3.heap.size, 0, none⟩) Ls0_w7).trans es0_0_w7
      have es0_1_w8 := (hb.cell (p := ⟨w3.heap.size, 1, none⟩) Ls0_w7).trans es0_1_w7
      have es0_2_w8 := (hb.cell (p := ⟨w3.heap.size, 2, none⟩) Ls0_w7).trans es0_2_w7
      have Ls0_w8 : w3.heap.size < w8.heap.size := by have h := hb.size; omega
      clear es0_0_w7 es0_1_w7 es0_2_w7 Ls0_w7
      have eg0_0_w8 := (hb.cell (p := ⟨w5.heap.size, 0, none⟩) Lg0_w7).trans eg0_0_w7
      have eg0_1_w8 := (hb.cell (p := ⟨w5.heap.size, 1, none⟩) Lg0_w7).trans eg0_1_w7
      have eg0_2_w8 := (hb.cell (p := ⟨w5.heap.size, 2, none⟩) Lg0_w7).trans eg0_2_w7
      have Lg0_w8 : w5.heap.size < w8.heap.size := by have h := hb.size; omega
      clear eg0_0_w7 eg0_1_w7 eg0_2_w7 Lg0_w7
      rw [show decide (x0 = x0) = true by simp]
      clear hb hb0
      go_wp2_with fail
      go_ret
      exact ⟨rfl, below_to Cw_w8.out (by repeat (first | exact Below.refl _ _ | refine Below.alloc ?_ (by simp; try omega) _ | refine Below.setCell ?_ (by simp; try omega) _ | refine belN ?_ _ | refine belD ?_))⟩
set_option maxRecDepth 100000 in
theorem fnExactNegotiateAll_lifted (os : Os) (started : os.Started) (H : Type) (enc : TypeId × Value → H) :
    ReturnsInHanded {} Try.checked os 4 .any (Rows.fnExactNegotiateAllSpec.pre6 enc Try.prog Try.f4 Rows.fnExactNegotiateAllRow.domain false) (Rows.fnExactNegotiateAllSpec.post enc Try.prog Try.f4 false true false false) := by
  refine returnsInHanded_of_change (C := Try.checked) ownK started (by kernel_rfl) Try.func4
    (ChangeSpec.witness6 (enc := enc) (C := Try.checked) false ⟨#[], #[.slice none 0 0], []⟩ 8 (by kernel_rfl) (by kernel_rfl) (by kernel_rfl) (by kernel_rfl)) ?_
  intro W base args ds gs before hval0 hW _ _
  have hval : ∀ (j : Nat) t v, Try.f4.params[j]? = some t → args[j]? = some v → Value.okWide Try.prog W .any base t v := hval0
  have hW' := hW
  obtain ⟨p, q, hA0, _, rfl, _, _⟩ := hW
  have hA : DataW.TrodAll enc Try.prog W 0 (fun _ => true) true Try.f4.params.toList args.toList ds p := hA0
  rw [Try.params4] at hA hval
  obtain ⟨v0, vs0, d0, ds0, p0, q0, hargs, rfl, rfl, h0, r0⟩ := trodAll_cons hA
  obtain ⟨rfl, rfl, rfl⟩ := trodAll_nil r0
  obtain rfl : args = #[v0] := by cases args; simp_all
  obtain ⟨l0, w0, z0⟩ := argS_Offer (hval 0 39 v0 rfl rfl) h0
  clear hA0 hval0
  refine (exactNegotiateAll_any v0 l0 W w0 z0).mono fun e W1 ⟨he, hb⟩ => ?_
  subst he
  exact ⟨_, rfl, law_post laidK rfl (by kernel_rfl) Try.underlying4 (by kernel_rfl) (fun ds h => by match ds, h with | [_], _ => rfl) hW' hb⟩
theorem fnExactNegotiateAll_closed : joinedFacts Try.prog 4 Try.f4 Rows.fnExactNegotiateAllSpec Rows.fnExactNegotiateAllRow = true := by unfold joinedFacts; rw [mayEnter_k, liftsFinal_k, make_k]; kernel_rfl
theorem fnExactNegotiateAll_holds : Rows.FnExactNegotiateAllSaid :=
  OpenClaim.holds_of_wide 4 Try.f4 rfl rfl rfl rfl rfl rfl rfl ⟨rfl, rfl, rfl, rfl, rfl⟩ rfl rfl rfl rfl rfl (by kernel_rfl) Try.func4 fnExactNegotiateAll_closed
    (of_decide_eq_true (by kernel_rfl)) (by unfold Func.isWrapper; first | (rw [if_pos (by decide +kernel)]; kernel_rfl) | (rw [if_neg (by decide +kernel)]; exact ⟨rfl, rfl⟩))
    (fun os started H enc _ => fnExactNegotiateAll_lifted os started H enc)
end Go.Proofs.Ytbofplofpggdlaa
