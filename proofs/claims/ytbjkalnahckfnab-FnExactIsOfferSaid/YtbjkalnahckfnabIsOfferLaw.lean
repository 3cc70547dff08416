/- FnExactIsOffer: at every offer the program's IsOffer answers as the model's (offers of more than 2^20 versions are not asked). No condition. -/
import Derived.Test.YtbjkalnahckfnabLaw5
import Derived.Test.YtbjkalnahckfnabOffer1
import Derived.Test.YtbjkalnahckfnabOffer2
import Derived.Test.YtbjkalnahckfnabOpenOffer
namespace Go.Proofs.Ytbjkalnahckfnab
set_option linter.unusedVariables false
open Go.ChangeShapes Go.WideShapes Go.ChangeAt Go.RowKit Go.WideMaps Go.WideElems
open Go.ChangeMaps (open_string shut_string)
set_option maxRecDepth 100000 in
set_option maxHeartbeats 3200000 in
theorem exactIsOffer_any (v0 : Value) (x0 : OfferD) (w : World) (a0 : OfferAt w v0 x0) (g0 : okOffer x0) :
    Calls Try.prog 6 #[v0] w fun e w' => e = .returned (.bool true) ∧ Below w.heap.size w w' := by
  obtain ⟨c0, rfl, a0⟩ := a0
  obtain ⟨n0_0, n0_1⟩ := x0
  unfold vOffer
  unfold okOffer at g0
  simp only at *
  obtain ⟨ca0, cc0, rfl, _⟩ := flatAt_len a0
  have A0 := Lib.hid a0
  have G0 := Lib.hid g0
  clear a0 g0
  go_enter Try.func6, Try.ntmps6
  go_wp2_with fail
  refine (szOffer_any (vOffer (⟨n0_0, n0_1⟩ : OfferD) (.slice ca0 n0_0.length cc0)) (⟨n0_0, n0_1⟩ : OfferD) 1048576 _ ⟨(.slice ca0 n0_0.length cc0), rfl, (FlatAt.below A0.out (by repeat (first | exact Below.refl _ _ | refine Below.alloc ?_ (by simp; try omega) _ | refine Below.setCell ?_ (by simp; try omega) _ | refine belN ?_ _ | refine belD ?_)) (Nat.le_refl _))⟩ (by omega) (by omega)).mono ?_
  rintro e w1 ⟨r0, rfl, hr0a, hr0b, hb0⟩
  have hb := below_step (w := w) (by repeat (first | exact Below.refl _ _ | refine Below.alloc ?_ (by simp; try omega) _ | refine Below.setCell ?_ (by simp; try omega) _ | refine belN ?_ _ | refine belD ?_)) hb0
  have Cw_w1 := Lib.hid hb
  have A0_w1 := Lib.hid (FlatAt.below A0.out hb (Nat.le_refl _))
  have ep0_0_w1 : w1.cell? ⟨w.heap.size, 0, none⟩ = some ((.slice ca0 n0_0.length cc0)) := by rw [hb0.cell (p := ⟨w.heap.size, 0, none⟩) (by simp; try omega)]; simp
  have ep0_1_w1 : w1.cell? ⟨w.heap.size, 1, none⟩ = some (.int .i64 n0_1) := by rw [hb0.cell (p := ⟨w.heap.size, 1, none⟩) (by simp; try omega)]; simp
  have Lp0_w1 : w.heap.size < w1.heap.size := by have h := hb0.size; simp at h; omega
  clear hb hb0
  by_cases hr0 : r0 < 0
  · clear hr0b
    go_wp2_with fail
    go_ret
    exact ⟨rfl, below_to Cw_w1.out (by repeat (first | exact Below.refl _ _ | refine Below.alloc ?_ (by simp; try omega) _ | refine Below.setCell ?_ (by simp; try omega) _ | refine belN ?_ _ | refine belD ?_))⟩
  · have hs0 := hr0b (by omega)
    clear hr0b
    have HSZ := Lib.hid (show (zOffer (⟨n0_0, n0_1⟩ : OfferD)) ≤ 1048576 by push_cast; omega)
    clear hs0
    have HSM0 := Lib.hid (show n0_0.length ≤ 1048576 by have h := HSZ.out; simp only [zOffer] at h; omega)
    have K_p0 := Lp0_w1
    go_wp2_with fail
    refine (toOffer_any (vOffer (⟨n0_0, n0_1⟩ : OfferD) (.slice ca0 n0_0.length cc0)) (⟨n0_0, n0_1⟩ : OfferD) _ ⟨(.slice ca0 n0_0.length cc0), rfl, (FlatAt.below A0_w1.out (by repeat (first | exact Below.refl _ _ | refine Below.alloc ?_ (by simp; try omega) _ | refine Below.setCell ?_ (by simp; try omega) _ | refine belN ?_ _ | refine belD ?_)) (Nat.le_refl _))⟩ (by show n0_0.length ≤ _; have := HSM0.out; omega)).mono ?_
    rintro e w2 ⟨_, rfl, ⟨u1, rfl, ho⟩, hb0⟩
    have hb := below_step (w := w1) (by repeat (first | exact Below.refl _ _ | refine Below.alloc ?_ (by simp; try omega) _ | refine Below.setCell ?_ (by simp; try omega) _ | refine belN ?_ _ | refine belD ?_)) hb0
    have Cw_w2 := Lib.hid (Cw_w1.out.trans (hb.mono Cw_w1.out.size))
    have A0_w2 := Lib.hid (FlatAt.below A0_w1.out hb (Nat.le_refl _))
    have ep0_0_w2 := (hb.cell (p := ⟨w.heap.size, 0, none⟩) Lp0_w1).trans ep0_0_w1
    have ep0_1_w2 := (hb.cell (p := ⟨w.heap.size, 1, none⟩) Lp0_w1).trans ep0_1_w1
    have Lp0_w2 : w.heap.size < w2.heap.size := by have h := hb.size; omega
    clear ep0_0_w1 ep0_1_w1 Lp0_w1
    simp only [vOffer]
    have ho := (show OwnsF cVersion 25 2 _ _ _ n0_0 from ho)
    obtain ⟨p1, q1, rfl, _⟩ := flatAt_len (ownsF_at ho (by show n0_0.length ≤ _; have := HSM0.out; omega))
    obtain ⟨LS1, hLS1, ho⟩ := own_lo ho
    try simp at hLS1
    have HLS1 := Lib.hid hLS1
    clear hLS1
    have S1 := Lib.hid (ownR_of ho)
    have S1a := Lib.hid (ownsF_at ho (by show n0_0.length ≤ _; have := HSM0.out; omega))
    clear ho
    clear hb hb0
    have K_p0 := Lp0_w2
    go_wp2_with fail
    refine (specIsOffer_any _ (⟨n0_0, n0_1⟩ : OfferD) _ ⟨_, rfl, (FlatAt.below S1a.out (by repeat (first | exact Below.refl _ _ | refine Below.alloc ?_ (by simp; try omega) _ | refine Below.setCell ?_ (by simp; try omega) _ | refine belN ?_ _ | refine belD ?_)) (Nat.le_refl _))⟩).mono ?_
    rintro e w3 ⟨rfl, hb0⟩
    have hb := below_step (w := w2) (by repeat (first | exact Below.refl _ _ | refine Below.alloc ?_ (by simp; try omega) _ | refine Below.setCell ?_ (by simp; try omega) _ | refine belN ?_ _ | refine belD ?_)) hb0
    have Cw_w3 := Lib.hid (Cw_w2.out.trans (hb.mono Cw_w2.out.size))
    have A0_w3 := Lib.hid (FlatAt.below A0_w2.out hb (Nat.le_refl _))
    have S1a_w3 := Lib.hid (FlatAt.below S1a.out hb (Nat.le_refl _))
    have S1_w3 := Lib.hid (ownR_below S1.out hb (Nat.le_refl _))
    have ep0_0_w3 := (hb.cell (p := ⟨w.heap.size, 0, none⟩) Lp0_w2).trans ep0_0_w2
    have ep0_1_w3 := (hb.cell (p := ⟨w.heap.size, 1, none⟩) Lp0_w2).trans ep0_1_w2
    have Lp0_w3 : w.heap.size < w3.heap.size := by have h := hb.size; omega
    clear ep0_0_w2 ep0_1_w2 Lp0_w2
    clear hb hb0
    have K_p0 := Lp0_w3
    go_wp2_with fail
    refine (toOffer_any (vOffer (⟨n0_0, n0_1⟩ : OfferD) (.slice ca0 n0_0.length cc0)) (⟨n0_0, n0_1⟩ : OfferD) _ ⟨(.slice ca0 n0_0.length cc0), rfl, (FlatAt.below A0_w3.out (by repeat (first | exact Below.refl _ _ | refine Below.alloc ?_ (by simp; try omega) _ | refine Below.setCell ?_ (by simp; try omega) _ | refine belN ?_ _ | refine belD ?_)) (Nat.le_refl _))⟩ (by show n0_0.length ≤ _; have := HSM0.out; omega)).mono ?_
    rintro e w4 ⟨_, rfl, ⟨u2, rfl, ho⟩, hb0⟩
    have hb := below_step (w := w3) (by repeat (first | exact Below.refl _ _ | refine Below.alloc ?_ (by simp; try omega) _ | refine Below.setCell ?_ (by simp; try omega) _ | refine belN ?_ _ | refine belD ?_)) hb0
    have Cw_w4 := Lib.hid (Cw_w3.out.trans (hb.mono Cw_w3.out.size))
    have A0_w4 := Lib.hid (FlatAt.below A0_w3.out hb (Nat.le_refl _))
    have ep0_0_w4 := (hb.cell (p := ⟨w.heap.size, 0, none⟩) Lp0_w3).trans ep0_0_w3
    have ep0_1_w4 := (hb.cell (p := ⟨w.heap.size, 1, none⟩) Lp0_w3).trans ep0_1_w3
    have Lp0_w4 : w.heap.size < w4.heap.size := by have h := hb.size; omega
    clear ep0_0_w3 ep0_1_w3 Lp0_w3
    simp only [vOffer]
    have ho := (show OwnsF cVersion 25 2 _ _ _ n0_0 from ho)
    obtain ⟨p2, q2, rfl, _⟩ := flatAt_len (ownsF_at ho (by show n0_0.length ≤ _; have := HSM0.out; omega))
    obtain ⟨LX2, hLX2, ho⟩ := own_lo ho
    try simp at hLX2
    have HLX2 := Lib.hid hLX2
    clear hLX2
    have X2 := Lib.hid (ownR_of ho)
    have X2a := Lib.hid (ownsF_at ho (by show n0_0.length ≤ _; have := HSM0.out; omega))
    clear ho
    clear hb hb0
    have K_p0 := Lp0_w4
    go_wp2_with fail
    refine (implIsOffer_any _ (⟨n0_0, n0_1⟩ : OfferD) _ ⟨_, rfl, (FlatAt.below X2a.out (by repeat (first | exact Below.refl _ _ | refine Below.alloc ?_ (by simp; try omega) _ | refine Below.setCell ?_ (by simp; try omega) _ | refine belN ?_ _ | refine belD ?_)) (Nat.le_refl _))⟩).mono ?_
    rintro e w5 ⟨rfl, hb0⟩
    have hb := below_step (w := w4) (by repeat (first | exact Below.refl _ _ | refine Below.alloc ?_ (by simp; try omega) _ | refine Below.setCell ?_ (by simp; try omega) _ | refine belN ?_ _ | refine belD ?_)) hb0
    have Cw_w5 := Lib.hid (Cw_w4.out.trans (hb.mono Cw_w4.out.size))
    have A0_w5 := Lib.hid (FlatAt.below A0_w4.out hb (Nat.le_refl _))
    have X2a_w5 := Lib.hid (FlatAt.below X2a.out hb (Nat.le_refl _))
    have X2_w5 := Lib.hid (ownR_below X2.out hb (Nat.le_refl _))
    have ep0_0_w5 := (hb.cell (p := ⟨w.heap.size, 0, none⟩) Lp0_w4).trans ep0_0_w4
    have ep0_1_w5 := (hb.cell (p := ⟨w.heap.size, 1, none⟩) Lp0_w4).trans ep0_1_w4
    have Lp0_w5 : w.heap.size < w5.heap.size := by have h := hb.size; omega
    clear ep0_0_w4 ep0_1_w4 Lp0_w4
    have ex0_0_w5 : w5.cell? ⟨w4.heap.size, 0, none⟩ = some ((.slice p2 n0_0.length q2)) := by rw [hb0.cell (p := ⟨w4.heap.size, 0, none⟩) (by simp; try omega)]; simp
    have ex0_1_w5 : w5.cell? ⟨w4.heap.size, 1, none⟩ = some (.int .i64 n0_1) := by rw [hb0.cell (p := ⟨w4.heap.size, 1, none⟩) (by simp; try omega)]; simp
    have Lx0_w5 : w4.heap.size < w5.heap.size := by have h := hb0.size; simp at h; omega
    clear hb hb0
    go_wp2_with fail
    go_region_held3 (fun w' => w'.cell? ⟨w4.heap.size, 0, none⟩ = some ((.slice p2 n0_0.length q2)) ∧ w'.cell? ⟨w4.heap.size, 1, none⟩ = some (.int .i64 n0_1) ∧ w'.cell? ⟨w.heap.size, 0, none⟩ = some ((.slice ca0 n0_0.length cc0)) ∧ w'.cell? ⟨w.heap.size, 1, none⟩ = some (.int .i64 n0_1))
      (first
        | exact ⟨(hbA.cell (p := ⟨w4.heap.size, 0, none⟩) (by simp; omega)).trans ex0_0_w5, (hbA.cell (p := ⟨w4.heap.size, 1, none⟩) (by simp; omega)).trans ex0_1_w5, (hbA.cell (p := ⟨w.heap.size, 0, none⟩) (by simp; omega)).trans ep0_0_w5, (hbA.cell (p := ⟨w.heap.size, 1, none⟩) (by simp; omega)).trans ep0_1_w5⟩
        | exact ⟨(hbB.cell (p := ⟨w4.heap.size, 0, none⟩) (by have h := hbA.size; simp at h; simp; omega)).trans ((hbA.cell (p := ⟨w4.heap.size, 0, none⟩) (by simp; omega)).trans ex0_0_w5), (hbB.cell (p := ⟨w4.heap.size, 1, none⟩) (by have h := hbA.size; simp at h; simp; omega)).trans ((hbA.cell (p := ⟨w4.heap.size, 1, none⟩) (by simp; omega)).trans ex0_1_w5), (hbB.cell (p := ⟨w.heap.size, 0, none⟩) (by have h := hbA.size; simp at h; simp; omega)).trans ((hbA.cell (p := ⟨w.heap.size, 0, none⟩) (by simp; omega)).trans ep0_0_w5), (hbB.cell (p := ⟨w.heap.size, 1, none⟩) (by have h := hbA.size; simp at h; simp; omega)).trans ((hbA.cell (p := ⟨w.heap.size, 1, none⟩) (by simp; omega)).trans ep0_1_w5)⟩
        | go_keep)
      (first
        | (go_at_call 19; refine (toOffer_any (vOffer (⟨n0_0, n0_1⟩ : OfferD) (.slice ca0 n0_0.length cc0)) (⟨n0_0, n0_1⟩ : OfferD) _ ⟨(.slice ca0 n0_0.length cc0), rfl, (FlatAt.below A0_w5.out (by repeat (first | exact Below.refl _ _ | refine Below.alloc ?_ (by simp; try omega) _ | refine Below.setCell ?_ (by simp; try omega) _ | refine belN ?_ _ | refine belD ?_)) (Nat.le_refl _))⟩ (by show n0_0.length ≤ _; have := HSM0.out; omega)).mono ?_; rintro e w6 ⟨_, rfl, ⟨uZ, rfl, hoZ⟩, hbA⟩)
        | (go_at_call 21; refine (eqOffer_any (vOffer (⟨n0_0, n0_1⟩ : OfferD) (.slice p2 n0_0.length q2)) (vOffer (⟨n0_0, n0_1⟩ : OfferD) uZ) (⟨n0_0, n0_1⟩ : OfferD) (⟨n0_0, n0_1⟩ : OfferD) _ ⟨(.slice p2 n0_0.length q2), rfl, (FlatAt.below X2a_w5.out (below_step (w := w5) (by repeat (first | exact Below.refl _ _ | refine Below.alloc ?_ (by simp; try omega) _ | refine Below.setCell ?_ (by simp; try omega) _ | refine belN ?_ _ | refine belD ?_)) hbA) (Nat.le_refl _))⟩ ⟨uZ, rfl, (ownsF_at hoZ (by show n0_0.length ≤ _; have := HSM0.out; omega))⟩).mono ?_; rintro e w7 ⟨rfl, hbB⟩))
    have hb1 := below_step (w := w5) (by repeat (first | exact Below.refl _ _ | refine Below.alloc ?_ (by simp; try omega) _ | refine Below.setCell ?_ (by simp; try omega) _ | refine belN ?_ _ | refine belD ?_)) hbA
    have hb := hb1.trans (hbB.mono hb1.size)
    rename_i hheld
    clear hheld hoZ
    have Cw_w7 := Lib.hid (Cw_w5.out.trans (hb.mono Cw_w5.out.size))
    have A0_w7 := Lib.hid (FlatAt.below A0_w5.out hb (Nat.le_refl _))
    have X2a_w7 := Lib.hid (FlatAt.below X2a_w5.out hb (Nat.le_refl _))
    have X2_w7 := Lib.hid (ownR_below X2_w5.out hb (Nat.le_refl _))
    have ep0_0_w7 := (hb.cell (p := ⟨w.heap.size, 0, none⟩) Lp0_w5).trans ep0_0_w5
    have ep0_1_w7 := (hb.cell (p := ⟨w.heap.size, 1, none⟩) Lp0_w5).trans ep0_1_w5
    have Lp0_w7 : w.heap.size < w7.heap.size := by have h := hb.size; omega
    clear ep0_0_w5 ep0_1_w5 Lp0_w5
    have ex0_0_w7 := (hb.cell (p := ⟨w4.heap.size, 0, none⟩) Lx0_w5).trans ex0_0_w5
    have ex0_1_w7 := (hb.cell (p := ⟨w4.heap.size, 1, none⟩) Lx0_w5).trans ex0_1_w5
    have Lx0_w7 : w4.heap.size < w7.heap.size := by have h := hb.size; omega
    clear ex0_0_w5 ex0_1_w5 Lx0_w5
    clear hb hb1 hbA hbB
    go_wp2_with fail
    go_ret
    exact ⟨rfl, below_to Cw_w7.out (by repeat (first | exact Below.refl _ _ | refine Below.alloc ?_ (by simp; try omega) _ | refine Below.setCell ?_ (by simp; try omega) _ | refine belN ?_ _ | refine belD ?_))⟩
set_option maxRecDepth 100000 in
theorem fnExactIsOffer_lifted (os : Os) (started : os.Started) (H : Type) (enc : TypeId × Value → H) :
    ReturnsInHanded {} Try.checked os 6 .any (Rows.fnExactIsOfferSpec.pre6 enc Try.prog Try.f6 Rows.fnExactIsOfferRow.domain false) (Rows.fnExactIsOfferSpec.post enc Try.prog Try.f6 false true false false) := by
  refine returnsInHanded_of_change (C := Try.checked) ownK started (by kernel_rfl) Try.func6
    (ChangeSpec.witness6 (enc := enc) (C := Try.checked) false ⟨#[], #[.agg #[.slice none 0 0, .int .i64 0]], []⟩ 8 (by kernel_rfl) (by kernel_rfl) (by kernel_rfl) (by kernel_rfl)) ?_
  intro W base args ds gs before hval0 hW _ _
  have hval : ∀ (j : Nat) t v, Try.f6.params[j]? = some t → args[j]? = some v → Value.okWide Try.prog W .any base t v := hval0
  have hW' := hW
  obtain ⟨p, q, hA0, _, rfl, _, _⟩ := hW
  have hA : DataW.TrodAll enc Try.prog W 0 (fun _ => true) true Try.f6.params.toList args.toList ds p := hA0
  rw [Try.params6] at hA hval
  obtain ⟨v0, vs0, d0, ds0, p0, q0, hargs, rfl, rfl, h0, r0⟩ := trodAll_cons hA
  obtain ⟨rfl, rfl, rfl⟩ := trodAll_nil r0
  obtain rfl : args = #[v0] := by cases args; simp_all
  obtain ⟨x0, w0, z0⟩ := arg_Offer (hval 0 36 v0 rfl rfl) h0
  clear hA0 hval0
  refine (exactIsOffer_any v0 x0 W w0 z0).mono fun e W1 ⟨he, hb⟩ => ?_
  subst he
  exact ⟨_, rfl, law_post laidK rfl (by kernel_rfl) Try.underlying4 (by kernel_rfl) (fun ds h => by match ds, h with | [_], _ => rfl) hW' hb⟩
theorem fnExactIsOffer_closed : joinedFacts Try.prog 6 Try.f6 Rows.fnExactIsOfferSpec Rows.fnExactIsOfferRow = true := by unfold joinedFacts; rw [mayEnter_k, liftsFinal_k, make_k]; kernel_rfl
theorem fnExactIsOffer_holds : Rows.FnExactIsOfferSaid :=
  OpenClaim.holds_of_wide 6 Try.f6 rfl rfl rfl rfl rfl rfl rfl ⟨rfl, rfl, rfl, rfl, rfl⟩ rfl rfl rfl rfl rfl (by kernel_rfl) Try.func6 fnExactIsOffer_closed
    (of_decide_eq_true (by kernel_rfl)) (by unfold Func.isWrapper; first | (rw [if_pos (by decide +kernel)]; kernel_rfl) | (rw [if_neg (by decide +kernel)]; exact ⟨rfl, rfl⟩))
    (fun os started H enc _ => fnExactIsOffer_lifted os started H enc)
end Go.Proofs.Ytbjkalnahckfnab
