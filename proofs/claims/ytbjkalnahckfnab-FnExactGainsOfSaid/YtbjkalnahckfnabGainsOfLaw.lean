/- FnExactGainsOf: at every two versions the program's GainsOf answers as the model's. No condition. -/
import Derived.Test.YtbjkalnahckfnabLaw5
import Derived.Test.YtbjkalnahckfnabVer5
import Derived.Test.YtbjkalnahckfnabOpenFlat
namespace Go.Proofs.Ytbjkalnahckfnab
set_option linter.unusedVariables false
open Go.ChangeShapes Go.WideShapes Go.ChangeAt Go.RowKit Go.WideMaps Go.WideElems
open Go.ChangeMaps (open_string shut_string)
set_option maxRecDepth 100000 in
set_option maxHeartbeats 3200000 in
theorem exactGainsOf_any (x0 : VersionD) (x1 : VersionD) (w : World) (g0 : okVersion x0) (g1 : okVersion x1) :
    Calls Try.prog 5 #[(vVersion x0), (vVersion x1)] w fun e w' => e = .returned (.bool true) ∧ Below w.heap.size w w' := by
  obtain ⟨n0_0, n0_1⟩ := x0
  unfold vVersion
  obtain ⟨n1_0, n1_1⟩ := x1
  skip
  simp only at *
  have G0 := Lib.hid g0
  clear g0
  have G1 := Lib.hid g1
  clear g1
  go_enter Try.func5, Try.ntmps5
  have HSP := Lib.hid (fun w1 => specGains_any (⟨n0_0, n0_1⟩ : VersionD) (⟨n1_0, n1_1⟩ : VersionD) w1)
  have HIM := Lib.hid (fun w1 => implGains_any (⟨n0_0, n0_1⟩ : VersionD) (⟨n1_0, n1_1⟩ : VersionD) w1)
  simp only [vVersion] at HSP HIM
  generalize gainsF (⟨n0_0, n0_1⟩ : VersionD) (⟨n1_0, n1_1⟩ : VersionD) = b at *
  have T0 := Lib.hid (fun w0 => toVersion_any (⟨n0_0, n0_1⟩ : VersionD) w0)
  simp only [vVersion] at T0
  have T1 := Lib.hid (fun w0 => toVersion_any (⟨n1_0, n1_1⟩ : VersionD) w0)
  simp only [vVersion] at T1
  go_wp2_with fail
  go_region_held3 (fun w' => w'.cell? ⟨w.heap.size, 0, none⟩ = some (.int .i64 n0_0) ∧ w'.cell? ⟨w.heap.size, 1, none⟩ = some (.int .i64 n0_1) ∧ w'.cell? ⟨w.heap.size + 1, 0, none⟩ = some (.int .i64 n1_0) ∧ w'.cell? ⟨w.heap.size + 1, 1, none⟩ = some (.int .i64 n1_1))
    (first
      | exact ⟨(hbZ2.cell (p := ⟨w.heap.size, 0, none⟩) (by have h0 := hbZ0.size; (try simp at h0); have h1 := hbZ1.size; (try simp at h1); simp; try omega)).trans ((hbZ1.cell (p := ⟨w.heap.size, 0, none⟩) (by have h0 := hbZ0.size; (try simp at h0); simp; try omega)).trans ((hbZ0.cell (p := ⟨w.heap.size, 0, none⟩) (by simp; try omega)).trans (by simp))), (hbZ2.cell (p := ⟨w.heap.size, 1, none⟩) (by have h0 := hbZ0.size; (try simp at h0); have h1 := hbZ1.size; (try simp at h1); simp; try omega)).trans ((hbZ1.cell (p := ⟨w.heap.size, 1, none⟩) (by have h0 := hbZ0.size; (try simp at h0); simp; try omega)).trans ((hbZ0.cell (p := ⟨w.heap.size, 1, none⟩) (by simp; try omega)).trans (by simp))), (hbZ2.cell (p := ⟨w.heap.size + 1, 0, none⟩) (by have h0 := hbZ0.size; (try simp at h0); have h1 := hbZ1.size; (try simp at h1); simp; try omega)).trans ((hbZ1.cell (p := ⟨w.heap.size + 1, 0, none⟩) (by have h0 := hbZ0.size; (try simp at h0); simp; try omega)).trans ((hbZ0.cell (p := ⟨w.heap.size + 1, 0, none⟩) (by simp; try omega)).trans (by simp))), (hbZ2.cell (p := ⟨w.heap.size + 1, 1, none⟩) (by have h0 := hbZ0.size; (try simp at h0); have h1 := hbZ1.size; (try simp at h1); simp; try omega)).trans ((hbZ1.cell (p := ⟨w.heap.size + 1, 1, none⟩) (by have h0 := hbZ0.size; (try simp at h0); simp; try omega)).trans ((hbZ0.cell (p := ⟨w.heap.size + 1, 1, none⟩) (by simp; try omega)).trans (by simp)))⟩
      | exact ⟨(hbZ1.cell (p := ⟨w.heap.size, 0, none⟩) (by have h0 := hbZ0.size; (try simp at h0); simp; try omega)).trans ((hbZ0.cell (p := ⟨w.heap.size, 0, none⟩) (by simp; try omega)).trans (by simp)), (hbZ1.cell (p := ⟨w.heap.size, 1, none⟩) (by have h0 := hbZ0.size; (try simp at h0); simp; try omega)).trans ((hbZ0.cell (p := ⟨w.heap.size, 1, none⟩) (by simp; try omega)).trans (by simp)), (hbZ1.cell (p := ⟨w.heap.size + 1, 0, none⟩) (by have h0 := hbZ0.size; (try simp at h0); simp; try omega)).trans ((hbZ0.cell (p := ⟨w.heap.size + 1, 0, none⟩) (by simp; try omega)).trans (by simp)), (hbZ1.cell (p := ⟨w.heap.size + 1, 1, none⟩) (by have h0 := hbZ0.size; (try simp at h0); simp; try omega)).trans ((hbZ0.cell (p := ⟨w.heap.size + 1, 1, none⟩) (by simp; try omega)).trans (by simp))⟩
      | exact ⟨(hbZ0.cell (p := ⟨w.heap.size, 0, none⟩) (by simp; try omega)).trans (by simp), (hbZ0.cell (p := ⟨w.heap.size, 1, none⟩) (by simp; try omega)).trans (by simp), (hbZ0.cell (p := ⟨w.heap.size + 1, 0, none⟩) (by simp; try omega)).trans (by simp), (hbZ0.cell (p := ⟨w.heap.size + 1, 1, none⟩) (by simp; try omega)).trans (by simp)⟩
      | go_keep)
    (first
      | (go_at_call 10; (with_reducible refine (T0.out _).mono ?_); rintro e w1 ⟨rfl, hbZ0⟩)
      | (go_at_call 10; (with_reducible refine (T1.out _).mono ?_); rintro e w2 ⟨rfl, hbZ1⟩)
      | (go_at_call 15; refine (HSP.out _).mono ?_; rintro e w3 ⟨rfl, hbZ2⟩))
  have hb1 := below_step (w := w) (by repeat (first | exact Below.refl _ _ | refine Below.alloc ?_ (by simp; try omega) _ | refine Below.setCell ?_ (by simp; try omega) _ | refine belN ?_ _ | refine belD ?_)) hbZ0
  have hb2 := hb1.trans (hbZ1.mono hb1.size)
  have hb3 := hb2.trans (hbZ2.mono hb2.size)
  have hb := hb3
  have hszF := hb2.size
  have Cw_w3 := Lib.hid hb
  have ep0_0_w3 : w3.cell? ⟨w.heap.size, 0, none⟩ = some (.int .i64 n0_0) := (hbZ2.cell (p := ⟨w.heap.size, 0, none⟩) (by have h0 := hbZ0.size; (try simp at h0); have h1 := hbZ1.size; (try simp at h1); simp; try omega)).trans ((hbZ1.cell (p := ⟨w.heap.size, 0, none⟩) (by have h0 := hbZ0.size; (try simp at h0); simp; try omega)).trans ((hbZ0.cell (p := ⟨w.heap.size, 0, none⟩) (by simp; try omega)).trans (by simp)))
  have ep0_1_w3 : w3.cell? ⟨w.heap.size, 1, none⟩ = some (.int .i64 n0_1) := (hbZ2.cell (p := ⟨w.heap.size, 1, none⟩) (by have h0 := hbZ0.size; (try simp at h0); have h1 := hbZ1.size; (try simp at h1); simp; try omega)).trans ((hbZ1.cell (p := ⟨w.heap.size, 1, none⟩) (by have h0 := hbZ0.size; (try simp at h0); simp; try omega)).trans ((hbZ0.cell (p := ⟨w.heap.size, 1, none⟩) (by simp; try omega)).trans (by simp)))
  have Lp0_w3 : w.heap.size < w3.heap.size := by have h0 := hbZ0.size; (try simp at h0); have h1 := hbZ1.size; (try simp at h1); have h2 := hbZ2.size; (try simp at h2); omega
  have ep1_0_w3 : w3.cell? ⟨w.heap.size + 1, 0, none⟩ = some (.int .i64 n1_0) := (hbZ2.cell (p := ⟨w.heap.size + 1, 0, none⟩) (by have h0 := hbZ0.size; (try simp at h0); have h1 := hbZ1.size; (try simp at h1); simp; try omega)).trans ((hbZ1.cell (p := ⟨w.heap.size + 1, 0, none⟩) (by have h0 := hbZ0.size; (try simp at h0); simp; try omega)).trans ((hbZ0.cell (p := ⟨w.heap.size + 1, 0, none⟩) (by simp; try omega)).trans (by simp)))
  have ep1_1_w3 : w3.cell? ⟨w.heap.size + 1, 1, none⟩ = some (.int .i64 n1_1) := (hbZ2.cell (p := ⟨w.heap.size + 1, 1, none⟩) (by have h0 := hbZ0.size; (try simp at h0); have h1 := hbZ1.size; (try simp at h1); simp; try omega)).trans ((hbZ1.cell (p := ⟨w.heap.size + 1, 1, none⟩) (by have h0 := hbZ0.size; (try simp at h0); simp; try omega)).trans ((hbZ0.cell (p := ⟨w.heap.size + 1, 1, none⟩) (by simp; try omega)).trans (by simp)))
  have Lp1_w3 : w.heap.size + 1 < w3.heap.size := by have h0 := hbZ0.size; (try simp at h0); have h1 := hbZ1.size; (try simp at h1); have h2 := hbZ2.size; (try simp at h2); omega
  rename_i hheld
  clear hheld
  clear hb hb1 hb2 hb3 hbZ0 hbZ1 hbZ2  hszF
  have T0 := Lib.hid (fun w0 => toVersion_any (⟨n0_0, n0_1⟩ : VersionD) w0)
  simp only [vVersion] at T0
  have T1 := Lib.hid (fun w0 => toVersion_any (⟨n1_0, n1_1⟩ : VersionD) w0)
  simp only [vVersion] at T1
  go_wp2_with fail
  go_region_held3 (fun w' => w'.cell? ⟨w.heap.size, 0, none⟩ = some (.int .i64 n0_0) ∧ w'.cell? ⟨w.heap.size, 1, none⟩ = some (.int .i64 n0_1) ∧ w'.cell? ⟨w.heap.size + 1, 0, none⟩ = some (.int .i64 n1_0) ∧ w'.cell? ⟨w.heap.size + 1, 1, none⟩ = some (.int .i64 n1_1))
    (first
      | exact ⟨(hbZ2.cell (p := ⟨w.heap.size, 0, none⟩) (by have h0 := hbZ0.size; (try simp at h0); have h1 := hbZ1.size; (try simp at h1); simp; try omega)).trans ((hbZ1.cell (p := ⟨w.heap.size, 0, none⟩) (by have h0 := hbZ0.size; (try simp at h0); simp; try omega)).trans ((hbZ0.cell (p := ⟨w.heap.size, 0, none⟩) (by simp; try omega)).trans ep0_0_w3)), (hbZ2.cell (p := ⟨w.heap.size, 1, none⟩) (by have h0 := hbZ0.size; (try simp at h0); have h1 := hbZ1.size; (try simp at h1); simp; try omega)).trans ((hbZ1.cell (p := ⟨w.heap.size, 1, none⟩) (by have h0 := hbZ0.size; (try simp at h0); simp; try omega)).trans ((hbZ0.cell (p := ⟨w.heap.size, 1, none⟩) (by simp; try omega)).trans ep0_1_w3)), (hbZ2.cell (p := ⟨w.heap.size + 1, 0, none⟩) (by have h0 := hbZ0.size; (try simp at h0); have h1 := hbZ1.size; (try simp at h1); simp; try omega)).trans ((hbZ1.cell (p := ⟨w.heap.size + 1, 0, none⟩) (by have h0 := hbZ0.size; (try simp at h0); simp; try omega)).trans ((hbZ0.cell (p := ⟨w.heap.size + 1, 0, none⟩) (by simp; try omega)).trans ep1_0_w3)), (hbZ2.cell (p := ⟨w.heap.size + 1, 1, none⟩) (by have h0 := hbZ0.size; (try simp at h0); have h1 := hbZ1.size; (try simp at h1); simp; try omega)).trans ((hbZ1.cell (p := ⟨w.heap.size + 1, 1, none⟩) (by have h0 := hbZ0.size; (try simp at h0); simp; try omega)).trans ((hbZ0.cell (p := ⟨w.heap.size + 1, 1, none⟩) (by simp; try omega)).trans ep1_1_w3))⟩
      | exact ⟨(hbZ1.cell (p := ⟨w.heap.size, 0, none⟩) (by have h0 := hbZ0.size; (try simp at h0); simp; try omega)).trans ((hbZ0.cell (p := ⟨w.heap.size, 0, none⟩) (by simp; try omega)).trans ep0_0_w3), (hbZ1.cell (p := ⟨w.heap.size, 1, none⟩) (by have h0 := hbZ0.size; (try simp at h0); simp; try omega)).trans ((hbZ0.cell (p := ⟨w.heap.size, 1, none⟩) (by simp; try omega)).trans ep0_1_w3), (hbZ1.cell (p := ⟨w.heap.size + 1, 0, none⟩) (by have h0 := hbZ0.size; (try simp at h0); simp; try omega)).trans ((hbZ0.cell (p := ⟨w.heap.size + 1, 0, none⟩) (by simp; try omega)).trans ep1_0_w3), (hbZ1.cell (p := ⟨w.heap.size + 1, 1, none⟩) (by have h0 := hbZ0.size; (try simp at h0); simp; try omega)).trans ((hbZ0.cell (p := ⟨w.heap.size + 1, 1, none⟩) (by simp; try omega)).trans ep1_1_w3)⟩
      | exact ⟨(hbZ0.cell (p := ⟨w.heap.size, 0, none⟩) (by simp; try omega)).trans ep0_0_w3, (hbZ0.cell (p := ⟨w.heap.size, 1, none⟩) (by simp; try omega)).trans ep0_1_w3, (hbZ0.cell (p := ⟨w.heap.size + 1, 0, none⟩) (by simp; try omega)).trans ep1_0_w3, (hbZ0.cell (p := ⟨w.heap.size + 1, 1, none⟩) (by simp; try omega)).trans ep1_1_w3⟩
      | go_keep)
    (first
      | (go_at_call 10; (with_reducible refine (T0.out _).mono ?_); rintro e w4 ⟨rfl, hbZ0⟩)
      | (go_at_call 10; (with_reducible refine (T1.out _).mono ?_); rintro e w5 ⟨rfl, hbZ1⟩)
      | (go_at_call 16; refine (HIM.out _).mono ?_; rintro e w6 ⟨rfl, hbZ2⟩))
  have hb1 := below_step (w := w3) (by repeat (first | exact Below.refl _ _ | refine Below.alloc ?_ (by simp; try omega) _ | refine Below.setCell ?_ (by simp; try omega) _ | refine belN ?_ _ | refine belD ?_)) hbZ0
  have hb2 := hb1.trans (hbZ1.mono hb1.size)
  have hb3 := hb2.trans (hbZ2.mono hb2.size)
  have hb := hb3
  have hszF := hb2.size
  have Cw_w6 := Lib.hid (Cw_w3.out.trans (hb.mono Cw_w3.out.size))
  have ep0_0_w6 := (hb.cell (p := ⟨w.heap.size, 0, none⟩) Lp0_w3).trans ep0_0_w3
  have ep0_1_w6 := (hb.cell (p := ⟨w.heap.size, 1, none⟩) Lp0_w3).trans ep0_1_w3
  have Lp0_w6 : w.heap.size < w6.heap.size := by have h := hb.size; omega
  clear ep0_0_w3 ep0_1_w3 Lp0_w3
  have ep1_0_w6 := (hb.cell (p := ⟨w.heap.size + 1, 0, none⟩) Lp1_w3).trans ep1_0_w3
  have ep1_1_w6 := (hb.cell (p := ⟨w.heap.size + 1, 1, none⟩) Lp1_w3).trans ep1_1_w3
  have Lp1_w6 : w.heap.size + 1 < w6.heap.size := by have h := hb.size; omega
  clear ep1_0_w3 ep1_1_w3 Lp1_w3
  rename_i hheld
  clear hheld
  clear hb hb1 hb2 hb3 hbZ0 hbZ1 hbZ2  hszF
  go_wp2_with fail
  go_ret
  exact ⟨rfl, below_to Cw_w6.out (by repeat (first | exact Below.refl _ _ | refine Below.alloc ?_ (by simp; try omega) _ | refine Below.setCell ?_ (by simp; try omega) _ | refine belN ?_ _ | refine belD ?_))⟩
set_option maxRecDepth 100000 in
theorem fnExactGainsOf_lifted (os : Os) (started : os.Started) (H : Type) (enc : TypeId × Value → H) :
    ReturnsInHanded {} Try.checked os 5 .any (Rows.fnExactGainsOfSpec.pre6 enc Try.prog Try.f5 Rows.fnExactGainsOfRow.domain false) (Rows.fnExactGainsOfSpec.post enc Try.prog Try.f5 false true false false) := by
  refine returnsInHanded_of_change (C := Try.checked) ownK started (by kernel_rfl) Try.func5
    (ChangeSpec.witness6 (enc := enc) (C := Try.checked) false ⟨#[], #[.agg #[.int .i64 0, .int .i64 0], .agg #[.int .i64 0, .int .i64 0]], []⟩ 8 (by kernel_rfl) (by kernel_rfl) (by kernel_rfl) (by kernel_rfl)) ?_
  intro W base args ds gs before hval0 hW _ _
  have hval : ∀ (j : Nat) t v, Try.f5.params[j]? = some t → args[j]? = some v → Value.okWide Try.prog W .any base t v := hval0
  have hW' := hW
  obtain ⟨p, q, hA0, _, rfl, _, _⟩ := hW
  have hA : DataW.TrodAll enc Try.prog W 0 (fun _ => true) true Try.f5.params.toList args.toList ds p := hA0
  rw [Try.params5] at hA hval
  obtain ⟨v0, vs0, d0, ds0, p0, q0, hargs, rfl, rfl, h0, r0⟩ := trodAll_cons hA
  obtain ⟨v1, vs1, d1, ds1, p1, q1, rfl, rfl, rfl, h1, r1⟩ := trodAll_cons r0
  obtain ⟨rfl, rfl, rfl⟩ := trodAll_nil r1
  obtain rfl : args = #[v0, v1] := by cases args; simp_all
  obtain ⟨x0, rfl, w0⟩ := arg_Version (hval 0 23 v0 rfl rfl) h0
  obtain ⟨x1, rfl, w1⟩ := arg_Version (hval 1 23 v1 rfl rfl) h1
  clear hA0 hval0
  refine (exactGainsOf_any x0 x1 W w0 w1).mono fun e W1 ⟨he, hb⟩ => ?_
  subst he
  exact ⟨_, rfl, law_post laidK rfl (by kernel_rfl) Try.underlying4 (by kernel_rfl) (fun ds h => by match ds, h with | [_, _], _ => rfl) hW' hb⟩
theorem fnExactGainsOf_closed : joinedFacts Try.prog 5 Try.f5 Rows.fnExactGainsOfSpec Rows.fnExactGainsOfRow = true := by unfold joinedFacts; rw [mayEnter_k, liftsFinal_k, make_k]; kernel_rfl
theorem fnExactGainsOf_holds : Rows.FnExactGainsOfSaid :=
  OpenClaim.holds_of_wide 5 Try.f5 rfl rfl rfl rfl rfl rfl rfl ⟨rfl, rfl, rfl, rfl, rfl⟩ rfl rfl rfl rfl rfl (by kernel_rfl) Try.func5 fnExactGainsOf_closed
    (of_decide_eq_true (by kernel_rfl)) (by unfold Func.isWrapper; first | (rw [if_pos (by decide +kernel)]; kernel_rfl) | (rw [if_neg (by decide +kernel)]; exact ⟨rfl, rfl⟩))
    (fun os started H enc _ => fnExactGainsOf_lifted os started H enc)
end Go.Proofs.Ytbjkalnahckfnab
