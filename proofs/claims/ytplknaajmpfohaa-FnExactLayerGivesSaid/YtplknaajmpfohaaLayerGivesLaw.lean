/- FnExactLayerGives: at every text the program's LayerGives answers as the model's (a text longer than 2^20 is not asked). No condition. -/
import Derived.Test.YtplknaajmpfohaaLaw5
import Derived.Test.YtplknaajmpfohaaLay1
import Derived.Test.YtplknaajmpfohaaOpen
namespace Go.Proofs.Ytplknaajmpfohaa
set_option linter.unusedVariables false
open Go.ChangeShapes Go.WideShapes Go.ChangeAt Go.RowKit Go.WideMaps Go.WideElems
open Go.ChangeMaps (open_string shut_string)
set_option maxRecDepth 100000 in
set_option maxHeartbeats 3200000 in
theorem exactLayerGives_any (x0 : ByteArray) (w : World) (h0 : x0.size ≤ maxLen) :
    Calls Try.prog 4 #[.string x0] w fun e w' => e = .returned (.bool true) ∧ Below w.heap.size w w' := by
  unfold maxLen at h0
  by_cases hb0 : 1048576 < x0.size
  · go_enter Try.func4, Try.ntmps4
    go_wp2_with fail
    go_ret
    exact ⟨rfl, Below.refl _ _⟩
  · have HS0 := Lib.hid (show x0.size ≤ 1048576 by omega)
    have HSP := Lib.hid (specLayerGives_any x0)
    have HIM := Lib.hid (fun w1 => below_of_eq (implLayerGives_any x0 w1))
    unfold gvV at HSP HIM
    generalize giveI (layI x0.data.toList) = f at *
    generalize decide (0 ≤ layI x0.data.toList) = b at *
    go_enter Try.func4, Try.ntmps4
    go_wp2_with fail
    refine (HSP.out _).mono ?_
    rintro e w1 ⟨rfl, hb0⟩
    have hb := below_step (w := w) (by repeat (first | exact Below.refl _ _ | refine Below.alloc ?_ (by simp; try omega) _ | refine Below.setCell ?_ (by simp; try omega) _ | refine belN ?_ _ | refine belD ?_)) hb0
    have Cw_w1 := Lib.hid hb
    clear hb hb0
    go_wp2_with fail
    refine (HIM.out _).mono ?_
    rintro e w2 ⟨rfl, hb0⟩
    have hb := below_step (w := w1) (by repeat (first | exact Below.refl _ _ | refine Below.alloc ?_ (by simp; try omega) _ | refine Below.setCell ?_ (by simp; try omega) _ | refine belN ?_ _ | refine belD ?_)) hb0
    have Cw_w2 := Lib.hid (Cw_w1.out.trans (hb.mono Cw_w1.out.size))
    clear hb hb0
    cases b
    all_goals
      go_wp2_with fail
      go_ret
      exact ⟨rfl, below_to Cw_w2.out (by repeat (first | exact Below.refl _ _ | refine Below.alloc ?_ (by simp; try omega) _ | refine Below.setCell ?_ (by simp; try omega) _ | refine belN ?_ _ | refine belD ?_))⟩
set_option maxRecDepth 100000 in
theorem fnExactLayerGives_lifted (os : Os) (started : os.Started) (H : Type) (enc : TypeId × Value → H) :
    ReturnsInHanded {} Try.checked os 4 .any (Rows.fnExactLayerGivesSpec.pre6 enc Try.prog Try.f4 Rows.fnExactLayerGivesRow.domain false) (Rows.fnExactLayerGivesSpec.post enc Try.prog Try.f4 false true false false) := by
  refine returnsInHanded_of_change (C := Try.checked) ownK started (by kernel_rfl) Try.func4
    (ChangeSpec.witness6 (enc := enc) (C := Try.checked) false ⟨#[], #[.string ⟨#[]⟩], []⟩ 8 (by kernel_rfl) (by kernel_rfl) (by kernel_rfl) (by kernel_rfl)) ?_
  intro W base args ds gs before hval0 hW _ _
  have hval : ∀ (j : Nat) t v, Try.f4.params[j]? = some t → args[j]? = some v → Value.okWide Try.prog W .any base t v := hval0
  have hW' := hW
  obtain ⟨p, q, hA0, _, rfl, _, _⟩ := hW
  have hA : DataW.TrodAll enc Try.prog W 0 (fun _ => true) true Try.f4.params.toList args.toList ds p := hA0
  rw [Try.params4] at hA hval
  obtain ⟨v0, vs0, d0, ds0, p0, q0, hargs, rfl, rfl, h0, r0⟩ := trodAll_cons hA
  obtain ⟨rfl, rfl, rfl⟩ := trodAll_nil r0
  obtain rfl : args = #[v0] := by cases args; simp_all
  obtain ⟨x0, rfl, rfl, rfl, w0⟩ := open_string Try.underlying9 (hval 0 9 v0 rfl rfl) h0
  clear hA0 hval0
  refine (exactLayerGives_any x0 W w0).mono fun e W1 ⟨he, hb⟩ => ?_
  subst he
  exact ⟨_, rfl, law_post laidK rfl (by kernel_rfl) Try.underlying4 (by kernel_rfl) (fun ds h => by match ds, h with | [_], _ => rfl) hW' hb⟩
theorem fnExactLayerGives_closed : joinedFacts Try.prog 4 Try.f4 Rows.fnExactLayerGivesSpec Rows.fnExactLayerGivesRow = true := by unfold joinedFacts; rw [mayEnter_k, liftsFinal_k, make_k]; kernel_rfl
theorem fnExactLayerGives_holds : Rows.FnExactLayerGivesSaid :=
  OpenClaim.holds_of_wide 4 Try.f4 rfl rfl rfl rfl rfl rfl rfl ⟨rfl, rfl, rfl, rfl, rfl⟩ rfl rfl rfl rfl rfl (by kernel_rfl) Try.func4 fnExactLayerGives_closed
    (of_decide_eq_true (by kernel_rfl)) (by unfold Func.isWrapper; first | (rw [if_pos (by decide +kernel)]; kernel_rfl) | (rw [if_neg (by decide +kernel)]; exact ⟨rfl, rfl⟩))
    (fun os started H enc _ => fnExactLayerGives_lifted os started H enc)
end Go.Proofs.Ytplknaajmpfohaa
