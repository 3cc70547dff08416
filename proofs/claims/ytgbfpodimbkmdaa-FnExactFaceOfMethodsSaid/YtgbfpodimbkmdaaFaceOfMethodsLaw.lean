/- FnExactFaceOfMethods: at every list of texts (of at most 2^20 letters and places, as the law says) FaceOfMethods answers as the model's and leaves its argument alone. No further condition. -/
import Derived.Test.YtgbfpodimbkmdaaFace6
import Derived.Test.YtgbfpodimbkmdaaLaw
namespace Go.Proofs.Ytgbfpodimbkmdaa
set_option linter.unusedVariables false
open Go.ChangeShapes Go.WideShapes Go.ChangeAt Go.RowKit Go.WideMaps Go.WideElems
open Go.ChangeMaps (open_string shut_string)
set_option maxRecDepth 100000 in
set_option maxHeartbeats 1600000 in
theorem exactFaceOfMethods_any (v : Value) (x : List (List UInt8)) (w : World) (hR : RowAt w v (x.map strV)) (hz : ∀ s ∈ x, s.length ≤ maxLen) :
    Calls Try.prog 8 #[v] w fun e w' => e = .returned (.bool true) ∧ Below w.heap.size w w' := by
  have HR := Lib.hid hR
  have HZ := Lib.hid (szStringS_any v x 1048576 w hR hz (by omega) (by omega))
  clear hR hz
  go_enter Try.func8, Try.ntmps8
  go_wp2_with fail
  refine HZ.out.mono ?_
  rintro e w' ⟨r, rfl, hr1, hr2, rfl⟩
  by_cases hr : r < 0
  · clear hr2
    go_wp2_with fail
    go_ret
    exact ⟨rfl, Below.refl _ _⟩
  · have hsum := hr2 (by omega)
    have HL := Lib.hid (show x.length ≤ 1048576 by omega)
    have HS := Lib.hid (show x.length + total x ≤ 1048576 by omega)
    clear hr2 hsum
    go_wp2_with fail
    refine (toStringS_any v x w HR.out (by have := HL.out; omega)).mono ?_
    rintro e w1 ⟨rfl, ho, hb⟩
    have Cw_w1 := Lib.hid hb
    have R_w1 := Lib.hid (RowAt.below HR.out hb (Nat.le_refl _))
    have A0 := Lib.hid (owns_row ho (by have := HL.out; omega))
    clear ho hb
    go_wp2_with fail
    refine (specFaceOfM_any _ x _ A0.out).mono ?_
    rintro e w2 ⟨rfl, hb⟩
    have Cw_w2 := Lib.hid (Cw_w1.out.trans (hb.mono Cw_w1.out.size))
    have R_w2 := Lib.hid (RowAt.below R_w1.out hb (Nat.le_refl _))
    clear hb
    go_wp2_with fail
    refine (toStringS_any v x w2 R_w2.out (by have := HL.out; omega)).mono ?_
    rintro e w3 ⟨rfl, ho, hb⟩
    have Cw_w3 := Lib.hid (Cw_w2.out.trans (hb.mono Cw_w2.out.size))
    have R_w3 := Lib.hid (RowAt.below R_w2.out hb (Nat.le_refl _))
    have X0 := Lib.hid (owns_row ho (by have := HL.out; omega))
    clear ho hb
    go_wp2_with fail
    refine (implFaceOfM_any _ x _ X0.out).mono ?_
    rintro e w4 ⟨rfl, hb⟩
    have Cw_w4 := Lib.hid (Cw_w3.out.trans (hb.mono Cw_w3.out.size))
    have R_w4 := Lib.hid (RowAt.below R_w3.out hb (Nat.le_refl _))
    have X0_w4 := Lib.hid (RowAt.below X0.out hb (Nat.le_refl _))
    clear hb
    go_wp2_with fail
    refine (toStringS_any v x w4 R_w4.out (by have := HL.out; omega)).mono ?_
    rintro e w5 ⟨rfl, ho, hb⟩
    have Cw_w5 := Lib.hid (Cw_w4.out.trans (hb.mono Cw_w4.out.size))
    have R_w5 := Lib.hid (RowAt.below R_w4.out hb (Nat.le_refl _))
    have X0_w5 := Lib.hid (RowAt.below X0_w4.out hb (Nat.le_refl _))
    have Y0 := Lib.hid (owns_row ho (by have := HL.out; omega))
    clear ho hb
    go_wp2_with fail
    refine (eqStringS_any _ _ x x w5 X0_w5.out Y0.out).mono ?_
    rintro e w6 ⟨rfl, hb⟩
    rw [show decide (x = x) = true by simp]
    have Cw_w6 := Lib.hid (Cw_w5.out.trans (hb.mono Cw_w5.out.size))
    clear hb
    go_wp2_with fail
    go_ret
    exact ⟨rfl, Cw_w6.out⟩
set_option maxRecDepth 100000 in
theorem fnExactFaceOfMethods_lifted (os : Os) (started : os.Started) (H : Type) (enc : TypeId × Value → H) :
    ReturnsInHanded {} Try.checked os 8 .any (Rows.fnExactFaceOfMethodsSpec.pre6 enc Try.prog Try.f8 Rows.fnExactFaceOfMethodsRow.domain false) (Rows.fnExactFaceOfMethodsSpec.post enc Try.prog Try.f8 false true false false) := by
  refine returnsInHanded_of_change (C := Try.checked) ownK started (by kernel_rfl) Try.func8
    (ChangeSpec.witness6 (enc := enc) (C := Try.checked) false ⟨#[], #[.slice none 0 0], []⟩ 8 (by kernel_rfl) (by kernel_rfl) (by kernel_rfl) (by kernel_rfl)) ?_
  intro W base args ds gs before hval0 hW _ _
  have hval : ∀ (j : Nat) t v, Try.f8.params[j]? = some t → args[j]? = some v → Value.okWide Try.prog W .any base t v := hval0
  have hW' := hW
  obtain ⟨p, q, hA0, _, rfl, _, _⟩ := hW
  have hA : DataW.TrodAll enc Try.prog W 0 (fun _ => true) true Try.f8.params.toList args.toList ds p := hA0
  rw [Try.params8] at hA hval
  obtain ⟨v0, vs0, d0, ds0, p0, q0, hargs, rfl, rfl, h0, r0⟩ := trodAll_cons hA
  obtain ⟨rfl, rfl, rfl⟩ := trodAll_nil r0
  obtain rfl : args = #[v0] := by cases args; simp_all
  obtain ⟨l0, w0, z0⟩ := open_strRowL Try.underlying33 Try.underlying9 (by kernel_rfl) (hval 0 33 v0 rfl rfl) h0
  clear hA0 hval0
  refine (exactFaceOfMethods_any v0 l0 W w0 z0).mono fun e W1 ⟨he, hb⟩ => ?_
  subst he
  exact ⟨_, rfl, law_post laidK rfl (by kernel_rfl) Try.underlying4 (by kernel_rfl) (fun ds h => by match ds, h with | [_], _ => rfl) hW' hb⟩
theorem fnExactFaceOfMethods_closed : joinedFacts Try.prog 8 Try.f8 Rows.fnExactFaceOfMethodsSpec Rows.fnExactFaceOfMethodsRow = true := by unfold joinedFacts; rw [mayEnter_k, liftsFinal_k, make_k]; kernel_rfl
theorem fnExactFaceOfMethods_holds : Rows.FnExactFaceOfMethodsSaid :=
  OpenClaim.holds_of_wide 8 Try.f8 rfl rfl rfl rfl rfl rfl rfl ⟨rfl, rfl, rfl, rfl, rfl⟩ rfl rfl rfl rfl rfl (by kernel_rfl) Try.func8 fnExactFaceOfMethods_closed
    (of_decide_eq_true (by kernel_rfl)) (by unfold Func.isWrapper; first | (rw [if_pos (by decide +kernel)]; kernel_rfl) | (rw [if_neg (by decide +kernel)]; exact ⟨rfl, rfl⟩))
    (fun os started H enc _ => fnExactFaceOfMethods_lifted os started H enc)
end Go.Proofs.Ytgbfpodimbkmdaa
