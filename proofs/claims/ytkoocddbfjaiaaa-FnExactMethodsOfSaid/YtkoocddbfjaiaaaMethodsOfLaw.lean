/- FnExactMethodsOf: at every number the program's MethodsOf answers as the model's, and its answer owns its memory. No condition. -/
import Derived.Test.YtkoocddbfjaiaaaFace9
import Derived.Test.YtkoocddbfjaiaaaLaw
namespace Go.Proofs.Ytkoocddbfjaiaaa
set_option linter.unusedVariables false
open Go.ChangeShapes Go.WideShapes Go.ChangeAt Go.RowKit Go.WideMaps Go.WideElems
open Go.ChangeMaps (open_string shut_string)
set_option maxRecDepth 100000 in
set_option maxHeartbeats 1600000 in
theorem exactMethodsOf_any (f : Int) (w : World) (h0 : -9223372036854775808 ≤ f) (k0 : f ≤ 9223372036854775807) :
    Calls Try.prog 3 #[.int .i64 f] w fun e w' => e = .returned (.bool true) ∧ Below w.heap.size w w' := by
  have HLEN0 := Lib.hid (show (ascL (methsF f)).length ≤ 4194000 from by have := asc_len (methsF f); have := meths_len (abilL f); have := abilL_len f; unfold methsF at *; omega)
  have HSP := Lib.hid (specMethodsOf_any f)
  have HIM := Lib.hid (implMethodsOf_any f)
  generalize ascL (methsF f) = x at *
  have hlen := HLEN0.out
  go_enter Try.func3, Try.ntmps3
  go_wp2_with fail
  refine (HSP.out w).mono ?_
  rintro e w1 ⟨v0, rfl, ho, hb⟩
  have Cw_w1 := Lib.hid hb
  have R0 := Lib.hid (ho)
  have Cw_to_w1 := Lib.hid (hb.size)
  clear ho hb
  go_wp2_with fail
  refine (HIM.out w1).mono ?_
  rintro e w2 ⟨v1, rfl, ho, hb⟩
  have Cw_w2 := Lib.hid (Cw_w1.out.trans (hb.mono Cw_w1.out.size))
  have Cw1_w2 := Lib.hid hb
  have R0_w2 := Lib.hid (RowAt.below R0.out hb (Nat.le_refl _))
  have G := Lib.hid ho
  have Gr := Lib.hid (owns_row ho (by have := HLEN0.out; omega))
  clear ho hb
  go_wp2_with fail
  refine (eqStringS_any v1 v0 x x w2 Gr.out R0_w2.out).mono ?_
  rintro e w3 ⟨rfl, hb⟩
  rw [show decide (x = x) = true by simp]
  have Cw_w3 := Lib.hid (Cw_w2.out.trans (hb.mono Cw_w2.out.size))
  have Cw1_w3 := Lib.hid (Cw1_w2.out.trans (hb.mono Cw1_w2.out.size))
  have R0_w3 := Lib.hid (RowAt.below R0_w2.out hb (Nat.le_refl _))
  have G_w3 := Lib.hid (owns_below G.out hb (Nat.le_refl _))
  clear hb
  go_wp2_with fail
  refine (markStringS_any w1.heap.size v1 x 1 w3 G_w3.out (by omega) (by omega) (by omega)).mono ?_
  rintro e w4 ⟨rfl, ho, hg⟩
  have Cw_w4 := Lib.hid (show Below w.heap.size w w4 from Cw_w3.out.grown hg Cw_w3.out.size (fun k hk => Nat.le_trans Cw_to_w1.out (World.ownsRow.lt G_w3.out k hk).1))
  have Cw1_w4 := Lib.hid (show Below w1.heap.size w1 w4 from Cw1_w3.out.grown hg Cw1_w3.out.size (fun k hk => (World.ownsRow.lt G_w3.out k hk).1))
  have R0_w4 := Lib.hid (RowAt.below R0.out Cw1_w4.out (Nat.le_refl _))
  have M := Lib.hid (owns_row ho (by rw [marks_len]; have := HLEN0.out; omega))
  clear ho hg
  go_wp2_with fail
  refine (heldStringS_any v1 x.length 1 w4 M.out (by omega) (by omega) (by omega)).mono ?_
  rintro e w5 ⟨rfl, hb⟩
  have Cw_w5 := Lib.hid (Cw_w4.out.trans (hb.mono Cw_w4.out.size))
  have Cw1_w5 := Lib.hid (Cw1_w4.out.trans (hb.mono Cw1_w4.out.size))
  have R0_w5 := Lib.hid (RowAt.below R0_w4.out hb (Nat.le_refl _))
  have M_w5 := Lib.hid (RowAt.below M.out hb (Nat.le_refl _))
  clear hb
  go_wp2_with fail
  refine (HIM.out w5).mono ?_
  rintro e w6 ⟨v2, rfl, ho, hb⟩
  have Cw_w6 := Lib.hid (Cw_w5.out.trans (hb.mono Cw_w5.out.size))
  have Cw1_w6 := Lib.hid (Cw1_w5.out.trans (hb.mono Cw1_w5.out.size))
  have R0_w6 := Lib.hid (RowAt.below R0_w5.out hb (Nat.le_refl _))
  have M_w6 := Lib.hid (RowAt.below M_w5.out hb (Nat.le_refl _))
  have H0 := Lib.hid (owns_row ho (by have := HLEN0.out; omega))
  clear ho hb
  go_wp2_with fail
  refine (eqStringS_any v2 v0 x x w6 H0.out R0_w6.out).mono ?_
  rintro e w7 ⟨rfl, hb⟩
  rw [show decide (x = x) = true by simp]
  have Cw_w7 := Lib.hid (Cw_w6.out.trans (hb.mono Cw_w6.out.size))
  have Cw1_w7 := Lib.hid (Cw1_w6.out.trans (hb.mono Cw1_w6.out.size))
  have R0_w7 := Lib.hid (RowAt.below R0_w6.out hb (Nat.le_refl _))
  have M_w7 := Lib.hid (RowAt.below M_w6.out hb (Nat.le_refl _))
  clear hb
  go_wp2_with fail
  refine (heldStringS_any v1 x.length 1 w7 M_w7.out (by omega) (by omega) (by omega)).mono ?_
  rintro e w8 ⟨rfl, hb⟩
  have Cw_w8 := Lib.hid (Cw_w7.out.trans (hb.mono Cw_w7.out.size))
  have Cw1_w8 := Lib.hid (Cw1_w7.out.trans (hb.mono Cw1_w7.out.size))
  have R0_w8 := Lib.hid (RowAt.below R0_w7.out hb (Nat.le_refl _))
  have M_w8 := Lib.hid (RowAt.below M_w7.out hb (Nat.le_refl _))
  clear hb
  go_wp2_with fail
  go_ret
  exact ⟨rfl, Cw_w8.out⟩
set_option maxRecDepth 100000 in
theorem fnExactMethodsOf_lifted (os : Os) (started : os.Started) (H : Type) (enc : TypeId × Value → H) :
    ReturnsInHanded {} Try.checked os 3 .any (Rows.fnExactMethodsOfSpec.pre6 enc Try.prog Try.f3 Rows.fnExactMethodsOfRow.domain false) (Rows.fnExactMethodsOfSpec.post enc Try.prog Try.f3 false true false false) := by
  refine returnsInHanded_of_change (C := Try.checked) ownK started (by kernel_rfl) Try.func3
    (ChangeSpec.witness6 (enc := enc) (C := Try.checked) false ⟨#[], #[.int .i64 0], []⟩ 8 (by kernel_rfl) (by kernel_rfl) (by kernel_rfl) (by kernel_rfl)) ?_
  intro W base args ds gs before hval0 hW _ _
  have hval : ∀ (j : Nat) t v, Try.f3.params[j]? = some t → args[j]? = some v → Value.okWide Try.prog W .any base t v := hval0
  have hW' := hW
  obtain ⟨p, q, hA0, _, rfl, _, _⟩ := hW
  have hA : DataW.TrodAll enc Try.prog W 0 (fun _ => true) true Try.f3.params.toList args.toList ds p := hA0
  rw [Try.params3] at hA hval
  obtain ⟨v0, vs0, d0, ds0, p0, q0, hargs, rfl, rfl, h0, r0⟩ := trodAll_cons hA
  obtain ⟨rfl, rfl, rfl⟩ := trodAll_nil r0
  obtain rfl : args = #[v0] := by cases args; simp_all
  obtain ⟨x0, rfl, rfl, rfl, w0⟩ := open_int Try.underlying3 (hval 0 3 v0 rfl rfl) h0
  clear hA0 hval0
  refine (exactMethodsOf_any x0 W (bounds_i64 w0).1 (bounds_i64 w0).2).mono fun e W1 ⟨he, hb⟩ => ?_
  subst he
  exact ⟨_, rfl, law_post laidK rfl (by kernel_rfl) Try.underlying4 (by kernel_rfl) (fun ds h => by match ds, h with | [_], _ => rfl) hW' hb⟩
theorem fnExactMethodsOf_closed : joinedFacts Try.prog 3 Try.f3 Rows.fnExactMethodsOfSpec Rows.fnExactMethodsOfRow = true := by unfold joinedFacts; rw [mayEnter_k, liftsFinal_k, make_k]; kernel_rfl
theorem fnExactMethodsOf_holds : Rows.FnExactMethodsOfSaid :=
  OpenClaim.holds_of_wide 3 Try.f3 rfl rfl rfl rfl rfl rfl rfl ⟨rfl, rfl, rfl, rfl, rfl⟩ rfl rfl rfl rfl rfl (by kernel_rfl) Try.func3 fnExactMethodsOf_closed
    (of_decide_eq_true (by kernel_rfl)) (by unfold Func.isWrapper; first | (rw [if_pos (by decide +kernel)]; kernel_rfl) | (rw [if_neg (by decide +kernel)]; exact ⟨rfl, rfl⟩))
    (fun os started H enc _ => fnExactMethodsOf_lifted os started H enc)
end Go.Proofs.Ytkoocddbfjaiaaa
