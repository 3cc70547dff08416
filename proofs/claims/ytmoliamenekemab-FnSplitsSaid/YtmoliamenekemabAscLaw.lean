/- FnExactAscending: at every list of texts (of at most 2^20 letters and places, as the law says) Ascending answers as the model's, leaves its argument alone, and its answer owns its memory. No further condition. -/
import Derived.Test.YtmoliamenekemabAscS
import Derived.Test.YtmoliamenekemabLaw
namespace Go.Proofs.Ytmoliamenekemab
set_option linter.unusedVariables false
open Go.ChangeShapes Go.WideShapes Go.ChangeAt Go.RowKit Go.WideMaps Go.WideElems
open Go.ChangeMaps (open_string shut_string)
set_option maxRecDepth 100000 in
set_option maxHeartbeats 1600000 in
theorem exactAscending_any (v : Value) (x : List (List UInt8)) (w : World) (hR : RowAt w v (x.map strV)) (hz : ∀ s ∈ x, s.length ≤ maxLen) :
    Calls Try.prog 6 #[v] w fun e w' => e = .returned (.bool true) ∧ Below w.heap.size w w' := by
  have HR := Lib.hid hR
  have HZ := Lib.hid (szStringS_any v x 1048576 w hR hz (by omega) (by omega))
  clear hR hz
  go_enter Try.func6, Try.ntmps6
  go_wp2_with fail
  refine HZ.out.mono ?_
  rintro e w' ⟨r, rfl, hr1, hr2, rfl⟩
  by_cases hr : r < 0
  · clear hr2
    go_wp2_with fail
    go_ret
    exact ⟨rfl, Below.refl _ _⟩
  · have hsum := hr2 (by omega)
    have HL := Lib.hid (show x.length ≤ 1048576 by omega)
    have HZ2 := Lib.hid (show ∀ s ∈ x, s.length ≤ 140737488355328 from fun s hs => by have := total_mem x s hs; omega)
    have HAL := Lib.hid (asc_len x)
    clear hr2 hsum
    go_wp2_with fail
    refine (toStringS_any v x _ HR.out (by have := HL.out; omega)).mono ?_
    rintro e w1 ⟨rfl, ho1, hb1⟩
    have HO1 := Lib.hid (owns_row ho1 (by have := HL.out; omega))
    have B1 := Lib.hid hb1
    clear ho1 hb1
    go_wp2_with fail
    refine (specAsc_any _ x w1 HO1.out (by have := HL.out; omega)).mono ?_
    rintro e w2 ⟨v0, rfl, r2, hb2⟩
    have R0 := Lib.hid r2
    have B2 := Lib.hid (B1.out.trans (hb2.mono B1.out.size))
    clear r2 hb2
    have HR2 := Lib.hid (RowAt.below HR.out B2.out (Nat.le_refl _))
    go_wp2_with fail
    refine (toStringS_any v x _ HR2.out (by have := HL.out; omega)).mono ?_
    rintro e w3 ⟨rfl, ho3, hb3⟩
    have X0o := Lib.hid ho3
    have X0 := Lib.hid (owns_row ho3 (by have := HL.out; omega))
    have R0b := Lib.hid (RowAt.below R0.out hb3 (Nat.le_refl _))
    have B3 := Lib.hid hb3
    clear ho3 hb3
    go_wp2_with fail
    refine (implAsc_any _ x w3 X0.out (by have := HL.out; omega) HZ2.out).mono ?_
    rintro e w4 ⟨v1, rfl, ho4, hb4⟩
    have G0o := Lib.hid ho4
    have G0 := Lib.hid (owns_row ho4 (by have := HL.out; have := HAL.out; omega))
    have R0c := Lib.hid (RowAt.below R0b.out hb4 (Nat.le_refl _))
    have X1 := Lib.hid (RowAt.below X0.out hb4 (Nat.le_refl _))
    have X1o := Lib.hid (owns_below X0o.out hb4 (Nat.le_refl _))
    have B4 := Lib.hid hb4
    clear ho4 hb4
    go_wp2_with fail
    refine (eqStringS_any v1 v0 (ascL x) (ascL x) w4 G0.out R0c.out).mono ?_
    rintro e w5 ⟨rfl, hb5⟩
    rw [show decide (ascL x = ascL x) = true by simp]
    have C3 := B3
    have C4 := Lib.hid (B3.out.trans (B4.out.mono B3.out.size))
    have C5 := Lib.hid (C4.out.trans (hb5.mono C4.out.size))
    have G1o := Lib.hid (owns_below G0o.out hb5 (Nat.le_refl _))
    have X2 := Lib.hid (RowAt.below X1.out hb5 (Nat.le_refl _))
    have X2o := Lib.hid (owns_below X1o.out hb5 (Nat.le_refl _))
    have S34 := Lib.hid (show w2.heap.size < w3.heap.size from (World.ownsRow.lt X0o.out _ rfl).2)
    have HR5 := Lib.hid (RowAt.below HR.out (B2.out.trans (C5.out.mono B2.out.size)) (Nat.le_refl _))
    clear hb5
    go_wp2_with fail
    refine (toStringS_any v x _ HR5.out (by have := HL.out; omega)).mono ?_
    rintro e w6 ⟨rfl, ho6, hb6⟩
    have Y := Lib.hid (owns_row ho6 (by have := HL.out; omega))
    have C6 := Lib.hid (C5.out.trans (hb6.mono C5.out.size))
    have G2o := Lib.hid (owns_below G1o.out hb6 (Nat.le_refl _))
    have X3 := Lib.hid (RowAt.below X2.out hb6 (Nat.le_refl _))
    have X3o := Lib.hid (owns_below X2o.out hb6 (Nat.le_refl _))
    clear ho6 hb6
    go_wp2_with fail
    refine (eqStringS_any _ _ x x w6 X3.out Y.out).mono ?_
    rintro e w7 ⟨rfl, hb7⟩
    rw [show decide (x = x) = true by simp]
    have C7 := Lib.hid (C6.out.trans (hb7.mono C6.out.size))
    have G3o := Lib.hid (owns_below G2o.out hb7 (Nat.le_refl _))
    have X4o := Lib.hid (owns_below X3o.out hb7 (Nat.le_refl _))
    clear hb7
    go_wp2_with fail
    refine (markStringS_any w2.heap.size _ x 1 w7 X4o.out (by have := HL.out; omega) (by omega) (by omega)).mono ?_
    rintro e w8 ⟨rfl, ho8, hg8⟩
    have C8 := Lib.hid (below_append C7.out X4o.out hg8 C7.out.size)
    have G4o := Lib.hid (show Owns w8 w3.heap.size v1 (ascL x) from World.ownsRow.kept G3o.out hg8 (by
      cases hv : v1.ownBlock with
      | none => exact Or.inl rfl
      | some g => right; intro e; have h1 := (World.ownsRow.lt G3o.out g hv).1; have h2 := S34.out; simp only [Value.ownBlock, Option.some.injEq] at e; omega))
    have G4 := Lib.hid (owns_row G4o.out (by have := HL.out; have := HAL.out; omega))
    have R8 := Lib.hid (RowAt.below R0.out C8.out (Nat.le_refl _))
    have hxl := HL.out
    have hal := HAL.out
    clear ho8 hg8
    go_wp2_with fail
    refine (eqStringS_any v1 v0 (ascL x) (ascL x) w8 G4.out R8.out).mono ?_
    rintro e w9 ⟨rfl, hb9⟩
    rw [show decide (ascL x = ascL x) = true by simp]
    have C9 := Lib.hid (C8.out.trans (hb9.mono C8.out.size))
    have G5o := Lib.hid (owns_below G4o.out hb9 (Nat.le_refl _))
    clear hb9
    go_wp2_with fail
    refine (markStringS_any w3.heap.size v1 (ascL x) 1 w9 G5o.out (by omega) (by omega) (by omega)).mono ?_
    rintro e w10 ⟨rfl, ho10, hg10⟩
    have C10 := Lib.hid (show Below w2.heap.size w2 w10 from C9.out.grown hg10 C9.out.size (fun k hk => by have h1 := (World.ownsRow.lt G5o.out k hk).1; have h2 := S34.out; omega))
    have M1 := Lib.hid (owns_row ho10 (by rw [marks_len]; omega))
    clear ho10 hg10
    go_wp2_with fail
    refine (heldStringS_any v1 (ascL x).length 1 w10 M1.out (by omega) (by omega) (by omega)).mono ?_
    rintro e w11 ⟨rfl, hb11⟩
    have C11 := Lib.hid (C10.out.trans (hb11.mono C10.out.size))
    have M2 := Lib.hid (RowAt.below M1.out hb11 (Nat.le_refl _))
    have HR11 := Lib.hid (RowAt.below HR.out (B2.out.trans (C11.out.mono B2.out.size)) (Nat.le_refl _))
    clear hb11
    go_wp2_with fail
    refine (toStringS_any v x _ HR11.out (by omega)).mono ?_
    rintro e w12 ⟨rfl, ho12, hb12⟩
    have Z := Lib.hid (owns_row ho12 (by omega))
    have C12 := Lib.hid (C11.out.trans (hb12.mono C11.out.size))
    have M3 := Lib.hid (RowAt.below M2.out hb12 (Nat.le_refl _))
    clear ho12 hb12
    go_wp2_with fail
    refine (implAsc_any _ x w12 Z.out (by omega) HZ2.out).mono ?_
    rintro e w13 ⟨v2, rfl, ho13, hb13⟩
    have H0 := Lib.hid (owns_row ho13 (by omega))
    have C13 := Lib.hid (C12.out.trans (hb13.mono C12.out.size))
    have M4 := Lib.hid (RowAt.below M3.out hb13 (Nat.le_refl _))
    have R13 := Lib.hid (RowAt.below R0.out C13.out (Nat.le_refl _))
    clear ho13 hb13
    go_wp2_with fail
    refine (eqStringS_any v2 v0 (ascL x) (ascL x) w13 H0.out R13.out).mono ?_
    rintro e w14 ⟨rfl, hb14⟩
    rw [show decide (ascL x = ascL x) = true by simp]
    have C14 := Lib.hid (C13.out.trans (hb14.mono C13.out.size))
    have M5 := Lib.hid (RowAt.below M4.out hb14 (Nat.le_refl _))
    clear hb14
    go_wp2_with fail
    refine (heldStringS_any v1 (ascL x).length 1 w14 M5.out (by omega) (by omega) (by omega)).mono ?_
    rintro e w15 ⟨rfl, hb15⟩
    have B15 := Lib.hid (B2.out.trans ((C14.out.trans (hb15.mono C14.out.size)).mono B2.out.size))
    clear hb15
    go_wp2_with fail
    go_ret
    exact ⟨rfl, B15.out⟩
set_option maxRecDepth 100000 in
theorem fnExactAscending_lifted (os : Os) (started : os.Started) (H : Type) (enc : TypeId × Value → H) :
    ReturnsInHanded {} Try.checked os 6 .any (Rows.fnExactAscendingSpec.pre6 enc Try.prog Try.f6 Rows.fnExactAscendingRow.domain false) (Rows.fnExactAscendingSpec.post enc Try.prog Try.f6 false true false false) := by
  refine returnsInHanded_of_change (C := Try.checked) ownK started (by kernel_rfl) Try.func6
    (ChangeSpec.witness6 (enc := enc) (C := Try.checked) false ⟨#[], #[.slice none 0 0], []⟩ 8 (by kernel_rfl) (by kernel_rfl) (by kernel_rfl) (by kernel_rfl)) ?_
  intro W base args ds gs before hval0 hW _ _
  have hval : ∀ (j : Nat) t v, Try.f6.params[j]? = some t → args[j]? = some v → Value.okWide Try.prog W .any base t v := hval0
  have hW' := hW
  obtain ⟨p, q, hA0, _, rfl, _, _⟩ := hW
  have hA : DataW.TrodAll enc Try.prog W 0 (fun _ => true) true Try.f6.params.toList args.toList ds p := hA0
  rw [Try.params6] at hA hval
  obtain ⟨v0, vs0, d0, ds0, p0, q0, hargs, rfl, rfl, h0, r0⟩ := trodAll_cons hA
  obtain ⟨rfl, rfl, rfl⟩ := trodAll_nil r0
  obtain rfl : args = #[v0] := by cases args; simp_all
  obtain ⟨l0, w0, z0⟩ := open_strRowL Try.underlying42 Try.underlying9 (by kernel_rfl) (hval 0 42 v0 rfl rfl) h0
  clear hA0 hval0
  refine (exactAscending_any v0 l0 W w0 z0).mono fun e W1 ⟨he, hb⟩ => ?_
  subst he
  exact ⟨_, rfl, law_post laidK rfl (by kernel_rfl) Try.underlying4 (by kernel_rfl) (fun ds h => by match ds, h with | [_], _ => rfl) hW' hb⟩
theorem fnExactAscending_closed : joinedFacts Try.prog 6 Try.f6 Rows.fnExactAscendingSpec Rows.fnExactAscendingRow = true := by unfold joinedFacts; rw [mayEnter_k, liftsFinal_k, make_k]; kernel_rfl
theorem fnExactAscending_holds : Rows.FnExactAscendingSaid :=
  OpenClaim.holds_of_wide 6 Try.f6 rfl rfl rfl rfl rfl rfl rfl ⟨rfl, rfl, rfl, rfl, rfl⟩ rfl rfl rfl rfl rfl (by kernel_rfl) Try.func6 fnExactAscending_closed
    (of_decide_eq_true (by kernel_rfl)) (by unfold Func.isWrapper; first | (rw [if_pos (by decide +kernel)]; kernel_rfl) | (rw [if_neg (by decide +kernel)]; exact ⟨rfl, rfl⟩))
    (fun os started H enc _ => fnExactAscending_lifted os started H enc)
end Go.Proofs.Ytmoliamenekemab
