/- FnExactSplitAt: at every text and separator (of at most 2^20 letters each, as the law says) SplitAt answers as the model's, and its answer owns its memory. No further condition. -/
import Derived.Test.YtlcjkdlidchecaaSplit
import Derived.Test.YtlcjkdlidchecaaLaw
import Derived.HandedShaped
namespace Go.Proofs.Ytlcjkdlidchecaa
set_option linter.unusedVariables false
open Go.ChangeShapes Go.WideShapes Go.ChangeAt Go.RowKit Go.WideMaps Go.WideElems
open Go.ChangeMaps (open_string shut_string)
theorem owns_row {w : World} {B : Nat} {v : Value} {x : List (List UInt8)} (h : Owns w B v x) (hm : x.length ≤ 4194304) : RowAt w v (x.map strV) := ownsRow_rowAt h (by unfold maxLen; omega)
theorem below_mark {a w w' : World} {B : Nat} {v : Value} {xs : List (List UInt8)} (hb : Below B a w) (hO : Owns w B v xs) (hg : w.grownBy w' v.ownBlock) (hB : B ≤ w.heap.size) : Below B a w' := below_append hb hO hg hB
set_option maxRecDepth 100000 in
set_option maxHeartbeats 800000 in
theorem exactSplitAt_any (s sep : ByteArray) (w : World) (hs : s.size ≤ maxLen) (hsep : sep.size ≤ maxLen) (m : Int) (hm : w.cell? ⟨0, 0, none⟩ = some (.int .i64 m)) :
    Calls Try.prog 8 #[.string s, .string sep] w fun e w' => e = .returned (.bool true) ∧ Below w.heap.size w w' := by
  unfold maxLen at hs hsep
  have HG := Lib.hid (World.block_lt_of_cell? w _ hm)
  have HM := Lib.hid hm
  clear hm
  by_cases hb : 1048576 < s.size
  · go_enter Try.func8, Try.ntmps8
    go_wp2
    go_ret
    exact ⟨rfl, Below.refl _ _⟩
  · by_cases hb2 : 1048576 < sep.size
    · go_enter Try.func8, Try.ntmps8
      go_wp2
      go_ret
      exact ⟨rfl, Below.refl _ _⟩
    · have HX := Lib.hid (show (splitL s.data.toList sep.data.toList).length ≤ 4194303 by have := splitL_len s.data.toList sep.data.toList; have := size_list s; omega)
      have HSS := Lib.hid (fun w => specSplit_any s sep w (by omega) (by omega))
      have HII := Lib.hid (fun w hm => implSplit_any s sep m w hm (by omega) (by omega))
      generalize splitL s.data.toList sep.data.toList = x at *
      go_enter Try.func8, Try.ntmps8
      go_wp2_with fail
      refine (HSS.out w).mono ?_
      rintro e w1 ⟨v0, rfl, ho1, hb1⟩
      have hx := HX.out
      have R0 := Lib.hid (owns_row ho1 (by omega))
      have B1 := Lib.hid hb1
      have M1 := Lib.hid ((hb1.cell (p := ⟨0, 0, none⟩) HG.out).trans HM.out)
      clear ho1 hb1 hx
      go_wp2_with fail
      refine (HII.out w1 M1.out).mono ?_
      rintro e w2 ⟨v1, rfl, ho2, hb2'⟩
      have hx := HX.out
      have O2 := Lib.hid ho2
      have R1 := Lib.hid (owns_row ho2 (by omega))
      have R0b := Lib.hid (RowAt.below R0.out hb2' (Nat.le_refl _))
      have B2 := Lib.hid hb2'
      clear ho2 hb2' hx
      go_wp2_with fail
      refine (eqStringS_any v1 v0 x x w2 R1.out R0b.out).mono ?_
      rintro e w3 ⟨rfl, hb3⟩
      rw [show decide (x = x) = true by simp]
      have O3 := Lib.hid (owns_below O2.out hb3 (Nat.le_refl _))
      have R0c := Lib.hid (RowAt.below R0b.out hb3 (Nat.le_refl _))
      have B3 := Lib.hid (B2.out.trans (hb3.mono B2.out.size))
      clear hb3
      go_wp2_with fail
      refine (markStringS_any w1.heap.size v1 x 1 w3 O3.out (by have := HX.out; omega) (by omega) (by omega)).mono ?_
      rintro e w4 ⟨rfl, ho4, hg4⟩
      have O4 := Lib.hid ho4
      have B4 := Lib.hid (below_mark B3.out O3.out hg4 B3.out.size)
      have R4 := Lib.hid (owns_row ho4 (by rw [marks_len]; have := HX.out; omega))
      clear ho4 hg4
      have hxl := HX.out
      go_wp2_with fail
      refine (heldStringS_any v1 x.length 1 w4 R4.out (by omega) (by omega) (by omega)).mono ?_
      rintro e w5 ⟨rfl, hb5⟩
      have R5 := Lib.hid (RowAt.below R4.out hb5 (Nat.le_refl _))
      have B5 := Lib.hid (B4.out.trans (hb5.mono B4.out.size))
      clear hb5
      go_wp2_with fail
      have BT5 := Lib.hid (B1.out.trans (B5.out.mono B1.out.size))
      have M5 := Lib.hid ((BT5.out.cell (p := ⟨0, 0, none⟩) HG.out).trans HM.out)
      refine (HII.out w5 M5.out).mono ?_
      rintro e w6 ⟨v2, rfl, ho6, hb6⟩
      have R2 := Lib.hid (owns_row ho6 (by have := HX.out; omega))
      have R6 := Lib.hid (RowAt.below R5.out hb6 (Nat.le_refl _))
      have B6 := Lib.hid (B5.out.trans (hb6.mono B5.out.size))
      have R0d := Lib.hid (RowAt.below R0.out B6.out (Nat.le_refl _))
      clear ho6 hb6
      go_wp2_with fail
      refine (eqStringS_any v2 v0 x x w6 R2.out R0d.out).mono ?_
      rintro e w7 ⟨rfl, hb7⟩
      rw [show decide (x = x) = true by simp]
      have R7 := Lib.hid (RowAt.below R6.out hb7 (Nat.le_refl _))
      have B7 := Lib.hid (B6.out.trans (hb7.mono B6.out.size))
      clear hb7
      go_wp2_with fail
      refine (heldStringS_any v1 x.length 1 w7 R7.out (by omega) (by omega) (by omega)).mono ?_
      rintro e w8 ⟨rfl, hb8⟩
      have B8 := Lib.hid (B1.out.trans ((B7.out.trans (hb8.mono B7.out.size)).mono B1.out.size))
      clear hb8
      go_wp2_with fail
      go_ret
      exact ⟨rfl, B8.out⟩
set_option maxRecDepth 100000 in
theorem fnExactSplitAt_lifted (os : Os) (started : os.Started) (H : Type) (enc : TypeId × Value → H) :
    ReturnsInHanded {} Try.checked os 8 .any (Rows.fnExactSplitAtSpec.pre6 enc Try.prog Try.f8 Rows.fnExactSplitAtRow.domain false) (Rows.fnExactSplitAtSpec.post enc Try.prog Try.f8 false true false false) := by
  refine returnsInHanded_of_change_shaped (C := Try.checked) ownK started (by kernel_rfl) Try.func8
    (ChangeSpec.witness6 (enc := enc) (C := Try.checked) false ⟨#[], #[.string ⟨#[]⟩, .string ⟨#[]⟩], []⟩ 8 (by kernel_rfl) (by kernel_rfl) (by kernel_rfl) (by kernel_rfl)) ?_
  intro W base args ds gs before hval0 hW _ _ hsh _
  have hval : ∀ (j : Nat) t v, Try.f8.params[j]? = some t → args[j]? = some v → Value.okWide Try.prog W .any base t v := hval0
  have hW' := hW
  obtain ⟨p, q, hA0, _, rfl, _, _⟩ := hW
  have hA : DataW.TrodAll enc Try.prog W 0 (fun _ => true) true Try.f8.params.toList args.toList ds p := hA0
  rw [Try.params8] at hA hval
  obtain ⟨v0, vs0, d0, ds0, p0, q0, hargs, rfl, rfl, h0, r0⟩ := trodAll_cons hA
  obtain ⟨v1, vs1, d1, ds1, p1, q1, rfl, rfl, rfl, h1, r1⟩ := trodAll_cons r0
  obtain ⟨rfl, rfl, rfl⟩ := trodAll_nil r1
  obtain rfl : args = #[v0, v1] := by cases args; simp_all
  obtain ⟨x0, rfl, rfl, rfl, w0⟩ := open_string Try.underlying9 (hval 0 9 v0 rfl rfl) h0
  obtain ⟨x1, rfl, rfl, rfl, w1⟩ := open_string Try.underlying9 (hval 1 9 v1 rfl rfl) h1
  clear hA0 hval0
  obtain ⟨m, hm⟩ := Try.laysM143.s1_3 W hsh
  refine (exactSplitAt_any x0 x1 W w0 w1 m hm).mono fun e W1 ⟨he, hb⟩ => ?_
  subst he
  exact ⟨_, rfl, law_post laidK rfl (by kernel_rfl) Try.underlying4 (by kernel_rfl) (fun ds h => by match ds, h with | [_, _], _ => rfl) hW' hb⟩
theorem fnExactSplitAt_holds : Rows.FnExactSplitAtSaid :=
  OpenClaim.holds_of_wide 8 Try.f8 rfl rfl rfl rfl rfl rfl rfl ⟨rfl, rfl, rfl, rfl, rfl⟩ rfl rfl rfl rfl rfl (by kernel_rfl) Try.func8 (by kernel_rfl)
    (of_decide_eq_true (by kernel_rfl)) (by unfold Func.isWrapper; first | (rw [if_pos (by decide +kernel)]; kernel_rfl) | (rw [if_neg (by decide +kernel)]; exact ⟨rfl, rfl⟩))
    (fun os started H enc _ => fnExactSplitAt_lifted os started H enc)
end Go.Proofs.Ytlcjkdlidchecaa
