/- FnExactJoinWith: at every list of texts and every separator (of at most 2^20 letters together, as the law says) JoinWith answers as the model's. No further condition. -/
import Derived.Test.YtlcjkdlidchecaaJoin
import Derived.Test.YtlcjkdlidchecaaLaw
namespace Go.Proofs.Ytlcjkdlidchecaa
set_option linter.unusedVariables false
open Go.ChangeShapes Go.WideShapes Go.ChangeAt Go.RowKit Go.WideMaps Go.WideElems
open Go.ChangeMaps (open_string shut_string)
theorem total_take_all (x : List (List UInt8)) : total (x.take x.length) = total x := by rw [List.take_length]
theorem join_small (x : List (List UInt8)) (sep : List UInt8) (h : x.length + total x ≤ 1048576) (hs : sep.length ≤ 1048576) : (joinL x sep).length ≤ 70368744177664 := by
  have h1 := joinK_len x sep x.length (Nat.le_refl _)
  have h2 : x.length * sep.length ≤ 1048576 * 1048576 := Nat.mul_le_mul (by omega) hs
  rw [total_take_all] at h1
  unfold joinL; omega
set_option maxRecDepth 100000 in
set_option maxHeartbeats 800000 in
theorem exactJoinWith_any (v : Value) (x : List (List UInt8)) (sep : ByteArray) (w : World) (hR : RowAt w v (x.map strV)) (hz : ∀ s ∈ x, s.length ≤ maxLen) (hs : sep.size ≤ maxLen) :
    Calls Try.prog 9 #[v, .string sep] w fun e w' => e = .returned (.bool true) ∧ Below w.heap.size w w' := by
  have HR := Lib.hid hR
  have HZ := Lib.hid (szStringS_any v x 1048576 w hR hz (by omega) (by omega))
  clear hR hz
  unfold maxLen at hs
  by_cases hb : 1048576 < sep.size
  · go_enter Try.func9, Try.ntmps9
    go_wp2
    go_ret
    exact ⟨rfl, Below.refl _ _⟩
  · go_enter Try.func9, Try.ntmps9
    go_wp2_with fail
    refine HZ.out.mono ?_
    rintro e w' ⟨r, rfl, hr1, hr2, rfl⟩
    by_cases hr : r < 0
    · clear hr2
      go_wp2_with fail
      go_ret
      exact ⟨rfl, Below.refl _ _⟩
    · have hsum := hr2 (by omega)
      have HJ := Lib.hid (join_small x sep.data.toList (by omega) (by rw [size_list]; omega))
      have HL := Lib.hid (show x.length ≤ 2097152 by omega)
      clear hr2 hsum
      go_wp2_with fail
      refine (toStringS_any v x _ HR.out HL.out).mono ?_
      rintro e w1 ⟨rfl, ho1, hb1⟩
      have HO1 := Lib.hid (ownsRow_rowAt ho1 (by have := HL.out; unfold maxLen; omega))
      have HB1 := Lib.hid hb1
      clear ho1 hb1
      go_wp2_with fail
      refine (specJoin_any _ x sep _ HO1.out HJ.out (by omega)).mono ?_
      rintro e w2 ⟨rfl, hb2⟩
      have HB2 := Lib.hid (HB1.out.trans (hb2.mono HB1.out.size))
      clear hb2
      have HR2 := Lib.hid (RowAt.below HR.out HB2.out (Nat.le_refl _))
      go_wp2_with fail
      refine (toStringS_any v x _ HR2.out HL.out).mono ?_
      rintro e w3 ⟨rfl, ho3, hb3⟩
      have HO3 := Lib.hid (ownsRow_rowAt ho3 (by have := HL.out; unfold maxLen; omega))
      have HB3 := Lib.hid (HB2.out.trans (hb3.mono HB2.out.size))
      clear ho3 hb3
      go_wp2_with fail
      refine (implJoin_any _ x sep _ HO3.out HJ.out (by omega)).mono ?_
      rintro e w4 ⟨rfl, hb4⟩
      have HO4 := Lib.hid (RowAt.below HO3.out hb4 (Nat.le_refl _))
      have HB4 := Lib.hid (HB3.out.trans (hb4.mono HB3.out.size))
      have HR4 := Lib.hid (RowAt.below HR.out HB4.out (Nat.le_refl _))
      clear hb4
      go_wp2_with fail
      refine (toStringS_any v x _ HR4.out HL.out).mono ?_
      rintro e w5 ⟨rfl, ho5, hb5⟩
      have HO5 := Lib.hid (ownsRow_rowAt ho5 (by have := HL.out; unfold maxLen; omega))
      have HO5b := Lib.hid (RowAt.below HO4.out hb5 (Nat.le_refl _))
      have HB5 := Lib.hid (HB4.out.trans (hb5.mono HB4.out.size))
      clear ho5 hb5
      go_wp2_with fail
      refine (eqStringS_any _ _ x x _ HO5b.out HO5.out).mono ?_
      rintro e w6 ⟨rfl, hb6⟩
      have HB6 := Lib.hid (HB5.out.trans (hb6.mono HB5.out.size))
      clear hb6
      rw [show decide (x = x) = true by simp]
      go_wp2_with fail
      go_ret
      exact ⟨rfl, HB6.out⟩
set_option maxRecDepth 100000 in
theorem fnExactJoinWith_lifted (os : Os) (started : os.Started) (H : Type) (enc : TypeId × Value → H) :
    ReturnsInHanded {} Try.checked os 9 .any (Rows.fnExactJoinWithSpec.pre6 enc Try.prog Try.f9 Rows.fnExactJoinWithRow.domain false) (Rows.fnExactJoinWithSpec.post enc Try.prog Try.f9 false true false false) := by
  refine returnsInHanded_of_change (C := Try.checked) ownK started (by kernel_rfl) Try.func9
    (ChangeSpec.witness6 (enc := enc) (C := Try.checked) false ⟨#[], #[.slice none 0 0, .string ⟨#[]⟩], []⟩ 8 (by kernel_rfl) (by kernel_rfl) (by kernel_rfl) (by kernel_rfl)) ?_
  intro W base args ds gs before hval0 hW _ _
  have hval : ∀ (j : Nat) t v, Try.f9.params[j]? = some t → args[j]? = some v → Value.okWide Try.prog W .any base t v := hval0
  have hW' := hW
  obtain ⟨p, q, hA0, _, rfl, _, _⟩ := hW
  have hA : DataW.TrodAll enc Try.prog W 0 (fun _ => true) true Try.f9.params.toList args.toList ds p := hA0
  rw [Try.params9] at hA hval
  obtain ⟨v0, vs0, d0, ds0, p0, q0, hargs, rfl, rfl, h0, r0⟩ := trodAll_cons hA
  obtain ⟨v1, vs1, d1, ds1, p1, q1, rfl, rfl, rfl, h1, r1⟩ := trodAll_cons r0
  obtain ⟨rfl, rfl, rfl⟩ := trodAll_nil r1
  obtain rfl : args = #[v0, v1] := by cases args; simp_all
  obtain ⟨l0, w0, z0⟩ := open_strRowL Try.underlying32 Try.underlying9 (by kernel_rfl) (hval 0 32 v0 rfl rfl) h0
  obtain ⟨x1, rfl, rfl, rfl, w1⟩ := open_string Try.underlying9 (hval 1 9 v1 rfl rfl) h1
  clear hA0 hval0
  refine (exactJoinWith_any v0 l0 x1 W w0 z0 w1).mono fun e W1 ⟨he, hb⟩ => ?_
  subst he
  exact ⟨_, rfl, law_post laidK rfl (by kernel_rfl) Try.underlying4 (by kernel_rfl) (fun ds h => by match ds, h with | [_, _], _ => rfl) hW' hb⟩
theorem fnExactJoinWith_holds : Rows.FnExactJoinWithSaid :=
  OpenClaim.holds_of_wide 9 Try.f9 rfl rfl rfl rfl rfl rfl rfl ⟨rfl, rfl, rfl, rfl, rfl⟩ rfl rfl rfl rfl rfl (by kernel_rfl) Try.func9 (by kernel_rfl)
    (of_decide_eq_true (by kernel_rfl)) (by unfold Func.isWrapper; first | (rw [if_pos (by decide +kernel)]; kernel_rfl) | (rw [if_neg (by decide +kernel)]; exact ⟨rfl, rfl⟩))
    (fun os started H enc _ => fnExactJoinWith_lifted os started H enc)
end Go.Proofs.Ytlcjkdlidchecaa
