/- FnFaceText: faces are read from what is written, and from nothing else; the name of an ability is its own; at every code that is drawn from. No condition. -/
import Derived.Test.YtgbfpodimbkmdaaDraw2
import Derived.Test.YtgbfpodimbkmdaaFace8
import Derived.Test.YtgbfpodimbkmdaaLaw
namespace Go.Proofs.Ytgbfpodimbkmdaa
set_option linter.unusedVariables false
open Go.ChangeShapes Go.WideShapes Go.ChangeAt Go.RowKit Go.WideMaps Go.WideElems
open Go.ChangeMaps (open_string shut_string)
theorem rd_fin : ∀ a : Fin 64, rdF (fmtF (a : Nat)) = (a : Nat) := by decide +kernel
theorem rd_fmt {f : Int} (h : isF f = true) : rdF (fmtF f) = f := by obtain ⟨A, rfl⟩ := isF_fin h; exact rd_fin A
theorem rd_nil : rdF [] = -1 := by decide +kernel
theorem findK_spec (p : Nat → Bool) : ∀ n k : Nat, findK p k n = -1 ∨ ∃ j : Nat, findK p k n = j ∧ j < k + n ∧ p j = true := by
  intro n
  induction n with
  | zero => intro k; exact Or.inl rfl
  | succ n ih =>
    intro k
    unfold findK
    split
    · rename_i h; exact Or.inr ⟨k, rfl, by omega, h⟩
    · rcases ih (k + 1) with h | ⟨j, h1, h2, h3⟩
      · exact Or.inl h
      · exact Or.inr ⟨j, h1, by omega, h3⟩
theorem rdF_spec (s : List UInt8) : rdF s = -1 ∨ ∃ j : Nat, rdF s = j ∧ j < 64 ∧ fmtF (j : Nat) = s := by
  rcases findK_spec (fun k => fmtF (k : Nat) == s) 64 0 with h | ⟨j, h1, h2, h3⟩
  · exact Or.inl h
  · exact Or.inr ⟨j, h1, by omega, eq_of_beq h3⟩
theorem implParse_l (l : List UInt8) (n : Int) (h : rdF l = n) (w : World) :
    Calls Try.prog 16 #[.string ⟨l.toArray⟩] w fun e w' => e = .returned (parsed n) ∧ Below w.heap.size w w' := by
  have := implParseFace_any ⟨l.toArray⟩ w
  rw [show (⟨l.toArray⟩ : ByteArray).data.toList = l by simp, h] at this
  exact this
theorem implFormat_l (f : Int) (l : List UInt8) (h : fmtF f = l) (w : World) :
    Calls Try.prog 14 #[.int .i64 f] w fun e w' => e = .returned (.string ⟨l.toArray⟩) ∧ Below w.heap.size w w' := by subst h; exact implFormatFace_any f w
theorem implAbilityName_l (k : Int) (l : List UInt8) (h : abNI k = l) (w : World) :
    Calls Try.prog 23 #[.int .i64 k] w fun e w' => e = .returned (.string ⟨l.toArray⟩) ∧ w = w' := by subst h; exact implAbilityName_any k w
theorem implAbilityOf_l (l : List UInt8) (k : Int) (h : abOf l = k) (w : World) :
    Calls Try.prog 24 #[.string ⟨l.toArray⟩] w fun e w' => e = .returned (.int .i64 k) ∧ w = w' := by
  have := implAbilityOf_any ⟨l.toArray⟩ w
  rw [show (⟨l.toArray⟩ : ByteArray).data.toList = l by simp, h] at this
  exact this
theorem parsed_nat (j : Nat) : parsed (j : Nat) = .tuple #[.int .i64 (j : Nat), .bool true] := (parsed_yes rfl).symm
theorem parsed_neg : parsed (-1) = .tuple #[.int .i64 0, .bool false] := rfl
theorem abOf_fin : ∀ n : Fin 6, abOf (abN n) = ((n : Nat) : Int) := by decide +kernel
theorem abN_ne : ∀ n : Fin 6, abN n ≠ [] := by decide +kernel
set_option maxRecDepth 100000 in
set_option maxHeartbeats 8000000 in
theorem fnFaceText_any (v : Value) (l : List UInt8) (w : World) (hR : RowAt w v (Lib.byteCells l)) :
    Calls Try.prog 7 #[v] w fun e w' => e = .returned (.bool true) ∧ Below w.heap.size w w' := by
  have HR := Lib.hid hR
  have HB := Lib.hid (big_any v l w hR)
  clear hR
  go_enter Try.func7, Try.ntmps7
  go_wp2_with fail
  refine HB.out.mono ?_
  rintro e w' ⟨rfl, rfl⟩
  by_cases hbig : 4096 < l.length
  · go_wp2_with fail
    go_ret
    exact ⟨rfl, Below.refl _ _⟩
  · have hd : decide (4096 < l.length) = false := by simpa using hbig
    clear hbig
    rw [hd]
    go_wp2_with fail
    refine (drawFormatFace_any v l w HR.out).mono ?_
    rintro e w1 ⟨f, rfl, hf, hb0⟩
    have HB1 := Lib.hid (hb0)
    clear hb0
    clear hd
    have hcase : (∃ j : Nat, f = j ∧ isF f = true) ∨ isF f = false := by
      cases h : isF f with
      | false => exact Or.inr rfl
      | true => obtain ⟨A, rfl⟩ := isF_fin h; exact Or.inl ⟨_, rfl, rfl⟩
    clear hf
    rcases hcase with ⟨j, rfl, hf⟩ | hf
    case' inl =>
      have HP := Lib.hid (implParse_l (fmtF (j : Nat)) _ (rd_fmt hf))
      have HA := Lib.hid (implIsFace_b (j : Nat) _ hf)
      have SA := Lib.hid (specIsFace_b (j : Nat) _ hf)
      rw [parsed_nat] at HP
      clear hf
      go_wp2_with fail
      refine (implFormatFace_any (j : Nat) w1).mono ?_
      rintro e w2 ⟨rfl, hb0⟩
      have HB2 := Lib.hid (HB1.out.trans (hb0.mono HB1.out.size))
      clear hb0
      go_wp2_with fail
      refine (HP.out w2).mono ?_
      rintro e w3 ⟨rfl, hb0⟩
      have HB3 := Lib.hid (HB2.out.trans (hb0.mono HB2.out.size))
      clear hb0
      go_wp2_with (first | (go_at_call 19; (with_reducible refine (HA.out _).mono ?_); rintro e w' ⟨rfl, rfl⟩) | (go_at_call 20; (with_reducible refine (SA.out _).mono ?_); rintro e w' ⟨rfl, rfl⟩))
    case' inr =>
      have HZ := Lib.hid (implFormat_l f [] (fmtF_non hf))
      have HP := Lib.hid (implParse_l [] _ rd_nil)
      have HA := Lib.hid (implIsFace_b f _ hf)
      have SA := Lib.hid (specIsFace_b f _ hf)
      rw [parsed_neg] at HP
      clear hf
      go_wp2_with fail
      refine (HZ.out w1).mono ?_
      rintro e w2 ⟨rfl, hb0⟩
      have HB2 := Lib.hid (HB1.out.trans (hb0.mono HB1.out.size))
      clear hb0
      go_wp2_with fail
      refine (HP.out w2).mono ?_
      rintro e w3 ⟨rfl, hb0⟩
      have HB3 := Lib.hid (HB2.out.trans (hb0.mono HB2.out.size))
      clear hb0
      go_wp2_with (first | (go_at_call 19; (with_reducible refine (HA.out _).mono ?_); rintro e w' ⟨rfl, rfl⟩) | (go_at_call 20; (with_reducible refine (SA.out _).mono ?_); rintro e w' ⟨rfl, rfl⟩))
      refine (HZ.out _).mono ?_
      rintro e w4 ⟨rfl, hb0⟩
      have HB4 := Lib.hid (HB3.out.trans (hb0.mono HB3.out.size))
      clear hb0 HB3
      have HB3 := HB4
      clear HB4
      go_wp2_with fail
    all_goals
      refine (drawParseFace_any v l _ (RowAt.below HR.out HB3.out (Nat.le_refl _))).mono ?_
      rintro e w5 ⟨s, rfl, hs, hb0⟩
      have HB5 := Lib.hid (HB3.out.trans (hb0.mono HB3.out.size))
      clear hb0 hs
      go_wp2_with fail
      refine (implParseFace_any s _).mono ?_
      rintro e w6 ⟨rfl, hb0⟩
      have HB6 := Lib.hid (HB5.out.trans (hb0.mono HB5.out.size))
      clear hb0
      have HRD := Lib.hid (rdF_spec s.data.toList)
      generalize rdF s.data.toList = m at *
      have hm : (∃ i : Nat, m = i ∧ fmtF (i : Nat) = s.data.toList) ∨ m = -1 := by
        rcases HRD.out with h | ⟨j, h1, _, h3⟩
        · exact Or.inr h
        · exact Or.inl ⟨j, h1, h3⟩
      clear HRD
      rcases hm with ⟨i, rfl, hm⟩ | rfl
      case' inl =>
        have HW := Lib.hid (implFormat_l (i : Nat) s.toList (by rw [hm, Lib.toList_data]))
        rw [parsed_nat]
        clear hm
        go_wp2_with fail
      case' inr =>
        rw [parsed_neg]
        go_wp2_with fail
      all_goals
        refine (drawAbilityName_any v l _ (RowAt.below HR.out HB6.out (Nat.le_refl _))).mono ?_
        rintro e w7 ⟨k, rfl, hk, hb0⟩
        have HB7 := Lib.hid (HB6.out.trans (hb0.mono HB6.out.size))
        clear hb0
        have hkk : abNI k = [] ∨ ∃ n : Fin 6, k = ((n : Nat) : Int) := by
          by_cases h : k < 0 ∨ 6 ≤ k
          · exact Or.inl (abNI_out h)
          · exact Or.inr ⟨⟨k.toNat, by omega⟩, by simp; omega⟩
        clear hk
      case' inl =>
        have hself : (s.toList == s.toList) = true := by simp
        go_wp2_with fail
        refine (HW.out _).mono ?_
        rintro e w8 ⟨rfl, hb0⟩
        have HB8 := Lib.hid (HB7.out.trans (hb0.mono HB7.out.size))
        clear hb0 HB7
      case' inr =>
        have HB8 := HB7
        clear HB7
      all_goals
        rcases hkk with hk | ⟨⟨n, hn⟩, rfl⟩
        · have HK := Lib.hid (implAbilityName_l k [] hk)
          clear hk
          go_wp2_with (first | (go_at_call 23; (with_reducible refine (HK.out _).mono ?_); rintro e w' ⟨rfl, rfl⟩))
          go_ret
          exact ⟨rfl, HB8.out⟩
        · have HK := Lib.hid (implAbilityName_l (n : Nat) _ (abNI_nat n))
          have HO := Lib.hid (implAbilityOf_l (abN n) _ (abOf_fin ⟨n, hn⟩))
          have hne := abN_ne ⟨n, hn⟩
          generalize abN n = L at *
          have h1 : L.isEmpty = false := by cases L with
            | nil => exact absurd rfl hne
            | cons a r => rfl
          have h2 : (L == []) = false := by cases L with
            | nil => exact absurd rfl hne
            | cons a r => rfl
          go_wp2_with (first | (go_at_call 23; (with_reducible refine (HK.out _).mono ?_); rintro e w' ⟨rfl, rfl⟩) | (go_at_call 24; (with_reducible refine (HO.out _).mono ?_); rintro e w' ⟨rfl, rfl⟩))
          go_ret
          exact ⟨rfl, HB8.out⟩
set_option maxRecDepth 100000 in
theorem fnFaceText_lifted (os : Os) (started : os.Started) (H : Type) (enc : TypeId × Value → H) :
    ReturnsInHanded {} Try.checked os 7 .any (Rows.fnFaceTextSpec.pre6 enc Try.prog Try.f7 Rows.fnFaceTextRow.domain false) (Rows.fnFaceTextSpec.post enc Try.prog Try.f7 false true false false) := by
  refine returnsInHanded_of_change (C := Try.checked) ownK started (by kernel_rfl) Try.func7
    (ChangeSpec.witness6 (enc := enc) (C := Try.checked) false ⟨#[], #[.slice none 0 0], []⟩ 8 (by kernel_rfl) (by kernel_rfl) (by kernel_rfl) (by kernel_rfl)) ?_
  intro W base args ds gs before hval0 hW _ _
  have hval : ∀ (j : Nat) t v, Try.f7.params[j]? = some t → args[j]? = some v → Value.okWide Try.prog W .any base t v := hval0
  have hW' := hW
  obtain ⟨p, q, hA0, _, rfl, _, _⟩ := hW
  have hA : DataW.TrodAll enc Try.prog W 0 (fun _ => true) true Try.f7.params.toList args.toList ds p := hA0
  rw [Try.params7] at hA hval
  obtain ⟨v0, vs0, d0, ds0, p0, q0, hargs, rfl, rfl, h0, r0⟩ := trodAll_cons hA
  obtain ⟨rfl, rfl, rfl⟩ := trodAll_nil r0
  obtain rfl : args = #[v0] := by cases args; simp_all
  obtain ⟨l0, w0⟩ := open_byteRow Try.underlying29 Try.underlying5 (by kernel_rfl) (hval 0 29 v0 rfl rfl) h0
  clear hA0 hval0
  refine (fnFaceText_any v0 l0 W w0).mono fun e W1 ⟨he, hb⟩ => ?_
  subst he
  exact ⟨_, rfl, law_post laidK rfl (by kernel_rfl) Try.underlying4 (by kernel_rfl) (fun ds h => by match ds, h with | [_], _ => rfl) hW' hb⟩
theorem fnFaceText_closed : joinedFacts Try.prog 7 Try.f7 Rows.fnFaceTextSpec Rows.fnFaceTextRow = true := by unfold joinedFacts; rw [mayEnter_k, liftsFinal_k, make_k]; kernel_rfl
theorem fnFaceText_holds : Rows.FnFaceTextSaid :=
  OpenClaim.holds_of_wide 7 Try.f7 rfl rfl rfl rfl rfl rfl rfl ⟨rfl, rfl, rfl, rfl, rfl⟩ rfl rfl rfl rfl rfl (by kernel_rfl) Try.func7 fnFaceText_closed
    (of_decide_eq_true (by kernel_rfl)) (by unfold Func.isWrapper; first | (rw [if_pos (by decide +kernel)]; kernel_rfl) | (rw [if_neg (by decide +kernel)]; exact ⟨rfl, rfl⟩))
    (fun os started H enc _ => fnFaceText_lifted os started H enc)
end Go.Proofs.Ytgbfpodimbkmdaa
