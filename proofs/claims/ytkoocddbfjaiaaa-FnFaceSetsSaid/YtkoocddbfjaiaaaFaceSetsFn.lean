/- FnFaceSets: offering, lacking, both, either and the counts of faces fit each other, at every code that is drawn from. No condition. -/
import Derived.Test.YtkoocddbfjaiaaaOffersFn
namespace Go.Proofs.Ytkoocddbfjaiaaa
set_option linter.unusedVariables false
open Go.ChangeShapes Go.WideShapes Go.ChangeAt Go.RowKit Go.WideMaps Go.WideElems
open Go.ChangeMaps (open_string shut_string)
theorem implBoth_x (a b r : Int) (h : bothF a b = r) (w : World) :
    Calls Try.prog 26 #[.int .i64 a, .int .i64 b] w fun e w' => e = .returned (.int .i64 r) ∧ w = w' := by subst h; exact implBoth_any a b w
theorem implEither_x (a b r : Int) (h : eitherF a b = r) (w : World) :
    Calls Try.prog 27 #[.int .i64 a, .int .i64 b] w fun e w' => e = .returned (.int .i64 r) ∧ w = w' := by subst h; exact implEither_any a b w
theorem implLacking_x (a b r : Int) (h : lackF a b = r) (w : World) :
    Calls Try.prog 28 #[.int .i64 a, .int .i64 b] w fun e w' => e = .returned (.int .i64 r) ∧ w = w' := by subst h; exact implLacking_any a b w
theorem implCount_x (f : Int) (n : Nat) (h : (abilL f).length = n) (w : World) :
    Calls Try.prog 29 #[.int .i64 f] w fun e w' => e = .returned (.int .i64 n) ∧ Below w.heap.size w w' := by subst h; exact implCount_any f w
set_option maxRecDepth 100000 in
set_option maxHeartbeats 16000000 in
theorem fnFaceSets_any (v : Value) (l : List UInt8) (w : World) (hR : RowAt w v (Lib.byteCells l)) :
    Calls Try.prog 6 #[v] w fun e w' => e = .returned (.bool true) ∧ Below w.heap.size w w' := by
  have HR := Lib.hid hR
  have HB := Lib.hid (big_any v l w hR)
  clear hR
  go_enter Try.func6, Try.ntmps6
  go_wp2_with fail
  refine HB.out.mono ?_
  rintro e w' ⟨rfl, rfl⟩
  by_cases hbig : 4096 < l.length
  · go_wp2_with fail
    go_ret
    exact ⟨rfl, Below.refl _ _⟩
  · have hd : decide (4096 < l.length) = false := by simpa using hbig
    clear hbig
    rw [hd]
    go_wp2_with fail
    refine (drawBothFaces_any v l w HR.out).mono ?_
    rintro e w1 ⟨a, b, rfl, ha, hb, hb0⟩
    have HB1 := Lib.hid (hb0)
    clear hb0
    go_wp2_with fail
    refine (drawCountFace_any v l w1 (RowAt.below HR.out HB1.out (Nat.le_refl _))).mono ?_
    rintro e w2 ⟨f, rfl, hf, hb0⟩
    have HB2 := Lib.hid (HB1.out.trans (hb0.mono HB1.out.size))
    clear hb0
    clear ha hb hf hd
    cases ha : isF a
    case false =>
      have HA := Lib.hid (implIsFace_b a false ha)
      have SA := Lib.hid (specIsFace_b a false ha)
      clear ha
      go_wp2_with (first | (go_at_call 22; (with_reducible refine (HA.out _).mono ?_); rintro e w' ⟨rfl, rfl⟩) | (go_at_call 23; (with_reducible refine (SA.out _).mono ?_); rintro e w' ⟨rfl, rfl⟩))
      go_ret
      exact ⟨rfl, HB2.out⟩
    case true =>
      cases hb : isF b
      case false =>
        have HA := Lib.hid (implIsFace_b a true ha)
        have SA := Lib.hid (specIsFace_b a true ha)
        have HBf := Lib.hid (implIsFace_b b false hb)
        clear ha hb
        go_wp2_with (first | (go_at_call 22; (with_reducible refine (HA.out _).mono ?_); rintro e w' ⟨rfl, rfl⟩) | (go_at_call 22; (with_reducible refine (HBf.out _).mono ?_); rintro e w' ⟨rfl, rfl⟩) | (go_at_call 23; (with_reducible refine (SA.out _).mono ?_); rintro e w' ⟨rfl, rfl⟩))
        go_ret
        exact ⟨rfl, HB2.out⟩
      case true =>
        cases hf : isF f
        case false =>
          have HA := Lib.hid (implIsFace_b a true ha)
          have SA := Lib.hid (specIsFace_b a true ha)
          have HBf := Lib.hid (implIsFace_b b true hb)
          have HF := Lib.hid (implIsFace_b f false hf)
          clear ha hb hf
          go_wp2_with (first | (go_at_call 22; (with_reducible refine (HA.out _).mono ?_); rintro e w' ⟨rfl, rfl⟩) | (go_at_call 22; (with_reducible refine (HBf.out _).mono ?_); rintro e w' ⟨rfl, rfl⟩) | (go_at_call 22; (with_reducible refine (HF.out _).mono ?_); rintro e w' ⟨rfl, rfl⟩) | (go_at_call 23; (with_reducible refine (SA.out _).mono ?_); rintro e w' ⟨rfl, rfl⟩))
          go_ret
          exact ⟨rfl, HB2.out⟩
        case true =>
          have HA := Lib.hid (implIsFace_b a true ha)
          have SA := Lib.hid (specIsFace_b a true ha)
          have HBf := Lib.hid (implIsFace_b b true hb)
          have HF := Lib.hid (implIsFace_b f true hf)
          have e1 := offers_lack ha hb
          have e2 := offers_both ha hb hf
          have e3 := offers_either ha hb hf
          have e4 := count_eq ha hb
          have e5 := back_both ha hb
          have e6 := both_lack ha hb
          have n1 := abilL_len (eitherF a b)
          have n2 := abilL_len (bothF a b)
          have n3 := abilL_len a
          have n4 := abilL_len b
          have KB := Lib.hid (implBoth_x a b _ rfl)
          have KE := Lib.hid (implEither_x a b _ rfl)
          have KL := Lib.hid (implLacking_x a b _ rfl)
          have KM := Lib.hid (implLacking_x b a _ rfl)
          have KN := Lib.hid (implEither_x (bothF a b) (lackF b a) _ e5)
          have KO := Lib.hid (implBoth_x b (lackF b a) _ e6)
          have C1 := Lib.hid (implCount_x (eitherF a b) _ rfl)
          have C2 := Lib.hid (implCount_x (bothF a b) _ rfl)
          have C3 := Lib.hid (implCount_x a _ rfl)
          have C4 := Lib.hid (implCount_x b _ rfl)
          clear ha hb hf e5 e6
          generalize lackF a b = z at *
          generalize lackF b a = u at *
          generalize bothF a b = p at *
          generalize eitherF a b = q at *
          generalize (abilL q).length = m1 at *
          generalize (abilL p).length = m2 at *
          generalize (abilL a).length = m3 at *
          generalize (abilL b).length = m4 at *
          have hsum : (((m1 : Nat) : Int) + m2 != m3 + m4) = false := by rw [bne_eq_false_iff_eq]; omega
          have HS := Lib.hid hsum
          clear hsum e4
          cases hx : offersF a b
          all_goals
            have hz : (z == 0) = _ := (e1.symm.trans hx)
            have HX := Lib.hid (implOffers_b a b _ hx)
            clear hx
            cases y1 : offersF a f
            all_goals
              cases y2 : offersF b f
              all_goals
                have Y1 := Lib.hid (implOffers_b a f _ y1)
                have Y2 := Lib.hid (implOffers_b b f _ y2)
                rw [y1, y2] at e2
                have Y3 := Lib.hid (implOffers_b p f _ e2)
                clear y1 y2
                cases z1 : offersF f a
                all_goals
                  cases z2 : offersF f b
                  all_goals
                    have Z1 := Lib.hid (implOffers_b f a _ z1)
                    have Z2 := Lib.hid (implOffers_b f b _ z2)
                    have e3' := e3
                    rw [z1, z2] at e3'
                    have Z3 := Lib.hid (implOffers_b f q _ e3')
                    have E1 := Lib.hid e1
                    clear z1 z2 e3 e3' e2 e1
                    go_wp2_with (first | (go_at_call 22; (with_reducible refine (HA.out _).mono ?_); rintro e w' ⟨rfl, rfl⟩) | (go_at_call 22; (with_reducible refine (HBf.out _).mono ?_); rintro e w' ⟨rfl, rfl⟩) | (go_at_call 22; (with_reducible refine (HF.out _).mono ?_); rintro e w' ⟨rfl, rfl⟩) | (go_at_call 23; (with_reducible refine (SA.out _).mono ?_); rintro e w' ⟨rfl, rfl⟩) | (go_at_call 26; (with_reducible refine (KB.out _).mono ?_); rintro e w' ⟨rfl, rfl⟩) | (go_at_call 27; (with_reducible refine (KE.out _).mono ?_); rintro e w' ⟨rfl, rfl⟩) | (go_at_call 28; (with_reducible refine (KL.out _).mono ?_); rintro e w' ⟨rfl, rfl⟩) | (go_at_call 24; (with_reducible refine (HX.out _).mono ?_); rintro e w' ⟨rfl, rfl⟩) | (go_at_call 24; (with_reducible refine (Y1.out _).mono ?_); rintro e w' ⟨rfl, rfl⟩) | (go_at_call 24; (with_reducible refine (Y2.out _).mono ?_); rintro e w' ⟨rfl, rfl⟩) | (go_at_call 24; (with_reducible refine (Y3.out _).mono ?_); rintro e w' ⟨rfl, rfl⟩) | (go_at_call 24; (with_reducible refine (Z1.out _).mono ?_); rintro e w' ⟨rfl, rfl⟩) | (go_at_call 24; (with_reducible refine (Z2.out _).mono ?_); rintro e w' ⟨rfl, rfl⟩) | (go_at_call 24; (with_reducible refine (Z3.out _).mono ?_); rintro e w' ⟨rfl, rfl⟩))
                    go_wp2_with fail
                    refine (C1.out w2).mono ?_
                    rintro e w3 ⟨rfl, hb0⟩
                    have HB3 := Lib.hid (HB2.out.trans (hb0.mono HB2.out.size))
                    clear hb0
                    go_wp2_with fail
                    refine (C2.out w3).mono ?_
                    rintro e w4 ⟨rfl, hb0⟩
                    have HB4 := Lib.hid (HB3.out.trans (hb0.mono HB3.out.size))
                    clear hb0
                    go_wp2_with fail
                    refine (C3.out w4).mono ?_
                    rintro e w5 ⟨rfl, hb0⟩
                    have HB5 := Lib.hid (HB4.out.trans (hb0.mono HB4.out.size))
                    clear hb0
                    go_wp2_with fail
                    refine (C4.out w5).mono ?_
                    rintro e w6 ⟨rfl, hb0⟩
                    have HB6 := Lib.hid (HB5.out.trans (hb0.mono HB5.out.size))
                    clear hb0
                    have hsum := HS.out
                    go_wp2_with (first | (go_at_call 28; (with_reducible refine (KM.out _).mono ?_); rintro e w' ⟨rfl, rfl⟩) | (go_at_call 27; (with_reducible refine (KN.out _).mono ?_); rintro e w' ⟨rfl, rfl⟩) | (go_at_call 26; (with_reducible refine (KO.out _).mono ?_); rintro e w' ⟨rfl, rfl⟩))
                    go_ret
                    exact ⟨rfl, HB6.out⟩
set_option maxRecDepth 100000 in
theorem fnFaceSets_lifted (os : Os) (started : os.Started) (H : Type) (enc : TypeId × Value → H) :
    ReturnsInHanded {} Try.checked os 6 .any (Rows.fnFaceSetsSpec.pre6 enc Try.prog Try.f6 Rows.fnFaceSetsRow.domain false) (Rows.fnFaceSetsSpec.post enc Try.prog Try.f6 false true false false) := by
  refine returnsInHanded_of_change (C := Try.checked) ownK started (by kernel_rfl) Try.func6
    (ChangeSpec.witness6 (enc := enc) (C := Try.checked) false ⟨#[], #[.slice none 0 0], []⟩ 8 (by kernel_rfl) (by kernel_rfl) (by kernel_rfl) (by kernel_rfl)) ?_
  intro W base args ds gs before hval0 hW _ _
  have hval : ∀ (j : Nat) t v, Try.f6.params[j]? = some t → args[j]? = some v → Value.okWide Try.prog W .any base t v := hval0
  have hW' := hW
  obtain ⟨p, q, hA0, _, rfl, _, _⟩ := hW
  have hA : DataW.TrodAll enc Try.prog W 0 (fun _ => true) true Try.f6.params.toList args.toList ds p := hA0
  rw [Try.params6] at hA hval
  obtain ⟨v0, vs0, d0, ds0, p0, q0, hargs, rfl, rfl, h0, r0⟩ := trodAll_cons hA
  obtain ⟨rfl, rfl, rfl⟩ := trodAll_nil r0
  obtain rfl : args = #[v0] := by cases args; simp_all
  obtain ⟨l0, w0⟩ := open_byteRow Try.underlying31 Try.underlying5 (by kernel_rfl) (hval 0 31 v0 rfl rfl) h0
  clear hA0 hval0
  refine (fnFaceSets_any v0 l0 W w0).mono fun e W1 ⟨he, hb⟩ => ?_
  subst he
  exact ⟨_, rfl, law_post laidK rfl (by kernel_rfl) Try.underlying4 (by kernel_rfl) (fun ds h => by match ds, h with | [_], _ => rfl) hW' hb⟩
theorem fnFaceSets_closed : joinedFacts Try.prog 6 Try.f6 Rows.fnFaceSetsSpec Rows.fnFaceSetsRow = true := by unfold joinedFacts; rw [mayEnter_k, liftsFinal_k, make_k]; kernel_rfl
theorem fnFaceSets_holds : Rows.FnFaceSetsSaid :=
  OpenClaim.holds_of_wide 6 Try.f6 rfl rfl rfl rfl rfl rfl rfl ⟨rfl, rfl, rfl, rfl, rfl⟩ rfl rfl rfl rfl rfl (by kernel_rfl) Try.func6 fnFaceSets_closed
    (of_decide_eq_true (by kernel_rfl)) (by unfold Func.isWrapper; first | (rw [if_pos (by decide +kernel)]; kernel_rfl) | (rw [if_neg (by decide +kernel)]; exact ⟨rfl, rfl⟩))
    (fun os started H enc _ => fnFaceSets_lifted os started H enc)
end Go.Proofs.Ytkoocddbfjaiaaa
