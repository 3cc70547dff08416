/- FnOffers: to offer is an order of faces, at every code that is drawn from. No condition. -/
import Derived.Test.YtkoocddbfjaiaaaDraw2
import Derived.Test.YtkoocddbfjaiaaaFaceQ
import Derived.Test.YtkoocddbfjaiaaaLaw
namespace Go.Proofs.Ytkoocddbfjaiaaa
set_option linter.unusedVariables false
open Go.ChangeShapes Go.WideShapes Go.ChangeAt Go.RowKit Go.WideMaps Go.WideElems
open Go.ChangeMaps (open_string shut_string)
theorem implOffers_b (f want : Int) (x : Bool) (h : offersF f want = x) (w : World) :
    Calls Try.prog 24 #[.int .i64 f, .int .i64 want] w fun e w' => e = .returned (.bool x) ∧ w = w' := by subst h; exact implOffers_any f want w
theorem offersF_faces {f want : Int} (h : offersF f want = true) : isF f = true ∧ isF want = true := by
  unfold offersF at h; simp only [Bool.and_eq_true] at h; exact h.1
set_option maxRecDepth 100000 in
set_option maxHeartbeats 4000000 in
theorem fnOffers_any (v : Value) (l : List UInt8) (w : World) (hR : RowAt w v (Lib.byteCells l)) :
    Calls Try.prog 5 #[v] w fun e w' => e = .returned (.bool true) ∧ Below w.heap.size w w' := by
  have HR := Lib.hid hR
  have HB := Lib.hid (big_any v l w hR)
  clear hR
  go_enter Try.func5, Try.ntmps5
  go_wp2_with fail
  refine HB.out.mono ?_
  rintro e w' ⟨rfl, rfl⟩
  by_cases hbig : 4096 < l.length
  · go_wp2_with fail
    go_ret
    exact ⟨rfl, Below.refl _ _⟩
  · have hd : decide (4096 < l.length) = false := by simpa using hbig
    clear hbig
    rw [hd]
    go_wp2_with fail
    refine (drawOffers_any v l w HR.out).mono ?_
    rintro e w1 ⟨a, b, rfl, ha, hb, hb0⟩
    have HB1 := Lib.hid (hb0)
    clear hb0
    go_wp2_with fail
    refine (drawCountFace_any v l w1 (RowAt.below HR.out HB1.out (Nat.le_refl _))).mono ?_
    rintro e w2 ⟨f, rfl, hf, hb0⟩
    have HB2 := Lib.hid (HB1.out.trans (hb0.mono HB1.out.size))
    clear hb0
    clear ha hb hf hd
    cases ha : isF a
    case false =>
      have HX := Lib.hid (implOffers_b a b false (offersF_not (Or.inl ha)))
      have HA := Lib.hid (implIsFace_b a false ha)
      have SA := Lib.hid (specIsFace_b a false ha)
      clear ha
      go_wp2_with (first | (go_at_call 22; (with_reducible refine (HA.out _).mono ?_); rintro e w' ⟨rfl, rfl⟩) | (go_at_call 23; (with_reducible refine (SA.out _).mono ?_); rintro e w' ⟨rfl, rfl⟩) | (go_at_call 24; (with_reducible refine (HX.out _).mono ?_); rintro e w' ⟨rfl, rfl⟩))
      go_ret
      exact ⟨rfl, HB2.out⟩
    case true =>
      cases hb : isF b
      case false =>
        have HX := Lib.hid (implOffers_b a b false (offersF_not (Or.inr hb)))
        have HA := Lib.hid (implIsFace_b a true ha)
        have SA := Lib.hid (specIsFace_b a true ha)
        have HBf := Lib.hid (implIsFace_b b false hb)
        clear ha hb
        go_wp2_with (first | (go_at_call 22; (with_reducible refine (HA.out _).mono ?_); rintro e w' ⟨rfl, rfl⟩) | (go_at_call 22; (with_reducible refine (HBf.out _).mono ?_); rintro e w' ⟨rfl, rfl⟩) | (go_at_call 23; (with_reducible refine (SA.out _).mono ?_); rintro e w' ⟨rfl, rfl⟩) | (go_at_call 24; (with_reducible refine (HX.out _).mono ?_); rintro e w' ⟨rfl, rfl⟩))
        go_ret
        exact ⟨rfl, HB2.out⟩
      case true =>
        cases hf : isF f
        case false =>
          have HA := Lib.hid (implIsFace_b a true ha)
          have SA := Lib.hid (specIsFace_b a true ha)
          have HBf := Lib.hid (implIsFace_b b true hb)
          have HF := Lib.hid (implIsFace_b f false hf)
          clear ha hb hf
          cases hx : offersF a b
          all_goals
            have HX := Lib.hid (implOffers_b a b _ hx)
            clear hx
            go_wp2_with (first | (go_at_call 22; (with_reducible refine (HA.out _).mono ?_); rintro e w' ⟨rfl, rfl⟩) | (go_at_call 22; (with_reducible refine (HBf.out _).mono ?_); rintro e w' ⟨rfl, rfl⟩) | (go_at_call 22; (with_reducible refine (HF.out _).mono ?_); rintro e w' ⟨rfl, rfl⟩) | (go_at_call 23; (with_reducible refine (SA.out _).mono ?_); rintro e w' ⟨rfl, rfl⟩) | (go_at_call 24; (with_reducible refine (HX.out _).mono ?_); rintro e w' ⟨rfl, rfl⟩))
            go_ret
            exact ⟨rfl, HB2.out⟩
        case true =>
          have HA := Lib.hid (implIsFace_b a true ha)
          have SA := Lib.hid (specIsFace_b a true ha)
          have HBf := Lib.hid (implIsFace_b b true hb)
          have HF := Lib.hid (implIsFace_b f true hf)
          have OA := Lib.hid (implOffers_b a a true (offers_refl ha))
          have OZ := Lib.hid (implOffers_b a 0 true (zero_offered ha))
          have OM := Lib.hid (implOffers_b 63 a true (all_offers ha))
          have HT := Lib.hid (@offers_trans a b f ha hb hf)
          have HN := Lib.hid (@offers_anti a b ha hb)
          clear ha hb hf
          cases hx : offersF a b
          case false =>
            have HX := Lib.hid (implOffers_b a b _ hx)
            clear hx HT HN
            go_wp2_with (first | (go_at_call 22; (with_reducible refine (HA.out _).mono ?_); rintro e w' ⟨rfl, rfl⟩) | (go_at_call 22; (with_reducible refine (HBf.out _).mono ?_); rintro e w' ⟨rfl, rfl⟩) | (go_at_call 22; (with_reducible refine (HF.out _).mono ?_); rintro e w' ⟨rfl, rfl⟩) | (go_at_call 23; (with_reducible refine (SA.out _).mono ?_); rintro e w' ⟨rfl, rfl⟩) | (go_at_call 24; (with_reducible refine (OA.out _).mono ?_); rintro e w' ⟨rfl, rfl⟩) | (go_at_call 24; (with_reducible refine (OZ.out _).mono ?_); rintro e w' ⟨rfl, rfl⟩) | (go_at_call 24; (with_reducible refine (OM.out _).mono ?_); rintro e w' ⟨rfl, rfl⟩) | (go_at_call 24; (with_reducible refine (HX.out _).mono ?_); rintro e w' ⟨rfl, rfl⟩))
            go_ret
            exact ⟨rfl, HB2.out⟩
          case true =>
            cases hy : offersF b a
            all_goals
              cases hz : offersF b f
              all_goals
                cases hu : offersF a f
                all_goals
                  first
                    | (exfalso; have := HT.out hx hz; rw [hu] at this; cases this; done)
                    | (have hne : (a != b) = !(offersF b a) ∨ offersF b a = false := by
                         rw [hy]
                         first
                           | exact Or.inr rfl
                           | (left; have h := HN.out hx hy; subst h; simp)
                       rw [hy] at hne
                       have HX := Lib.hid (implOffers_b a b _ hx)
                       have HY := Lib.hid (implOffers_b b a _ hy)
                       have HZ := Lib.hid (implOffers_b b f _ hz)
                       have HU := Lib.hid (implOffers_b a f _ hu)
                       have HNE := Lib.hid hne
                       clear hx hy hz hu HT HN hne
                       first
                         | (have hne : (a != b) = false := by rcases HNE.out with h | h <;> first | exact h | cases h
                            clear HNE
                            go_wp2_with (first | (go_at_call 22; (with_reducible refine (HA.out _).mono ?_); rintro e w' ⟨rfl, rfl⟩) | (go_at_call 22; (with_reducible refine (HBf.out _).mono ?_); rintro e w' ⟨rfl, rfl⟩) | (go_at_call 22; (with_reducible refine (HF.out _).mono ?_); rintro e w' ⟨rfl, rfl⟩) | (go_at_call 23; (with_reducible refine (SA.out _).mono ?_); rintro e w' ⟨rfl, rfl⟩) | (go_at_call 24; (with_reducible refine (OA.out _).mono ?_); rintro e w' ⟨rfl, rfl⟩) | (go_at_call 24; (with_reducible refine (OZ.out _).mono ?_); rintro e w' ⟨rfl, rfl⟩) | (go_at_call 24; (with_reducible refine (OM.out _).mono ?_); rintro e w' ⟨rfl, rfl⟩) | (go_at_call 24; (with_reducible refine (HX.out _).mono ?_); rintro e w' ⟨rfl, rfl⟩) | (go_at_call 24; (with_reducible refine (HY.out _).mono ?_); rintro e w' ⟨rfl, rfl⟩) | (go_at_call 24; (with_reducible refine (HZ.out _).mono ?_); rintro e w' ⟨rfl, rfl⟩) | (go_at_call 24; (with_reducible refine (HU.out _).mono ?_); rintro e w' ⟨rfl, rfl⟩))
                            go_ret
                            exact ⟨rfl, HB2.out⟩)
                         | (clear HNE
                            go_wp2_with (first | (go_at_call 22; (with_reducible refine (HA.out _).mono ?_); rintro e w' ⟨rfl, rfl⟩) | (go_at_call 22; (with_reducible refine (HBf.out _).mono ?_); rintro e w' ⟨rfl, rfl⟩) | (go_at_call 22; (with_reducible refine (HF.out _).mono ?_); rintro e w' ⟨rfl, rfl⟩) | (go_at_call 23; (with_reducible refine (SA.out _).mono ?_); rintro e w' ⟨rfl, rfl⟩) | (go_at_call 24; (with_reducible refine (OA.out _).mono ?_); rintro e w' ⟨rfl, rfl⟩) | (go_at_call 24; (with_reducible refine (OZ.out _).mono ?_); rintro e w' ⟨rfl, rfl⟩) | (go_at_call 24; (with_reducible refine (OM.out _).mono ?_); rintro e w' ⟨rfl, rfl⟩) | (go_at_call 24; (with_reducible refine (HX.out _).mono ?_); rintro e w' ⟨rfl, rfl⟩) | (go_at_call 24; (with_reducible refine (HY.out _).mono ?_); rintro e w' ⟨rfl, rfl⟩) | (go_at_call 24; (with_reducible refine (HZ.out _).mono ?_); rintro e w' ⟨rfl, rfl⟩) | (go_at_call 24; (with_reducible refine (HU.out _).mono ?_); rintro e w' ⟨rfl, rfl⟩))
                            go_ret
                            exact ⟨rfl, HB2.out⟩))
set_option maxRecDepth 100000 in
theorem fnOffers_lifted (os : Os) (started : os.Started) (H : Type) (enc : TypeId × Value → H) :
    ReturnsInHanded {} Try.checked os 5 .any (Rows.fnOffersSpec.pre6 enc Try.prog Try.f5 Rows.fnOffersRow.domain false) (Rows.fnOffersSpec.post enc Try.prog Try.f5 false true false false) := by
  refine returnsInHanded_of_change (C := Try.checked) ownK started (by kernel_rfl) Try.func5
    (ChangeSpec.witness6 (enc := enc) (C := Try.checked) false ⟨#[], #[.slice none 0 0], []⟩ 8 (by kernel_rfl) (by kernel_rfl) (by kernel_rfl) (by kernel_rfl)) ?_
  intro W base args ds gs before hval0 hW _ _
  have hval : ∀ (j : Nat) t v, Try.f5.params[j]? = some t → args[j]? = some v → Value.okWide Try.prog W .any base t v := hval0
  have hW' := hW
  obtain ⟨p, q, hA0, _, rfl, _, _⟩ := hW
  have hA : DataW.TrodAll enc Try.prog W 0 (fun _ => true) true Try.f5.params.toList args.toList ds p := hA0
  rw [Try.params5] at hA hval
  obtain ⟨v0, vs0, d0, ds0, p0, q0, hargs, rfl, rfl, h0, r0⟩ := trodAll_cons hA
  obtain ⟨rfl, rfl, rfl⟩ := trodAll_nil r0
  obtain rfl : args = #[v0] := by cases args; simp_all
  obtain ⟨l0, w0⟩ := open_byteRow Try.underlying31 Try.underlying5 (by kernel_rfl) (hval 0 31 v0 rfl rfl) h0
  clear hA0 hval0
  refine (fnOffers_any v0 l0 W w0).mono fun e W1 ⟨he, hb⟩ => ?_
  subst he
  exact ⟨_, rfl, law_post laidK rfl (by kernel_rfl) Try.underlying4 (by kernel_rfl) (fun ds h => by match ds, h with | [_], _ => rfl) hW' hb⟩
theorem fnOffers_closed : joinedFacts Try.prog 5 Try.f5 Rows.fnOffersSpec Rows.fnOffersRow = true := by unfold joinedFacts; rw [mayEnter_k, liftsFinal_k, make_k]; kernel_rfl
theorem fnOffers_holds : Rows.FnOffersSaid :=
  OpenClaim.holds_of_wide 5 Try.f5 rfl rfl rfl rfl rfl rfl rfl ⟨rfl, rfl, rfl, rfl, rfl⟩ rfl rfl rfl rfl rfl (by kernel_rfl) Try.func5 fnOffers_closed
    (of_decide_eq_true (by kernel_rfl)) (by unfold Func.isWrapper; first | (rw [if_pos (by decide +kernel)]; kernel_rfl) | (rw [if_neg (by decide +kernel)]; exact ⟨rfl, rfl⟩))
    (fun os started H enc _ => fnOffers_lifted os started H enc)
end Go.Proofs.Ytkoocddbfjaiaaa
