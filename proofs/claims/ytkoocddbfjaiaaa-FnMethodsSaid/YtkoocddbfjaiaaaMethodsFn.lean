/- FnMethods: the face of the methods of a face is this face, and a face offers another one exactly if it has all of its methods, at every code that is drawn from. No condition. -/
import Derived.Test.YtkoocddbfjaiaaaOffersFn
import Derived.Test.YtkoocddbfjaiaaaFace9
import Derived.Test.YtkoocddbfjaiaaaFace5
namespace Go.Proofs.Ytkoocddbfjaiaaa
set_option linter.unusedVariables false
open Go.ChangeShapes Go.WideShapes Go.ChangeAt Go.RowKit Go.WideMaps Go.WideElems
open Go.ChangeMaps (open_string shut_string)
theorem implAbM_l (l : List UInt8) (n : Int) (h : abOfM l = n) (w : World) :
    Calls Try.prog 31 #[.string ⟨l.toArray⟩] w fun e w' => e = .returned (.int .i64 n) ∧ Below w.heap.size w w' := by
  have := implAbilityOfMethod_any ⟨l.toArray⟩ w
  rw [show (⟨l.toArray⟩ : ByteArray).data.toList = l by simp, h] at this
  exact this
theorem has_l (v : Value) (x : List (List UInt8)) (l : List UInt8) (q : Bool) (h : decide (l ∈ x) = q) (w : World) (hR : RowAt w v (x.map strV)) :
    Calls Try.prog 30 #[v, .string ⟨l.toArray⟩] w fun e w' => e = .returned (.bool q) ∧ w = w' := by
  refine (has_any v x ⟨l.toArray⟩ w hR).mono ?_
  rintro e w' ⟨rfl, rfl⟩
  exact ⟨by rw [show (⟨l.toArray⟩ : ByteArray).data.toList = l by simp, h], rfl⟩
theorem asc_short {f : Int} : (ascL (methsF f)).length ≤ 12 := by
  have h1 := asc_len (methsF f)
  have h2 := meths_len (abilL f)
  have h3 := abilL_len f
  unfold methsF at *; omega
set_option maxRecDepth 100000 in
set_option maxHeartbeats 8000000 in
theorem fnMethods_any (v : Value) (l : List UInt8) (w : World) (hR : RowAt w v (Lib.byteCells l)) :
    Calls Try.prog 7 #[v] w fun e w' => e = .returned (.bool true) ∧ Below w.heap.size w w' := by
  have HR := Lib.hid hR
  have HB := Lib.hid (big_any v l w hR)
  clear hR
  go_enter Try.func7, Try.ntmps7
  go_wp2_with fail
  refine HB.out.mono ?_
  rintro e w' ⟨rfl, rfl⟩
  by_cases hbig : 4096 < l.length
  · go_wp2_with fail
    go_ret
    exact ⟨rfl, Below.refl _ _⟩
  · have hd : decide (4096 < l.length) = false := by simpa using hbig
    clear hbig
    rw [hd]
    go_wp2_with fail
    refine (drawOffers_any v l w HR.out).mono ?_
    rintro e w1 ⟨a, b, rfl, ha, hb, hb0⟩
    have HB1 := Lib.hid (hb0)
    clear hb0
    clear ha hb hd
    have hno : isF a = false → ascL (methsF a) = [] := fun h => by rw [meths_no h]; rfl
    cases ha : isF a
    case false =>
      have HA := Lib.hid (implIsFace_b a false ha)
      have SA := Lib.hid (specIsFace_b a false ha)
      have HM := Lib.hid (implMethodsOf_any a)
      rw [hno ha] at HM
      clear ha hno
      go_wp2_with (first | (go_at_call 22; (with_reducible refine (HA.out _).mono ?_); rintro e w' ⟨rfl, rfl⟩) | (go_at_call 23; (with_reducible refine (SA.out _).mono ?_); rintro e w' ⟨rfl, rfl⟩))
      refine (HM.out _).mono ?_
      rintro e w2 ⟨u, rfl, ho, hb0⟩
      have HB2 := Lib.hid (HB1.out.trans (hb0.mono HB1.out.size))
      obtain ⟨a2, c2, rfl, _⟩ := rowAt_len (owns_row ho (by simp))
      clear hb0 ho
      simp only [List.map_nil, List.length_nil]
      go_wp2_with fail
      go_ret
      exact ⟨rfl, HB2.out⟩
    case true =>
      clear hno
      cases hb : isF b
      case false =>
        have HA := Lib.hid (implIsFace_b a true ha)
        have SA := Lib.hid (specIsFace_b a true ha)
        have HBf := Lib.hid (implIsFace_b b false hb)
        have hsh := @asc_short a
        have HM := Lib.hid (implMethodsOf_any a)
        generalize ascL (methsF a) = L at *
        clear ha hb
        go_wp2_with (first | (go_at_call 22; (with_reducible refine (HA.out _).mono ?_); rintro e w' ⟨rfl, rfl⟩) | (go_at_call 22; (with_reducible refine (HBf.out _).mono ?_); rintro e w' ⟨rfl, rfl⟩) | (go_at_call 23; (with_reducible refine (SA.out _).mono ?_); rintro e w' ⟨rfl, rfl⟩))
        refine (HM.out _).mono ?_
        rintro e w2 ⟨u, rfl, ho, hb0⟩
        have HB2 := Lib.hid (HB1.out.trans (hb0.mono HB1.out.size))
        obtain ⟨a2, c2, rfl, _⟩ := rowAt_len (owns_row ho (by omega))
        clear hb0 ho
        rw [List.length_map]
        by_cases h0 : L.length = 0
        · rw [h0]
          go_wp2_with fail
          go_ret
          exact ⟨rfl, HB2.out⟩
        · have hne : ((L.length : Int) == 0) = false := beq_eq_false_iff_ne.2 (by omega)
          clear h0
          go_wp2_with (first | (go_at_call 22; (with_reducible refine (HA.out _).mono ?_); rintro e w' ⟨rfl, rfl⟩))
          go_ret
          exact ⟨rfl, HB2.out⟩
      case true =>
        have HA := Lib.hid (implIsFace_b a true ha)
        have SA := Lib.hid (specIsFace_b a true ha)
        have HBf := Lib.hid (implIsFace_b b true hb)
        have hshA := @asc_short a
        have hshB := @asc_short b
        have HMa := Lib.hid (implMethodsOf_any a)
        have HMb := Lib.hid (implMethodsOf_any b)
        have HFA := Lib.hid (faceM_asc ha)
        have HOF := Lib.hid (offers_meths ha hb)
        have HK := Lib.hid (fun s => @meth_offered b hb s)
        generalize ascL (methsF a) = L at *
        generalize ascL (methsF b) = M at *
        clear ha hb
        go_wp2_with (first | (go_at_call 22; (with_reducible refine (HA.out _).mono ?_); rintro e w' ⟨rfl, rfl⟩) | (go_at_call 22; (with_reducible refine (HBf.out _).mono ?_); rintro e w' ⟨rfl, rfl⟩) | (go_at_call 23; (with_reducible refine (SA.out _).mono ?_); rintro e w' ⟨rfl, rfl⟩))
        refine (HMa.out _).mono ?_
        rintro e w2 ⟨u, rfl, ho, hb0⟩
        have HB2 := Lib.hid (HB1.out.trans (hb0.mono HB1.out.size))
        have RL := Lib.hid (owns_row ho (by omega))
        clear hb0 ho
        go_wp2_with fail
        refine (HMb.out _).mono ?_
        rintro e w3 ⟨u2, rfl, ho, hb0⟩
        have HB3 := Lib.hid (HB2.out.trans (hb0.mono HB2.out.size))
        have RL3 := Lib.hid (RowAt.below RL.out hb0 (Nat.le_refl _))
        have RM3 := Lib.hid (owns_row ho (by omega))
        obtain ⟨a2, c2, rfl, _⟩ := rowAt_len RM3.out
        rw [List.length_map] at *
        clear hb0 ho HMa HMb
        go_wp2_with fail
        go_loopw [7, 8] (fun av i wr => ∃ j : Nat, j ≤ M.length ∧ i = .int .i64 j ∧ av = .bool ((M.take j).all fun s => decide (s ∈ L)) ∧ Below w3.heap.size w3 wr) (fun _ i _ => M.length - (intOf i).toNat)
        case atStart => exact ⟨0, Nat.zero_le _, rfl, rfl, Below.refl _ _⟩
        case round =>
          obtain ⟨j, hj, rfl, rfl, hbr⟩ := hrel
          have HBr := Lib.hid hbr
          have RLr := Lib.hid (RowAt.below RL3.out hbr (Nat.le_refl _))
          have RMr := Lib.hid (RowAt.below RM3.out hbr (Nat.le_refl _))
          clear hbr
          by_cases hlt : j < M.length
          · obtain ⟨bb, o, rfl, hbw, d1⟩ := rowAt_cell RMr.out j (by simpa using hlt)
            rw [getElem_map_strV] at d1
            unfold strV at d1
            obtain ⟨k, hk, hak, hok⟩ := HK.out _ (List.getElem_mem hlt)
            rw [← pow_of k hk] at hok
            have HAB := Lib.hid (implAbM_l M[j] _ hak)
            have HOK := Lib.hid (implOffers_b b _ true hok)
            have HS := Lib.hid (show ((M.take (j + 1)).all fun s => decide (s ∈ L)) = (((M.take j).all fun s => decide (s ∈ L)) && decide (M[j] ∈ L)) by rw [List.take_succ_eq_append_getElem hlt, List.all_append]; simp)
            have HH := Lib.hid (has_l u L M[j] _ rfl wr RLr.out)
            clear hak hok
            generalize ((M.take j).all fun s => decide (s ∈ L)) = p at *
            generalize decide (M[j] ∈ L) = q at *
            cases p
            all_goals
              go_wp2_with (go_at_call 30; (with_reducible refine HH.out.mono ?_); rintro e w' ⟨rfl, rfl⟩)
              refine (HAB.out _).mono ?_
              rintro e w4 ⟨rfl, hb0⟩
              have d2 : w4.cell? ⟨bb, o + j, none⟩ = some (.string ⟨M[j].toArray⟩) := by rw [hb0.cell (p := ⟨bb, o + j, none⟩) hbw]; exact d1
              have HB4 := Lib.hid (HBr.out.trans (hb0.mono HBr.out.size))
              clear hb0
              go_wp2_with fail
              refine (HAB.out _).mono ?_
              rintro e w5 ⟨rfl, hb0⟩
              have HB5 := Lib.hid (HB4.out.trans (hb0.mono HB4.out.size))
              clear hb0
              go_wp2_with fail
              refine (HOK.out _).mono ?_
              rintro e w' ⟨rfl, rfl⟩
              go_wp2_with fail
              exact ⟨⟨j + 1, by omega, by go_num, by rw [HS.out]; rfl, HB5.out⟩, by simp [intOf]; omega⟩
          · have HN := Lib.hid (show (M.take j).all (fun s => decide (s ∈ L)) = offersF a b by rw [HOF.out, List.take_of_length_le (by omega)])
            have HFM := Lib.hid (implFaceOfM_any u L wr RLr.out)
            rw [HFA.out] at HFM
            rw [HN.out]
            have HBZ := Lib.hid (HB3.out.trans (HBr.out.mono HB3.out.size))
            cases hx : offersF a b
            all_goals
              have HX := Lib.hid (implOffers_b a b _ hx)
              clear hx HN
              go_wp2_with fail
              refine HFM.out.mono ?_
              rintro e w4 ⟨rfl, hb0⟩
              have HB4 := Lib.hid (HBZ.out.trans (hb0.mono HBZ.out.size))
              clear hb0
              go_wp2_with (first | (go_at_call 24; (with_reducible refine (HX.out _).mono ?_); rintro e w' ⟨rfl, rfl⟩))
              go_ret
              exact ⟨rfl, HB4.out⟩
set_option maxRecDepth 100000 in
theorem fnMethods_lifted (os : Os) (started : os.Started) (H : Type) (enc : TypeId × Value → H) :
    ReturnsInHanded {} Try.checked os 7 .any (Rows.fnMethodsSpec.pre6 enc Try.prog Try.f7 Rows.fnMethodsRow.domain false) (Rows.fnMethodsSpec.post enc Try.prog Try.f7 false true false false) := by
  refine returnsInHanded_of_change (C := Try.checked) ownK started (by kernel_rfl) Try.func7
    (ChangeSpec.witness6 (enc := enc) (C := Try.checked) false ⟨#[], #[.slice none 0 0], []⟩ 8 (by kernel_rfl) (by kernel_rfl) (by kernel_rfl) (by kernel_rfl)) ?_
  intro W base args ds gs before hval0 hW _ _
  have hval : ∀ (j : Nat) t v, Try.f7.params[j]? = some t → args[j]? = some v → Value.okWide Try.prog W .any base t v := hval0
  have hW' := hW
  obtain ⟨p, q, hA0, _, rfl, _, _⟩ := hW
  have hA : DataW.TrodAll enc Try.prog W 0 (fun _ => true) true Try.f7.params.toList args.toList ds p := hA0
  rw [Try.params7] at hA hval
  obtain ⟨v0, vs0, d0, ds0, p0, q0, hargs, rfl, rfl, h0, r0⟩ := trodAll_cons hA
  obtain ⟨rfl, rfl, rfl⟩ := trodAll_nil r0
  obtain rfl : args = #[v0] := by cases args; simp_all
  obtain ⟨l0, w0⟩ := open_byteRow Try.underlying31 Try.underlying5 (by kernel_rfl) (hval 0 31 v0 rfl rfl) h0
  clear hA0 hval0
  refine (fnMethods_any v0 l0 W w0).mono fun e W1 ⟨he, hb⟩ => ?_
  subst he
  exact ⟨_, rfl, law_post laidK rfl (by kernel_rfl) Try.underlying4 (by kernel_rfl) (fun ds h => by match ds, h with | [_], _ => rfl) hW' hb⟩
theorem fnMethods_closed : joinedFacts Try.prog 7 Try.f7 Rows.fnMethodsSpec Rows.fnMethodsRow = true := by unfold joinedFacts; rw [mayEnter_k, liftsFinal_k, make_k]; kernel_rfl
theorem fnMethods_holds : Rows.FnMethodsSaid :=
  OpenClaim.holds_of_wide 7 Try.f7 rfl rfl rfl rfl rfl rfl rfl ⟨rfl, rfl, rfl, rfl, rfl⟩ rfl rfl rfl rfl rfl (by kernel_rfl) Try.func7 fnMethods_closed
    (of_decide_eq_true (by kernel_rfl)) (by unfold Func.isWrapper; first | (rw [if_pos (by decide +kernel)]; kernel_rfl) | (rw [if_neg (by decide +kernel)]; exact ⟨rfl, rfl⟩))
    (fun os started H enc _ => fnMethods_lifted os started H enc)
end Go.Proofs.Ytkoocddbfjaiaaa
