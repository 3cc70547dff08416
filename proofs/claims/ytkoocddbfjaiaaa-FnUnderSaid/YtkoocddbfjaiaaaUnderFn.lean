/- FnUnder: a face offers as many faces as its abilities have subsets, all of them, in ascending order, at every code that is drawn from. No condition. -/
import Derived.Test.YtkoocddbfjaiaaaOffersFn
import Derived.Test.YtkoocddbfjaiaaaFace6
namespace Go.Proofs.Ytkoocddbfjaiaaa
set_option linter.unusedVariables false
open Go.ChangeShapes Go.WideShapes Go.ChangeAt Go.RowKit Go.WideMaps Go.WideElems
open Go.ChangeMaps (open_string shut_string)
theorem implOffers_q (f want : Int) (h : offersF f want = true) (w : World) :
    Calls Try.prog 24 #[.int .i64 f, .int .i64 want] w fun e w' => e = .returned (.bool true) ∧ w' = w :=
  (implOffers_b f want true h w).mono fun _ _ ⟨he, hw⟩ => ⟨he, hw.symm⟩
theorem implCount_n (f : Int) (n : Nat) (h : (abilL f).length = n) (w : World) :
    Calls Try.prog 29 #[.int .i64 f] w fun e w' => e = .returned (.int .i64 n) ∧ Below w.heap.size w w' := by subst h; exact implCount_any f w
theorem pow2_le (k : Nat) (h : k ≤ 6) : (1 : Int) ≤ 2 ^ k ∧ (2 : Int) ^ k ≤ 64 := by
  rcases (show k = 0 ∨ k = 1 ∨ k = 2 ∨ k = 3 ∨ k = 4 ∨ k = 5 ∨ k = 6 by omega) with rfl | rfl | rfl | rfl | rfl | rfl | rfl <;> decide
set_option maxRecDepth 100000 in
set_option maxHeartbeats 8000000 in
theorem fnUnder_any (v : Value) (l : List UInt8) (w : World) (hR : RowAt w v (Lib.byteCells l)) :
    Calls Try.prog 8 #[v] w fun e w' => e = .returned (.bool true) ∧ Below w.heap.size w w' := by
  have HR := Lib.hid hR
  have HB := Lib.hid (big_any v l w hR)
  clear hR
  go_enter Try.func8, Try.ntmps8
  go_wp2_with fail
  refine HB.out.mono ?_
  rintro e w' ⟨rfl, rfl⟩
  by_cases hbig : 4096 < l.length
  · go_wp2_with fail
    go_ret
    exact ⟨rfl, Below.refl _ _⟩
  · have hd : decide (4096 < l.length) = false := by simpa using hbig
    clear hbig
    rw [hd]
    go_wp2_with fail
    refine (drawFacesUnder_any v l w HR.out).mono ?_
    rintro e w1 ⟨f, rfl, hf, hb0⟩
    have HB1 := Lib.hid (hb0)
    clear hb0
    clear hf hd
    have hlen := underK_len f 64
    have HI := Lib.hid (implUnder_any f)
    have HS := Lib.hid (specUnder_any f)
    have HMEM := Lib.hid (fun x => @under_mem f x)
    have HASC := Lib.hid (under_asc f)
    have HNO := Lib.hid (@under_no f)
    have HLEN := Lib.hid (@under_len f)
    rw [show underK f 64 = underL f from rfl] at hlen
    generalize underL f = L at *
    go_wp2_with fail
    refine (HI.out _).mono ?_
    rintro e w2 ⟨u, rfl, ho, hb0⟩
    have HB2 := Lib.hid (HB1.out.trans (hb0.mono HB1.out.size))
    have R2 := Lib.hid (ownsI_row ho (by omega))
    obtain ⟨a2, c2, rfl, _⟩ := rowAt_len R2.out
    rw [List.length_map] at *
    clear hb0 ho
    go_wp2_with fail
    refine (HS.out _).mono ?_
    rintro e w3 ⟨u3, rfl, ho, hb0⟩
    have HB3 := Lib.hid (HB2.out.trans (hb0.mono HB2.out.size))
    have R3 := Lib.hid (RowAt.below R2.out hb0 (Nat.le_refl _))
    obtain ⟨a3, c3, rfl, _⟩ := rowAt_len (ownsI_row ho (by omega))
    rw [List.length_map] at *
    clear hb0 ho
    cases hf : isF f
    case false =>
      have hL := HNO.out hf
      subst hL
      have HA := Lib.hid (implIsFace_b f _ hf)
      clear hf
      go_wp2_with (first | (go_at_call 22; (with_reducible refine (HA.out _).mono ?_); rintro e w' ⟨rfl, rfl⟩))
      go_ret
      exact ⟨rfl, HB3.out⟩
    case true =>
      have HL2 := Lib.hid (HLEN.out hf)
      have HA := Lib.hid (implIsFace_b f _ hf)
      clear hf
      go_wp2_with (first | (go_at_call 22; (with_reducible refine (HA.out _).mono ?_); rintro e w' ⟨rfl, rfl⟩))
      go_loopw [5] (fun i wr => ∃ j : Nat, j ≤ L.length ∧ i = .int .i64 j ∧ Below w3.heap.size w3 wr) (fun i _ => L.length - (intOf i).toNat)
      case atStart => exact ⟨0, Nat.zero_le _, rfl, Below.refl _ _⟩
      case round =>
        obtain ⟨j, hj, rfl, hbr⟩ := hrel
        have HBr := Lib.hid hbr
        have Rr := Lib.hid (RowAt.below R3.out hbr (Nat.le_refl _))
        clear hbr
        by_cases hlt : j < L.length
        · obtain ⟨bb, o, rfl, hbw, d1⟩ := rowAt_cell Rr.out j (by simpa using hlt)
          rw [getElem_map_intV] at d1
          unfold intV at d1
          have HOF := Lib.hid (implOffers_q f L[j] (HMEM.out _ (List.getElem_mem hlt)))
          by_cases h0 : j = 0
          · have hgt : decide (0 < j) = false := by simpa using h0
            clear h0
            go_wp2_with fail
            go_quiet ((go_at_call 24; exact Calls.quiet_of_same (HOF.out _)))
            go_wp2_with fail
            exact ⟨⟨j + 1, by omega, by go_num, below_drewN HBr.out _⟩, by simp [intOf]; omega⟩
          · obtain ⟨k, rfl⟩ : ∃ k, j = k + 1 := ⟨j - 1, by omega⟩
            obtain ⟨bb2, o2, he, _, d0⟩ := rowAt_cell Rr.out k (by simp; omega)
            injection he with he
            injection he with he1 he2
            subst he1
            subst he2
            rw [getElem_map_intV] at d0
            unfold intV at d0
            have hasc : L[k] < L[k + 1] := List.pairwise_iff_getElem.1 HASC.out k (k + 1) (by omega) hlt (by omega)
            have hw1 : IntKind.i64.wrap (((k + 1 : Nat) : Int) - 1) = k := by rw [IntWalk.i64_in _ (by omega)]; omega
            generalize L[k] = x0 at *
            generalize L[k + 1] = x1 at *
            have hpos : 0 < ((k + 1 : Nat) : Int) := by omega
            have hge : decide (x1 ≤ x0) = false := by simpa using hasc
            go_wp2_with fail
            go_quiet ((go_at_call 24; exact Calls.quiet_of_same (HOF.out _)))
            go_wp2_with fail
            exact ⟨⟨k + 1 + 1, by omega, by go_num, below_drewN HBr.out _⟩, by simp [intOf]; omega⟩
        · have hbd := abilL_len f
          have HC := Lib.hid (implCount_n f _ rfl)
          have HB4 := Lib.hid (HB3.out.trans (HBr.out.mono HB3.out.size))
          generalize (abilL f).length = c at *
          obtain ⟨w4, rfl⟩ : ∃ w4 : World, w4 = wr := ⟨_, rfl⟩
          clear HBr
          have HBD := Lib.hid (pow2_le)
          go_wp2_with fail
          go_loopw [6, 7] (fun nv i wr => ∃ k : Nat, ∃ z : Int, k ≤ c ∧ i = .int .i64 k ∧ nv = .int .i64 z ∧ z = 2 ^ k ∧ Below w4.heap.size w4 wr) (fun _ i _ => c - (intOf i).toNat)
          case atStart => exact ⟨0, 1, Nat.zero_le _, rfl, rfl, rfl, Below.refl _ _⟩
          case round =>
            obtain ⟨k, z, hk, rfl, rfl, hz, hbr⟩ := hrel
            have HZ := Lib.hid hz
            have HBr := Lib.hid hbr
            obtain ⟨hz1, hz2⟩ := HBD.out k (by omega)
            rw [← hz] at hz1 hz2
            clear hz hbr
            by_cases hkc : k < c
            · go_wp2_with fail
              refine (HC.out _).mono ?_
              rintro e w5 ⟨rfl, hb0⟩
              have HB5 := Lib.hid (HBr.out.trans (hb0.mono HBr.out.size))
              clear hb0
              go_wp2_with fail
              exact ⟨⟨k + 1, 2 * z, by omega, by go_num, rfl, by rw [HZ.out, Int.pow_succ]; omega, HB5.out⟩, by simp [intOf]; omega⟩
            · have HE := Lib.hid (show ((L.length : Int) == z) = true by
                rw [beq_iff_eq, HZ.out, HL2.out, show k = c by omega]; push_cast; rfl)
              go_wp2_with fail
              refine (HC.out _).mono ?_
              rintro e w5 ⟨rfl, hb0⟩
              have HB5 := Lib.hid (HB4.out.trans ((HBr.out.trans (hb0.mono HBr.out.size)).mono HB4.out.size))
              clear hb0
              have he := HE.out
              go_wp2_with fail
              go_ret
              exact ⟨rfl, HB5.out⟩
set_option maxRecDepth 100000 in
theorem fnUnder_lifted (os : Os) (started : os.Started) (H : Type) (enc : TypeId × Value → H) :
    ReturnsInHanded {} Try.checked os 8 .any (Rows.fnUnderSpec.pre6 enc Try.prog Try.f8 Rows.fnUnderRow.domain false) (Rows.fnUnderSpec.post enc Try.prog Try.f8 false true false false) := by
  refine returnsInHanded_of_change (C := Try.checked) ownK started (by kernel_rfl) Try.func8
    (ChangeSpec.witness6 (enc := enc) (C := Try.checked) false ⟨#[], #[.slice none 0 0], []⟩ 8 (by kernel_rfl) (by kernel_rfl) (by kernel_rfl) (by kernel_rfl)) ?_
  intro W base args ds gs before hval0 hW _ _
  have hval : ∀ (j : Nat) t v, Try.f8.params[j]? = some t → args[j]? = some v → Value.okWide Try.prog W .any base t v := hval0
  have hW' := hW
  obtain ⟨p, q, hA0, _, rfl, _, _⟩ := hW
  have hA : DataW.TrodAll enc Try.prog W 0 (fun _ => true) true Try.f8.params.toList args.toList ds p := hA0
  rw [Try.params8] at hA hval
  obtain ⟨v0, vs0, d0, ds0, p0, q0, hargs, rfl, rfl, h0, r0⟩ := trodAll_cons hA
  obtain ⟨rfl, rfl, rfl⟩ := trodAll_nil r0
  obtain rfl : args = #[v0] := by cases args; simp_all
  obtain ⟨l0, w0⟩ := open_byteRow Try.underlying31 Try.underlying5 (by kernel_rfl) (hval 0 31 v0 rfl rfl) h0
  clear hA0 hval0
  refine (fnUnder_any v0 l0 W w0).mono fun e W1 ⟨he, hb⟩ => ?_
  subst he
  exact ⟨_, rfl, law_post laidK rfl (by kernel_rfl) Try.underlying4 (by kernel_rfl) (fun ds h => by match ds, h with | [_], _ => rfl) hW' hb⟩
theorem fnUnder_closed : joinedFacts Try.prog 8 Try.f8 Rows.fnUnderSpec Rows.fnUnderRow = true := by unfold joinedFacts; rw [mayEnter_k, liftsFinal_k, make_k]; kernel_rfl
theorem fnUnder_holds : Rows.FnUnderSaid :=
  OpenClaim.holds_of_wide 8 Try.f8 rfl rfl rfl rfl rfl rfl rfl ⟨rfl, rfl, rfl, rfl, rfl⟩ rfl rfl rfl rfl rfl (by kernel_rfl) Try.func8 fnUnder_closed
    (of_decide_eq_true (by kernel_rfl)) (by unfold Func.isWrapper; first | (rw [if_pos (by decide +kernel)]; kernel_rfl) | (rw [if_neg (by decide +kernel)]; exact ⟨rfl, rfl⟩))
    (fun os started H enc _ => fnUnder_lifted os started H enc)
end Go.Proofs.Ytkoocddbfjaiaaa
