/- Contracts of chapter 2: FormatFace. -/
import Derived.Test.YtmgfokikkhfibabFace4
import Derived.Test.YtmgfokikkhfibabJoin
namespace Go.Proofs.Ytmgfokikkhfibab
set_option linter.unusedVariables false
open Go.RowKit
/-- what FormatFace writes -/
def fmtF (f : Int) : List UInt8 := if f = 0 then [110, 111, 110, 101] else joinL (namesF f) [43]
theorem total_abN (L : List Nat) : total (L.map abN) ≤ 4 * L.length := by
  induction L with
  | nil => simp [total]
  | cons a r ih => have := abN_len a; simp only [List.map_cons, total, List.length_cons]; omega
theorem names_small (L : List Nat) (h : L.length ≤ 6) : (joinL (L.map abN) [43]).length ≤ 100 := by
  have h1 := joinK_len (L.map abN) [43] (L.map abN).length (Nat.le_refl _)
  have h2 := total_abN L
  rw [List.take_length] at h1
  simp only [List.length_map, List.length_cons, List.length_nil] at h1
  unfold joinL
  rw [List.length_map]; omega
theorem fmtF_len (f : Int) : (fmtF f).length ≤ 100 := by
  unfold fmtF; split
  · simp
  · exact names_small _ (abilL_len f)
theorem getElem_intsN (L : List Nat) (j : Nat) (h : j < L.length) : (intsN L)[j]'(by rw [intsN_len]; exact h) = ((L[j] : Nat) : Int) := by simp [intsN]
theorem map_snoc (L : List Nat) (j : Nat) (h : j < L.length) : (L.take (j + 1)).map abN = (L.take j).map abN ++ [abN L[j]] := by
  rw [List.take_succ_eq_append_getElem h, List.map_append]; rfl
set_option maxRecDepth 100000 in
set_option maxHeartbeats 800000 in
theorem implFormatFace_any (f : Int) (w : World) :
    Calls Try.prog 50 #[.int .i64 f] w fun e w' => e = .returned (.string ⟨(fmtF f).toArray⟩) ∧ Below w.heap.size w w' := by
  by_cases h0 : f = 0
  · subst h0
    go_enter Try.func50, Try.ntmps50
    go_wp2_with fail
    go_ret
    exact ⟨rfl, Below.refl _ _⟩
  · have HN := Lib.hid (show fmtF f = joinL ((abilL f).map abN) [43] from if_neg h0)
    have hne : (f == 0) = false := by simpa using h0
    have HA := Lib.hid (abilitiesOf_any f)
    have hl := abilL_len f
    have HJ := Lib.hid (names_small _ hl)
    have HO := Lib.hid (owns_new w)
    clear h0
    generalize abilL f = L at *
    go_enter Try.func50, Try.ntmps50
    go_wp2_with fail
    refine (HA.out _).mono ?_
    rintro e w1 ⟨u, rfl, hI, hb⟩
    have HI := Lib.hid hI
    have HB := Lib.hid (((Below.refl w.heap.size w).alloc (Nat.le_refl _) (.cells #[] 9)).trans (hb.mono (by simp)))
    have HO1 := Lib.hid (owns_below HO.out hb (Nat.le_refl _))
    obtain ⟨a, c, rfl, _⟩ := rowAt_len (ownsI_row hI (by rw [intsN_len]; omega))
    rw [List.length_map, intsN_len] at *
    clear hI hb
    go_wp2_with fail
    go_loopw [3, 5, 12] (fun ov _ i wr => ∃ j : Nat, j ≤ L.length ∧ i = .int .i64 j ∧ Owns wr w.heap.size ov ((L.take j).map abN) ∧ OwnsI wr (w.alloc (.cells #[] 9)).heap.size (.slice a L.length c) (intsN L) ∧ Below w.heap.size w wr) (fun _ _ i _ => L.length - (intOf i).toNat)
    case atStart => exact ⟨0, Nat.zero_le _, rfl, HO1.out, HI.out, HB.out⟩
    case round =>
      obtain ⟨j, hj, rfl, hO, hI, hb⟩ := hrel
      have HO2 := Lib.hid hO
      have HI2 := Lib.hid hI
      have HB2 := Lib.hid hb
      clear hO hI hb
      by_cases hlt : j < L.length
      · obtain ⟨b, o, rfl, hbw, d1⟩ := rowAt_cell (ownsI_row HI2.out (by rw [intsN_len]; omega)) j (by simpa [intsN_len] using hlt)
        rw [getElem_map_intV, getElem_intsN L j hlt] at d1
        unfold intV at d1
        have HS := Lib.hid (map_snoc L j hlt)
        have hlen : ((L.take j).map abN).length ≤ 6 := by simp; omega
        go_wp2_with fail
        refine (implAbilityName_nat L[j] _).mono ?_
        rintro e w2 ⟨rfl, rfl⟩
        go_wp2_with (at_builtin; (refine append_strs rfl _ _ rfl w.heap.size _ ((L.take j).map abN) (abN L[j]) _ wr.heap.size (by rfl) (owns_alloc HO2.out _) rfl (cell_new _ _ _) (by omega) (by have := HB2.out.size; simp; omega) ?_; intro v' w3 hO1 hg1))
        exact ⟨⟨j + 1, by omega, by go_num, by rw [HS.out]; exact hO1, ownsI_kept (ownsI_alloc HI2.out _) (owns_alloc HO2.out _) hg1, below_append (HB2.out.alloc HB2.out.size _) (owns_alloc HO2.out _) hg1 (by have := HB2.out.size; simp; omega)⟩, by simp [intOf]; omega⟩
      · have HT := Lib.hid (show L.take j = L from List.take_of_length_le (by omega))
        rw [HT.out] at HO2
        go_wp2_with fail
        refine (implJoin_any _ (L.map abN) ⟨#[43]⟩ _ (owns_row HO2.out (by simp; omega)) (Nat.le_trans HJ.out (by decide)) (by simp [ByteArray.size])).mono ?_
        rintro e w2 ⟨rfl, hb2⟩
        have HB3 := Lib.hid (HB2.out.trans (hb2.mono HB2.out.size))
        clear hb2
        go_wp2_with fail
        go_ret
        exact ⟨ret_strL HN.out.symm, HB3.out⟩
theorem joinL_nil (sep : List UInt8) : joinL [] sep = [] := rfl
theorem isF_zero : isF 0 = true := rfl
theorem fmtF_non {f : Int} (h : isF f = false) : fmtF f = [] := by
  unfold fmtF
  rw [if_neg (by rintro rfl; rw [isF_zero] at h; cases h)]
  unfold namesF
  rw [abilL_no h]; rfl
theorem abN_snoc {f : Int} {k : Nat} (h : hasI f k = true) : (abilK f (k + 1)).map abN = (abilK f k).map abN ++ [abN k] := by rw [abilK_succ, if_pos h, List.map_append]; rfl
theorem specAbilityName_nat (k : Nat) (w : World) :
    Calls Try.prog 70 #[.int .i64 k] w fun e w' => e = .returned (.string ⟨(abN k).toArray⟩) ∧ Below w.heap.size w w' := by
  have h := specAbilityName_any k w; rw [abNI_nat] at h; exact h
set_option maxRecDepth 100000 in
set_option maxHeartbeats 800000 in
theorem specFormatFace_any (f : Int) (w : World) :
    Calls Try.prog 49 #[.int .i64 f] w fun e w' => e = .returned (.string ⟨(fmtF f).toArray⟩) ∧ Below w.heap.size w w' := by
  have HO := Lib.hid (owns_new w)
  cases hf : isF f with
  | false =>
    have HN := Lib.hid (fmtF_non hf)
    have hne : (f == 0) = false := by cases he : f == 0 with
      | false => rfl
      | true => have e := eq_of_beq he; subst e; rw [isF_zero] at hf; cases hf
    have HI := Lib.hid (specIsFace_b f false hf)
    clear hf
    go_enter Try.func49, Try.ntmps49
    go_wp2_with fail
    refine wp_loop_rounds 1 ?_
    rw [rounds_succ]
    go_wp2_with (go_at_call 68; (with_reducible refine (HI.out _).mono ?_); rintro e w' ⟨rfl, rfl⟩)
    refine (specJoin_any _ [] ⟨#[43]⟩ _ (owns_row HO.out (by simp)) (by simp [joinL_nil]) (by simp [ByteArray.size])).mono ?_
    rintro e w2 ⟨rfl, hb2⟩
    have HB3 := Lib.hid (((Below.refl w.heap.size w).alloc (Nat.le_refl _) (.cells #[] 9)).trans (hb2.mono (by simp)))
    clear hb2
    go_wp2_with fail
    go_ret
    exact ⟨ret_strL (by rw [HN.out, joinL_nil]), HB3.out⟩
  | true =>
    have HL := Lib.hid (abilL_yes hf)
    have HI := Lib.hid (specIsFace_b f true hf)
    have HF := Lib.hid hf
    clear hf
    go_enter Try.func49, Try.ntmps49
    go_wp2_with fail
    go_loopw [3, 4] (fun ov i wr => ∃ k : Nat, k ≤ 6 ∧ i = .int .i64 k ∧ Owns wr w.heap.size ov ((abilK f k).map abN) ∧ Below w.heap.size w wr) (fun _ i _ => 6 - (intOf i).toNat)
    case atStart => exact ⟨0, Nat.zero_le _, rfl, HO.out, (Below.refl _ _).alloc (Nat.le_refl _) _⟩
    case round =>
      obtain ⟨k, hk, rfl, hO, hb⟩ := hrel
      have HO2 := Lib.hid hO
      have HB2 := Lib.hid hb
      clear hO hb
      by_cases hlt : k < 6
      · have hlen : ((abilK f k).map abN).length ≤ 6 := by have := abilK_len f k; simp; omega
        cases hx : hasI f k with
        | true =>
          have HX := Lib.hid (l2Has_b f k _ hx HF.out hlt)
          have HS := Lib.hid (abN_snoc hx)
          clear hx
          go_wp2_with (first | (go_at_call 68; (with_reducible refine (HI.out _).mono ?_); rintro e w' ⟨rfl, rfl⟩) | (go_at_call 69; (with_reducible refine (HX.out _).mono ?_); rintro e w' ⟨rfl, rfl⟩))
          refine (specAbilityName_nat k _).mono ?_
          rintro e w2 ⟨rfl, hb2⟩
          have HB3 := Lib.hid (HB2.out.trans (hb2.mono HB2.out.size))
          have HO3 := Lib.hid (owns_below HO2.out hb2 (Nat.le_refl _))
          clear hb2
          go_wp2_with (at_builtin; (refine append_strs rfl _ _ rfl w.heap.size _ ((abilK f k).map abN) (abN k) _ w2.heap.size (by rfl) (owns_alloc HO3.out _) rfl (cell_new _ _ _) (by omega) (by have := HB3.out.size; simp; omega) ?_; intro v' w3 hO1 hg1))
          exact ⟨⟨k + 1, by omega, by go_num, by rw [HS.out]; exact hO1, below_append (HB3.out.alloc HB3.out.size _) (owns_alloc HO3.out _) hg1 (by have := HB3.out.size; simp; omega)⟩, by simp [intOf]; omega⟩
        | false =>
          have HX := Lib.hid (l2Has_b f k _ hx HF.out hlt)
          have HS := Lib.hid (abilK_no hx)
          clear hx
          go_wp2_with (first | (go_at_call 68; (with_reducible refine (HI.out _).mono ?_); rintro e w' ⟨rfl, rfl⟩) | (go_at_call 69; (with_reducible refine (HX.out _).mono ?_); rintro e w' ⟨rfl, rfl⟩))
          exact ⟨⟨k + 1, by omega, by go_num, by rw [HS.out]; exact HO2.out, HB2.out⟩, by simp [intOf]; omega⟩
      · have HK := Lib.hid (show k = 6 by omega)
        have HO4 := Lib.hid (show Owns wr w.heap.size _ ((abilL f).map abN) from by rw [HL.out, ← HK.out]; exact HO2.out)
        have hl := abilL_len f
        by_cases h0 : f = 0
        · have hne : (f == 0) = true := by simpa using h0
          have HN := Lib.hid (show fmtF f = [110, 111, 110, 101] from if_pos h0)
          clear h0
          go_wp2_with (go_at_call 68; (with_reducible refine (HI.out _).mono ?_); rintro e w' ⟨rfl, rfl⟩)
          go_ret
          exact ⟨ret_strL HN.out.symm, HB2.out⟩
        · have hne : (f == 0) = false := by simpa using h0
          have HN := Lib.hid (show fmtF f = joinL ((abilL f).map abN) [43] from if_neg h0)
          have HJ := Lib.hid (names_small _ hl)
          clear h0
          generalize abilL f = L at *
          go_wp2_with (go_at_call 68; (with_reducible refine (HI.out _).mono ?_); rintro e w' ⟨rfl, rfl⟩)
          refine (specJoin_any _ (L.map abN) ⟨#[43]⟩ _ (owns_row HO4.out (by simp; omega)) (Nat.le_trans HJ.out (by decide)) (by simp [ByteArray.size])).mono ?_
          rintro e w2 ⟨rfl, hb2⟩
          have HB3 := Lib.hid (HB2.out.trans (hb2.mono HB2.out.size))
          clear hb2
          go_wp2_with fail
          go_ret
          exact ⟨ret_strL HN.out.symm, HB3.out⟩
end Go.Proofs.Ytmgfokikkhfibab
