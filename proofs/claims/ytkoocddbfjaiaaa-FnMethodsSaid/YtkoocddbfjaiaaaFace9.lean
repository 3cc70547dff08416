/- Contracts of chapter 2: MethodsOf. -/
import Derived.Test.YtkoocddbfjaiaaaFace7
import Derived.Test.YtkoocddbfjaiaaaAscS
namespace Go.Proofs.Ytkoocddbfjaiaaa
set_option linter.unusedVariables false
open Go.RowKit
/-- append of a row of texts that lies in a block of its own -/
theorem append_rows {ops : Array Oper} {rest : List Oper} {o : Oper} {a : Act} {Q : Exit → Act → World → Prop} (hgd : o.guard = none) (s x : Operand)
    (ho : o.op = .call { callee := .builtin .append, args := #[s, x], argTypes := #[22, 22] }) (B : Nat) (v : Value) (xs ys : List (List UInt8)) (w : World) (blk n : Nat) (hn : n = ys.length)
    (hs : a.eval s = v) (hO : Owns w B v xs) (hx : a.eval x = .slice (some ⟨blk, 0, none⟩) n n) (hc : ∀ j, j < ys.length → w.cell? ⟨blk, j, none⟩ = (ys.map strV)[j]?) (hl : xs.length ≤ 4194304) (hl2 : ys.length ≤ 4194304) (hB : B ≤ w.heap.size)
    (h : ∀ v' w', Owns w' B v' (xs ++ ys) → w.grownBy w' v.ownBlock → wpList Try.prog ops Q rest (a.put o.dst v') w') : wpList Try.prog ops Q (o :: rest) a w := by
  subst hn
  obtain ⟨i0, hi, hz0, hz1, hz2⟩ := info_parts string_info
  refine wpList_append_own _ hgd s x 22 ho B 9 i0 (.string ⟨#[]⟩) 1 16 Try.underlying22 hi hz0 hz1 hz2 rfl (by decide) v xs.length (xs.map strV) hs hO ⟨blk, 0, none⟩ ys.length ys.length (ys.map strV) hx (by simp) ?_ ?_ (by unfold maxLen; omega) (by omega) hB ?_
  · intro j u hj
    have hj2 : j < ys.length := by have := (List.getElem?_eq_some_iff.1 hj).1; simpa using this
    rw [Addr.add_lit, Nat.zero_add, hc j hj2]; exact hj
  · intro u hu
    obtain ⟨y, _, rfl⟩ := List.mem_map.1 hu
    rfl
  · intro v' w' h1 h2 _
    refine h v' w' ?_ h2
    unfold Owns; rw [List.map_append, List.length_append]; exact h1
/-- what is owned from B on is owned from an earlier block on -/
theorem ownsRow_base {w : World} {B B' : Nat} {e : TypeId} {size n : Nat} {v : Value} {xs : List Value} (h : w.ownsRow B e size v n xs) (hB : B' ≤ B) : w.ownsRow B' e size v n xs := by
  refine ⟨h.1, h.2.imp id ?_⟩
  rintro ⟨g, cap, cur, h1, h2, h3⟩
  exact ⟨g, cap, cur, h1, Nat.le_trans hB h2, h3⟩
theorem owns_base {w : World} {B B' : Nat} {v : Value} {xs : List (List UInt8)} (h : Owns w B v xs) (hB : B' ≤ B) : Owns w B' v xs := ownsRow_base h hB
theorem mth_cell (w : World) (k j : Nat) (hj : j < (mthN k).length) : (w.alloc (.cells ((mthN k).map strV).toArray 9)).cell? ⟨w.heap.size, j, none⟩ = ((mthN k).map strV)[j]? := by
  rw [cell_of_row _ _ _ _ 9 (0, 0) (heap_alloc_new w _)]
  simp
theorem meths_len (L : List Nat) : (L.flatMap mthN).length ≤ 2 * L.length := by
  induction L with
  | nil => simp
  | cons a r ih => have := mthN_len a; rw [List.flatMap_cons, List.length_append]; simp only [List.length_cons]; omega
theorem meths_short (L : List Nat) (s : List UInt8) (h : s ∈ L.flatMap mthN) : s.length ≤ 5 := by
  obtain ⟨k, _, hs⟩ := List.mem_flatMap.1 h
  exact mthN_short k s hs
theorem flat_snoc (L : List Nat) (j : Nat) (h : j < L.length) : (L.take (j + 1)).flatMap mthN = (L.take j).flatMap mthN ++ mthN L[j] := by
  rw [List.take_succ_eq_append_getElem h, List.flatMap_append]; simp
set_option maxRecDepth 100000 in
set_option maxHeartbeats 1600000 in
theorem implMethodsOf_any (f : Int) (w : World) :
    Calls Try.prog 10 #[.int .i64 f] w fun e w' => GivesRow (ascL (methsF f)) w e w' := by
  have HN := Lib.hid (show methsF f = (abilL f).flatMap mthN from rfl)
  have HA := Lib.hid (abilitiesOf_any f)
  have HLT := Lib.hid (abilL_lt f)
  have hl := abilL_len f
  have HO := Lib.hid (owns_new w)
  generalize methsF f = M at *
  generalize abilL f = L at *
  go_enter Try.func10, Try.ntmps10
  go_wp2_with fail
  refine (HA.out _).mono ?_
  rintro e w1 ⟨u, rfl, hI, hb⟩
  have HI := Lib.hid hI
  have HB := Lib.hid (((Below.refl w.heap.size w).alloc (Nat.le_refl _) (.cells #[] 9)).trans (hb.mono (by simp)))
  have HO1 := Lib.hid (owns_below HO.out hb (Nat.le_refl _))
  obtain ⟨a, c, rfl, _⟩ := rowAt_len (ownsI_row hI (by rw [intsN_len]; omega))
  rw [List.length_map, intsN_len] at *
  clear hI hb
  go_wp2_with fail
  go_loopw [3, 5, 10] (fun ov _ i wr => ∃ j : Nat, j ≤ L.length ∧ i = .int .i64 j ∧ Owns wr w.heap.size ov ((L.take j).flatMap mthN) ∧ OwnsI wr (w.alloc (.cells #[] 9)).heap.size (.slice a L.length c) (intsN L) ∧ Below w.heap.size w wr) (fun _ _ i _ => L.length - (intOf i).toNat)
  case atStart => exact ⟨0, Nat.zero_le _, rfl, HO1.out, HI.out, HB.out⟩
  case round =>
    obtain ⟨j, hj, rfl, hO, hI, hb⟩ := hrel
    have HO2 := Lib.hid hO
    have HI2 := Lib.hid hI
    have HB2 := Lib.hid hb
    clear hO hI hb
    by_cases hlt : j < L.length
    · obtain ⟨b, o, rfl, hbw, d1⟩ := rowAt_cell (ownsI_row HI2.out (by rw [intsN_len]; omega)) j (by simpa [intsN_len] using hlt)
      rw [getElem_map_intV, getElem_intsN L j hlt] at d1
      unfold intV at d1
      have HS := Lib.hid (flat_snoc L j hlt)
      have hlen : ((L.take j).flatMap mthN).length ≤ 12 := by have h1 := meths_len (L.take j); rw [List.length_take] at h1; omega
      have hml := mthN_len L[j]
      go_wp2_with fail
      refine (implMethods_any L[j] (HLT.out _ (List.getElem_mem hlt)) _).mono ?_
      rintro e w2 ⟨rfl, rfl⟩
      go_wp2_with (at_builtin; (refine append_rows rfl _ _ rfl w.heap.size _ ((L.take j).flatMap mthN) (mthN L[j]) _ wr.heap.size _ (by rfl) (by rfl) (owns_alloc HO2.out _) rfl (fun i hi => mth_cell wr _ i hi) (by omega) (by omega) (by have := HB2.out.size; simp; omega) ?_; intro v' w3 hO1 hg1))
      exact ⟨⟨j + 1, by omega, by go_num, by rw [HS.out]; exact hO1, ownsI_kept (ownsI_alloc HI2.out _) (owns_alloc HO2.out _) hg1, below_append (HB2.out.alloc HB2.out.size _) (owns_alloc HO2.out _) hg1 (by have := HB2.out.size; simp; omega)⟩, by simp [intOf]; omega⟩
    · have HT := Lib.hid (show L.take j = L from List.take_of_length_le (by omega))
      rw [HT.out] at HO2
      have hlen := meths_len L
      go_wp2_with fail
      refine (implAsc_any _ (L.flatMap mthN) _ (owns_row HO2.out (by omega)) (by omega) (fun s hs => by have := meths_short L s hs; omega)).mono ?_
      rintro e w2 ⟨v2, rfl, ho2, hb2⟩
      have HB3 := Lib.hid (HB2.out.trans (hb2.mono HB2.out.size))
      have HO3 := Lib.hid (show Owns w2 w.heap.size v2 (ascL M) from by rw [HN.out]; exact owns_base ho2 HB2.out.size)
      clear hb2 ho2
      go_wp2_with fail
      go_ret
      exact ⟨_, rfl, HO3.out, HB3.out⟩
theorem meths_no {f : Int} (h : isF f = false) : methsF f = [] := by unfold methsF; rw [abilL_no h]; rfl
theorem meths_yes {f : Int} (h : isF f = true) : methsF f = (abilK f 6).flatMap mthN := by unfold methsF; rw [abilL_yes h]
theorem methK_yes {f : Int} {k : Nat} (h : hasI f k = true) : (abilK f (k + 1)).flatMap mthN = (abilK f k).flatMap mthN ++ mthN k := by rw [abilK_succ, if_pos h, List.flatMap_append]; simp
set_option maxRecDepth 100000 in
set_option maxHeartbeats 1600000 in
theorem specMethodsOf_any (f : Int) (w : World) :
    Calls Try.prog 9 #[.int .i64 f] w fun e w' => GivesAt (ascL (methsF f)) w e w' := by
  have HO := Lib.hid (owns_new w)
  cases hf : isF f with
  | false =>
    have HN := Lib.hid (meths_no hf)
    have HI := Lib.hid (specIsFace_b f false hf)
    clear hf
    generalize methsF f = M at *
    go_enter Try.func9, Try.ntmps9
    go_wp2_with fail
    refine wp_loop_rounds 1 ?_
    rw [rounds_succ]
    go_wp2_with (go_at_call 23; (with_reducible refine (HI.out _).mono ?_); rintro e w' ⟨rfl, rfl⟩)
    refine (specAsc_any _ [] _ (owns_row HO.out (by simp)) (by simp)).mono ?_
    rintro e w2 ⟨v2, rfl, ho2, hb2⟩
    have HB3 := Lib.hid (((Below.refl w.heap.size w).alloc (Nat.le_refl _) (.cells #[] 9)).trans (hb2.mono (by simp)))
    have HO3 := Lib.hid ho2
    clear hb2 ho2
    go_wp2_with fail
    go_ret
    exact ⟨_, rfl, by rw [HN.out]; exact HO3.out, HB3.out⟩
  | true =>
    have HN := Lib.hid (meths_yes hf)
    have HI := Lib.hid (specIsFace_b f true hf)
    have HF := Lib.hid hf
    clear hf
    generalize methsF f = M at *
    go_enter Try.func9, Try.ntmps9
    go_wp2_with fail
    go_loopw [3, 4] (fun ov i wr => ∃ k : Nat, k ≤ 6 ∧ i = .int .i64 k ∧ Owns wr w.heap.size ov ((abilK f k).flatMap mthN) ∧ Below w.heap.size w wr) (fun _ i _ => 6 - (intOf i).toNat)
    case atStart => exact ⟨0, Nat.zero_le _, rfl, HO.out, (Below.refl _ _).alloc (Nat.le_refl _) _⟩
    case round =>
      obtain ⟨k, hk, rfl, hO, hb⟩ := hrel
      have HO2 := Lib.hid hO
      have HB2 := Lib.hid hb
      clear hO hb
      have hlen : ((abilK f k).flatMap mthN).length ≤ 12 := by have := meths_len (abilK f k); have := abilK_len f k; omega
      by_cases hlt : k < 6
      · have hml := mthN_len k
        cases hx : hasI f k with
        | true =>
          have HX := Lib.hid (l2Has_b f k _ hx HF.out hlt)
          have HS := Lib.hid (methK_yes hx)
          clear hx
          go_wp2_with (first | (go_at_call 23; (with_reducible refine (HI.out _).mono ?_); rintro e w' ⟨rfl, rfl⟩) | (go_at_call 34; (with_reducible refine (HX.out _).mono ?_); rintro e w' ⟨rfl, rfl⟩))
          refine (specMethods_any k hlt wr).mono ?_
          rintro e w2 ⟨rfl, rfl⟩
          go_wp2_with (at_builtin; (refine append_rows rfl _ _ rfl w.heap.size _ ((abilK f k).flatMap mthN) (mthN k) _ wr.heap.size _ (by rfl) (by rfl) (owns_alloc HO2.out _) rfl (fun i hi => mth_cell wr _ i hi) (by omega) (by omega) (by have := HB2.out.size; simp; omega) ?_; intro v' w3 hO1 hg1))
          exact ⟨⟨k + 1, by omega, by go_num, by rw [HS.out]; exact hO1, below_append (HB2.out.alloc HB2.out.size _) (owns_alloc HO2.out _) hg1 (by have := HB2.out.size; simp; omega)⟩, by simp [intOf]; omega⟩
        | false =>
          have HX := Lib.hid (l2Has_b f k _ hx HF.out hlt)
          have HS := Lib.hid (abilK_no hx)
          clear hx
          go_wp2_with (first | (go_at_call 23; (with_reducible refine (HI.out _).mono ?_); rintro e w' ⟨rfl, rfl⟩) | (go_at_call 34; (with_reducible refine (HX.out _).mono ?_); rintro e w' ⟨rfl, rfl⟩))
          exact ⟨⟨k + 1, by omega, by go_num, by rw [HS.out]; exact HO2.out, HB2.out⟩, by simp [intOf]; omega⟩
      · have HK := Lib.hid (show (abilK f k).flatMap mthN = M from by rw [show k = 6 by omega]; exact HN.out.symm)
        go_wp2_with (go_at_call 23; (with_reducible refine (HI.out _).mono ?_); rintro e w' ⟨rfl, rfl⟩)
        refine (specAsc_any _ _ _ (owns_row HO2.out (by omega)) (by omega)).mono ?_
        rintro e w2 ⟨v2, rfl, ho2, hb2⟩
        have HB3 := Lib.hid (HB2.out.trans (hb2.mono HB2.out.size))
        have HO3 := Lib.hid ho2
        clear hb2 ho2
        go_wp2_with fail
        go_ret
        exact ⟨_, rfl, by rw [← HK.out]; exact HO3.out, HB3.out⟩
end Go.Proofs.Ytkoocddbfjaiaaa
