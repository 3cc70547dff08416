/- FnSplits: what is divided is joined again, and texts in ascending order are the same texts, each once. No condition. -/
import Derived.Test.YtmoliamenekemabSplitP
import Derived.Test.YtmoliamenekemabAscLaw
import Derived.Test.YtmoliamenekemabDraw1
import Derived.HandedShaped
namespace Go.Proofs.Ytmoliamenekemab
set_option linter.unusedVariables false
open Go.ChangeShapes Go.WideShapes Go.ChangeAt Go.RowKit Go.WideMaps Go.WideElems
open Go.ChangeMaps (open_string shut_string)
/-- a new list of texts that a draw gives -/
def GivesTexts (w : World) (e : Ending) (w' : World) : Prop := ∃ (v : Value) (x : List (List UInt8)), e = .returned v ∧ x.length ≤ 20 ∧ (∀ s ∈ x, s.length ≤ 20) ∧ RowAt w' v (x.map strV) ∧ Below w.heap.size w w'
set_option maxHeartbeats 800000 in
theorem drawAscending_any (v : Value) (l : List UInt8) (w : World) (hR : RowAt w v (Lib.byteCells l)) :
    Calls Try.prog 29 #[v] w fun e w' => GivesTexts w e w' := by
  have HR := Lib.hid hR
  clear hR
  go_enter Try.func29, Try.ntmps29
  go_wp2_with fail
  refine (l1New_any v l w HR.out).mono ?_
  rintro e w1 ⟨b, rfl, hb, hB, hC⟩
  have HB := Lib.hid (hB.alloc hB.size (.cells #[] 9))
  have HC := Lib.hid (cur_alloc hC (.cells #[] 9))
  have HO := Lib.hid (owns_new w1)
  have HLT := Lib.hid hC.lt
  have HS1 := Lib.hid hB.size
  clear hB hC
  go_wp2_with fail
  refine (l1Below_any b v l _ _ HC.out (by omega) (by omega)).mono ?_
  rintro e w2 ⟨x, rfl, ⟨h0, h1, h6⟩, hg1, hC1⟩
  have h7 : x < 7 := h6 (by omega)
  have HB1 := Lib.hid (below_grown HB.out hg1 hb (by simp; have := HS1.out; omega))
  have HC1 := Lib.hid hC1
  have HO1 := Lib.hid (show Owns w2 w1.heap.size _ [] from World.ownsRow.kept HO.out hg1 (Or.inr (by simp only [Value.ownBlock]; intro e; injection e with e; have := HLT.out; omega)))
  have HSr1 := Lib.hid (show w1.heap.size ≤ w2.heap.size by have := hg1.size; simp at this; omega)
  clear hg1 hC1 h6 h1
  go_wp2_with fail
  go_loopw [4, 5] (fun ov nv wr => ∃ (n : Int) (y : List (List UInt8)), nv = .int .i64 n ∧ 0 ≤ n ∧ n ≤ 7 ∧ (y.length : Int) ≤ 7 - n ∧ (∀ s ∈ y, s.length ≤ 20) ∧ Owns wr w1.heap.size ov y ∧ Below w.heap.size w wr ∧ Cur wr b v l ∧ w1.heap.size ≤ wr.heap.size) (fun _ nv _ => (intOf nv).toNat)
  case atStart => exact ⟨x, [], rfl, by omega, by omega, by simp; omega, by simp, HO1.out, HB1.out, HC1.out, HSr1.out⟩
  case round =>
    obtain ⟨n, y, rfl, hn0, hn7, hy, hz, hO, hBb, hC, hsr⟩ := hrel
    have HSr := Lib.hid hsr
    have HO2 := Lib.hid hO
    have HB2 := Lib.hid hBb
    have HC2 := Lib.hid hC
    have HZ := Lib.hid hz
    clear hO hBb hC hz hsr
    by_cases hp : 0 < n
    · go_wp2_with fail
      refine (l1Word_any b v l _ HC2.out).mono ?_
      rintro e w3 ⟨z, rfl, hz9, hg3, hC3⟩
      have HB3 := Lib.hid (below_grown HB2.out hg3 hb HB2.out.size)
      have HC3 := Lib.hid hC3
      have HS := Lib.hid (show w1.heap.size ≤ w3.heap.size from by have h := HB2.out.size; have := hg3.size; have := HSr.out; omega)
      have HO3 := Lib.hid (show Owns w3 w1.heap.size _ y from World.ownsRow.kept HO2.out hg3 (by
        cases hv : Value.ownBlock _ with
        | none => exact Or.inl rfl
        | some g => right; intro e; injection e with e; have := (World.ownsRow.lt HO2.out g hv).1; have := HLT.out; omega))
      clear hg3 hC3
      go_wp2_with (at_builtin; refine append_strs rfl _ _ rfl w1.heap.size _ y z.data.toList _ w3.heap.size (by rfl) (owns_alloc HO3.out _) rfl (cell_newS _ _ _ _ rfl) (by omega) (by have := HS.out; simp; omega) ?_; intro v' w4 hO4 hg4)
      have HA := Lib.hid (below_append (Below.refl w1.heap.size _) (owns_alloc HO3.out _) hg4 (by have := HS.out; simp; omega))
      refine ⟨⟨n - 1, y ++ [z.data.toList], rfl, by omega, by omega, by simp; omega, ?_, hO4, ?_, (cur_alloc HC3.out _).below HA.out HLT.out, ?_⟩, by simp [intOf]; omega⟩
      · intro t ht
        rcases List.mem_append.1 ht with h | h
        · exact HZ.out t h
        · rw [List.mem_singleton.1 h, size_list]; omega
      · exact (HB3.out.alloc HB3.out.size _).trans (HA.out.mono HS1.out)
      · have h1 := HA.out.size; have h2 := HS.out; simp at h1; omega
    · go_wp2_with fail
      go_ret
      exact ⟨_, y, rfl, by omega, HZ.out, owns_row HO2.out (by omega), HB2.out⟩
theorem has_yes (v : Value) (x : List (List UInt8)) (t : List UInt8) (w : World) (hR : RowAt w v (x.map strV)) (h : t ∈ x) :
    Calls Try.prog 30 #[v, .string ⟨t.toArray⟩] w fun e w' => e = .returned (.bool true) ∧ w' = w :=
  (has_any v x ⟨t.toArray⟩ w hR).mono fun e w' ⟨h1, h2⟩ => ⟨by rw [h1, show decide ((⟨t.toArray⟩ : ByteArray).data.toList ∈ x) = true by simpa using h], h2⟩
set_option maxRecDepth 100000 in
set_option maxHeartbeats 1600000 in
theorem fnSplits_any (v : Value) (l : List UInt8) (w : World) (hR : RowAt w v (Lib.byteCells l)) (m : Int) (hm : w.cell? ⟨0, 0, none⟩ = some (.int .i64 m)) :
    Calls Try.prog 7 #[v] w fun e w' => e = .returned (.bool true) ∧ Below w.heap.size w w' := by
  have HR := Lib.hid hR
  have HBG := Lib.hid (big_any v l w hR)
  have HG := Lib.hid (World.block_lt_of_cell? w _ hm)
  have HM := Lib.hid hm
  clear hR hm
  go_enter Try.func7, Try.ntmps7
  go_wp2_with fail
  refine HBG.out.mono ?_
  rintro e w' ⟨rfl, rfl⟩
  by_cases hbig : 4096 < l.length
  · go_wp2_with fail
    go_ret
    exact ⟨rfl, Below.refl _ _⟩
  · have hd : decide (4096 < l.length) = false := by simpa using hbig
    clear hbig
    rw [hd]
    go_wp2_with fail
    refine (drawSplitAt_any v l w HR.out).mono ?_
    rintro e w1 ⟨s, sep, rfl, ⟨hs, hsep⟩, hb1⟩
    have B1 := Lib.hid hb1
    have M1 := Lib.hid ((hb1.cell (p := ⟨0, 0, none⟩) HG.out).trans HM.out)
    clear hb1
    go_wp2_with fail
    refine (implSplit_any s sep m w1 M1.out (by omega) (by omega)).mono ?_
    rintro e w2 ⟨v2, rfl, ho2, hb2⟩
    have HX := Lib.hid (show (splitL s.data.toList sep.data.toList).length ≤ 4194303 by have := splitL_len s.data.toList sep.data.toList; have := size_list s; omega)
    have R2 := Lib.hid (owns_row ho2 (by have := HX.out; omega))
    have B2 := Lib.hid (B1.out.trans (hb2.mono B1.out.size))
    have HJ := Lib.hid (join_splitL s.data.toList sep.data.toList)
    have HSL := Lib.hid (size_list s)
    clear ho2 hb2
    go_wp2_with fail
    refine (implJoin_any v2 _ sep w2 R2.out (by rw [HJ.out, HSL.out]; omega) (by omega)).mono ?_
    rintro e w3 ⟨rfl, hb3⟩
    have B3 := Lib.hid (B2.out.trans (hb3.mono B2.out.size))
    clear hb3
    rw [HJ.out]
    have hbeq : (s.data.toList == s.toList) = true := by rw [Lib.toList_data]; simp
    have HR3 := Lib.hid (RowAt.below HR.out B3.out (Nat.le_refl _))
    go_wp2_with fail
    refine (drawAscending_any v l w3 HR3.out).mono ?_
    rintro e w4 ⟨v5, x, rfl, hx20, hxs, hr4, hb4⟩
    have X4 := Lib.hid hr4
    have B4 := Lib.hid (B3.out.trans (hb4.mono B3.out.size))
    have HXS := Lib.hid hxs
    clear hr4 hb4 hxs
    go_wp2_with fail
    refine (implAsc_any v5 x w4 X4.out (by omega) (fun s hs => by have := HXS.out s hs; omega)).mono ?_
    rintro e w5 ⟨v6, rfl, ho5, hb5⟩
    have hal := asc_len x
    have A5 := Lib.hid (owns_row ho5 (by omega))
    have X5 := Lib.hid (RowAt.below X4.out hb5 (Nat.le_refl _))
    have B5 := Lib.hid (B4.out.trans (hb5.mono B4.out.size))
    have HS := Lib.hid (asc_strict x)
    have HMm := Lib.hid (asc_mem x)
    have HID := Lib.hid (asc_idem x)
    clear ho5 hb5
    obtain ⟨a6, c6, rfl, hl6⟩ := rowAt_len A5.out
    obtain ⟨a5, c5, rfl, hl5⟩ := rowAt_len X5.out
    rw [List.length_map] at *
    generalize hy : ascL x = y at *
    have HY := Lib.hid hy
    clear hy hl6 hl5
    go_wp2_with fail
    go_loopw [7] (fun i wr => ∃ k : Nat, k ≤ y.length ∧ i = .int .i64 k ∧ Below w5.heap.size w5 wr) (fun i _ => y.length - (intOf i).toNat)
    case atStart => exact ⟨0, Nat.zero_le _, rfl, Below.refl _ _⟩
    case round =>
      obtain ⟨k, hk, rfl, hbr⟩ := hrel
      have AR := Lib.hid (RowAt.below A5.out hbr (Nat.le_refl _))
      have XR := Lib.hid (RowAt.below X5.out hbr (Nat.le_refl _))
      have BR := Lib.hid hbr
      clear hbr
      by_cases hlt : k < y.length
      · obtain ⟨b, o, rfl, hbw, d1⟩ := rowAt_cell AR.out k (by simpa using hlt)
        rw [getElem_map_strV] at d1
        unfold strV at d1
        have HH := Lib.hid (fun w' hw => has_yes (.slice a5 x.length c5) x y[k] w' hw ((HMm.out _).1 (List.getElem_mem hlt)))
        have hk0 : (0 : Int) ≤ (k : Int) := Int.natCast_nonneg _
        have hk1 : (k : Int) < (y.length : Int) := by omega
        by_cases h0 : 0 < k
        · have hg0 : (0 : Int) < (k : Int) := by omega
          have d2 := rowAt_cellS AR.out (k - 1) (by simp; omega)
          rw [getElem_map_strV] at d2
          unfold strV at d2
          have hbl : Op.bytesLess (y[k - 1]'(by omega)) y[k] = true := by
            rw [bytes_lt]; simpa using List.pairwise_iff_getElem.1 HS.out (k - 1) k (by omega) hlt (by omega)
          have hk2 : (0 : Int) ≤ (k : Int) - 1 := by omega
          have hk3 : (k : Int) - 1 < (y.length : Int) := by omega
          go_wp2
          go_quiet ((go_at_call 30; exact Calls.quiet_of_same (HH.out _ (rowAt_drewN XR.out _))))
          go_wp2
          exact ⟨⟨k + 1, by omega, by go_num, below_drewN BR.out _⟩, by simp [intOf]; omega⟩
        · have hg0 : (k : Int) ≤ 0 := by omega
          go_wp2
          go_quiet ((go_at_call 30; exact Calls.quiet_of_same (HH.out _ (rowAt_drewN XR.out _))))
          go_wp2
          exact ⟨⟨k + 1, by omega, by go_num, below_drewN BR.out _⟩, by simp [intOf]; omega⟩
      · have hge : y.length ≤ k := by omega
        go_wp2
        have HB6 := Lib.hid (B5.out.trans (BR.out.mono B5.out.size))
        go_loopw [8] (fun i w2 => ∃ k : Nat, k ≤ x.length ∧ i = .int .i64 k ∧ w2 = wr) (fun i _ => x.length - (intOf i).toNat)
        case atStart => exact ⟨0, Nat.zero_le _, rfl, rfl⟩
        case round =>
          obtain ⟨k2, hk2, rfl, rfl⟩ := hrel
          by_cases hlt2 : k2 < x.length
          · obtain ⟨b2, o2, rfl, hbw2, d3⟩ := rowAt_cell XR.out k2 (by simpa using hlt2)
            rw [getElem_map_strV] at d3
            unfold strV at d3
            have HH2 := Lib.hid (has_yes _ y x[k2] _ AR.out ((HMm.out _).2 (List.getElem_mem hlt2)))
            go_wp2_with fail
            refine HH2.out.mono ?_
            rintro e w7 ⟨rfl, hw7⟩
            subst hw7
            go_wp2_with fail
            exact ⟨⟨k2 + 1, by omega, by go_num, trivial⟩, by simp [intOf]; omega⟩
          · go_wp2_with fail
            refine (implAsc_any _ y _ AR.out (by omega) (fun s hs => by have := HXS.out s ((HMm.out s).1 hs); omega)).mono ?_
            rintro e w8 ⟨v8, rfl, ho8, hb8⟩
            rw [HID.out] at ho8
            have R8 := Lib.hid (owns_row ho8 (by omega))
            have A8 := Lib.hid (RowAt.below AR.out hb8 (Nat.le_refl _))
            have B8 := Lib.hid (HB6.out.trans (hb8.mono HB6.out.size))
            clear ho8 hb8
            go_wp2_with fail
            refine (texts_any v8 _ y y w8 R8.out A8.out).mono ?_
            rintro e w9 ⟨rfl, hb9⟩
            rw [show decide (y = y) = true by simp]
            have B9 := Lib.hid (B8.out.trans (hb9.mono B8.out.size))
            clear hb9
            go_wp2_with fail
            go_ret
            exact ⟨rfl, B9.out⟩
set_option maxRecDepth 100000 in
theorem fnSplits_lifted (os : Os) (started : os.Started) (H : Type) (enc : TypeId × Value → H) :
    ReturnsInHanded {} Try.checked os 7 .any (Rows.fnSplitsSpec.pre6 enc Try.prog Try.f7 Rows.fnSplitsRow.domain false) (Rows.fnSplitsSpec.post enc Try.prog Try.f7 false true false false) := by
  refine returnsInHanded_of_change_shaped (C := Try.checked) ownK started (by kernel_rfl) Try.func7
    (ChangeSpec.witness6 (enc := enc) (C := Try.checked) false ⟨#[], #[.slice none 0 0], []⟩ 8 (by kernel_rfl) (by kernel_rfl) (by kernel_rfl) (by kernel_rfl)) ?_
  intro W base args ds gs before hval0 hW _ _ hsh _
  have hval : ∀ (j : Nat) t v, Try.f7.params[j]? = some t → args[j]? = some v → Value.okWide Try.prog W .any base t v := hval0
  have hW' := hW
  obtain ⟨p, q, hA0, _, rfl, _, _⟩ := hW
  have hA : DataW.TrodAll enc Try.prog W 0 (fun _ => true) true Try.f7.params.toList args.toList ds p := hA0
  rw [Try.params7] at hA hval
  obtain ⟨v0, vs0, d0, ds0, p0, q0, hargs, rfl, rfl, h0, r0⟩ := trodAll_cons hA
  obtain ⟨rfl, rfl, rfl⟩ := trodAll_nil r0
  obtain rfl : args = #[v0] := by cases args; simp_all
  obtain ⟨l0, w0⟩ := open_byteRow Try.underlying22 Try.underlying5 (by kernel_rfl) (hval 0 22 v0 rfl rfl) h0
  clear hA0 hval0
  obtain ⟨m, hm⟩ := Try.laysM143.s1_3 W hsh
  refine (fnSplits_any v0 l0 W w0 m hm).mono fun e W1 ⟨he, hb⟩ => ?_
  subst he
  exact ⟨_, rfl, law_post laidK rfl (by kernel_rfl) Try.underlying4 (by kernel_rfl) (fun ds h => by match ds, h with | [_], _ => rfl) hW' hb⟩
theorem fnSplits_closed : joinedFacts Try.prog 7 Try.f7 Rows.fnSplitsSpec Rows.fnSplitsRow = true := by unfold joinedFacts; rw [mayEnter_k, liftsFinal_k, make_k]; kernel_rfl
theorem fnSplits_holds : Rows.FnSplitsSaid :=
  OpenClaim.holds_of_wide 7 Try.f7 rfl rfl rfl rfl rfl rfl rfl ⟨rfl, rfl, rfl, rfl, rfl⟩ rfl rfl rfl rfl rfl (by kernel_rfl) Try.func7 fnSplits_closed
    (of_decide_eq_true (by kernel_rfl)) (by unfold Func.isWrapper; first | (rw [if_pos (by decide +kernel)]; kernel_rfl) | (rw [if_neg (by decide +kernel)]; exact ⟨rfl, rfl⟩))
    (fun os started H enc _ => fnSplits_lifted os started H enc)
end Go.Proofs.Ytmoliamenekemab
