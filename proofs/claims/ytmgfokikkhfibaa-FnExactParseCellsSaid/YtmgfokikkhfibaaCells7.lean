/- Contracts of chapter 3: the model's ParseCells. -/
import Derived.Test.YtmgfokikkhfibaaCells2
import Derived.Test.YtmgfokikkhfibaaCells6
namespace Go.Proofs.Ytmgfokikkhfibaa
set_option linter.unusedVariables false
open Go.RowKit
theorem map_oneC_snoc (l : List (List UInt8)) (k : Nat) (h : k < l.length) : (l.take (k + 1)).map oneC = (l.take k).map oneC ++ [oneC l[k]] := by
  rw [List.take_succ_eq_append_getElem h, List.map_append]; rfl
theorem all_take_snoc (l : List (List UInt8)) (k : Nat) (h : k < l.length) (ha : (l.take k).all oneB = true) (hb : oneB l[k] = true) : (l.take (k + 1)).all oneB = true := by
  rw [List.take_succ_eq_append_getElem h, List.all_append, ha]; simp [hb]
theorem all_bad (l : List (List UInt8)) (k : Nat) (h : k < l.length) (hb : oneB l[k] = false) : l.all oneB = false := by
  rw [List.all_eq_false]; exact ⟨l[k], List.getElem_mem h, by simp [hb]⟩
theorem oneC_key (p : List UInt8) : (oneC p).fKey.length ≤ p.length := by
  unfold oneC
  simp only
  have := joinK_part (splitL p [61]) [61] (splitL p [61]).length 0 (List.length_pos_iff.2 (splitL_ne p 61)) (Nat.le_refl _)
  rw [show joinK (splitL p [61]) [61] (splitL p [61]).length = p from join_splitL p [61]] at this
  exact this
set_option maxRecDepth 100000 in
set_option maxHeartbeats 3200000 in
theorem specParseCells_any (s : ByteArray) (w : World) (hs : s.size ≤ 1048576) :
    Calls Try.prog 18 #[.string s] w fun e w' => GivesCells s.data.toList w e w' := by
  have HO := Lib.hid (ownsF_new cCell 53 2 w)
  unfold GivesCells
  by_cases hd : s.data.toList = [45]
  · have hb : (s.toList == [45]) = true := by rw [Lib.toList_data, hd]; rfl
    have HR := Lib.hid (show prsC s.data.toList = [] by rw [hd, prsC_yes prsB_dash]; rfl)
    have HR2 := Lib.hid (show prsB s.data.toList = true by rw [hd]; exact prsB_dash)
    clear hd
    go_enter Try.func18, Try.ntmps18
    go_wp2_with fail
    go_ret2
    exact ⟨_, ret_pairV HR2.out.symm, by rw [HR.out]; exact HO.out, (Below.refl _ _).alloc (Nat.le_refl _) _⟩
  · have hb : (s.toList == [45]) = false := by rw [Lib.toList_data]; simpa using hd
    have HP := Lib.hid (prs_strict s.data.toList hd)
    have HY := Lib.hid (@prsC_strict s.data.toList hd)
    have HN := Lib.hid (@prsC_no s.data.toList)
    have HA := Lib.hid (show ∀ o, Below w.heap.size w (w.alloc o) from fun o => (Below.refl w.heap.size w).alloc (Nat.le_refl _) o)
    have HSP := Lib.hid (fun o => specSplit_any s ⟨#[44]⟩ (w.alloc o) hs (by decide))
    have hxl : (splitL s.data.toList [44]).length ≤ 1048577 := by have := splitL_len s.data.toList [44]; rw [size_list] at this; omega
    have HPP := Lib.hid (fun p (hp : p ∈ splitL s.data.toList [44]) => show p.length ≤ 1048576 from by have := split_part _ _ p hp; rw [size_list] at this; omega)
    clear hd
    rw [show (⟨#[44]⟩ : ByteArray).data.toList = [44] from rfl] at HSP
    generalize prsC s.data.toList = z at *
    generalize prsB s.data.toList = y at *
    generalize splitL s.data.toList [44] = x at *
    go_enter Try.func18, Try.ntmps18
    go_wp2_with fail
    refine (HSP.out _).mono ?_
    rintro e w1 ⟨u, rfl, ho, hb1⟩
    have HO1 := Lib.hid (ownsF_below HO.out hb1 (Nat.le_refl _))
    have HB := Lib.hid ((HA.out _).trans (hb1.mono (HA.out _).size))
    have HX := Lib.hid (show Owns w1 (w.heap.size + 1) u x from by simpa using ho)
    obtain ⟨a, c, rfl, _⟩ := rowAt_len (owns_row ho (by omega))
    rw [List.length_map] at *
    clear ho hb1
    go_wp2_with fail
    go_loopw [4, 6, 7, 8, 9, 17] (fun ov _ _ _ _ i wr => ∃ k : Nat, k ≤ x.length ∧ i = .int .i64 k ∧ (x.take k).all oneB = true ∧ OwnsF cCell 53 2 wr w.heap.size ov ((x.take k).map oneC) ∧ Below w.heap.size w wr ∧ Owns wr (w.heap.size + 1) (.slice a x.length c) x) (fun _ _ _ _ _ i _ => x.length - (intOf i).toNat)
    case atStart => exact ⟨0, Nat.zero_le _, rfl, rfl, HO1.out, HB.out, HX.out⟩
    case round =>
      obtain ⟨k, hk, rfl, hall, hO, hb, hX⟩ := hrel
      have HAL := Lib.hid hall
      have HO2 := Lib.hid hO
      have HB2 := Lib.hid hb
      have HXr := Lib.hid hX
      clear hO hb hX hall
      by_cases hlt : k < x.length
      · obtain ⟨b, o, rfl, hbl, d1⟩ := rowAt_cell (owns_row HXr.out (by omega)) k (by simpa using hlt)
        rw [getElem_map_strV] at d1
        unfold strV at d1
        have HSN := Lib.hid (map_oneC_snoc x k hlt)
        have HBAD := Lib.hid (all_bad x k hlt)
        have HGD := Lib.hid (all_take_snoc x k hlt HAL.out)
        have hp := HPP.out x[k] (List.getElem_mem hlt)
        generalize x[k] = p at *
        have HSQ := Lib.hid (specSplit_any ⟨p.toArray⟩ ⟨#[61]⟩ wr (by rw [size_strB]; omega) (by decide))
        rw [dataL, show (⟨#[61]⟩ : ByteArray).data.toList = [61] from rfl] at HSQ
        have hql : (splitL p [61]).length ≤ 1048577 := by have := splitL_len p [61]; omega
        have HQ := Lib.hid (fun t (ht : t ∈ splitL p [61]) => show t.length ≤ 1048576 from by have := split_part _ _ t ht; omega)
        have HOB := Lib.hid (show oneB p = (decide ((splitL p [61]).length = 2) && pok ((splitL p [61]).getD 1 [])) from rfl)
        have HOC := Lib.hid (show oneC p = ⟨(splitL p [61]).getD 0 [], pnum ((splitL p [61]).getD 1 [])⟩ from rfl)
        generalize splitL p [61] = q at *
        by_cases h2 : q.length = 2
        · obtain ⟨q0, q1, rfl⟩ : ∃ q0 q1, q = [q0, q1] := by
            match q, h2 with
            | [q0, q1], _ => exact ⟨q0, q1, rfl⟩
          clear h2 hql
          simp only [List.getD_cons_zero, List.getD_cons_succ, List.length_cons, List.length_nil] at HOB HOC
          have hq0 := HQ.out q0 (by simp)
          have hq1 := HQ.out q1 (by simp)
          have HPN := Lib.hid (fun w0 => specParse_any ⟨q1.toArray⟩ w0 (by rw [size_strB]; unfold maxLen; omega))
          simp only at HPN
          cases hpk : pok q1 with
          | false =>
            have HYF := Lib.hid (show y = false by rw [HP.out, HBAD.out (by rw [HOB.out, hpk]; rfl)]; rfl)
            have HZ := Lib.hid (HN.out HYF.out)
            rw [hpk] at HPN
            clear hpk
            go_wp2_with fail
            refine HSQ.out.mono ?_
            rintro e w2 ⟨u2, rfl, ho2, hb2⟩
            have HB3 := Lib.hid (HB2.out.trans (hb2.mono HB2.out.size))
            have HQR := Lib.hid (owns_row ho2 (by simp))
            obtain ⟨a2, c2, rfl, _⟩ := rowAt_len HQR.out
            simp only [List.length_map, List.length_cons, List.length_nil, Nat.zero_add] at *
            obtain ⟨b2, o2, rfl, _, f0⟩ := rowAt_cell HQR.out 0 (by simp)
            have f1 := rowAt_cellS HQR.out 1 (by simp)
            simp only [List.map_cons, List.map_nil, List.getElem_cons_zero, List.getElem_cons_succ, strV, Nat.add_zero] at f0 f1
            clear ho2 hb2
            go_wp2_with fail
            refine (HPN.out _).mono ?_
            rintro e w3 ⟨rfl, hb3⟩
            have HB4 := Lib.hid (HB3.out.trans (hb3.mono HB3.out.size))
            clear hb3
            go_wp2_with fail
            go_ret2
            exact ⟨_, ret_pairV HYF.out.symm, by rw [HZ.out]; exact ownsF_base (ownsF_new cCell 53 2 w3) HB4.out.size, HB4.out.alloc HB4.out.size _⟩
          | true =>
            have HG := Lib.hid (HGD.out (by rw [HOB.out, hpk]; rfl))
            rw [hpk] at HPN
            clear hpk
            go_wp2_with fail
            refine HSQ.out.mono ?_
            rintro e w2 ⟨u2, rfl, ho2, hb2⟩
            have HB3 := Lib.hid (HB2.out.trans (hb2.mono HB2.out.size))
            have HX3 := Lib.hid (owns_below HXr.out hb2 (Nat.le_refl _))
            have HO3 := Lib.hid (ownsF_below HO2.out hb2 (Nat.le_refl _))
            have HQR := Lib.hid (owns_row ho2 (by simp))
            obtain ⟨a2, c2, rfl, _⟩ := rowAt_len HQR.out
            simp only [List.length_map, List.length_cons, List.length_nil, Nat.zero_add] at *
            obtain ⟨b2, o2, rfl, hb2l, f0⟩ := rowAt_cell HQR.out 0 (by simp)
            have f1 := rowAt_cellS HQR.out 1 (by simp)
            simp only [List.map_cons, List.map_nil, List.getElem_cons_zero, List.getElem_cons_succ, strV, Nat.add_zero] at f0 f1
            clear ho2 hb2
            go_wp2_with fail
            refine (HPN.out _).mono ?_
            rintro e w3 ⟨rfl, hb3⟩
            have HB4 := Lib.hid (HB3.out.trans (hb3.mono HB3.out.size))
            have HX4 := Lib.hid (owns_below HX3.out hb3 (Nat.le_refl _))
            have HO4 := Lib.hid (ownsF_below HO3.out hb3 (Nat.le_refl _))
            have g0 := (hb3.cell (p := ⟨b2, o2, none⟩) hb2l).trans f0
            clear hb3 f0 f1
            go_wp2_with (at_builtin; refine append_cell rfl _ _ rfl w.heap.size _ ((x.take k).map oneC) ⟨q0, pnum q1⟩ _ w3.heap.size rfl (ownsF_alloc HO4.out _) rfl (cell_newC w3 ⟨q0, pnum q1⟩ _ rfl) (by simp; omega) (by have := HB4.out.size; simp; omega) ?_; intro v' w4 hO4 hg4)
            have HB5 := Lib.hid (below_appendF (HB4.out.alloc HB4.out.size _) (ownsF_alloc HO4.out _) hg4 (by have := HB4.out.size; simp; omega))
            exact ⟨⟨k + 1, by omega, by go_num, HG.out, by rw [HSN.out, HOC.out]; exact hO4, HB5.out, owns_keptF (owns_alloc HX4.out _) (ownsF_alloc HO4.out _) hg4 (by decide)⟩, by simp [intOf]; omega⟩
        · have HYF := Lib.hid (show y = false by rw [HP.out, HBAD.out (by rw [HOB.out, show decide (q.length = 2) = false by simpa using h2]; rfl)]; rfl)
          have HZ := Lib.hid (HN.out HYF.out)
          have hne : ((q.length : Int) == 2) = false := by rw [beq_eq_false_iff_ne]; omega
          have hne2 : ((q.length : Int) != 2) = true := by rw [bne, hne]; rfl
          clear h2
          go_wp2_with fail
          refine HSQ.out.mono ?_
          rintro e w2 ⟨u2, rfl, ho2, hb2⟩
          have HB3 := Lib.hid (HB2.out.trans (hb2.mono HB2.out.size))
          obtain ⟨a2, c2, rfl, _⟩ := rowAt_len (owns_row ho2 (by omega))
          rw [List.length_map] at *
          clear ho2 hb2
          go_wp2_with fail
          go_ret2
          exact ⟨_, ret_pairV HYF.out.symm, by rw [HZ.out]; exact ownsF_base (ownsF_new cCell 53 2 w2) HB3.out.size, HB3.out.alloc HB3.out.size _⟩
      · have HT := Lib.hid (show x.take k = x from List.take_of_length_le (by omega))
        rw [HT.out] at HAL HO2
        have HK := Lib.hid (show ∀ d ∈ x.map oneC, d.fKey.length ≤ maxLen from fun d hd => by
          obtain ⟨p, hp, rfl⟩ := List.mem_map.1 hd
          have h1 := HPP.out p hp
          have h2 := oneC_key p
          unfold maxLen; omega)
        have HIC := Lib.hid (specIsCells_any u4 (x.map oneC) wr (ownsF_at HO2.out (by simp; omega)) HK.out)
        cases hc : cellsB (x.map oneC) with
        | false =>
          have HYF := Lib.hid (show y = false by rw [HP.out, hc]; simp)
          have HZ := Lib.hid (HN.out HYF.out)
          rw [hc] at HIC
          clear hc
          go_wp2_with fail
          refine HIC.out.mono ?_
          rintro e w2 ⟨rfl, hb⟩
          have HB3 := Lib.hid (HB2.out.trans (hb.mono HB2.out.size))
          clear hb
          go_wp2_with fail
          go_ret2
          exact ⟨_, ret_pairV HYF.out.symm, by rw [HZ.out]; exact ownsF_base (ownsF_new cCell 53 2 w2) HB3.out.size, HB3.out.alloc HB3.out.size _⟩
        | true =>
          have HYF := Lib.hid (show y = true by rw [HP.out, hc, HAL.out]; rfl)
          have HZ := Lib.hid (HY.out HYF.out)
          rw [hc] at HIC
          clear hc
          go_wp2_with fail
          refine HIC.out.mono ?_
          rintro e w2 ⟨rfl, hb⟩
          have HB3 := Lib.hid (HB2.out.trans (hb.mono HB2.out.size))
          have HO5 := Lib.hid (ownsF_below HO2.out hb (Nat.le_refl _))
          clear hb
          go_wp2_with fail
          go_ret2
          exact ⟨_, ret_pairV HYF.out.symm, by rw [HZ.out]; exact HO5.out, HB3.out⟩
end Go.Proofs.Ytmgfokikkhfibaa
