/- Contracts of chapter 4: IsPart, the model's. -/
import Derived.Test.YtmoliamenekemaaPart5
namespace Go.Proofs.Ytmoliamenekemaa
set_option linter.unusedVariables false
set_option linter.unusedSimpArgs false
open Go.RowKit
set_option maxRecDepth 100000 in
set_option maxHeartbeats 3200000 in
theorem specIsPart_any (v : Value) (x : PartD) (w : World) (hx : ValAt rPart 0 w v x) (hs : ∀ c ∈ x.fCore.fCells, c.fKey.length ≤ maxLen) :
    Calls Try.prog 10 #[v] w fun e w' => e = .returned (.bool (partB x)) ∧ Below w.heap.size w w' := by
  obtain ⟨_, rfl, hx⟩ := hx
  have HX := Lib.hid hx
  have HBAD := Lib.hid (fun k => partB_bad (x := x) (k := k))
  have HOK := Lib.hid (fun i h y hy => layOk_of x i h y hy)
  have HSU := Lib.hid (layTo_succ x)
  have HFN := Lib.hid (faceN_take x.fCore x.fLayers)
  have HP := Lib.hid (show partB x = (coreB x.fCore && decide (x.fLayers.length ≤ 3) && layTo x x.fLayers.length) from rfl)
  obtain ⟨xc, ls⟩ := x
  obtain ⟨v3, v5, rfl, h3, h5⟩ := hx
  have HC := Lib.hid (fun W (hb : Below w.heap.size w W) => specIsCore_any (vCore xc v3) xc W ⟨v3, rfl, FlatAt.below (flatAt_of_slice cCell_len (by decide) h3) hb (Nat.le_refl _)⟩ hs)
  obtain ⟨a0, a1, a2, a3, a4⟩ := xc
  unfold vCore at HC
  simp only at h3 h5 HX HC HP HFN HBAD HOK
  obtain ⟨ra, rc, rfl, _⟩ := sliceAt_len h3
  obtain ⟨sa, sc, rfl, hl, hcap⟩ := sliceAt_cap h5
  have H5 := Lib.hid h5
  have H3 := Lib.hid h3
  unfold maxLen at hl
  have HB0 := Lib.hid (show ∀ o, Below w.heap.size w (w.alloc o) from fun o => part_box w o)
  have HS0 := Lib.hid (Bx.new w [.string ⟨a0.toArray⟩, .bool a1, .bool a2, .slice ra a3.length rc, .int .i64 a4, .slice sa ls.length sc] 35)
  clear h3 h5
  have HPB := Lib.hid (show partB ⟨⟨a0, a1, a2, a3, a4⟩, ls⟩ = partB ⟨⟨a0, a1, a2, a3, a4⟩, ls⟩ from rfl)
  generalize partB ⟨⟨a0, a1, a2, a3, a4⟩, ls⟩ = pb at *
  have HCB := Lib.hid (show coreB ⟨a0, a1, a2, a3, a4⟩ = coreB ⟨a0, a1, a2, a3, a4⟩ from rfl)
  generalize coreB ⟨a0, a1, a2, a3, a4⟩ = cb at *
  clear HPB HCB HX
  cases cb with
  | false =>
    have HR := Lib.hid (show pb = false by rw [HP.out]; rfl)
    go_enter Try.func10, Try.ntmps10
    go_wp2_with fail
    refine (HC.out _ (HB0.out _)).mono ?_
    rintro e w1 ⟨rfl, hb⟩
    have HB := Lib.hid (belS (HB0.out _) hb)
    clear hb
    go_wp2_with fail
    go_ret
    exact ⟨ret_bool HR.out.symm, HB.out⟩
  | true =>
    by_cases h3 : 3 < ls.length
    · have HR := Lib.hid (show pb = false by rw [HP.out, show decide (ls.length ≤ 3) = false by simpa using h3]; rfl)
      go_enter Try.func10, Try.ntmps10
      go_wp2_with fail
      refine (HC.out _ (HB0.out _)).mono ?_
      rintro e w1 ⟨rfl, hb⟩
      have HB := Lib.hid (belS (HB0.out _) hb)
      have BX := Lib.hid (HS0.out.below hb)
      clear hb
      have e0 := BX.out.cell 0 (by simp)
      have e1 := BX.out.cell 1 (by simp)
      have e2 := BX.out.cell 2 (by simp)
      have e3 := BX.out.cell 3 (by simp)
      have e4 := BX.out.cell 4 (by simp)
      have e5 := BX.out.cell 5 (by simp)
      simp only [List.getElem_cons_zero, List.getElem_cons_succ] at e0 e1 e2 e3 e4 e5
      go_wp2_with fail
      go_ret
      exact ⟨ret_bool HR.out.symm, HB.out⟩
    · have HR := Lib.hid (show pb = layTo ⟨⟨a0, a1, a2, a3, a4⟩, ls⟩ ls.length by rw [HP.out, show decide (ls.length ≤ 3) = true by simpa using h3]; simp)
      go_enter Try.func10, Try.ntmps10
      go_wp2_with fail
      refine (HC.out _ (HB0.out _)).mono ?_
      rintro e w1 ⟨rfl, hb⟩
      have HB := Lib.hid (belS (HB0.out _) hb)
      have BX := Lib.hid (HS0.out.below hb)
      clear hb
      have e0 := BX.out.cell 0 (by simp)
      have e1 := BX.out.cell 1 (by simp)
      have e2 := BX.out.cell 2 (by simp)
      have e3 := BX.out.cell 3 (by simp)
      have e4 := BX.out.cell 4 (by simp)
      have e5 := BX.out.cell 5 (by simp)
      simp only [List.getElem_cons_zero, List.getElem_cons_succ] at e0 e1 e2 e3 e4 e5
      go_wp2_with fail
      clear e0 e1 e2 e3 e4 e5
      go_loopw [3, 4, 21] (fun _ _ i wr => ∃ k : Nat, k ≤ ls.length ∧ i = .int .i64 k ∧ layTo ⟨⟨a0, a1, a2, a3, a4⟩, ls⟩ k = true ∧ Below w.heap.size w wr ∧ Bx wr w.heap.size [.string ⟨a0.toArray⟩, .bool a1, .bool a2, .slice ra a3.length rc, .int .i64 a4, .slice sa ls.length sc]) (fun _ _ i _ => ls.length - (intOf i).toNat)
      case atStart => exact ⟨0, Nat.zero_le _, rfl, rfl, HB.out, BX.out⟩
      case round =>
        obtain ⟨k, hk, rfl, ht, hbr, hbx⟩ := hrel
        have HT := Lib.hid ht
        have HBr := Lib.hid hbr
        have BXr := Lib.hid hbx
        have HXr := Lib.hid (SliceAt.below H5.out (good_flat cLayer_len) hbr (Nat.le_refl _))
        clear ht hbr hbx
        by_cases hlt : k < ls.length
        · obtain ⟨b, o, cs, rfl, hbw, hat, hd⟩ := sliceAt_cell HXr.out k hlt
          have HLO := Lib.hid (HOK.out k hlt _ rfl)
          have HBD := Lib.hid (fun h => HBAD.out k hlt h)
          have HNX := Lib.hid (show layOk ⟨⟨a0, a1, a2, a3, a4⟩, ls⟩ k = true → layTo ⟨⟨a0, a1, a2, a3, a4⟩, ls⟩ (k + 1) = true from fun h => by rw [HSU.out, HT.out, h]; rfl)
          have HFO := Lib.hid (fun W hW => l4Face_any (.agg #[.string ⟨a0.toArray⟩, .bool a1, .bool a2, .slice ra a3.length rc, .int .i64 a4, .slice (some ⟨b, o, none⟩) ls.length sc]) ⟨⟨a0, a1, a2, a3, a4⟩, ls⟩ k W ⟨_, rfl, _, _, rfl, SliceAt.below H3.out (good_flat cCell_len) hW (Nat.le_refl _), SliceAt.below H5.out (good_flat cLayer_len) hW (Nat.le_refl _)⟩ (Nat.le_of_lt hlt))
          generalize ls[k] = z at *
          obtain ⟨z0, z1⟩ := z
          simp only [rFlat, cLayer] at hat HLO
          subst hat
          have d0 := hd 0 (by decide)
          have d1 := hd 1 (by decide)
          simp only [List.getElem?_cons_zero, List.getElem?_cons_succ, Nat.add_zero] at d0 d1
          have HLN := Lib.hid (specLayerNeeds_any ⟨z0.toArray⟩)
          simp only [ndV, List.toList_toArray] at HLN
          have HOF := Lib.hid (specOffers_any (faceN ⟨⟨a0, a1, a2, a3, a4⟩, ls⟩ k) (needI (layI z0)))
          have hkc : (k : Int) < (ls.length : Int) := by omega
          generalize layOk ⟨⟨a0, a1, a2, a3, a4⟩, ls⟩ k = lo at *
          generalize faceN ⟨⟨a0, a1, a2, a3, a4⟩, ls⟩ k = fc at *
          generalize needI (layI z0) = nd at *
          generalize offersF fc nd = ob at *
          generalize hge : decide (0 ≤ layI z0) = q at *
          clear hd hge HXr
          have HW0 := Lib.hid (part_box wr (.cells #[.string ⟨z0.toArray⟩, .int .i64 z1] 61))
          have BL := Lib.hid (Bx.new wr [.string ⟨z0.toArray⟩, .int .i64 z1] 61)
          have BX1 := Lib.hid (BXr.out.alloc (.cells #[.string ⟨z0.toArray⟩, .int .i64 z1] 61))
          have HB1 := Lib.hid (belS HBr.out HW0.out)
          by_cases h0 : z0 = [99, 111, 117, 110, 116, 115]
          · subst h0
            have HCD := Lib.hid (show countedB [99, 111, 117, 110, 116, 115] = true from rfl)
            have HCN := Lib.hid (show True from trivial)
            have e0 := BX1.out.cell 0 (by simp)
            have e1 := BX1.out.cell 1 (by simp)
            have e2 := BX1.out.cell 2 (by simp)
            have e3 := BX1.out.cell 3 (by simp)
            have e4 := BX1.out.cell 4 (by simp)
            have e5 := BX1.out.cell 5 (by simp)
            simp only [List.getElem_cons_zero, List.getElem_cons_succ] at e0 e1 e2 e3 e4 e5
            go_wp2_with fail
            refine (HLN.out _).mono ?_
            rintro e w2 ⟨rfl, hb⟩
            have HB2 := Lib.hid (belS HB1.out hb)
            have BL2 := Lib.hid (BL.out.below hb)
            have BX2 := Lib.hid (BX1.out.below hb)
            clear hb
            clear e0 e1 e2 e3 e4 e5
            have e0 := BX2.out.cell 0 (by simp)
            have e1 := BX2.out.cell 1 (by simp)
            have e2 := BX2.out.cell 2 (by simp)
            have e3 := BX2.out.cell 3 (by simp)
            have e4 := BX2.out.cell 4 (by simp)
            have e5 := BX2.out.cell 5 (by simp)
            simp only [List.getElem_cons_zero, List.getElem_cons_succ] at e0 e1 e2 e3 e4 e5
            have g0 := BL2.out.cell 0 (by simp)
            have g1 := BL2.out.cell 1 (by simp)
            simp only [List.getElem_cons_zero, List.getElem_cons_succ] at g0 g1
            cases q with
            | false =>
              have HR2 := Lib.hid (show pb = false from HBD.out (by rw [HLO.out]; rfl))
              go_wp2_with fail
              go_ret
              exact ⟨ret_bool HR2.out.symm, HB2.out⟩
            | true =>
              go_wp2_with fail
              refine (HFO.out _ HB2.out).mono ?_
              rintro e w3 ⟨rfl, hb⟩
              have HB3 := Lib.hid (belS HB2.out hb)
              have BL3 := Lib.hid (BL2.out.below hb)
              have BX3 := Lib.hid (BX2.out.below hb)
              clear hb
              clear e0 e1 e2 e3 e4 e5 g0 g1
              have g0 := BL3.out.cell 0 (by simp)
              have g1 := BL3.out.cell 1 (by simp)
              simp only [List.getElem_cons_zero, List.getElem_cons_succ] at g0 g1
              cases ob with
              | false =>
                have HR2 := Lib.hid (show pb = false from HBD.out (by rw [HLO.out]; rfl))
                go_wp2_with (first | (go_at_call 36; (with_reducible refine (HOF.out _).mono ?_); rintro e w' ⟨rfl, rfl⟩))
                go_ret
                exact ⟨ret_bool HR2.out.symm, HB3.out⟩
              | true =>
                by_cases hc0 : z1 < 0
                · skip
                  have HR2 := Lib.hid (show pb = false from HBD.out (by rw [HLO.out]; unfold cntB; rw [HCD.out]; simp [numB]; omega))
                  go_wp2_with (first | (go_at_call 36; (with_reducible refine (HOF.out _).mono ?_); rintro e w' ⟨rfl, rfl⟩))
                  go_ret
                  exact ⟨ret_bool HR2.out.symm, HB3.out⟩
                · by_cases hc9 : 999 < z1
                  · skip
                    have HR2 := Lib.hid (show pb = false from HBD.out (by rw [HLO.out]; unfold cntB; rw [HCD.out]; simp [numB]; omega))
                    go_wp2_with (first | (go_at_call 36; (with_reducible refine (HOF.out _).mono ?_); rintro e w' ⟨rfl, rfl⟩))
                    go_ret
                    exact ⟨ret_bool HR2.out.symm, HB3.out⟩
                  · have HR2 := Lib.hid (HNX.out (by rw [HLO.out]; unfold cntB; rw [HCD.out]; simp [numB]; omega))
                    by_cases hcp : 0 < z1
                    · go_wp2_with (first | (go_at_call 36; (with_reducible refine (HOF.out _).mono ?_); rintro e w' ⟨rfl, rfl⟩))
                      exact ⟨⟨k + 1, by omega, by go_num, HR2.out, HB3.out, BX3.out⟩, by simp [intOf]; omega⟩
                    · go_wp2_with (first | (go_at_call 36; (with_reducible refine (HOF.out _).mono ?_); rintro e w' ⟨rfl, rfl⟩))
                      exact ⟨⟨k + 1, by omega, by go_num, HR2.out, HB3.out, BX3.out⟩, by simp [intOf]; omega⟩
          · by_cases h1 : z0 = [104, 101, 97, 114, 115]
            · subst h1
              clear h0
              have HCD := Lib.hid (show countedB [104, 101, 97, 114, 115] = true from rfl)
              have e0 := BX1.out.cell 0 (by simp)
              have e1 := BX1.out.cell 1 (by simp)
              have e2 := BX1.out.cell 2 (by simp)
              have e3 := BX1.out.cell 3 (by simp)
              have e4 := BX1.out.cell 4 (by simp)
              have e5 := BX1.out.cell 5 (by simp)
              simp only [List.getElem_cons_zero, List.getElem_cons_succ] at e0 e1 e2 e3 e4 e5
              go_wp2_with fail
              refine (HLN.out _).mono ?_
              rintro e w2 ⟨rfl, hb⟩
              have HB2 := Lib.hid (belS HB1.out hb)
              have BL2 := Lib.hid (BL.out.below hb)
              have BX2 := Lib.hid (BX1.out.below hb)
              clear hb
              clear e0 e1 e2 e3 e4 e5
              have e0 := BX2.out.cell 0 (by simp)
              have e1 := BX2.out.cell 1 (by simp)
              have e2 := BX2.out.cell 2 (by simp)
              have e3 := BX2.out.cell 3 (by simp)
              have e4 := BX2.out.cell 4 (by simp)
              have e5 := BX2.out.cell 5 (by simp)
              simp only [List.getElem_cons_zero, List.getElem_cons_succ] at e0 e1 e2 e3 e4 e5
              have g0 := BL2.out.cell 0 (by simp)
              have g1 := BL2.out.cell 1 (by simp)
              simp only [List.getElem_cons_zero, List.getElem_cons_succ] at g0 g1
              cases q with
              | false =>
                have HR2 := Lib.hid (show pb = false from HBD.out (by rw [HLO.out]; rfl))
                go_wp2_with fail
                go_ret
                exact ⟨ret_bool HR2.out.symm, HB2.out⟩
              | true =>
                go_wp2_with fail
                refine (HFO.out _ HB2.out).mono ?_
                rintro e w3 ⟨rfl, hb⟩
                have HB3 := Lib.hid (belS HB2.out hb)
                have BL3 := Lib.hid (BL2.out.below hb)
                have BX3 := Lib.hid (BX2.out.below hb)
                clear hb
                clear e0 e1 e2 e3 e4 e5 g0 g1
                have g0 := BL3.out.cell 0 (by simp)
                have g1 := BL3.out.cell 1 (by simp)
                simp only [List.getElem_cons_zero, List.getElem_cons_succ] at g0 g1
                cases ob with
                | false =>
                  have HR2 := Lib.hid (show pb = false from HBD.out (by rw [HLO.out]; rfl))
                  go_wp2_with (first | (go_at_call 36; (with_reducible refine (HOF.out _).mono ?_); rintro e w' ⟨rfl, rfl⟩))
                  go_ret
                  exact ⟨ret_bool HR2.out.symm, HB3.out⟩
                | true =>
                  by_cases hc0 : z1 < 0
                  · skip
                    have HR2 := Lib.hid (show pb = false from HBD.out (by rw [HLO.out]; unfold cntB; rw [HCD.out]; simp [numB]; omega))
                    go_wp2_with (first | (go_at_call 36; (with_reducible refine (HOF.out _).mono ?_); rintro e w' ⟨rfl, rfl⟩))
                    go_ret
                    exact ⟨ret_bool HR2.out.symm, HB3.out⟩
                  · by_cases hc9 : 999 < z1
                    · skip
                      have HR2 := Lib.hid (show pb = false from HBD.out (by rw [HLO.out]; unfold cntB; rw [HCD.out]; simp [numB]; omega))
                      go_wp2_with (first | (go_at_call 36; (with_reducible refine (HOF.out _).mono ?_); rintro e w' ⟨rfl, rfl⟩))
                      go_ret
                      exact ⟨ret_bool HR2.out.symm, HB3.out⟩
                    · have HR2 := Lib.hid (HNX.out (by rw [HLO.out]; unfold cntB; rw [HCD.out]; simp [numB]; omega))
                      by_cases hcp : 0 < z1
                      · go_wp2_with (first | (go_at_call 36; (with_reducible refine (HOF.out _).mono ?_); rintro e w' ⟨rfl, rfl⟩))
                        exact ⟨⟨k + 1, by omega, by go_num, HR2.out, HB3.out, BX3.out⟩, by simp [intOf]; omega⟩
                      · go_wp2_with (first | (go_at_call 36; (with_reducible refine (HOF.out _).mono ?_); rintro e w' ⟨rfl, rfl⟩))
                        exact ⟨⟨k + 1, by omega, by go_num, HR2.out, HB3.out, BX3.out⟩, by simp [intOf]; omega⟩
            · have HCD := Lib.hid (show countedB z0 = false by simp [countedB, h0, h1])
              have k0 : (z0 == [99, 111, 117, 110, 116, 115]) = false := by simp [h0]
              have k1 : (z0 == [104, 101, 97, 114, 115]) = false := by simp [h1]
              clear h0 h1
              have e0 := BX1.out.cell 0 (by simp)
              have e1 := BX1.out.cell 1 (by simp)
              have e2 := BX1.out.cell 2 (by simp)
              have e3 := BX1.out.cell 3 (by simp)
              have e4 := BX1.out.cell 4 (by simp)
              have e5 := BX1.out.cell 5 (by simp)
              simp only [List.getElem_cons_zero, List.getElem_cons_succ] at e0 e1 e2 e3 e4 e5
              go_wp2_with fail
              refine (HLN.out _).mono ?_
              rintro e w2 ⟨rfl, hb⟩
              have HB2 := Lib.hid (belS HB1.out hb)
              have BL2 := Lib.hid (BL.out.below hb)
              have BX2 := Lib.hid (BX1.out.below hb)
              clear hb
              clear e0 e1 e2 e3 e4 e5
              have e0 := BX2.out.cell 0 (by simp)
              have e1 := BX2.out.cell 1 (by simp)
              have e2 := BX2.out.cell 2 (by simp)
              have e3 := BX2.out.cell 3 (by simp)
              have e4 := BX2.out.cell 4 (by simp)
              have e5 := BX2.out.cell 5 (by simp)
              simp only [List.getElem_cons_zero, List.getElem_cons_succ] at e0 e1 e2 e3 e4 e5
              have g0 := BL2.out.cell 0 (by simp)
              have g1 := BL2.out.cell 1 (by simp)
              simp only [List.getElem_cons_zero, List.getElem_cons_succ] at g0 g1
              cases q with
              | false =>
                have HR2 := Lib.hid (show pb = false from HBD.out (by rw [HLO.out]; rfl))
                go_wp2_with fail
                go_ret
                exact ⟨ret_bool HR2.out.symm, HB2.out⟩
              | true =>
                go_wp2_with fail
                refine (HFO.out _ HB2.out).mono ?_
                rintro e w3 ⟨rfl, hb⟩
                have HB3 := Lib.hid (belS HB2.out hb)
                have BL3 := Lib.hid (BL2.out.below hb)
                have BX3 := Lib.hid (BX2.out.below hb)
                clear hb
                clear e0 e1 e2 e3 e4 e5 g0 g1
                have g0 := BL3.out.cell 0 (by simp)
                have g1 := BL3.out.cell 1 (by simp)
                simp only [List.getElem_cons_zero, List.getElem_cons_succ] at g0 g1
                cases ob with
                | false =>
                  have HR2 := Lib.hid (show pb = false from HBD.out (by rw [HLO.out]; rfl))
                  go_wp2_with (first | (go_at_call 36; (with_reducible refine (HOF.out _).mono ?_); rintro e w' ⟨rfl, rfl⟩))
                  go_ret
                  exact ⟨ret_bool HR2.out.symm, HB3.out⟩
                | true =>
                  by_cases hc0 : z1 < 0
                  · skip
                    have HR2 := Lib.hid (show pb = false from HBD.out (by rw [HLO.out]; unfold cntB; rw [HCD.out]; simp; omega))
                    go_wp2_with (first | (go_at_call 36; (with_reducible refine (HOF.out _).mono ?_); rintro e w' ⟨rfl, rfl⟩))
                    go_ret
                    exact ⟨ret_bool HR2.out.symm, HB3.out⟩
                  · by_cases hc9 : 999 < z1
                    · skip
                      have HR2 := Lib.hid (show pb = false from HBD.out (by rw [HLO.out]; unfold cntB; rw [HCD.out]; simp; omega))
                      go_wp2_with (first | (go_at_call 36; (with_reducible refine (HOF.out _).mono ?_); rintro e w' ⟨rfl, rfl⟩))
                      go_ret
                      exact ⟨ret_bool HR2.out.symm, HB3.out⟩
                    · by_cases hcp : 0 < z1
                      · skip
                        have HR2 := Lib.hid (show pb = false from HBD.out (by rw [HLO.out]; unfold cntB; rw [HCD.out]; simp; omega))
                        go_wp2_with (first | (go_at_call 36; (with_reducible refine (HOF.out _).mono ?_); rintro e w' ⟨rfl, rfl⟩))
                        go_ret
                        exact ⟨ret_bool HR2.out.symm, HB3.out⟩
                      · have HR2 := Lib.hid (HNX.out (by rw [HLO.out]; unfold cntB; rw [HCD.out]; simp; omega))
                        go_wp2_with (first | (go_at_call 36; (with_reducible refine (HOF.out _).mono ?_); rintro e w' ⟨rfl, rfl⟩))
                        exact ⟨⟨k + 1, by omega, by go_num, HR2.out, HB3.out, BX3.out⟩, by simp [intOf]; omega⟩
        · have HR2 := Lib.hid (show pb = true by rw [HR.out]; have h := HT.out; rwa [show k = ls.length by omega] at h)
          go_wp2
          go_ret
          exact ⟨ret_bool HR2.out.symm, HBr.out⟩
end Go.Proofs.Ytmoliamenekemaa
