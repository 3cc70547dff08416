/- Contracts of chapter 5: deals, the model's. -/
import Derived.Test.YtbofplofpggdlaaNeg6
namespace Go.Proofs.Ytbofplofpggdlaa
set_option linter.unusedVariables false
set_option linter.unusedSimpArgs false
open Go.RowKit
def c3 (d : DealD) (w : World) (b : Nat) : Prop := Var3 w b (.int .i64 d.fMajor) (.int .i64 d.fMinor) (.int .i64 d.fFace)
theorem Var3.drw {w : World} {b : Nat} {x y z : Value} (h : Var3 w b x y z) : Var3 w.drew b x y z := ⟨h.lt, h.c0, h.c1, h.c2, h.f0, h.f1, h.f2⟩
theorem Var3.thr {w : World} {b c : Nat} {x y z : Value} (h : Var3 w b x y z) (hne : b ≠ c) (u0 u1 u2 : Value) : Var3 (((w.setCell ⟨c, 0, none⟩ u0).setCell ⟨c, 1, none⟩ u1).setCell ⟨c, 2, none⟩ u2) b x y z := ((h.one hne 0 u0).one hne 1 u1).one hne 2 u2
theorem bcellN {W w1 : World} (hb : Below W.heap.size W w1) : (∀ b o, b < W.heap.size → w1.cell? ⟨b, o, none⟩ = W.cell? ⟨b, o, none⟩) ∧ (∀ b o, b < W.heap.size → w1.frozen? ⟨b, o, none⟩ = W.frozen? ⟨b, o, none⟩) :=
  ⟨fun b o h => hb.cell (p := ⟨b, o, none⟩) h, fun b o h => hb.frozen (p := ⟨b, o, none⟩) h⟩
set_option maxRecDepth 100000 in
set_option maxHeartbeats 3200000 in
theorem specNegAll_any (v : Value) (x : List OfferD) (w : World) (hx : SliceAt rOffer 2 0 w v x) :
    Calls Try.prog 16 #[v] w fun e w' => e = .returned (.tuple #[vDeal (dealV x), .bool (dealB x)]) ∧ Below w.heap.size w w' := by
  obtain ⟨a, c, rfl, hl⟩ := sliceAt_len hx
  unfold maxLen at hl
  have HXB := Lib.hid (box1 w (.cells #[.int .i64 0, .int .i64 0, .int .i64 0] 29))
  have V0 := Lib.hid (Var3.new w (.int .i64 0) (.int .i64 0) (.int .i64 0) 29)
  cases x with
  | nil =>
    have HE := Lib.hid (show dealV [] = ⟨0, 0, 0⟩ ∧ dealB [] = false from ⟨rfl, rfl⟩)
    rw [HE.out.1, HE.out.2]
    unfold vDeal
    simp only
    clear hx
    go_enter Try.func16, Try.ntmps16
    go_wp2_with fail
    refine bodyPost_ret (v := .tuple #[.agg #[.int .i64 0, .int .i64 0, .int .i64 0], .bool false]) (by simp [results, Try.results16, go_sem]) rfl ⟨rfl, ?_⟩
    repeat (first | exact HXB.out | refine Below.setCell ?_ (by simp) _)
  | cons y r =>
    obtain ⟨b, o, cs, rfl, hbw, hat, hd⟩ := sliceAt_cell hx 0 (by simp)
    simp only [List.getElem_cons_zero] at hat
    have HX := Lib.hid hx
    have HIO := Lib.hid (specIsOffer_any _ y _ ((offerAt_of hat).below HXB.out (Nat.le_refl _)))
    have HNO := Lib.hid (fun (h : offerB y = false) => show dealO (y :: r) = none from dealO_no (by rw [List.all_cons, h, Bool.false_and]))
    have HLE := Lib.hid (lastM_end y r)
    have HDE := Lib.hid (dealM_end y r)
    have hl0 : (0 : Int) < ((y :: r).length : Int) := by simp
    have hl1 : (((y :: r).length : Int) == 0) = false := by simp; omega
    have HE := Lib.hid (show dealV (y :: r) = dealOf (y :: r) (dealO (y :: r)) ∧ dealB (y :: r) = (dealO (y :: r)).isSome from ⟨rfl, rfl⟩)
    generalize y :: r = x at *
    obtain ⟨a0, a1⟩ := y
    obtain ⟨x0, rfl, hr0⟩ := hat
    obtain ⟨xa, xc, rfl, hla⟩ := sliceAt_len hr0
    simp only at hr0 HLE hla
    unfold maxLen at hla
    have HR := Lib.hid (flatAt_of_slice cVersion_len (by decide) hr0)
    have d0 := hd 0 (by decide)
    have d1 := hd 1 (by decide)
    simp only [List.getElem?_cons_zero, List.getElem?_cons_succ, Nat.add_zero, Nat.zero_mul] at d0 d1 HIO
    clear hd hr0 hx
    generalize offerB ⟨a0, a1⟩ = ob at *
    cases ob with
    | false =>
      have HN := Lib.hid (HNO.out rfl)
      rw [HE.out.1, HE.out.2, HN.out]
      simp only [dealOf, vDeal, Option.isSome]
      go_enter Try.func16, Try.ntmps16
      go_wp2_with fail
      refine HIO.out.mono ?_
      rintro e w1 ⟨rfl, hb⟩
      have V1 := Lib.hid (V0.out.below hb)
      have HB := Lib.hid (bel_to HXB.out hb)
      have e0 := V1.out.c0
      have e1 := V1.out.c1
      have e2 := V1.out.c2
      have g0 := V1.out.f0
      have g1 := V1.out.f1
      have g2 := V1.out.f2
      clear hb
      go_wp2_with fail
      refine bodyPost_ret (v := .tuple #[.agg #[.int .i64 0, .int .i64 0, .int .i64 0], .bool false]) (by simp [results, Try.results16, go_sem, e0, e1, e2]) rfl ⟨rfl, ?_⟩
      exact ((HB.out.setCell (Nat.le_refl _) _).setCell (Nat.le_refl _) _).setCell (Nat.le_refl _) _
    | true =>
      rw [HE.out.2]
      clear HE
      generalize dealV x = dv at *
      obtain ⟨u0, u1, u2⟩ := dv
      unfold vDeal
      simp only
      go_enter Try.func16, Try.ntmps16
      go_wp2_with fail
      refine HIO.out.mono ?_
      rintro e w1 ⟨rfl, hb⟩
      have V1 := Lib.hid ((V0.out.below hb).below (box1 w1 (.cells #[.int .i64 0, .int .i64 0, .int .i64 0] 29)))
      have VD := Lib.hid (Var3.new w1 (.int .i64 0) (.int .i64 0) (.int .i64 0) 29)
      have HB := Lib.hid (bel_to (bel_to HXB.out hb) (box1 w1 (.cells #[.int .i64 0, .int .i64 0, .int .i64 0] 29)))
      have HND := Lib.hid (show w.heap.size < w1.heap.size from (V0.out.below hb).lt)
      have k0 := (HB.out.cell (p := ⟨b, o, none⟩) hbw).trans d0
      have k1 := (HB.out.cell (p := ⟨b, o + 1, none⟩) hbw).trans d1
      clear hb d0 d1
      go_wp2_with fail
      generalize w1.alloc (.cells #[.int .i64 0, .int .i64 0, .int .i64 0] 29) = X at *
      generalize w1.heap.size = D at *
      go_loopw [5, 7, 8, 9, 11, 29] (fun fd _ _ _ _ i wr => ∃ k : Nat, k ≤ a0.length ∧ i = .int .i64 k ∧ fd = .bool (lastM x a0 k).isSome ∧ Var3 wr w.heap.size (.int .i64 0) (.int .i64 0) (.int .i64 0) ∧ c3 (dealM x (lastM x a0 k)) wr D ∧ Below w.heap.size w wr) (fun _ _ _ _ _ i _ => a0.length - (intOf i).toNat)
      case atStart => exact ⟨0, Nat.zero_le _, rfl, rfl, V1.out, VD.out, HB.out⟩
      case round =>
        obtain ⟨k, hk, rfl, rfl, hv1, hvd, hbr⟩ := hrel
        have HV1 := Lib.hid hv1
        have HVD := Lib.hid hvd
        have HBr := Lib.hid hbr
        have HRr := Lib.hid (FlatAt.below HR.out hbr (Nat.le_refl _))
        have hNr := hv1.lt
        have hDr := hvd.lt
        clear hv1 hvd hbr
        by_cases hlt : k < a0.length
        · obtain ⟨b2, o2, e2, hbw2, hd2⟩ := flatAt_cell cVersion_len HRr.out k hlt (by decide)
          subst e2
          have HS := Lib.hid (lastM_succ x a0 k hlt)
          have q0 := hd2 0 (by decide)
          have q1 := hd2 1 (by decide)
          generalize a0[k] = p at *
          have HAL := Lib.hid (specAllow_any p)
          have HDM := Lib.hid (show dealM x (some p) = ⟨p.fMajor, p.fMinor, x.foldl (fun f y => bothF f y.fFace) (allowF p)⟩ from rfl)
          have HCB := Lib.hid (show candB x p = x.all (fun y => offerB y && inV y.fVersions p) from rfl)
          have HAB := Lib.hid (show x.foldl (fun f (y : OfferD) => bothF f y.fFace) (allowF p) = x.foldl (fun f y => bothF f y.fFace) (allowF p) from rfl)
          generalize allowF p = al at *
          have HP := Lib.hid (rfl : p = p)
          obtain ⟨p0, p1⟩ := p
          simp only [cVersion, vVersion, List.getElem?_cons_zero, List.getElem?_cons_succ, Nat.add_zero] at q0 q1 HAL HDM
          clear hd2
          go_wp2_with fail
          refine (HAL.out _).mono ?_
          rintro e w2 ⟨rfl, hb⟩
          have HB2 := Lib.hid (HBr.out.trans ((bel_to (box1 wr _) hb).mono HBr.out.size))
          have HW := Lib.hid (bel_to (box1 wr _) hb)
          have HVV := Lib.hid ((Var2.new wr p0 p1 27).below hb)
          have HV12 := Lib.hid (HV1.out.below HW.out)
          have HVD2 := Lib.hid (show c3 _ w2 D from Var3.below HVD.out HW.out)
          have HNB := Lib.hid (show wr.heap.size < w2.heap.size from HVV.out.lt)
          clear hb HW
          go_wp2_with fail
          go_loopw [8, 9, 11, 37] (fun al2 f _ i w3 => ∃ j : Nat, j ≤ x.length ∧ i = .int .i64 j ∧ al2 = .bool ((x.take j).all (fun y => offerB y && inV y.fVersions ⟨p0, p1⟩)) ∧ f = .int .i64 ((x.take j).foldl (fun f y => bothF f y.fFace) al) ∧ Below w2.heap.size w2 w3) (fun _ _ _ i _ => x.length - (intOf i).toNat)
          case atStart => exact ⟨0, Nat.zero_le _, rfl, rfl, rfl, Below.refl _ _⟩
          case round =>
            obtain ⟨j, hj, rfl, rfl, rfl, hb3⟩ := hrel
            have HB3 := Lib.hid hb3
            have HXr := Lib.hid (SliceAt.below HX.out goodOffer (HB2.out.trans (hb3.mono HB2.out.size)) (Nat.le_refl _))
            have HV3 := Lib.hid (HVV.out.below hb3)
            clear hb3
            by_cases hjl : j < x.length
            · obtain ⟨b4, o4, cs4, e4, hbw4, hat4, hd4⟩ := sliceAt_cell HXr.out j hjl
              injection e4 with e4
              injection e4 with e4 e5
              subst e4 e5
              have HA := Lib.hid (all_take_succ (fun y => offerB y && inV y.fVersions ⟨p0, p1⟩) x j hjl)
              have HF := Lib.hid (foldl_take_succ (fun f (y : OfferD) => bothF f y.fFace) al x j hjl)
              have HI := Lib.hid (fun ob => specIsOffer_any _ x[j] (wr.alloc ob) ((offerAt_of hat4).below (box1 _ ob) (Nat.le_refl _)))
              generalize x[j] = z at *
              obtain ⟨z0, z1⟩ := z
              obtain ⟨y0, rfl, hq0⟩ := hat4
              obtain ⟨ya, yc, rfl, _⟩ := sliceAt_len hq0
              simp only at hq0 HA HF
              have HIN := Lib.hid (fun w5 hw => specIn_any _ z0 ⟨p0, p1⟩ w5 ((flatAt_of_slice cVersion_len (by decide) hq0).below (w' := w5) hw (Nat.le_refl _)))
              have m0 := hd4 0 (by decide)
              have m1 := hd4 1 (by decide)
              have n0 := HV3.out.c0
              have n1 := HV3.out.c1
              have hwv := HV3.out.lt
              simp only [List.getElem?_cons_zero, List.getElem?_cons_succ, Nat.add_zero, vVersion] at m0 m1 HI HIN
              clear hd4 hq0
              generalize (x.take j).all (fun y => offerB y && inV y.fVersions ⟨p0, p1⟩) = cur at *
              generalize (x.take j).foldl (fun f (y : OfferD) => bothF f y.fFace) al = f at *
              generalize offerB ⟨z0, z1⟩ = ob at *
              generalize inV z0 ⟨p0, p1⟩ = iv at *
              have HBT := Lib.hid (specBoth_any f z1)
              cases cur with
              | false =>
                have HB4 := Lib.hid (fun ob => HB3.out.trans ((box1 wr ob).mono HB3.out.size))
                go_wp2_with fail
                refine (HBT.out _).mono ?_
                rintro e w4 ⟨rfl, rfl⟩
                go_wp2_with fail
                exact ⟨⟨j + 1, by omega, by go_num, by rw [HA.out]; rfl, by rw [HF.out], HB4.out _⟩, by simp [intOf]; omega⟩
              | true =>
                cases ob with
                | false =>
                  go_wp2_with fail
                  refine (HI.out _).mono ?_
                  rintro e w4 ⟨rfl, hb⟩
                  have HB4 := Lib.hid (HB3.out.trans ((bel_to (box1 wr _) hb).mono HB3.out.size))
                  obtain ⟨hcc, hff⟩ := bcellN hb
                  clear hb
                  go_wp2_with fail
                  refine (HBT.out _).mono ?_
                  rintro e w5 ⟨rfl, rfl⟩
                  go_wp2_with fail
                  exact ⟨⟨j + 1, by omega, by go_num, by rw [HA.out]; rfl, by rw [HF.out], HB4.out⟩, by simp [intOf]; omega⟩
                | true =>
                  go_wp2_with fail
                  refine (HI.out _).mono ?_
                  rintro e w4 ⟨rfl, hb⟩
                  have HB4 := Lib.hid (HB3.out.trans ((bel_to (box1 wr _) hb).mono HB3.out.size))
                  have HB5 := Lib.hid (bel_to (box1 wr _) hb)
                  have hsz : wr.heap.size < w4.heap.size := by have h := hb.size; simp at h; omega
                  obtain ⟨hcc, hff⟩ := bcellN hb
                  clear hb
                  go_wp2_with fail
                  refine (HIN.out _ HB5.out).mono ?_
                  rintro e w5 ⟨rfl, hb⟩
                  have HB6 := Lib.hid (HB4.out.trans (hb.mono HB4.out.size))
                  obtain ⟨hcc2, hff2⟩ := bcellN hb
                  clear hb
                  go_wp2_with fail
                  refine (HBT.out _).mono ?_
                  rintro e w6 ⟨rfl, rfl⟩
                  go_wp2_with fail
                  exact ⟨⟨j + 1, by omega, by go_num, by rw [HA.out]; simp, by rw [HF.out], HB6.out⟩, by simp [intOf]; omega⟩
            · have hjx : x.take j = x := List.take_of_length_le (by omega)
              rw [hjx] at *
              rw [← HCB.out]
              have HFF := Lib.hid HAB.out
              generalize x.foldl (fun f (y : OfferD) => bothF f y.fFace) al = f at *
              have HB4 := Lib.hid (HB2.out.trans (HB3.out.mono HB2.out.size))
              have HV14 := Lib.hid (HV12.out.below HB3.out)
              have HVD4 := Lib.hid (show Var3 wr D _ _ _ from Var3.below HVD2.out HB3.out)
              clear hjx
              generalize candB x ⟨p0, p1⟩ = cb at *
              cases cb with
              | false =>
                have HN := Lib.hid (show lastM x a0 (k + 1) = lastM x a0 k from by rw [HS.out, if_neg (by simp)])
                go_wp2_with fail
                exact ⟨⟨k + 1, by omega, by go_num, by rw [HN.out], HV14.out, by rw [HN.out]; exact HVD4.out, HB4.out⟩, by simp [intOf]; omega⟩
              | true =>
                have HN := Lib.hid (show lastM x a0 (k + 1) = some ⟨p0, p1⟩ from by rw [HS.out, if_pos rfl])
                have n0 := HV3.out.c0
                have n1 := HV3.out.c1
                have e0 := HVD4.out.c0
                have e1 := HVD4.out.c1
                have e2 := HVD4.out.c2
                have g0 := HVD4.out.f0
                have g1 := HVD4.out.f1
                have g2 := HVD4.out.f2
                have hND := HND.out
                go_wp2_with fail
                refine ⟨⟨k + 1, by omega, by go_num, by rw [HN.out]; rfl, HV14.out.thr (by omega) _ _ _, ?_, ?_⟩, by simp [intOf]; omega⟩
                · rw [HN.out, HDM.out]; exact HVD4.out.set _ _ _
                · exact ((HB4.out.setCell (by simp; omega) _).setCell (by simp; omega) _).setCell (by simp; omega) _
        · have HN := Lib.hid (show lastM x a0 k = dealO x from by rw [← HLE.out, show k = a0.length by omega])
          rw [HN.out] at HVD ⊢
          rw [HDE.out] at HVD
          unfold c3 at HVD
          simp only at HVD
          have e0 := HVD.out.c0
          have e1 := HVD.out.c1
          have e2 := HVD.out.c2
          have m0 := HV1.out.c0
          have m1 := HV1.out.c1
          have m2 := HV1.out.c2
          have n0 := HV1.out.f0
          have n1 := HV1.out.f1
          have n2 := HV1.out.f2
          have hND := HND.out
          go_wp2_with fail
          refine bodyPost_ret (v := .tuple #[.agg #[.int .i64 u0, .int .i64 u1, .int .i64 u2], .bool (dealO x).isSome]) (by simp [results, Try.results16, go_sem, m0, m1, m2]) rfl ⟨rfl, ?_⟩
          exact ((HBr.out.setCell (Nat.le_refl _) _).setCell (Nat.le_refl _) _).setCell (Nat.le_refl _) _
end Go.Proofs.Ytbofplofpggdlaa
