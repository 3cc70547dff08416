/- Contracts of chapter 5: deals, the program's. -/
import Derived.Test.YtbofplofpggdlaaNeg3
namespace Go.Proofs.Ytbofplofpggdlaa
set_option linter.unusedVariables false
set_option linter.unusedSimpArgs false
open Go.RowKit
def vDeal (d : DealD) : Value := .agg #[.int .i64 d.fMajor, .int .i64 d.fMinor, .int .i64 d.fFace]
/-- a variable of three cells -/
structure Var3 (w : World) (b : Nat) (x y z : Value) : Prop where
  lt : b < w.heap.size
  c0 : w.cell? ⟨b, 0, none⟩ = some x
  c1 : w.cell? ⟨b, 1, none⟩ = some y
  c2 : w.cell? ⟨b, 2, none⟩ = some z
  f0 : w.frozen? ⟨b, 0, none⟩ = false
  f1 : w.frozen? ⟨b, 1, none⟩ = false
  f2 : w.frozen? ⟨b, 2, none⟩ = false
theorem Var3.below {w w' : World} {b : Nat} {x y z : Value} (h : Var3 w b x y z) (hb : Below w.heap.size w w') : Var3 w' b x y z :=
  ⟨Nat.lt_of_lt_of_le h.lt hb.size, (hb.cell (p := ⟨b, 0, none⟩) h.lt).trans h.c0, (hb.cell (p := ⟨b, 1, none⟩) h.lt).trans h.c1, (hb.cell (p := ⟨b, 2, none⟩) h.lt).trans h.c2, (hb.frozen (p := ⟨b, 0, none⟩) h.lt).trans h.f0, (hb.frozen (p := ⟨b, 1, none⟩) h.lt).trans h.f1, (hb.frozen (p := ⟨b, 2, none⟩) h.lt).trans h.f2⟩
theorem Var3.new (w : World) (x y z : Value) (t : TypeId) : Var3 (w.alloc (.cells #[x, y, z] t)) w.heap.size x y z := ⟨by simp, by simp, by simp, by simp, by simp, by simp, by simp⟩
theorem Var3.one {w : World} {b c : Nat} {x y z : Value} (h : Var3 w b x y z) (hne : b ≠ c) (i : Nat) (u : Value) : Var3 (w.setCell ⟨c, i, none⟩ u) b x y z := by
  obtain ⟨h1, h2, h3, h4, h5, h6, h7⟩ := h
  exact ⟨by simpa using h1, (set_ne (Or.inl hne)).trans h2, (set_ne (Or.inl hne)).trans h3, (set_ne (Or.inl hne)).trans h4, by simpa using h5, by simpa using h6, by simpa using h7⟩
theorem Var3.set {w : World} {b : Nat} {x y z : Value} (h : Var3 w b x y z) (x' y' z' : Value) : Var3 (((w.setCell ⟨b, 0, none⟩ x').setCell ⟨b, 1, none⟩ y').setCell ⟨b, 2, none⟩ z') b x' y' z' := by
  obtain ⟨h1, h2, h3, h4, h5, h6, h7⟩ := h
  refine ⟨by simpa using h1, ?_, ?_, ?_, ?_, ?_, ?_⟩
  · rw [set_ne (Or.inr (by decide)), set_ne (Or.inr (by decide)), set_at h2]
  · rw [set_ne (Or.inr (by decide)), set_at ((set_ne (Or.inr (by decide))).trans h3)]
  · exact set_at ((set_ne (Or.inr (by decide))).trans ((set_ne (Or.inr (by decide))).trans h4))
  · simpa using h5
  · simpa using h6
  · simpa using h7
def DealS (N B : Nat) (w w' : World) : Prop := N < B ∧ B < w'.heap.size ∧ Below w.heap.size w w' ∧ ∃ q0 q1 q2, Var3 w' N q0 q1 q2
theorem DealS.below {N B : Nat} {w w1 w2 : World} (h : DealS N B w w1) (hb : Below w1.heap.size w1 w2) : DealS N B w w2 := by
  obtain ⟨h0, h1, h2, q0, q1, q2, h3⟩ := h
  exact ⟨h0, Nat.lt_of_lt_of_le h1 hb.size, h2.trans (hb.mono h2.size), q0, q1, q2, h3.below hb⟩
theorem DealS.set {N B : Nat} {w w1 : World} (h : DealS N B w w1) (hN : w.heap.size ≤ N) (x y z : Value) : DealS N B w (((w1.setCell ⟨N, 0, none⟩ x).setCell ⟨N, 1, none⟩ y).setCell ⟨N, 2, none⟩ z) := by
  obtain ⟨h0, h1, h2, q0, q1, q2, h3⟩ := h
  exact ⟨h0, by simpa using h1, ((h2.setCell hN _).setCell hN _).setCell hN _, _, _, _, h3.set x y z⟩
theorem DealS.bel {N B : Nat} {w w1 : World} (h : DealS N B w w1) : Below w.heap.size w w1 := h.2.2.1
theorem DealS.drw {N B : Nat} {w w1 : World} (h : DealS N B w w1) : DealS N B w w1.drew := by
  obtain ⟨h0, h1, h2, q0, q1, q2, h3⟩ := h
  exact ⟨h0, h1, belDr h2, q0, q1, q2, ⟨h3.lt, h3.c0, h3.c1, h3.c2, h3.f0, h3.f1, h3.f2⟩⟩
theorem dealO_no {x : List OfferD} (h : x.all offerB = false) : dealO x = none := by unfold dealO; rw [h]; rfl
theorem dealO_nil {x : List OfferD} (h : x.all offerB = true) (h2 : (comV x).length = 0) : dealO x = none := by
  unfold dealO; rw [if_pos h, List.eq_nil_of_length_eq_zero h2]; rfl
theorem dealO_yes {x : List OfferD} (h : x.all offerB = true) (k : Nat) (h2 : (comV x).length = k + 1) : dealO x = some ((comV x)[k]'(by omega)) := by
  unfold dealO; rw [if_pos h, List.getLast?_eq_getElem?, show (comV x).length - 1 = k by omega, List.getElem?_eq_getElem (by omega)]
set_option maxRecDepth 100000 in
set_option maxHeartbeats 1600000 in
theorem implNegAll_any (v : Value) (x : List OfferD) (w : World) (hx : SliceAt rOffer 2 0 w v x) :
    Calls Try.prog 18 #[v] w fun e w' => e = .returned (.tuple #[vDeal (dealV x), .bool (dealB x)]) ∧ Below w.heap.size w w' := by
  have HXB := Lib.hid (box1 w (.cells #[.int .i64 0, .int .i64 0, .int .i64 0] 29))
  have V0 := Lib.hid (Var3.new w (.int .i64 0) (.int .i64 0) (.int .i64 0) 29)
  have HX := Lib.hid hx
  have HA := Lib.hid (areOffers_any v x _ (hx.below goodOffer HXB.out (Nat.le_refl _)))
  have HE := Lib.hid (show dealV x = dealOf x (dealO x) ∧ dealB x = (dealO x).isSome from ⟨rfl, rfl⟩)
  cases hv : x.all offerB with
  | false =>
    rw [hv] at HA
    have HN := Lib.hid (dealO_no hv)
    rw [HE.out.1, HE.out.2, HN.out]
    simp only [dealOf, vDeal, Option.isSome]
    clear hx hv
    go_enter Try.func18, Try.ntmps18
    go_wp2_with fail
    refine HA.out.mono ?_
    rintro e w1 ⟨rfl, hb⟩
    have V1 := Lib.hid (V0.out.below hb)
    have HB := Lib.hid (bel_to HXB.out hb)
    have e0 := V1.out.c0
    have e1 := V1.out.c1
    have e2 := V1.out.c2
    have g0 := V1.out.f0
    have g1 := V1.out.f1
    have g2 := V1.out.f2
    clear hb
    go_wp2_with fail
    refine bodyPost_ret (v := .tuple #[.agg #[.int .i64 0, .int .i64 0, .int .i64 0], .bool false]) (by simp [results, Try.results18, go_sem, e0, e1, e2]) rfl ⟨rfl, ?_⟩
    exact ((HB.out.setCell (Nat.le_refl _) _).setCell (Nat.le_refl _) _).setCell (Nat.le_refl _) _
  | true =>
    rw [hv] at HA
    have HV := Lib.hid hv
    have HC := Lib.hid (fun w1 hw => comVers_any v x w1 (hx.below goodOffer (w' := w1) hw (Nat.le_refl _)) hv)
    have HL := Lib.hid (comV_len hv)
    have HCF := Lib.hid (fun w1 hw => comFace_any v x w1 (hx.below goodOffer (w' := w1) hw (Nat.le_refl _)))
    cases hn : (comV x).length with
    | zero =>
      have HN := Lib.hid (dealO_nil hv hn)
      rw [HE.out.1, HE.out.2, HN.out]
      simp only [dealOf, vDeal, Option.isSome]
      have HCN := Lib.hid (List.eq_nil_of_length_eq_zero hn)
      clear hx hv hn
      go_enter Try.func18, Try.ntmps18
      go_wp2_with fail
      refine HA.out.mono ?_
      rintro e w1 ⟨rfl, hb⟩
      have V1 := Lib.hid (V0.out.below hb)
      have HB := Lib.hid (bel_to HXB.out hb)
      clear hb
      go_wp2_with fail
      refine (HC.out _ HB.out).mono ?_
      rintro e w2 ⟨u, rfl, ho, hb⟩
      have V2 := Lib.hid (V1.out.below hb)
      have HB2 := Lib.hid (bel_to HB.out hb)
      rw [HCN.out] at ho
      obtain ⟨a2, c2, rfl, _⟩ := flatAt_len (ownsF_at ho (by simp))
      have e0 := V2.out.c0
      have e1 := V2.out.c1
      have e2 := V2.out.c2
      have g0 := V2.out.f0
      have g1 := V2.out.f1
      have g2 := V2.out.f2
      clear hb ho
      go_wp2_with fail
      refine bodyPost_ret (v := .tuple #[.agg #[.int .i64 0, .int .i64 0, .int .i64 0], .bool false]) (by simp [results, Try.results18, go_sem, e0, e1, e2]) rfl ⟨rfl, ?_⟩
      exact ((HB2.out.setCell (Nat.le_refl _) _).setCell (Nat.le_refl _) _).setCell (Nat.le_refl _) _
    | succ k =>
      have HN := Lib.hid (dealO_yes hv k hn)
      rw [HE.out.1, HE.out.2, HN.out]
      simp only [dealOf, vDeal, Option.isSome]
      have hk4 : k + 1 ≤ 4 := by have := HL.out; omega
      have HAL := Lib.hid (fun w1 => implAllow_any ((comV x)[k]'(by omega)) w1)
      have HBF := Lib.hid (implBoth_any (comF x) (allowF ((comV x)[k]'(by omega))))
      have HG := Lib.hid (show ∀ (w1 : World) (a : Option Addr) (n c : Nat), FlatAt cVersion 2 w1 (.slice a n c) (comV x) → ∃ b o, a = some ⟨b, o, none⟩ ∧ b < w1.heap.size ∧ ∀ j, j < 2 → w1.cell? ⟨b, o + k * 2 + j, none⟩ = (cVersion ((comV x)[k]'(by omega)))[j]? from fun w1 a n c h => flatAt_cell cVersion_len h k (by omega) (by decide))
      generalize (comV x)[k]'(by omega) = t at *
      generalize comF x = cf at *
      generalize allowF t = al at *
      obtain ⟨t0, t1⟩ := t
      simp only [cVersion, vVersion] at HAL HG ⊢
      have HLN := Lib.hid hn
      clear hx hv hn
      go_enter Try.func18, Try.ntmps18
      go_wp2_with fail
      refine HA.out.mono ?_
      rintro e w1 ⟨rfl, hb⟩
      have V1 := Lib.hid (V0.out.below hb)
      have HB := Lib.hid (bel_to HXB.out hb)
      clear hb
      go_wp2_with fail
      refine (HC.out _ HB.out).mono ?_
      rintro e w2 ⟨u, rfl, ho, hb⟩
      have V2 := Lib.hid (V1.out.below hb)
      have HB2 := Lib.hid (bel_to HB.out hb)
      have hfl := ownsF_at ho (by have := HLN.out; omega)
      obtain ⟨a2, c2, rfl, _⟩ := flatAt_len hfl
      obtain ⟨b, o, rfl, hbw, hd⟩ := HG.out _ _ _ _ hfl
      rw [HLN.out]
      have d0 := hd 0 (by decide)
      have d1 := hd 1 (by decide)
      simp only [List.getElem?_cons_zero, List.getElem?_cons_succ, Nat.add_zero] at d0 d1
      have VT := Lib.hid (Var2.new w2 t0 t1 27)
      have HS0 := Lib.hid (show DealS w.heap.size w2.heap.size w (w2.alloc (.cells #[.int .i64 t0, .int .i64 t1] 27)) from ⟨V2.out.lt, by simp, bel_to HB2.out (box1 w2 _), _, _, _, V2.out.below (box1 w2 _)⟩)
      have HLT := V2.out.lt
      clear hb ho hfl hd
      go_wp2_with fail
      generalize hW : w2.alloc (.cells #[.int .i64 t0, .int .i64 t1] 27) = W at *
      clear hW
      generalize hBB : w2.heap.size = B at *
      clear hBB
      have m0 := VT.out.c0
      have m1 := VT.out.c1
      have hwB : w.heap.size < B := HS0.out.1
      have HDS := HS0.out
      go_region_held3 (fun w' => w'.cell? ⟨B, 0, none⟩ = some (.int .i64 t0) ∧ w'.cell? ⟨B, 1, none⟩ = some (.int .i64 t1) ∧ DealS w.heap.size B w w')
        (first
          | exact ⟨m0, m1, HDS.drw⟩
          | assumption
          | (have hN := ‹_ ∧ _ ∧ DealS w.heap.size B w _›; exact ⟨(hb0.cell (p := ⟨B, 0, none⟩) hN.2.2.2.1).trans hN.1, (hb0.cell (p := ⟨B, 1, none⟩) hN.2.2.2.1).trans hN.2.1, hN.2.2.below hb0⟩)
          | (have hN := ‹_ ∧ _ ∧ DealS w.heap.size B w _›; exact ⟨(set_ne (Or.inl (by omega))).trans ((set_ne (Or.inl (by omega))).trans ((set_ne (Or.inl (by omega))).trans hN.1)), (set_ne (Or.inl (by omega))).trans ((set_ne (Or.inl (by omega))).trans ((set_ne (Or.inl (by omega))).trans hN.2.1)), hN.2.2.set (Nat.le_refl _) _ _ _⟩))
        (first
          | (go_at_call 42; (with_reducible refine (HCF.out _ (DealS.bel (‹_ ∧ _ ∧ DealS w.heap.size B w _›).2.2)).mono ?_); rintro e wN ⟨rfl, hb0⟩)
          | (go_at_call 25; (with_reducible refine (HAL.out _).mono ?_); rintro e wN ⟨rfl, hb0⟩)
          | (go_at_call 41; (with_reducible refine (HBF.out _).mono ?_); rintro e wN ⟨rfl, rfl⟩; obtain ⟨_, _, _, q0, q1, q2, hvv⟩ := (‹_ ∧ _ ∧ DealS w.heap.size B w _›).2.2; have g0 := hvv.c0; have g1 := hvv.c1; have g2 := hvv.c2; have g3 := hvv.f0; have g4 := hvv.f1; have g5 := hvv.f2))
      have HBE := Lib.hid (DealS.bel (‹_ ∧ _ ∧ DealS w.heap.size B w _›).2.2)
      have HVE := Lib.hid (hvv.set (.int .i64 t0) (.int .i64 t1) (.int .i64 (bothF cf al)))
      clear g0 g1 g2 g3 g4 g5 hvv m0 m1 HDS
      generalize ((wN.setCell ⟨w.heap.size, 0, none⟩ (.int .i64 t0)).setCell ⟨w.heap.size, 1, none⟩ (.int .i64 t1)).setCell ⟨w.heap.size, 2, none⟩ (.int .i64 (bothF cf al)) = WE at *
      have e0 := HVE.out.c0
      have e1 := HVE.out.c1
      have e2 := HVE.out.c2
      go_wp2_with fail
      exact bodyPost_ret (v := .tuple #[.agg #[.int .i64 t0, .int .i64 t1, .int .i64 (bothF cf al)], .bool true]) (by simp [results, Try.results18, go_sem, e0, e1, e2]) rfl ⟨rfl, HBE.out⟩
theorem implNegAll_b (v : Value) (x : List OfferD) (d : DealD) (r : Bool) (hd : dealV x = d) (hr : dealB x = r) (w : World) (hx : SliceAt rOffer 2 0 w v x) :
    Calls Try.prog 18 #[v] w fun e w' => e = .returned (.tuple #[vDeal d, .bool r]) ∧ Below w.heap.size w w' := by subst hd hr; exact implNegAll_any v x w hx
end Go.Proofs.Ytbofplofpggdlaa
