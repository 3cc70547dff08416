/- Contracts of chapter 5: deals of two, the model's. -/
import Derived.Test.YtbofplofpggdlaaNeg7
namespace Go.Proofs.Ytbofplofpggdlaa
set_option linter.unusedVariables false
set_option linter.unusedSimpArgs false
open Go.RowKit
/-- a variable of two cells that nobody writes -/
structure Par2 (w : World) (b : Nat) (x y : Value) : Prop where
  lt : b < w.heap.size
  c0 : w.cell? ⟨b, 0, none⟩ = some x
  c1 : w.cell? ⟨b, 1, none⟩ = some y
theorem Par2.below {w w' : World} {b : Nat} {x y : Value} (h : Par2 w b x y) (hb : Below w.heap.size w w') : Par2 w' b x y :=
  ⟨Nat.lt_of_lt_of_le h.lt hb.size, (hb.cell (p := ⟨b, 0, none⟩) h.lt).trans h.c0, (hb.cell (p := ⟨b, 1, none⟩) h.lt).trans h.c1⟩
theorem Par2.new (w : World) (x y : Value) (t : TypeId) : Par2 (w.alloc (.cells #[x, y] t)) w.heap.size x y := ⟨by simp, by simp, by simp⟩
theorem Par2.one {w : World} {b c : Nat} {x y : Value} (h : Par2 w b x y) (hne : b ≠ c) (i : Nat) (u : Value) : Par2 (w.setCell ⟨c, i, none⟩ u) b x y := by
  obtain ⟨h1, h2, h3⟩ := h
  exact ⟨by simpa using h1, (set_ne (Or.inl hne)).trans h2, (set_ne (Or.inl hne)).trans h3⟩
theorem Par2.thr {w : World} {b c : Nat} {x y : Value} (h : Par2 w b x y) (hne : b ≠ c) (u0 u1 u2 : Value) : Par2 (((w.setCell ⟨c, 0, none⟩ u0).setCell ⟨c, 1, none⟩ u1).setCell ⟨c, 2, none⟩ u2) b x y := ((h.one hne 0 u0).one hne 1 u1).one hne 2 u2
theorem Par2.drw {w : World} {b : Nat} {x y : Value} (h : Par2 w b x y) : Par2 w.drew b x y := ⟨h.lt, h.c0, h.c1⟩
structure NS (w : World) (xa fa xb fb q0 q1 q2 : Value) (w' : World) : Prop where
  a : Par2 w' w.heap.size xa fa
  b : Par2 w' (w.heap.size + 1) xb fb
  r : Var3 w' (w.heap.size + 1 + 1) (.int .i64 0) (.int .i64 0) (.int .i64 0)
  d : Var3 w' (w.heap.size + 1 + 1 + 1) q0 q1 q2
  bel : Below w.heap.size w w'
variable {w w1 w2 : World} {xa fa xb fb q0 q1 q2 : Value}
theorem NS.below (h : NS w xa fa xb fb q0 q1 q2 w1) (hb : Below w1.heap.size w1 w2) : NS w xa fa xb fb q0 q1 q2 w2 :=
  ⟨h.a.below hb, h.b.below hb, h.r.below hb, h.d.below hb, h.bel.trans (hb.mono h.bel.size)⟩
theorem NS.drw (h : NS w xa fa xb fb q0 q1 q2 w1) : NS w xa fa xb fb q0 q1 q2 w1.drew := ⟨h.a.drw, h.b.drw, h.r.drw, h.d.drw, belDr h.bel⟩
theorem NS.set (h : NS w xa fa xb fb q0 q1 q2 w1) (x y z : Value) : NS w xa fa xb fb x y z (((w1.setCell ⟨w.heap.size + 1 + 1 + 1, 0, none⟩ x).setCell ⟨w.heap.size + 1 + 1 + 1, 1, none⟩ y).setCell ⟨w.heap.size + 1 + 1 + 1, 2, none⟩ z) :=
  ⟨h.a.thr (by omega) _ _ _, h.b.thr (by omega) _ _ _, h.r.thr (by omega) _ _ _, h.d.set _ _ _, ((h.bel.setCell (by simp; omega) _).setCell (by simp; omega) _).setCell (by simp; omega) _⟩
theorem NS.start (w : World) (xa fa xb fb : Value) (t1 t2 t3 t4 : TypeId) : NS w xa fa xb fb (.int .i64 0) (.int .i64 0) (.int .i64 0) ((((w.alloc (.cells #[xa, fa] t1)).alloc (.cells #[xb, fb] t2)).alloc (.cells #[.int .i64 0, .int .i64 0, .int .i64 0] t3)).alloc (.cells #[.int .i64 0, .int .i64 0, .int .i64 0] t4)) := by
  have s1 : (w.alloc (.cells #[xa, fa] t1)).heap.size = w.heap.size + 1 := by simp
  have s2 : ((w.alloc (.cells #[xa, fa] t1)).alloc (.cells #[xb, fb] t2)).heap.size = w.heap.size + 1 + 1 := by simp
  have s3 : (((w.alloc (.cells #[xa, fa] t1)).alloc (.cells #[xb, fb] t2)).alloc (.cells #[.int .i64 0, .int .i64 0, .int .i64 0] t3)).heap.size = w.heap.size + 1 + 1 + 1 := by simp
  refine ⟨(((Par2.new w xa fa t1).below (box1 _ _)).below (box1 _ _)).below (box1 _ _), ?_, ?_, ?_, bel_to (box2 w _ _) (box2 _ _ _)⟩
  · have h := ((Par2.new (w.alloc (.cells #[xa, fa] t1)) xb fb t2).below (box1 _ (.cells #[.int .i64 0, .int .i64 0, .int .i64 0] t3))).below (box1 _ (.cells #[.int .i64 0, .int .i64 0, .int .i64 0] t4))
    rw [s1] at h; exact h
  · have h := (Var3.new ((w.alloc (.cells #[xa, fa] t1)).alloc (.cells #[xb, fb] t2)) (.int .i64 0) (.int .i64 0) (.int .i64 0) t3).below (box1 _ (.cells #[.int .i64 0, .int .i64 0, .int .i64 0] t4))
    rw [s2] at h; exact h
  · have h := Var3.new (((w.alloc (.cells #[xa, fa] t1)).alloc (.cells #[xb, fb] t2)).alloc (.cells #[.int .i64 0, .int .i64 0, .int .i64 0] t3)) (.int .i64 0) (.int .i64 0) (.int .i64 0) t4
    rw [s3] at h; exact h
theorem comF_two (a b : OfferD) (ha : offerB a = true) : comF [a, b] = bothF a.fFace b.fFace := by
  simp only [offerB, Bool.and_eq_true] at ha
  unfold comF; rw [List.foldl_cons, List.foldl_cons, both_all ha.1]; rfl
theorem candB_two {a b : OfferD} {v : VersionD} (ha : offerB a = true) (hb : offerB b = true) (hv : v ∈ a.fVersions) : candB [a, b] v = inV b.fVersions v := by
  unfold candB
  simp only [List.all_cons, List.all_nil, ha, hb, Bool.true_and, Bool.and_true]
  rw [show inV a.fVersions v = true from decide_eq_true hv, Bool.true_and]
theorem dealO_two {a b : OfferD} (h : offerB a = false ∨ offerB b = false) : dealO [a, b] = none := by
  refine dealO_no ?_
  simp only [List.all_cons, List.all_nil, Bool.and_true]
  rcases h with h | h <;> rw [h] <;> simp
set_option maxRecDepth 100000 in
set_option maxHeartbeats 3200000 in
theorem specNeg_any (v u : Value) (a b : OfferD) (w : World) (ha : ValAt rOffer 0 w v a) (hb : ValAt rOffer 0 w u b) :
    Calls Try.prog 10 #[v, u] w fun e w' => e = .returned (.tuple #[vDeal (dealV [a, b]), .bool (dealB [a, b])]) ∧ Below w.heap.size w w' := by
  obtain ⟨_, rfl, x, rfl, hx⟩ := ha
  obtain ⟨_, rfl, y, rfl, hy⟩ := hb
  have HDV := Lib.hid (show dealV [a, b] = dealOf [a, b] (dealO [a, b]) ∧ dealB [a, b] = (dealO [a, b]).isSome from ⟨rfl, rfl⟩)
  rw [HDV.out.2]
  have HLE := Lib.hid (lastM_end a [b])
  have HIA := Lib.hid (fun w1 hw => specIsOffer_any (.agg #[x, .int .i64 a.fFace]) a w1 ⟨x, rfl, (flatAt_of_slice cVersion_len (by decide) hx).below (w' := w1) hw (Nat.le_refl _)⟩)
  have HIB := Lib.hid (fun w1 hw => specIsOffer_any (.agg #[y, .int .i64 b.fFace]) b w1 ⟨y, rfl, (flatAt_of_slice cVersion_len (by decide) hy).below (w' := w1) hw (Nat.le_refl _)⟩)
  have HIN := Lib.hid (fun t w1 hw => specIn_any y b.fVersions t w1 ((flatAt_of_slice cVersion_len (by decide) hy).below (w' := w1) hw (Nat.le_refl _)))
  have HX := Lib.hid (flatAt_of_slice cVersion_len (by decide) hx)
  have HS0 := Lib.hid (NS.start w x (.int .i64 a.fFace) y (.int .i64 b.fFace) 34 34 29 29)
  obtain ⟨xa, xc, rfl, hla⟩ := sliceAt_len hx
  obtain ⟨ya, yc, rfl, hlb⟩ := sliceAt_len hy
  unfold maxLen at hla hlb
  clear hx hy
  cases hoa : offerB a with
  | false =>
    have HN := Lib.hid (dealO_two (b := b) (Or.inl hoa))
    rw [HDV.out.1, HN.out]
    rw [hoa] at HIA
    simp only [dealOf, vDeal, Option.isSome]
    clear hoa
    obtain ⟨a0, a1⟩ := a
    obtain ⟨b0, b1⟩ := b
    simp only at *
    go_enter Try.func10, Try.ntmps10
    go_wp2_with fail
    refine (HIA.out _ HS0.out.bel).mono ?_
    rintro e w1 ⟨rfl, hb⟩
    have HS := Lib.hid (HS0.out.below hb)
    have e0 := HS.out.d.c0
    have e1 := HS.out.d.c1
    have e2 := HS.out.d.c2
    have m0 := HS.out.r.c0
    have m1 := HS.out.r.c1
    have m2 := HS.out.r.c2
    have n0 := HS.out.r.f0
    have n1 := HS.out.r.f1
    have n2 := HS.out.r.f2
    clear hb
    go_wp2_with fail
    refine bodyPost_ret (v := .tuple #[.agg #[.int .i64 0, .int .i64 0, .int .i64 0], .bool false]) (by simp [results, Try.results10, go_sem, m0, m1, m2]) rfl ⟨rfl, ?_⟩
    exact ((HS.out.bel.setCell (by simp; omega) _).setCell (by simp; omega) _).setCell (by simp; omega) _
  | true =>
    cases hob : offerB b with
    | false =>
      have HN := Lib.hid (dealO_two (a := a) (Or.inr hob))
      rw [HDV.out.1, HN.out]
      rw [hoa] at HIA
      rw [hob] at HIB
      simp only [dealOf, vDeal, Option.isSome]
      clear hoa hob
      obtain ⟨a0, a1⟩ := a
      obtain ⟨b0, b1⟩ := b
      simp only at *
      go_enter Try.func10, Try.ntmps10
      go_wp2_with fail
      refine (HIA.out _ HS0.out.bel).mono ?_
      rintro e w1 ⟨rfl, hb⟩
      have HS1 := Lib.hid (HS0.out.below hb)
      have k0 := HS1.out.b.c0
      have k1 := HS1.out.b.c1
      clear hb
      go_wp2_with fail
      refine (HIB.out _ HS1.out.bel).mono ?_
      rintro e w2 ⟨rfl, hb⟩
      have HS := Lib.hid (HS1.out.below hb)
      have e0 := HS.out.d.c0
      have e1 := HS.out.d.c1
      have e2 := HS.out.d.c2
      have m0 := HS.out.r.c0
      have m1 := HS.out.r.c1
      have m2 := HS.out.r.c2
      have n0 := HS.out.r.f0
      have n1 := HS.out.r.f1
      have n2 := HS.out.r.f2
      clear hb k0 k1
      go_wp2_with fail
      refine bodyPost_ret (v := .tuple #[.agg #[.int .i64 0, .int .i64 0, .int .i64 0], .bool false]) (by simp [results, Try.results10, go_sem, m0, m1, m2]) rfl ⟨rfl, ?_⟩
      exact ((HS.out.bel.setCell (by simp; omega) _).setCell (by simp; omega) _).setCell (by simp; omega) _
    | true =>
      have HCF := Lib.hid (comF_two a b hoa)
      have HCB := Lib.hid (fun v (hv : v ∈ a.fVersions) => candB_two hoa hob hv)
      have HDO := Lib.hid (show ∀ v, dealOf [a, b] (some v) = ⟨v.fMajor, v.fMinor, bothF (bothF a.fFace b.fFace) (allowF v)⟩ from fun v => by simp only [dealOf]; rw [HCF.out])
      have HD0 := Lib.hid (show dealOf [a, b] none = ⟨0, 0, 0⟩ from rfl)
      have HL0 := Lib.hid (show lastM [a, b] a.fVersions 0 = none from rfl)
      have HLS := Lib.hid (lastM_succ [a, b] a.fVersions)
      rw [hoa] at HIA
      rw [hob] at HIB
      clear hoa hob HCF
      generalize dealV [a, b] = dv at *
      generalize dealO [a, b] = dO at *
      generalize hDF : dealOf [a, b] = DF at *
      generalize hLM : lastM [a, b] = LM at *
      clear hDF
      clear hLM
      have HDA := Lib.hid (show bothF a.fFace b.fFace = bothF a.fFace b.fFace from rfl)
      obtain ⟨a0, a1⟩ := a
      obtain ⟨b0, b1⟩ := b
      obtain ⟨u0, u1, u2⟩ := dv
      unfold vDeal
      simp only at *
      go_enter Try.func10, Try.ntmps10
      go_wp2_with fail
      refine (HIA.out _ HS0.out.bel).mono ?_
      rintro e w1 ⟨rfl, hb⟩
      have HS1 := Lib.hid (HS0.out.below hb)
      have k0 := HS1.out.b.c0
      have k1 := HS1.out.b.c1
      clear hb
      go_wp2_with fail
      refine (HIB.out _ HS1.out.bel).mono ?_
      rintro e w2 ⟨rfl, hb⟩
      have HS := Lib.hid (HS1.out.below hb)
      have l0 := HS.out.a.c0
      clear hb k0 k1
      go_wp2_with fail
      clear l0
      go_loopw [7, 9, 23] (fun fd _ i wr => ∃ k : Nat, k ≤ a0.length ∧ i = .int .i64 k ∧ fd = .bool (LM a0 k).isSome ∧ NS w (.slice xa a0.length xc) (.int .i64 a1) (.slice ya b0.length yc) (.int .i64 b1) (.int .i64 (DF (LM a0 k)).fMajor) (.int .i64 (DF (LM a0 k)).fMinor) (.int .i64 (DF (LM a0 k)).fFace) wr) (fun _ _ i _ => a0.length - (intOf i).toNat)
      case atStart => exact ⟨0, Nat.zero_le _, rfl, by rw [HL0.out]; rfl, by rw [HL0.out, HD0.out]; exact HS.out⟩
      case round =>
        obtain ⟨k, hk, rfl, rfl, hns⟩ := hrel
        have HNr := Lib.hid hns
        have HXr := Lib.hid (HX.out.below hns.bel (Nat.le_refl _))
        have hN3 := hns.d.lt
        clear hns
        by_cases hlt : k < a0.length
        · obtain ⟨b2, o2, e2, hbw2, hd2⟩ := flatAt_cell cVersion_len HXr.out k hlt (by decide)
          subst e2
          have HSS := Lib.hid (HLS.out k hlt)
          have HCK := Lib.hid (HCB.out a0[k] (List.getElem_mem hlt))
          have q0 := hd2 0 (by decide)
          have q1 := hd2 1 (by decide)
          generalize a0[k] = p at *
          have HII := Lib.hid (HIN.out p)
          have HAL := Lib.hid (specAllow_any p)
          have HDP := Lib.hid (HDO.out p)
          have HBF := Lib.hid (specBoth_any (bothF a1 b1) (allowF p))
          have HBG := Lib.hid (specBoth_any a1 b1)
          rw [HCK.out] at HSS
          generalize inV b0 p = iv at *
          generalize allowF p = al at *
          obtain ⟨p0, p1⟩ := p
          simp only [cVersion, vVersion, List.getElem?_cons_zero, List.getElem?_cons_succ, Nat.add_zero] at q0 q1 HAL HDP HII
          have HN1 := Lib.hid (HNr.out.below (box1 wr (.cells #[.int .i64 p0, .int .i64 p1] 27)))
          have k0 := HN1.out.b.c0
          clear hd2
          go_wp2_with fail
          refine (HII.out _ HN1.out.bel).mono ?_
          rintro e w3 ⟨rfl, hb⟩
          have HN3 := Lib.hid (HN1.out.below hb)
          have HVV := Lib.hid ((Var2.new wr p0 p1 27).below hb)
          clear hb k0
          cases iv with
          | false =>
            have HLN := Lib.hid (show LM a0 (k + 1) = LM a0 k from by rw [HSS.out, if_neg (by simp)])
            go_wp2_with fail
            exact ⟨⟨k + 1, by omega, by go_num, by rw [HLN.out], by rw [HLN.out]; exact HN3.out⟩, by simp [intOf]; omega⟩
          | true =>
            have HLN := Lib.hid (show LM a0 (k + 1) = some ⟨p0, p1⟩ from by rw [HSS.out, if_pos rfl])
            go_wp2_with fail
            generalize wr.heap.size = B at *
            generalize DF (LM a0 k) = dd at *
            have m0 := HVV.out.c0
            have m1 := HVV.out.c1
            have l0 := HN3.out.a.c1
            have l1 := HN3.out.b.c1
            have hBl := HVV.out.lt
            have HDS := HN3.out
            go_region_held3 (fun w' => w'.cell? ⟨B, 0, none⟩ = some (.int .i64 p0) ∧ w'.cell? ⟨B, 1, none⟩ = some (.int .i64 p1) ∧ w'.cell? ⟨w.heap.size, 1, none⟩ = some (.int .i64 a1) ∧ w'.cell? ⟨w.heap.size + 1, 1, none⟩ = some (.int .i64 b1) ∧ B < w'.heap.size ∧ ∃ q0 q1 q2, NS w (.slice (some ⟨b2, o2, none⟩) a0.length xc) (.int .i64 a1) (.slice ya b0.length yc) (.int .i64 b1) q0 q1 q2 w')
              (first
                | exact ⟨m0, m1, l0, l1, hBl, _, _, _, HDS.drw⟩
                | assumption
                | (obtain ⟨s0, s1, _, _, s4, _, _, _, s5⟩ := ‹_ ∧ _ ∧ _ ∧ _ ∧ B < _ ∧ (∃ q0 q1 q2, NS w _ _ _ _ q0 q1 q2 _)›; exact ⟨(hb0.cell (p := ⟨B, 0, none⟩) s4).trans s0, (hb0.cell (p := ⟨B, 1, none⟩) s4).trans s1, (s5.below hb0).a.c1, (s5.below hb0).b.c1, Nat.lt_of_lt_of_le s4 hb0.size, _, _, _, s5.below hb0⟩)
                | (obtain ⟨s0, s1, _, _, s4, _, _, _, s5⟩ := ‹_ ∧ _ ∧ _ ∧ _ ∧ B < _ ∧ (∃ q0 q1 q2, NS w _ _ _ _ q0 q1 q2 _)›; exact ⟨(set_ne (Or.inl (by omega))).trans ((set_ne (Or.inl (by omega))).trans ((set_ne (Or.inl (by omega))).trans s0)), (set_ne (Or.inl (by omega))).trans ((set_ne (Or.inl (by omega))).trans ((set_ne (Or.inl (by omega))).trans s1)), (s5.set _ _ _).a.c1, (s5.set _ _ _).b.c1, by simpa using s4, _, _, _, s5.set _ _ _⟩))
              (first
                | (go_at_call 35; (with_reducible refine (HAL.out _).mono ?_); rintro e wN ⟨rfl, hb0⟩)
                | (go_at_call 34; (with_reducible refine (HBG.out _).mono ?_); rintro e wN ⟨rfl, rfl⟩)
                | (go_at_call 34; (with_reducible refine (HBF.out _).mono ?_); rintro e wN ⟨rfl, rfl⟩; obtain ⟨_, _, _, _, _, r0, r1, r2, hvv⟩ := ‹_ ∧ _ ∧ _ ∧ _ ∧ B < _ ∧ (∃ q0 q1 q2, NS w _ _ _ _ q0 q1 q2 _)›; have g0 := hvv.d.c0; have g1 := hvv.d.c1; have g2 := hvv.d.c2; have g3 := hvv.d.f0; have g4 := hvv.d.f1; have g5 := hvv.d.f2))
            have HNE := Lib.hid (hvv.set (.int .i64 p0) (.int .i64 p1) (.int .i64 (bothF (bothF a1 b1) al)))
            clear g0 g1 g2 g3 g4 g5 hvv m0 m1 l0 l1 HDS
            generalize ((wN.setCell ⟨w.heap.size + 1 + 1 + 1, 0, none⟩ (.int .i64 p0)).setCell ⟨w.heap.size + 1 + 1 + 1, 1, none⟩ (.int .i64 p1)).setCell ⟨w.heap.size + 1 + 1 + 1, 2, none⟩ (.int .i64 (bothF (bothF a1 b1) al)) = WE at *
            go_wp2_with fail
            exact ⟨⟨k + 1, by omega, by go_num, by rw [HLN.out]; rfl, by rw [HLN.out, HDP.out]; exact HNE.out⟩, by simp [intOf]; omega⟩
        · have hke : k = a0.length := by omega
          subst hke
          have HN := Lib.hid (show LM a0 a0.length = dO from HLE.out)
          rw [HN.out, ← HDV.out.1] at HNr
          rw [HN.out]
          simp only at HNr
          have e0 := HNr.out.d.c0
          have e1 := HNr.out.d.c1
          have e2 := HNr.out.d.c2
          have m0 := HNr.out.r.c0
          have m1 := HNr.out.r.c1
          have m2 := HNr.out.r.c2
          have n0 := HNr.out.r.f0
          have n1 := HNr.out.r.f1
          have n2 := HNr.out.r.f2
          go_wp2_with fail
          refine bodyPost_ret (v := .tuple #[.agg #[.int .i64 u0, .int .i64 u1, .int .i64 u2], .bool dO.isSome]) (by simp [results, Try.results10, go_sem, m0, m1, m2]) rfl ⟨rfl, ?_⟩
          exact ((HNr.out.bel.setCell (by simp; omega) _).setCell (by simp; omega) _).setCell (by simp; omega) _
end Go.Proofs.Ytbofplofpggdlaa
