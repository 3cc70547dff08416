/- FnAllowed: a version allows a face exactly if it is not less than the least version for it, and a greater version allows no less, at every code that is drawn from. No condition. -/
import Derived.Test.YtbjkalnahckfnabDraw5
import Derived.Test.YtbjkalnahckfnabDraw2
import Derived.Test.YtbjkalnahckfnabVer7
import Derived.Test.YtbjkalnahckfnabFaceQ
import Derived.Test.YtbjkalnahckfnabLaw
namespace Go.Proofs.Ytbjkalnahckfnab
set_option linter.unusedVariables false
set_option linter.unusedSimpArgs false
open Go.ChangeShapes Go.WideShapes Go.ChangeAt Go.RowKit Go.WideMaps Go.WideElems
open Go.ChangeMaps (open_string shut_string)
theorem le_trans_V {a b v : VersionD} (h : cmpV a b ≤ 0) (k : cmpV b v ≤ 0) : cmpV a v ≤ 0 := by
  rcases cmpV_cases a b with ⟨h1, e⟩ | ⟨h1, e⟩ | ⟨h1, e⟩ <;> rcases cmpV_cases b v with ⟨k1, f⟩ | ⟨k1, f⟩ | ⟨k1, f⟩ <;> rcases cmpV_cases a v with ⟨m1, g⟩ | ⟨m1, g⟩ | ⟨m1, g⟩
  all_goals first
    | omega
    | (subst h1; omega)
    | (subst k1; omega)
theorem leastK_of (f : Int) : ∀ k, leastK f k = ⟨0, 0⟩ ∨ ∃ j, j < k ∧ hasI f j = true ∧ leastK f k = sinceN j := by
  intro k
  induction k with
  | zero => exact Or.inl rfl
  | succ k ih =>
    unfold leastK
    by_cases hh : hasI f k = true
    · rw [if_pos hh]; exact Or.inr ⟨k, by omega, hh, rfl⟩
    · rw [if_neg hh]
      rcases ih with h | ⟨j, h1, h2, h3⟩
      · exact Or.inl h
      · exact Or.inr ⟨j, by omega, h2, h3⟩
theorem since_mono : ∀ k j : Fin 6, j ≤ k → cmpV (sinceN j) (sinceN k) ≤ 0 := by decide
theorem leastK_ge (f : Int) : ∀ k, k ≤ 6 → ∀ j, j < k → hasI f j = true → cmpV (sinceN j) (leastK f k) ≤ 0 := by
  intro k
  induction k with
  | zero => intro _ j hj; omega
  | succ k ih =>
    intro hk j hj hh
    unfold leastK
    by_cases hk2 : hasI f k = true
    · rw [if_pos hk2]; exact since_mono ⟨k, by omega⟩ ⟨j, by omega⟩ (by show j ≤ k; omega)
    · rw [if_neg hk2]
      rcases Nat.lt_or_ge j k with h | h
      · exact ih (by omega) j h hh
      · have : j = k := by omega
        subst this; exact absurd hh hk2
theorem zero_le_V {a : VersionD} (h : verB a = true) : cmpV ⟨0, 0⟩ a ≤ 0 := by
  simp only [verB, vnB, Bool.and_eq_true, decide_eq_true_eq] at h
  rcases cmpV_cases ⟨0, 0⟩ a with ⟨h1, e⟩ | ⟨h1, e⟩ | ⟨h1, e⟩
  · omega
  · omega
  · simp only at h1; omega
theorem has_made (p : Nat → Bool) (k : Nat) (hk : k < 6) : hasI (madeK p 6) k = p k := hasI_made p k hk
theorem offers_allow {a : VersionD} {f : Int} (ha : verB a = true) (hf : isF f = true) : offersF (allowF a) f = decide (cmpV (leastV f) a ≤ 0) := by
  rw [Bool.eq_iff_iff, offers_iff (allowF_face a) hf, decide_eq_true_eq, allowF_yes ha, leastV_yes hf]
  constructor
  · intro h
    rcases leastK_of f 6 with e | ⟨j, h1, h2, e⟩
    · rw [e]; exact zero_le_V ha
    · have := h j h1 h2
      rw [has_made _ _ h1] at this
      rw [e]; exact of_decide_eq_true this
  · intro h j hj hh
    rw [has_made _ _ hj]
    exact decide_eq_true (le_trans_V (leastK_ge f 6 (Nat.le_refl _) j hj hh) h)
theorem allow_mono {a b : VersionD} (ha : verB a = true) (hb : verB b = true) (h : cmpV a b ≤ 0) : offersF (allowF b) (allowF a) = true := by
  rw [offers_iff (allowF_face b) (allowF_face a), allowF_yes ha, allowF_yes hb]
  intro j hj hh
  rw [has_made _ _ hj] at *
  exact decide_eq_true (le_trans_V (of_decide_eq_true hh) h)
theorem either_lack : ∀ a b : Fin 64, eitherF (a : Nat) (lackF (a : Nat) (b : Nat)) = eitherF (a : Nat) (b : Nat) := by decide +kernel
theorem either_gains (a b : VersionD) : eitherF (allowF a) (gainsF a b) = eitherF (allowF a) (allowF b) := by
  unfold gainsF
  obtain ⟨A, hA⟩ := isF_fin (allowF_face a)
  obtain ⟨B, hB⟩ := isF_fin (allowF_face b)
  rw [hA, hB]; exact either_lack A B
set_option maxHeartbeats 400000 in
theorem drawLeastVersion_any (v : Value) (l : List UInt8) (w : World) (hR : RowAt w v (Lib.byteCells l)) :
    Calls Try.prog 31 #[v] w fun e w' => GivesInt I64 w e w' := by
  have HR := Lib.hid hR
  clear hR
  go_enter Try.func31, Try.ntmps31
  go_wp2_with fail
  refine (l1New_any v l w HR.out).mono ?_
  rintro e w1 ⟨b, rfl, hb, hB, hC⟩
  have HB1 := Lib.hid hB
  have HC1 := Lib.hid hC
  clear hB hC
  go_wp2_with fail
  refine (l2Any_any b v l w1 HC1.out).mono ?_
  rintro e w2 ⟨x, rfl, hx, hg, hC⟩
  have HB2 := Lib.hid (below_grown HB1.out hg hb HB1.out.size)
  have HC2 := Lib.hid hC
  clear hg hC
  go_wp2_with fail
  go_ret
  exact ⟨_, rfl, hx, HB2.out⟩
set_option maxRecDepth 100000 in
set_option maxHeartbeats 6400000 in
theorem fnAllowed_any (v : Value) (l : List UInt8) (w : World) (hR : RowAt w v (Lib.byteCells l)) :
    Calls Try.prog 8 #[v] w fun e w' => e = .returned (.bool true) ∧ Below w.heap.size w w' := by
  have HR := Lib.hid hR
  have HBG := Lib.hid (big_any v l w hR)
  clear hR
  go_enter Try.func8, Try.ntmps8
  go_wp2_with fail
  refine HBG.out.mono ?_
  rintro e w' ⟨rfl, rfl⟩
  by_cases hbig : 4096 < l.length
  · go_wp2_with fail
    go_ret
    exact ⟨rfl, Below.refl _ _⟩
  · have hd : decide (4096 < l.length) = false := by simpa using hbig
    clear hbig
    rw [hd]
    go_wp2_with fail
    refine (drawGainsOf_any v l w HR.out).mono ?_
    rintro e w1 ⟨⟨a0, a1⟩, ⟨b0, b1⟩, rfl, hoa, hob, hb⟩
    have HB1 := Lib.hid (hb.alloc hb.size (.cells #[.int .i64 a0, .int .i64 a1] 25))
    have HB2 := Lib.hid (HB1.out.alloc HB1.out.size (.cells #[.int .i64 b0, .int .i64 b1] 25))
    have VA0 := Lib.hid ((Var2.new w1 a0 a1 25).alloc (.cells #[.int .i64 b0, .int .i64 b1] 25))
    have VB0 := Lib.hid (Var2.new (w1.alloc (.cells #[.int .i64 a0, .int .i64 a1] 25)) b0 b1 25)
    have hn : (w1.alloc (.cells #[.int .i64 a0, .int .i64 a1] 25)).heap.size = w1.heap.size + 1 := by simp
    rw [hn] at VB0
    clear hb hn
    unfold vVersion
    simp only
    go_wp2_with fail
    generalize (w1.alloc (.cells #[.int .i64 a0, .int .i64 a1] 25)).alloc (.cells #[.int .i64 b0, .int .i64 b1] 25) = w2 at *
    refine (drawLeastVersion_any v l w2 (RowAt.below HR.out HB2.out (Nat.le_refl _))).mono ?_
    rintro e w3 ⟨f, rfl, hf, hb⟩
    have VA := Lib.hid (VA0.out.below hb)
    have VB := Lib.hid (VB0.out.below hb)
    have HB := Lib.hid (HB2.out.trans (hb.mono HB2.out.size))
    clear hb VA0 VB0 HB1 HB2 HBG hd hoa hob hf
    have HIL := Lib.hid (implLeast_any f)
    have HSL := Lib.hid (specLeast_any f)
    unfold GivesLeast at HIL HSL
    have hoa := @offers_allow ⟨a0, a1⟩ f
    have hfa := allowF_face ⟨a0, a1⟩
    have hfb := allowF_face ⟨b0, b1⟩
    have ham := @allow_mono ⟨a0, a1⟩ ⟨b0, b1⟩
    have heg := either_gains ⟨a0, a1⟩ ⟨b0, b1⟩
    have IA := Lib.hid (implIsVer_any ⟨a0, a1⟩)
    have IB := Lib.hid (implIsVer_any ⟨b0, b1⟩)
    have IF := Lib.hid (implIsFace_any f)
    have AA := Lib.hid (implAllow_any ⟨a0, a1⟩)
    have AB := Lib.hid (implAllow_any ⟨b0, b1⟩)
    have CAB := Lib.hid (implCmp_any ⟨a0, a1⟩ ⟨b0, b1⟩)
    have CWA := Lib.hid (implCmp_any (leastV f) ⟨a0, a1⟩)
    have GN := Lib.hid (implGains_any ⟨a0, a1⟩ ⟨b0, b1⟩)
    have OF := Lib.hid (implOffers_any (allowF ⟨a0, a1⟩) f)
    have OM := Lib.hid (implOffers_any (allowF ⟨b0, b1⟩) (allowF ⟨a0, a1⟩))
    have EG := Lib.hid (implEither_any (allowF ⟨a0, a1⟩) (gainsF ⟨a0, a1⟩ ⟨b0, b1⟩))
    have EB := Lib.hid (implEither_any (allowF ⟨a0, a1⟩) (allowF ⟨b0, b1⟩))
    rw [heg] at EG
    generalize eitherF (allowF ⟨a0, a1⟩) (allowF ⟨b0, b1⟩) = fe at *
    generalize offersF (allowF ⟨a0, a1⟩) f = oa at *
    generalize offersF (allowF ⟨b0, b1⟩) (allowF ⟨a0, a1⟩) = om at *
    generalize cmpV (leastV f) ⟨a0, a1⟩ = rw0 at *
    generalize cmpV ⟨a0, a1⟩ ⟨b0, b1⟩ = rab at *
    generalize gainsF ⟨a0, a1⟩ ⟨b0, b1⟩ = fg at *
    generalize allowF ⟨a0, a1⟩ = fa at *
    generalize allowF ⟨b0, b1⟩ = fb at *
    generalize verB ⟨a0, a1⟩ = va at *
    generalize verB ⟨b0, b1⟩ = vb at *
    generalize isF f = fi at *
    generalize leastV f = lv at *
    obtain ⟨r0, r1⟩ := lv
    unfold vVersion at *
    simp only at *
    clear heg hfa hfb
    go_wp2_with fail
    refine (HIL.out _).mono ?_
    rintro e w4 ⟨rfl, hb⟩
    have VA := Lib.hid ((VA.out.below hb).alloc (.cells #[.int .i64 r0, .int .i64 r1] 25))
    have VB := Lib.hid ((VB.out.below hb).alloc (.cells #[.int .i64 r0, .int .i64 r1] 25))
    have VW := Lib.hid (Var2.new w4 r0 r1 25)
    have HB := Lib.hid (HB.out.trans ((bel_to hb (box1 w4 (.cells #[.int .i64 r0, .int .i64 r1] 25))).mono HB.out.size))
    clear hb
    go_wp2_with fail
    generalize w4.alloc (.cells #[.int .i64 r0, .int .i64 r1] 25) = w5 at *
    refine (HSL.out _).mono ?_
    rintro e w6 ⟨rfl, hb⟩
    have VA := Lib.hid ((VA.out.below hb).alloc (.cells #[.int .i64 r0, .int .i64 r1] 25))
    have VB := Lib.hid ((VB.out.below hb).alloc (.cells #[.int .i64 r0, .int .i64 r1] 25))
    have VW := Lib.hid ((VW.out.below hb).alloc (.cells #[.int .i64 r0, .int .i64 r1] 25))
    have HB := Lib.hid (HB.out.trans ((bel_to hb (box1 w6 (.cells #[.int .i64 r0, .int .i64 r1] 25))).mono HB.out.size))
    clear hb
    cases fi
    case false =>
      go_wp2_with (go_at_call 32; (with_reducible refine (IF.out _).mono ?_); rintro e w' ⟨rfl, rfl⟩)
      go_ret
      exact ⟨rfl, HB.out⟩
    case true =>
      go_wp2_with fail
      generalize w6.alloc (.cells #[.int .i64 r0, .int .i64 r1] 25) = w7 at *
      refine (IF.out _).mono ?_
      rintro e w' ⟨rfl, rfl⟩
      obtain ⟨al, a0', a1', _, _⟩ := VA.out
      obtain ⟨bl, b0', b1', _, _⟩ := VB.out
      obtain ⟨wl, r0', r1', _, _⟩ := VW.out
      cases va
      case false =>
        go_wp2_with (first | (go_at_call 29; (with_reducible refine (IA.out _).mono ?_); rintro e w' ⟨rfl, hb⟩; have VA := Lib.hid (VA.out.below hb); have VB := Lib.hid (VB.out.below hb); have VW := Lib.hid (VW.out.below hb); have HB := Lib.hid (HB.out.trans (hb.mono HB.out.size)); obtain ⟨al, a0', a1', _, _⟩ := VA.out; obtain ⟨bl, b0', b1', _, _⟩ := VB.out; obtain ⟨wl, r0', r1', _, _⟩ := VW.out; clear hb) | (go_at_call 29; (with_reducible refine (IB.out _).mono ?_); rintro e w' ⟨rfl, hb⟩; have VA := Lib.hid (VA.out.below hb); have VB := Lib.hid (VB.out.below hb); have VW := Lib.hid (VW.out.below hb); have HB := Lib.hid (HB.out.trans (hb.mono HB.out.size)); obtain ⟨al, a0', a1', _, _⟩ := VA.out; obtain ⟨bl, b0', b1', _, _⟩ := VB.out; obtain ⟨wl, r0', r1', _, _⟩ := VW.out; clear hb) | (go_at_call 32; (with_reducible refine (IF.out _).mono ?_); rintro e w' ⟨rfl, rfl⟩))
        go_ret
        exact ⟨rfl, HB.out⟩
      case true =>
        cases vb
        case false =>
          go_wp2_with (first | (go_at_call 29; (with_reducible refine (IA.out _).mono ?_); rintro e w' ⟨rfl, hb⟩; have VA := Lib.hid (VA.out.below hb); have VB := Lib.hid (VB.out.below hb); have VW := Lib.hid (VW.out.below hb); have HB := Lib.hid (HB.out.trans (hb.mono HB.out.size)); obtain ⟨al, a0', a1', _, _⟩ := VA.out; obtain ⟨bl, b0', b1', _, _⟩ := VB.out; obtain ⟨wl, r0', r1', _, _⟩ := VW.out; clear hb) | (go_at_call 29; (with_reducible refine (IB.out _).mono ?_); rintro e w' ⟨rfl, hb⟩; have VA := Lib.hid (VA.out.below hb); have VB := Lib.hid (VB.out.below hb); have VW := Lib.hid (VW.out.below hb); have HB := Lib.hid (HB.out.trans (hb.mono HB.out.size)); obtain ⟨al, a0', a1', _, _⟩ := VA.out; obtain ⟨bl, b0', b1', _, _⟩ := VB.out; obtain ⟨wl, r0', r1', _, _⟩ := VW.out; clear hb) | (go_at_call 32; (with_reducible refine (IF.out _).mono ?_); rintro e w' ⟨rfl, rfl⟩))
          go_ret
          exact ⟨rfl, HB.out⟩
        case true =>
          have hoa2 := hoa (by simp) (by simp)
          subst hoa2
          have ham2 := ham (by simp) (by simp)
          clear hoa ham
          go_wp2_with (first | (go_at_call 29; (with_reducible refine (IA.out _).mono ?_); rintro e w' ⟨rfl, hb⟩; have VA := Lib.hid (VA.out.below hb); have VB := Lib.hid (VB.out.below hb); have VW := Lib.hid (VW.out.below hb); have HB := Lib.hid (HB.out.trans (hb.mono HB.out.size)); obtain ⟨al, a0', a1', _, _⟩ := VA.out; obtain ⟨bl, b0', b1', _, _⟩ := VB.out; obtain ⟨wl, r0', r1', _, _⟩ := VW.out; clear hb) | (go_at_call 29; (with_reducible refine (IB.out _).mono ?_); rintro e w' ⟨rfl, hb⟩; have VA := Lib.hid (VA.out.below hb); have VB := Lib.hid (VB.out.below hb); have VW := Lib.hid (VW.out.below hb); have HB := Lib.hid (HB.out.trans (hb.mono HB.out.size)); obtain ⟨al, a0', a1', _, _⟩ := VA.out; obtain ⟨bl, b0', b1', _, _⟩ := VB.out; obtain ⟨wl, r0', r1', _, _⟩ := VW.out; clear hb) | (go_at_call 32; (with_reducible refine (IF.out _).mono ?_); rintro e w' ⟨rfl, rfl⟩))
          have LA := Lib.hid VA.out.lt
          have LB := Lib.hid VB.out.lt
          have LW := Lib.hid VW.out.lt
          clear VA VB VW
          by_cases hr : rw0 ≤ 0
          · rw [decide_eq_true hr] at OF
            go_region_held3 (fun w' => w'.cell? ⟨w1.heap.size, 0, none⟩ = some (.int .i64 a0) ∧ w'.cell? ⟨w1.heap.size, 1, none⟩ = some (.int .i64 a1) ∧ w'.cell? ⟨w1.heap.size + 1, 0, none⟩ = some (.int .i64 b0) ∧ w'.cell? ⟨w1.heap.size + 1, 1, none⟩ = some (.int .i64 b1) ∧ w'.cell? ⟨w4.heap.size, 0, none⟩ = some (.int .i64 r0) ∧ w'.cell? ⟨w4.heap.size, 1, none⟩ = some (.int .i64 r1))
              (first | go_keep | (rw [hb.cell (p := ⟨w1.heap.size, 0, none⟩) LPA.out, hb.cell (p := ⟨w1.heap.size, 1, none⟩) LPA.out, hb.cell (p := ⟨w1.heap.size + 1, 0, none⟩) LPB.out, hb.cell (p := ⟨w1.heap.size + 1, 1, none⟩) LPB.out, hb.cell (p := ⟨w4.heap.size, 0, none⟩) LPW.out, hb.cell (p := ⟨w4.heap.size, 1, none⟩) LPW.out]; first | assumption | exact ⟨by assumption, by assumption, by assumption, by assumption, by assumption, by assumption⟩))
              (first | (go_at_call 11; (with_reducible refine (AA.out _).mono ?_); rintro e w' ⟨rfl, hb⟩; have LPA := LA; have LPB := LB; have LPW := LW; have LA := Lib.hid (Nat.lt_of_lt_of_le LA.out hb.size); have LB := Lib.hid (Nat.lt_of_lt_of_le LB.out hb.size); have LW := Lib.hid (Nat.lt_of_lt_of_le LW.out hb.size); first | (have HB := Lib.hid (HB.out.trans (hb.mono HB.out.size))) | (have HB := Lib.hid ((belDr HB.out).trans (hb.mono HB.out.size)))) | (go_at_call 11; (with_reducible refine (AB.out _).mono ?_); rintro e w' ⟨rfl, hb⟩; have LPA := LA; have LPB := LB; have LPW := LW; have LA := Lib.hid (Nat.lt_of_lt_of_le LA.out hb.size); have LB := Lib.hid (Nat.lt_of_lt_of_le LB.out hb.size); have LW := Lib.hid (Nat.lt_of_lt_of_le LW.out hb.size); first | (have HB := Lib.hid (HB.out.trans (hb.mono HB.out.size))) | (have HB := Lib.hid ((belDr HB.out).trans (hb.mono HB.out.size)))) | (go_at_call 25; (with_reducible refine (CWA.out _).mono ?_); rintro e w' ⟨rfl, hb⟩; have LPA := LA; have LPB := LB; have LPW := LW; have LA := Lib.hid (Nat.lt_of_lt_of_le LA.out hb.size); have LB := Lib.hid (Nat.lt_of_lt_of_le LB.out hb.size); have LW := Lib.hid (Nat.lt_of_lt_of_le LW.out hb.size); first | (have HB := Lib.hid (HB.out.trans (hb.mono HB.out.size))) | (have HB := Lib.hid ((belDr HB.out).trans (hb.mono HB.out.size)))) | (go_at_call 33; (with_reducible refine (OF.out _).mono ?_); rintro e w' ⟨rfl, rfl⟩))
            rename_i hheld
            obtain ⟨k0, k1, k2, k3, k4, k5⟩ := hheld
            go_wp2_with fail
            refine (CAB.out _).mono ?_
            rintro e w' ⟨rfl, hb⟩
            have k0 := (hb.cell (p := ⟨w1.heap.size, 0, none⟩) LA.out).trans k0
            have k1 := (hb.cell (p := ⟨w1.heap.size, 1, none⟩) LA.out).trans k1
            have k2 := (hb.cell (p := ⟨w1.heap.size + 1, 0, none⟩) LB.out).trans k2
            have k3 := (hb.cell (p := ⟨w1.heap.size + 1, 1, none⟩) LB.out).trans k3
            have k4 := (hb.cell (p := ⟨w4.heap.size, 0, none⟩) LW.out).trans k4
            have k5 := (hb.cell (p := ⟨w4.heap.size, 1, none⟩) LW.out).trans k5
            have LA := Lib.hid (Nat.lt_of_lt_of_le LA.out hb.size)
            have LB := Lib.hid (Nat.lt_of_lt_of_le LB.out hb.size)
            have LW := Lib.hid (Nat.lt_of_lt_of_le LW.out hb.size)
            have HB := Lib.hid (HB.out.trans (hb.mono HB.out.size))
            clear hb
            by_cases hm : rab ≤ 0
            · have hom := ham2 hm
              subst hom
              clear ham2
              go_wp2_with fail
              go_region_held3 (fun w' => w'.cell? ⟨w1.heap.size, 0, none⟩ = some (.int .i64 a0) ∧ w'.cell? ⟨w1.heap.size, 1, none⟩ = some (.int .i64 a1) ∧ w'.cell? ⟨w1.heap.size + 1, 0, none⟩ = some (.int .i64 b0) ∧ w'.cell? ⟨w1.heap.size + 1, 1, none⟩ = some (.int .i64 b1) ∧ w'.cell? ⟨w4.heap.size, 0, none⟩ = some (.int .i64 r0) ∧ w'.cell? ⟨w4.heap.size, 1, none⟩ = some (.int .i64 r1))
                (first | go_keep | (rw [hb.cell (p := ⟨w1.heap.size, 0, none⟩) LPA.out, hb.cell (p := ⟨w1.heap.size, 1, none⟩) LPA.out, hb.cell (p := ⟨w1.heap.size + 1, 0, none⟩) LPB.out, hb.cell (p := ⟨w1.heap.size + 1, 1, none⟩) LPB.out, hb.cell (p := ⟨w4.heap.size, 0, none⟩) LPW.out, hb.cell (p := ⟨w4.heap.size, 1, none⟩) LPW.out]; first | assumption | exact ⟨by assumption, by assumption, by assumption, by assumption, by assumption, by assumption⟩))
                (first | (go_at_call 11; (with_reducible refine (AA.out _).mono ?_); rintro e w' ⟨rfl, hb⟩; have LPA := LA; have LPB := LB; have LPW := LW; have LA := Lib.hid (Nat.lt_of_lt_of_le LA.out hb.size); have LB := Lib.hid (Nat.lt_of_lt_of_le LB.out hb.size); have LW := Lib.hid (Nat.lt_of_lt_of_le LW.out hb.size); first | (have HB := Lib.hid (HB.out.trans (hb.mono HB.out.size))) | (have HB := Lib.hid ((belDr HB.out).trans (hb.mono HB.out.size)))) | (go_at_call 11; (with_reducible refine (AB.out _).mono ?_); rintro e w' ⟨rfl, hb⟩; have LPA := LA; have LPB := LB; have LPW := LW; have LA := Lib.hid (Nat.lt_of_lt_of_le LA.out hb.size); have LB := Lib.hid (Nat.lt_of_lt_of_le LB.out hb.size); have LW := Lib.hid (Nat.lt_of_lt_of_le LW.out hb.size); first | (have HB := Lib.hid (HB.out.trans (hb.mono HB.out.size))) | (have HB := Lib.hid ((belDr HB.out).trans (hb.mono HB.out.size)))) | (go_at_call 16; (with_reducible refine (GN.out _).mono ?_); rintro e w' ⟨rfl, hb⟩; have LPA := LA; have LPB := LB; have LPW := LW; have LA := Lib.hid (Nat.lt_of_lt_of_le LA.out hb.size); have LB := Lib.hid (Nat.lt_of_lt_of_le LB.out hb.size); have LW := Lib.hid (Nat.lt_of_lt_of_le LW.out hb.size); first | (have HB := Lib.hid (HB.out.trans (hb.mono HB.out.size))) | (have HB := Lib.hid ((belDr HB.out).trans (hb.mono HB.out.size)))) | (go_at_call 33; (with_reducible refine (OM.out _).mono ?_); rintro e w' ⟨rfl, rfl⟩) | (go_at_call 34; (with_reducible refine (EG.out _).mono ?_); rintro e w' ⟨rfl, rfl⟩) | (go_at_call 34; (with_reducible refine (EB.out _).mono ?_); rintro e w' ⟨rfl, rfl⟩))
              rename_i hheld
              obtain ⟨k0, k1, k2, k3, k4, k5⟩ := hheld
              go_wp2_with fail
              go_ret
              exact ⟨ret_bool (by simp), HB.out⟩
            · have hmd : decide (rab ≤ 0) = false := decide_eq_false hm
              clear ham2
              go_wp2_with fail
              refine wp_region_held_drew (S := (fun w' => w'.cell? ⟨w1.heap.size, 0, none⟩ = some (.int .i64 a0) ∧ w'.cell? ⟨w1.heap.size, 1, none⟩ = some (.int .i64 a1) ∧ w'.cell? ⟨w1.heap.size + 1, 0, none⟩ = some (.int .i64 b0) ∧ w'.cell? ⟨w1.heap.size + 1, 1, none⟩ = some (.int .i64 b1) ∧ w'.cell? ⟨w4.heap.size, 0, none⟩ = some (.int .i64 r0) ∧ w'.cell? ⟨w4.heap.size, 1, none⟩ = some (.int .i64 r1))) (by kernel_rfl) ?_ (fun hHeld => ?_)
              · go_keep
              refine wpAnyH_take (i := 0) (v := ?_) rfl (by kernel_rfl) (by kernel_rfl) (by kernel_rfl) (fun _ _ _ h => h) (Or.inl ⟨by rfl, ?_⟩) (by assumption) ?_
              rotate_left
              · intro w hSw; (try dsimp only at hSw); go_simp; with_reducible rfl
              try simp only [Act.put, List.getElem_toArray, List.getElem_cons_zero, List.getElem_cons_succ, List.setIfInBounds_toArray, List.set_cons_zero, List.set_cons_succ]
              refine wpAnyH_take (i := 1) (v := ?_) rfl (by kernel_rfl) (by kernel_rfl) (by kernel_rfl) (fun _ _ _ h => h) (Or.inl ⟨by rfl, ?_⟩) (by assumption) ?_
              rotate_left
              · intro w hSw; (try dsimp only at hSw); go_simp; with_reducible rfl
              try simp only [Act.put, List.getElem_toArray, List.getElem_cons_zero, List.getElem_cons_succ, List.setIfInBounds_toArray, List.set_cons_zero, List.set_cons_succ]
              refine wpAnyH_take (i := 2) (v := ?_) rfl (by kernel_rfl) (by kernel_rfl) (by kernel_rfl) (fun _ _ _ h => h) (Or.inl ⟨by rfl, ?_⟩) (by assumption) ?_
              rotate_left
              · intro w hSw; (try dsimp only at hSw); go_simp; with_reducible rfl
              try simp only [Act.put, List.getElem_toArray, List.getElem_cons_zero, List.getElem_cons_succ, List.setIfInBounds_toArray, List.set_cons_zero, List.set_cons_succ]
              refine wpAnyH_take (i := 3) (v := undef) rfl (by kernel_rfl) (by kernel_rfl) (by kernel_rfl) (fun _ _ _ h => h) (Or.inr ⟨by rfl, rfl⟩) (by assumption) ?_
              try simp only [Act.put, List.getElem_toArray, List.getElem_cons_zero, List.getElem_cons_succ, List.setIfInBounds_toArray, List.set_cons_zero, List.set_cons_succ]
              refine wpAnyH_take (i := 4) (v := undef) rfl (by kernel_rfl) (by kernel_rfl) (by kernel_rfl) (fun _ _ _ h => h) (Or.inr ⟨by rfl, rfl⟩) (by assumption) ?_
              try simp only [Act.put, List.getElem_toArray, List.getElem_cons_zero, List.getElem_cons_succ, List.setIfInBounds_toArray, List.set_cons_zero, List.set_cons_succ]
              refine wpAnyH_take (i := 5) (v := undef) rfl (by kernel_rfl) (by kernel_rfl) (by kernel_rfl) (fun _ _ _ h => h) (Or.inr ⟨by rfl, rfl⟩) (by assumption) ?_
              try simp only [Act.put, List.getElem_toArray, List.getElem_cons_zero, List.getElem_cons_succ, List.setIfInBounds_toArray, List.set_cons_zero, List.set_cons_succ]
              refine wpAnyH_take (i := 6) (v := undef) rfl (by kernel_rfl) (by kernel_rfl) (by kernel_rfl) (fun _ _ _ h => h) (Or.inr ⟨by rfl, rfl⟩) (by assumption) ?_
              try simp only [Act.put, List.getElem_toArray, List.getElem_cons_zero, List.getElem_cons_succ, List.setIfInBounds_toArray, List.set_cons_zero, List.set_cons_succ]
              refine wpAnyH_take (i := 7) (v := undef) rfl (by kernel_rfl) (by kernel_rfl) (by kernel_rfl) (fun _ _ _ h => h) (Or.inr ⟨by rfl, rfl⟩) (by assumption) ?_
              try simp only [Act.put, List.getElem_toArray, List.getElem_cons_zero, List.getElem_cons_succ, List.setIfInBounds_toArray, List.set_cons_zero, List.set_cons_succ]
              refine wpAnyH_take (i := 8) (v := ?_) rfl (by kernel_rfl) (by kernel_rfl) (by kernel_rfl) (fun _ _ _ h => h) (Or.inl ⟨by rfl, ?_⟩) (by assumption) ?_
              rotate_left
              · intro w hSw; (try dsimp only at hSw); go_simp; with_reducible rfl
              try simp only [Act.put, List.getElem_toArray, List.getElem_cons_zero, List.getElem_cons_succ, List.setIfInBounds_toArray, List.set_cons_zero, List.set_cons_succ]
              refine wpAnyH_take (i := 9) (v := ?_) rfl (by kernel_rfl) (by kernel_rfl) (by kernel_rfl) (fun _ _ _ h => h) (Or.inl ⟨by rfl, ?_⟩) (by assumption) ?_
              rotate_left
              · intro w hSw; (try dsimp only at hSw); go_simp; with_reducible rfl
              try simp only [Act.put, List.getElem_toArray, List.getElem_cons_zero, List.getElem_cons_succ, List.setIfInBounds_toArray, List.set_cons_zero, List.set_cons_succ]
              refine wpAnyH_take (i := 10) (v := ?_) rfl (by kernel_rfl) (by kernel_rfl) (by kernel_rfl) (fun _ _ _ h => h) (Or.inl ⟨by rfl, ?_⟩) (by assumption) ?_
              rotate_left
              · intro w hSw; (try dsimp only at hSw); go_simp; with_reducible rfl
              try simp only [Act.put, List.getElem_toArray, List.getElem_cons_zero, List.getElem_cons_succ, List.setIfInBounds_toArray, List.set_cons_zero, List.set_cons_succ]
              refine wpAnyH_take (i := 12) (v := ?_) rfl (by kernel_rfl) (by kernel_rfl) (by kernel_rfl) (fun _ _ _ h => h) (Or.inl ⟨by rfl, ?_⟩) (by assumption) ?_
              rotate_left
              · intro w hSw; (try dsimp only at hSw); go_simp; with_reducible rfl
              try simp only [Act.put, List.getElem_toArray, List.getElem_cons_zero, List.getElem_cons_succ, List.setIfInBounds_toArray, List.set_cons_zero, List.set_cons_succ]
              refine wpAnyH_take (i := 13) (v := ?_) rfl (by kernel_rfl) (by kernel_rfl) (by kernel_rfl) (fun _ _ _ h => h) (Or.inl ⟨by rfl, ?_⟩) (by assumption) ?_
              rotate_left
              · intro w hSw; (try dsimp only at hSw); go_simp; with_reducible rfl
              try simp only [Act.put, List.getElem_toArray, List.getElem_cons_zero, List.getElem_cons_succ, List.setIfInBounds_toArray, List.set_cons_zero, List.set_cons_succ]
              refine wpAnyH_take (i := 16) (v := ?_) rfl (by kernel_rfl) (by kernel_rfl) (by kernel_rfl) (fun _ _ _ h => h) (Or.inl ⟨by rfl, ?_⟩) (by assumption) ?_
              rotate_left
              · intro w hSw; (try dsimp only at hSw); go_simp; with_reducible rfl
              try simp only [Act.put, List.getElem_toArray, List.getElem_cons_zero, List.getElem_cons_succ, List.setIfInBounds_toArray, List.set_cons_zero, List.set_cons_succ]
              refine wpAnyH_take (i := 18) (v := ?_) rfl (by kernel_rfl) (by kernel_rfl) (by kernel_rfl) (fun _ _ _ h => h) (Or.inl ⟨by rfl, ?_⟩) (by assumption) ?_
              rotate_left
              · intro w hSw; (try dsimp only at hSw); go_simp; with_reducible rfl
              try simp only [Act.put, List.getElem_toArray, List.getElem_cons_zero, List.getElem_cons_succ, List.setIfInBounds_toArray, List.set_cons_zero, List.set_cons_succ]
              refine wpAnyH_ready (rs := [11]) (by kernel_rfl) (by simp) ?_
              refine AllReadyH.cons rfl (fun K hK => ?_) AllReadyH.nil
              go_simp
              (first | (go_at_call 11; (with_reducible refine (AA.out _).mono ?_); rintro e w' ⟨rfl, hb⟩; have LPA := LA; have LPB := LB; have LPW := LW; have LA := Lib.hid (Nat.lt_of_lt_of_le LA.out hb.size); have LB := Lib.hid (Nat.lt_of_lt_of_le LB.out hb.size); have LW := Lib.hid (Nat.lt_of_lt_of_le LW.out hb.size); first | (have HB := Lib.hid (HB.out.trans (hb.mono HB.out.size))) | (have HB := Lib.hid ((belDr HB.out).trans (hb.mono HB.out.size)))) | (go_at_call 11; (with_reducible refine (AB.out _).mono ?_); rintro e w' ⟨rfl, hb⟩; have LPA := LA; have LPB := LB; have LPW := LW; have LA := Lib.hid (Nat.lt_of_lt_of_le LA.out hb.size); have LB := Lib.hid (Nat.lt_of_lt_of_le LB.out hb.size); have LW := Lib.hid (Nat.lt_of_lt_of_le LW.out hb.size); first | (have HB := Lib.hid (HB.out.trans (hb.mono HB.out.size))) | (have HB := Lib.hid ((belDr HB.out).trans (hb.mono HB.out.size)))) | (go_at_call 16; (with_reducible refine (GN.out _).mono ?_); rintro e w' ⟨rfl, hb⟩; have LPA := LA; have LPB := LB; have LPW := LW; have LA := Lib.hid (Nat.lt_of_lt_of_le LA.out hb.size); have LB := Lib.hid (Nat.lt_of_lt_of_le LB.out hb.size); have LW := Lib.hid (Nat.lt_of_lt_of_le LW.out hb.size); first | (have HB := Lib.hid (HB.out.trans (hb.mono HB.out.size))) | (have HB := Lib.hid ((belDr HB.out).trans (hb.mono HB.out.size)))) | (go_at_call 33; (with_reducible refine (OM.out _).mono ?_); rintro e w' ⟨rfl, rfl⟩) | (go_at_call 34; (with_reducible refine (EG.out _).mono ?_); rintro e w' ⟨rfl, rfl⟩) | (go_at_call 34; (with_reducible refine (EB.out _).mono ?_); rintro e w' ⟨rfl, rfl⟩))
              refine hK.out _ _ ?_ (fun hHeld => ?_)
              · (first | go_keep | (rw [hb.cell (p := ⟨w1.heap.size, 0, none⟩) LPA.out, hb.cell (p := ⟨w1.heap.size, 1, none⟩) LPA.out, hb.cell (p := ⟨w1.heap.size + 1, 0, none⟩) LPB.out, hb.cell (p := ⟨w1.heap.size + 1, 1, none⟩) LPB.out, hb.cell (p := ⟨w4.heap.size, 0, none⟩) LPW.out, hb.cell (p := ⟨w4.heap.size, 1, none⟩) LPW.out]; first | assumption | exact ⟨by assumption, by assumption, by assumption, by assumption, by assumption, by assumption⟩))
              clear hK K
              try simp only [Act.put, List.getElem_toArray, List.getElem_cons_zero, List.getElem_cons_succ, List.setIfInBounds_toArray, List.set_cons_zero, List.set_cons_succ]
              refine wpAnyH_ready (rs := [14]) (by kernel_rfl) (by simp) ?_
              refine AllReadyH.cons rfl (fun K hK => ?_) AllReadyH.nil
              go_simp
              (first | (go_at_call 11; (with_reducible refine (AA.out _).mono ?_); rintro e w' ⟨rfl, hb⟩; have LPA := LA; have LPB := LB; have LPW := LW; have LA := Lib.hid (Nat.lt_of_lt_of_le LA.out hb.size); have LB := Lib.hid (Nat.lt_of_lt_of_le LB.out hb.size); have LW := Lib.hid (Nat.lt_of_lt_of_le LW.out hb.size); first | (have HB := Lib.hid (HB.out.trans (hb.mono HB.out.size))) | (have HB := Lib.hid ((belDr HB.out).trans (hb.mono HB.out.size)))) | (go_at_call 11; (with_reducible refine (AB.out _).mono ?_); rintro e w' ⟨rfl, hb⟩; have LPA := LA; have LPB := LB; have LPW := LW; have LA := Lib.hid (Nat.lt_of_lt_of_le LA.out hb.size); have LB := Lib.hid (Nat.lt_of_lt_of_le LB.out hb.size); have LW := Lib.hid (Nat.lt_of_lt_of_le LW.out hb.size); first | (have HB := Lib.hid (HB.out.trans (hb.mono HB.out.size))) | (have HB := Lib.hid ((belDr HB.out).trans (hb.mono HB.out.size)))) | (go_at_call 16; (with_reducible refine (GN.out _).mono ?_); rintro e w' ⟨rfl, hb⟩; have LPA := LA; have LPB := LB; have LPW := LW; have LA := Lib.hid (Nat.lt_of_lt_of_le LA.out hb.size); have LB := Lib.hid (Nat.lt_of_lt_of_le LB.out hb.size); have LW := Lib.hid (Nat.lt_of_lt_of_le LW.out hb.size); first | (have HB := Lib.hid (HB.out.trans (hb.mono HB.out.size))) | (have HB := Lib.hid ((belDr HB.out).trans (hb.mono HB.out.size)))) | (go_at_call 33; (with_reducible refine (OM.out _).mono ?_); rintro e w' ⟨rfl, rfl⟩) | (go_at_call 34; (with_reducible refine (EG.out _).mono ?_); rintro e w' ⟨rfl, rfl⟩) | (go_at_call 34; (with_reducible refine (EB.out _).mono ?_); rintro e w' ⟨rfl, rfl⟩))
              refine hK.out _ _ ?_ (fun hHeld => ?_)
              · (first | go_keep | (rw [hb.cell (p := ⟨w1.heap.size, 0, none⟩) LPA.out, hb.cell (p := ⟨w1.heap.size, 1, none⟩) LPA.out, hb.cell (p := ⟨w1.heap.size + 1, 0, none⟩) LPB.out, hb.cell (p := ⟨w1.heap.size + 1, 1, none⟩) LPB.out, hb.cell (p := ⟨w4.heap.size, 0, none⟩) LPW.out, hb.cell (p := ⟨w4.heap.size, 1, none⟩) LPW.out]; first | assumption | exact ⟨by assumption, by assumption, by assumption, by assumption, by assumption, by assumption⟩))
              clear hK K
              try simp only [Act.put, List.getElem_toArray, List.getElem_cons_zero, List.getElem_cons_succ, List.setIfInBounds_toArray, List.set_cons_zero, List.set_cons_succ]
              refine wpAnyH_ready (rs := [15]) (by kernel_rfl) (by simp) ?_
              refine AllReadyH.cons rfl (fun K hK => ?_) AllReadyH.nil
              go_simp
              (first | (go_at_call 11; (with_reducible refine (AA.out _).mono ?_); rintro e w' ⟨rfl, hb⟩; have LPA := LA; have LPB := LB; have LPW := LW; have LA := Lib.hid (Nat.lt_of_lt_of_le LA.out hb.size); have LB := Lib.hid (Nat.lt_of_lt_of_le LB.out hb.size); have LW := Lib.hid (Nat.lt_of_lt_of_le LW.out hb.size); first | (have HB := Lib.hid (HB.out.trans (hb.mono HB.out.size))) | (have HB := Lib.hid ((belDr HB.out).trans (hb.mono HB.out.size)))) | (go_at_call 11; (with_reducible refine (AB.out _).mono ?_); rintro e w' ⟨rfl, hb⟩; have LPA := LA; have LPB := LB; have LPW := LW; have LA := Lib.hid (Nat.lt_of_lt_of_le LA.out hb.size); have LB := Lib.hid (Nat.lt_of_lt_of_le LB.out hb.size); have LW := Lib.hid (Nat.lt_of_lt_of_le LW.out hb.size); first | (have HB := Lib.hid (HB.out.trans (hb.mono HB.out.size))) | (have HB := Lib.hid ((belDr HB.out).trans (hb.mono HB.out.size)))) | (go_at_call 16; (with_reducible refine (GN.out _).mono ?_); rintro e w' ⟨rfl, hb⟩; have LPA := LA; have LPB := LB; have LPW := LW; have LA := Lib.hid (Nat.lt_of_lt_of_le LA.out hb.size); have LB := Lib.hid (Nat.lt_of_lt_of_le LB.out hb.size); have LW := Lib.hid (Nat.lt_of_lt_of_le LW.out hb.size); first | (have HB := Lib.hid (HB.out.trans (hb.mono HB.out.size))) | (have HB := Lib.hid ((belDr HB.out).trans (hb.mono HB.out.size)))) | (go_at_call 33; (with_reducible refine (OM.out _).mono ?_); rintro e w' ⟨rfl, rfl⟩) | (go_at_call 34; (with_reducible refine (EG.out _).mono ?_); rintro e w' ⟨rfl, rfl⟩) | (go_at_call 34; (with_reducible refine (EB.out _).mono ?_); rintro e w' ⟨rfl, rfl⟩))
              refine hK.out _ _ ?_ (fun hHeld => ?_)
              · (first | go_keep | (rw [hb.cell (p := ⟨w1.heap.size, 0, none⟩) LPA.out, hb.cell (p := ⟨w1.heap.size, 1, none⟩) LPA.out, hb.cell (p := ⟨w1.heap.size + 1, 0, none⟩) LPB.out, hb.cell (p := ⟨w1.heap.size + 1, 1, none⟩) LPB.out, hb.cell (p := ⟨w4.heap.size, 0, none⟩) LPW.out, hb.cell (p := ⟨w4.heap.size, 1, none⟩) LPW.out]; first | assumption | exact ⟨by assumption, by assumption, by assumption, by assumption, by assumption, by assumption⟩))
              clear hK K
              try simp only [Act.put, List.getElem_toArray, List.getElem_cons_zero, List.getElem_cons_succ, List.setIfInBounds_toArray, List.set_cons_zero, List.set_cons_succ]
              refine wpAnyH_ready (rs := [17]) (by kernel_rfl) (by simp) ?_
              refine AllReadyH.cons rfl (fun K hK => ?_) AllReadyH.nil
              go_simp
              (first | (go_at_call 11; (with_reducible refine (AA.out _).mono ?_); rintro e w' ⟨rfl, hb⟩; have LPA := LA; have LPB := LB; have LPW := LW; have LA := Lib.hid (Nat.lt_of_lt_of_le LA.out hb.size); have LB := Lib.hid (Nat.lt_of_lt_of_le LB.out hb.size); have LW := Lib.hid (Nat.lt_of_lt_of_le LW.out hb.size); first | (have HB := Lib.hid (HB.out.trans (hb.mono HB.out.size))) | (have HB := Lib.hid ((belDr HB.out).trans (hb.mono HB.out.size)))) | (go_at_call 11; (with_reducible refine (AB.out _).mono ?_); rintro e w' ⟨rfl, hb⟩; have LPA := LA; have LPB := LB; have LPW := LW; have LA := Lib.hid (Nat.lt_of_lt_of_le LA.out hb.size); have LB := Lib.hid (Nat.lt_of_lt_of_le LB.out hb.size); have LW := Lib.hid (Nat.lt_of_lt_of_le LW.out hb.size); first | (have HB := Lib.hid (HB.out.trans (hb.mono HB.out.size))) | (have HB := Lib.hid ((belDr HB.out).trans (hb.mono HB.out.size)))) | (go_at_call 16; (with_reducible refine (GN.out _).mono ?_); rintro e w' ⟨rfl, hb⟩; have LPA := LA; have LPB := LB; have LPW := LW; have LA := Lib.hid (Nat.lt_of_lt_of_le LA.out hb.size); have LB := Lib.hid (Nat.lt_of_lt_of_le LB.out hb.size); have LW := Lib.hid (Nat.lt_of_lt_of_le LW.out hb.size); first | (have HB := Lib.hid (HB.out.trans (hb.mono HB.out.size))) | (have HB := Lib.hid ((belDr HB.out).trans (hb.mono HB.out.size)))) | (go_at_call 33; (with_reducible refine (OM.out _).mono ?_); rintro e w' ⟨rfl, rfl⟩) | (go_at_call 34; (with_reducible refine (EG.out _).mono ?_); rintro e w' ⟨rfl, rfl⟩) | (go_at_call 34; (with_reducible refine (EB.out _).mono ?_); rintro e w' ⟨rfl, rfl⟩))
              refine hK.out _ _ ?_ (fun hHeld => ?_)
              · (first | go_keep | (rw [hb.cell (p := ⟨w1.heap.size, 0, none⟩) LPA.out, hb.cell (p := ⟨w1.heap.size, 1, none⟩) LPA.out, hb.cell (p := ⟨w1.heap.size + 1, 0, none⟩) LPB.out, hb.cell (p := ⟨w1.heap.size + 1, 1, none⟩) LPB.out, hb.cell (p := ⟨w4.heap.size, 0, none⟩) LPW.out, hb.cell (p := ⟨w4.heap.size, 1, none⟩) LPW.out]; first | assumption | exact ⟨by assumption, by assumption, by assumption, by assumption, by assumption, by assumption⟩))
              clear hK K
              try simp only [Act.put, List.getElem_toArray, List.getElem_cons_zero, List.getElem_cons_succ, List.setIfInBounds_toArray, List.set_cons_zero, List.set_cons_succ]
              refine wpAnyH_ready (rs := [19]) (by kernel_rfl) (by simp) ?_
              refine AllReadyH.cons rfl (fun K hK => ?_) AllReadyH.nil
              go_simp
              (first | (go_at_call 11; (with_reducible refine (AA.out _).mono ?_); rintro e w' ⟨rfl, hb⟩; have LPA := LA; have LPB := LB; have LPW := LW; have LA := Lib.hid (Nat.lt_of_lt_of_le LA.out hb.size); have LB := Lib.hid (Nat.lt_of_lt_of_le LB.out hb.size); have LW := Lib.hid (Nat.lt_of_lt_of_le LW.out hb.size); first | (have HB := Lib.hid (HB.out.trans (hb.mono HB.out.size))) | (have HB := Lib.hid ((belDr HB.out).trans (hb.mono HB.out.size)))) | (go_at_call 11; (with_reducible refine (AB.out _).mono ?_); rintro e w' ⟨rfl, hb⟩; have LPA := LA; have LPB := LB; have LPW := LW; have LA := Lib.hid (Nat.lt_of_lt_of_le LA.out hb.size); have LB := Lib.hid (Nat.lt_of_lt_of_le LB.out hb.size); have LW := Lib.hid (Nat.lt_of_lt_of_le LW.out hb.size); first | (have HB := Lib.hid (HB.out.trans (hb.mono HB.out.size))) | (have HB := Lib.hid ((belDr HB.out).trans (hb.mono HB.out.size)))) | (go_at_call 16; (with_reducible refine (GN.out _).mono ?_); rintro e w' ⟨rfl, hb⟩; have LPA := LA; have LPB := LB; have LPW := LW; have LA := Lib.hid (Nat.lt_of_lt_of_le LA.out hb.size); have LB := Lib.hid (Nat.lt_of_lt_of_le LB.out hb.size); have LW := Lib.hid (Nat.lt_of_lt_of_le LW.out hb.size); first | (have HB := Lib.hid (HB.out.trans (hb.mono HB.out.size))) | (have HB := Lib.hid ((belDr HB.out).trans (hb.mono HB.out.size)))) | (go_at_call 33; (with_reducible refine (OM.out _).mono ?_); rintro e w' ⟨rfl, rfl⟩) | (go_at_call 34; (with_reducible refine (EG.out _).mono ?_); rintro e w' ⟨rfl, rfl⟩) | (go_at_call 34; (with_reducible refine (EB.out _).mono ?_); rintro e w' ⟨rfl, rfl⟩))
              refine hK.out _ _ ?_ (fun hHeld => ?_)
              · (first | go_keep | (rw [hb.cell (p := ⟨w1.heap.size, 0, none⟩) LPA.out, hb.cell (p := ⟨w1.heap.size, 1, none⟩) LPA.out, hb.cell (p := ⟨w1.heap.size + 1, 0, none⟩) LPB.out, hb.cell (p := ⟨w1.heap.size + 1, 1, none⟩) LPB.out, hb.cell (p := ⟨w4.heap.size, 0, none⟩) LPW.out, hb.cell (p := ⟨w4.heap.size, 1, none⟩) LPW.out]; first | assumption | exact ⟨by assumption, by assumption, by assumption, by assumption, by assumption, by assumption⟩))
              clear hK K
              try simp only [Act.put, List.getElem_toArray, List.getElem_cons_zero, List.getElem_cons_succ, List.setIfInBounds_toArray, List.set_cons_zero, List.set_cons_succ]
              refine wpAnyH_ready (rs := [20]) (by kernel_rfl) (by simp) ?_
              refine AllReadyH.cons rfl (fun K hK => ?_) AllReadyH.nil
              go_simp
              (first | (go_at_call 11; (with_reducible refine (AA.out _).mono ?_); rintro e w' ⟨rfl, hb⟩; have LPA := LA; have LPB := LB; have LPW := LW; have LA := Lib.hid (Nat.lt_of_lt_of_le LA.out hb.size); have LB := Lib.hid (Nat.lt_of_lt_of_le LB.out hb.size); have LW := Lib.hid (Nat.lt_of_lt_of_le LW.out hb.size); first | (have HB := Lib.hid (HB.out.trans (hb.mono HB.out.size))) | (have HB := Lib.hid ((belDr HB.out).trans (hb.mono HB.out.size)))) | (go_at_call 11; (with_reducible refine (AB.out _).mono ?_); rintro e w' ⟨rfl, hb⟩; have LPA := LA; have LPB := LB; have LPW := LW; have LA := Lib.hid (Nat.lt_of_lt_of_le LA.out hb.size); have LB := Lib.hid (Nat.lt_of_lt_of_le LB.out hb.size); have LW := Lib.hid (Nat.lt_of_lt_of_le LW.out hb.size); first | (have HB := Lib.hid (HB.out.trans (hb.mono HB.out.size))) | (have HB := Lib.hid ((belDr HB.out).trans (hb.mono HB.out.size)))) | (go_at_call 16; (with_reducible refine (GN.out _).mono ?_); rintro e w' ⟨rfl, hb⟩; have LPA := LA; have LPB := LB; have LPW := LW; have LA := Lib.hid (Nat.lt_of_lt_of_le LA.out hb.size); have LB := Lib.hid (Nat.lt_of_lt_of_le LB.out hb.size); have LW := Lib.hid (Nat.lt_of_lt_of_le LW.out hb.size); first | (have HB := Lib.hid (HB.out.trans (hb.mono HB.out.size))) | (have HB := Lib.hid ((belDr HB.out).trans (hb.mono HB.out.size)))) | (go_at_call 33; (with_reducible refine (OM.out _).mono ?_); rintro e w' ⟨rfl, rfl⟩) | (go_at_call 34; (with_reducible refine (EG.out _).mono ?_); rintro e w' ⟨rfl, rfl⟩) | (go_at_call 34; (with_reducible refine (EB.out _).mono ?_); rintro e w' ⟨rfl, rfl⟩))
              refine hK.out _ _ ?_ (fun hHeld => ?_)
              · (first | go_keep | (rw [hb.cell (p := ⟨w1.heap.size, 0, none⟩) LPA.out, hb.cell (p := ⟨w1.heap.size, 1, none⟩) LPA.out, hb.cell (p := ⟨w1.heap.size + 1, 0, none⟩) LPB.out, hb.cell (p := ⟨w1.heap.size + 1, 1, none⟩) LPB.out, hb.cell (p := ⟨w4.heap.size, 0, none⟩) LPW.out, hb.cell (p := ⟨w4.heap.size, 1, none⟩) LPW.out]; first | assumption | exact ⟨by assumption, by assumption, by assumption, by assumption, by assumption, by assumption⟩))
              clear hK K
              try simp only [Act.put, List.getElem_toArray, List.getElem_cons_zero, List.getElem_cons_succ, List.setIfInBounds_toArray, List.set_cons_zero, List.set_cons_succ]
              refine wpAnyH_take (i := 21) (v := ?_) rfl (by kernel_rfl) (by kernel_rfl) (by kernel_rfl) (fun _ _ _ h => h) (Or.inl ⟨by rfl, ?_⟩) (by assumption) ?_
              rotate_left
              · intro w hSw; (try dsimp only at hSw); go_simp; with_reducible rfl
              try simp only [Act.put, List.getElem_toArray, List.getElem_cons_zero, List.getElem_cons_succ, List.setIfInBounds_toArray, List.set_cons_zero, List.set_cons_succ]
              refine wpAnyH_take (i := 22) (v := ?_) rfl (by kernel_rfl) (by kernel_rfl) (by kernel_rfl) (fun _ _ _ h => h) (Or.inl ⟨by rfl, ?_⟩) (by assumption) ?_
              rotate_left
              · intro w hSw; (try dsimp only at hSw); go_simp; with_reducible rfl
              try simp only [Act.put, List.getElem_toArray, List.getElem_cons_zero, List.getElem_cons_succ, List.setIfInBounds_toArray, List.set_cons_zero, List.set_cons_succ]
              refine wpAnyH_take (i := 23) (v := ?_) rfl (by kernel_rfl) (by kernel_rfl) (by kernel_rfl) (fun _ _ _ h => h) (Or.inl ⟨by rfl, ?_⟩) (by assumption) ?_
              rotate_left
              · intro w hSw; (try dsimp only at hSw); go_simp; with_reducible rfl
              try simp only [Act.put, List.getElem_toArray, List.getElem_cons_zero, List.getElem_cons_succ, List.setIfInBounds_toArray, List.set_cons_zero, List.set_cons_succ]
              refine wpAnyH_done (by kernel_rfl) ?_ _
              go_wp2_with fail
              go_ret
              exact ⟨ret_bool (by simp), HB.out⟩
          · rw [decide_eq_false hr] at OF
            go_region_held3 (fun w' => w'.cell? ⟨w1.heap.size, 0, none⟩ = some (.int .i64 a0) ∧ w'.cell? ⟨w1.heap.size, 1, none⟩ = some (.int .i64 a1) ∧ w'.cell? ⟨w1.heap.size + 1, 0, none⟩ = some (.int .i64 b0) ∧ w'.cell? ⟨w1.heap.size + 1, 1, none⟩ = some (.int .i64 b1) ∧ w'.cell? ⟨w4.heap.size, 0, none⟩ = some (.int .i64 r0) ∧ w'.cell? ⟨w4.heap.size, 1, none⟩ = some (.int .i64 r1))
              (first | go_keep | (rw [hb.cell (p := ⟨w1.heap.size, 0, none⟩) LPA.out, hb.cell (p := ⟨w1.heap.size, 1, none⟩) LPA.out, hb.cell (p := ⟨w1.heap.size + 1, 0, none⟩) LPB.out, hb.cell (p := ⟨w1.heap.size + 1, 1, none⟩) LPB.out, hb.cell (p := ⟨w4.heap.size, 0, none⟩) LPW.out, hb.cell (p := ⟨w4.heap.size, 1, none⟩) LPW.out]; first | assumption | exact ⟨by assumption, by assumption, by assumption, by assumption, by assumption, by assumption⟩))
              (first | (go_at_call 11; (with_reducible refine (AA.out _).mono ?_); rintro e w' ⟨rfl, hb⟩; have LPA := LA; have LPB := LB; have LPW := LW; have LA := Lib.hid (Nat.lt_of_lt_of_le LA.out hb.size); have LB := Lib.hid (Nat.lt_of_lt_of_le LB.out hb.size); have LW := Lib.hid (Nat.lt_of_lt_of_le LW.out hb.size); first | (have HB := Lib.hid (HB.out.trans (hb.mono HB.out.size))) | (have HB := Lib.hid ((belDr HB.out).trans (hb.mono HB.out.size)))) | (go_at_call 11; (with_reducible refine (AB.out _).mono ?_); rintro e w' ⟨rfl, hb⟩; have LPA := LA; have LPB := LB; have LPW := LW; have LA := Lib.hid (Nat.lt_of_lt_of_le LA.out hb.size); have LB := Lib.hid (Nat.lt_of_lt_of_le LB.out hb.size); have LW := Lib.hid (Nat.lt_of_lt_of_le LW.out hb.size); first | (have HB := Lib.hid (HB.out.trans (hb.mono HB.out.size))) | (have HB := Lib.hid ((belDr HB.out).trans (hb.mono HB.out.size)))) | (go_at_call 25; (with_reducible refine (CWA.out _).mono ?_); rintro e w' ⟨rfl, hb⟩; have LPA := LA; have LPB := LB; have LPW := LW; have LA := Lib.hid (Nat.lt_of_lt_of_le LA.out hb.size); have LB := Lib.hid (Nat.lt_of_lt_of_le LB.out hb.size); have LW := Lib.hid (Nat.lt_of_lt_of_le LW.out hb.size); first | (have HB := Lib.hid (HB.out.trans (hb.mono HB.out.size))) | (have HB := Lib.hid ((belDr HB.out).trans (hb.mono HB.out.size)))) | (go_at_call 33; (with_reducible refine (OF.out _).mono ?_); rintro e w' ⟨rfl, rfl⟩))
            rename_i hheld
            obtain ⟨k0, k1, k2, k3, k4, k5⟩ := hheld
            go_wp2_with fail
            refine (CAB.out _).mono ?_
            rintro e w' ⟨rfl, hb⟩
            have k0 := (hb.cell (p := ⟨w1.heap.size, 0, none⟩) LA.out).trans k0
            have k1 := (hb.cell (p := ⟨w1.heap.size, 1, none⟩) LA.out).trans k1
            have k2 := (hb.cell (p := ⟨w1.heap.size + 1, 0, none⟩) LB.out).trans k2
            have k3 := (hb.cell (p := ⟨w1.heap.size + 1, 1, none⟩) LB.out).trans k3
            have k4 := (hb.cell (p := ⟨w4.heap.size, 0, none⟩) LW.out).trans k4
            have k5 := (hb.cell (p := ⟨w4.heap.size, 1, none⟩) LW.out).trans k5
            have LA := Lib.hid (Nat.lt_of_lt_of_le LA.out hb.size)
            have LB := Lib.hid (Nat.lt_of_lt_of_le LB.out hb.size)
            have LW := Lib.hid (Nat.lt_of_lt_of_le LW.out hb.size)
            have HB := Lib.hid (HB.out.trans (hb.mono HB.out.size))
            clear hb
            by_cases hm : rab ≤ 0
            · have hom := ham2 hm
              subst hom
              clear ham2
              go_wp2_with fail
              go_region_held3 (fun w' => w'.cell? ⟨w1.heap.size, 0, none⟩ = some (.int .i64 a0) ∧ w'.cell? ⟨w1.heap.size, 1, none⟩ = some (.int .i64 a1) ∧ w'.cell? ⟨w1.heap.size + 1, 0, none⟩ = some (.int .i64 b0) ∧ w'.cell? ⟨w1.heap.size + 1, 1, none⟩ = some (.int .i64 b1) ∧ w'.cell? ⟨w4.heap.size, 0, none⟩ = some (.int .i64 r0) ∧ w'.cell? ⟨w4.heap.size, 1, none⟩ = some (.int .i64 r1))
                (first | go_keep | (rw [hb.cell (p := ⟨w1.heap.size, 0, none⟩) LPA.out, hb.cell (p := ⟨w1.heap.size, 1, none⟩) LPA.out, hb.cell (p := ⟨w1.heap.size + 1, 0, none⟩) LPB.out, hb.cell (p := ⟨w1.heap.size + 1, 1, none⟩) LPB.out, hb.cell (p := ⟨w4.heap.size, 0, none⟩) LPW.out, hb.cell (p := ⟨w4.heap.size, 1, none⟩) LPW.out]; first | assumption | exact ⟨by assumption, by assumption, by assumption, by assumption, by assumption, by assumption⟩))
                (first | (go_at_call 11; (with_reducible refine (AA.out _).mono ?_); rintro e w' ⟨rfl, hb⟩; have LPA := LA; have LPB := LB; have LPW := LW; have LA := Lib.hid (Nat.lt_of_lt_of_le LA.out hb.size); have LB := Lib.hid (Nat.lt_of_lt_of_le LB.out hb.size); have LW := Lib.hid (Nat.lt_of_lt_of_le LW.out hb.size); first | (have HB := Lib.hid (HB.out.trans (hb.mono HB.out.size))) | (have HB := Lib.hid ((belDr HB.out).trans (hb.mono HB.out.size)))) | (go_at_call 11; (with_reducible refine (AB.out _).mono ?_); rintro e w' ⟨rfl, hb⟩; have LPA := LA; have LPB := LB; have LPW := LW; have LA := Lib.hid (Nat.lt_of_lt_of_le LA.out hb.size); have LB := Lib.hid (Nat.lt_of_lt_of_le LB.out hb.size); have LW := Lib.hid (Nat.lt_of_lt_of_le LW.out hb.size); first | (have HB := Lib.hid (HB.out.trans (hb.mono HB.out.size))) | (have HB := Lib.hid ((belDr HB.out).trans (hb.mono HB.out.size)))) | (go_at_call 16; (with_reducible refine (GN.out _).mono ?_); rintro e w' ⟨rfl, hb⟩; have LPA := LA; have LPB := LB; have LPW := LW; have LA := Lib.hid (Nat.lt_of_lt_of_le LA.out hb.size); have LB := Lib.hid (Nat.lt_of_lt_of_le LB.out hb.size); have LW := Lib.hid (Nat.lt_of_lt_of_le LW.out hb.size); first | (have HB := Lib.hid (HB.out.trans (hb.mono HB.out.size))) | (have HB := Lib.hid ((belDr HB.out).trans (hb.mono HB.out.size)))) | (go_at_call 33; (with_reducible refine (OM.out _).mono ?_); rintro e w' ⟨rfl, rfl⟩) | (go_at_call 34; (with_reducible refine (EG.out _).mono ?_); rintro e w' ⟨rfl, rfl⟩) | (go_at_call 34; (with_reducible refine (EB.out _).mono ?_); rintro e w' ⟨rfl, rfl⟩))
              rename_i hheld
              obtain ⟨k0, k1, k2, k3, k4, k5⟩ := hheld
              go_wp2_with fail
              go_ret
              exact ⟨ret_bool (by simp), HB.out⟩
            · have hmd : decide (rab ≤ 0) = false := decide_eq_false hm
              clear ham2
              go_wp2_with fail
              refine wp_region_held_drew (S := (fun w' => w'.cell? ⟨w1.heap.size, 0, none⟩ = some (.int .i64 a0) ∧ w'.cell? ⟨w1.heap.size, 1, none⟩ = some (.int .i64 a1) ∧ w'.cell? ⟨w1.heap.size + 1, 0, none⟩ = some (.int .i64 b0) ∧ w'.cell? ⟨w1.heap.size + 1, 1, none⟩ = some (.int .i64 b1) ∧ w'.cell? ⟨w4.heap.size, 0, none⟩ = some (.int .i64 r0) ∧ w'.cell? ⟨w4.heap.size, 1, none⟩ = some (.int .i64 r1))) (by kernel_rfl) ?_ (fun hHeld => ?_)
              · go_keep
              refine wpAnyH_take (i := 0) (v := ?_) rfl (by kernel_rfl) (by kernel_rfl) (by kernel_rfl) (fun _ _ _ h => h) (Or.inl ⟨by rfl, ?_⟩) (by assumption) ?_
              rotate_left
              · intro w hSw; (try dsimp only at hSw); go_simp; with_reducible rfl
              try simp only [Act.put, List.getElem_toArray, List.getElem_cons_zero, List.getElem_cons_succ, List.setIfInBounds_toArray, List.set_cons_zero, List.set_cons_succ]
              refine wpAnyH_take (i := 1) (v := ?_) rfl (by kernel_rfl) (by kernel_rfl) (by kernel_rfl) (fun _ _ _ h => h) (Or.inl ⟨by rfl, ?_⟩) (by assumption) ?_
              rotate_left
              · intro w hSw; (try dsimp only at hSw); go_simp; with_reducible rfl
              try simp only [Act.put, List.getElem_toArray, List.getElem_cons_zero, List.getElem_cons_succ, List.setIfInBounds_toArray, List.set_cons_zero, List.set_cons_succ]
              refine wpAnyH_take (i := 2) (v := ?_) rfl (by kernel_rfl) (by kernel_rfl) (by kernel_rfl) (fun _ _ _ h => h) (Or.inl ⟨by rfl, ?_⟩) (by assumption) ?_
              rotate_left
              · intro w hSw; (try dsimp only at hSw); go_simp; with_reducible rfl
              try simp only [Act.put, List.getElem_toArray, List.getElem_cons_zero, List.getElem_cons_succ, List.setIfInBounds_toArray, List.set_cons_zero, List.set_cons_succ]
              refine wpAnyH_take (i := 3) (v := undef) rfl (by kernel_rfl) (by kernel_rfl) (by kernel_rfl) (fun _ _ _ h => h) (Or.inr ⟨by rfl, rfl⟩) (by assumption) ?_
              try simp only [Act.put, List.getElem_toArray, List.getElem_cons_zero, List.getElem_cons_succ, List.setIfInBounds_toArray, List.set_cons_zero, List.set_cons_succ]
              refine wpAnyH_take (i := 4) (v := undef) rfl (by kernel_rfl) (by kernel_rfl) (by kernel_rfl) (fun _ _ _ h => h) (Or.inr ⟨by rfl, rfl⟩) (by assumption) ?_
              try simp only [Act.put, List.getElem_toArray, List.getElem_cons_zero, List.getElem_cons_succ, List.setIfInBounds_toArray, List.set_cons_zero, List.set_cons_succ]
              refine wpAnyH_take (i := 5) (v := undef) rfl (by kernel_rfl) (by kernel_rfl) (by kernel_rfl) (fun _ _ _ h => h) (Or.inr ⟨by rfl, rfl⟩) (by assumption) ?_
              try simp only [Act.put, List.getElem_toArray, List.getElem_cons_zero, List.getElem_cons_succ, List.setIfInBounds_toArray, List.set_cons_zero, List.set_cons_succ]
              refine wpAnyH_take (i := 6) (v := undef) rfl (by kernel_rfl) (by kernel_rfl) (by kernel_rfl) (fun _ _ _ h => h) (Or.inr ⟨by rfl, rfl⟩) (by assumption) ?_
              try simp only [Act.put, List.getElem_toArray, List.getElem_cons_zero, List.getElem_cons_succ, List.setIfInBounds_toArray, List.set_cons_zero, List.set_cons_succ]
              refine wpAnyH_take (i := 7) (v := undef) rfl (by kernel_rfl) (by kernel_rfl) (by kernel_rfl) (fun _ _ _ h => h) (Or.inr ⟨by rfl, rfl⟩) (by assumption) ?_
              try simp only [Act.put, List.getElem_toArray, List.getElem_cons_zero, List.getElem_cons_succ, List.setIfInBounds_toArray, List.set_cons_zero, List.set_cons_succ]
              refine wpAnyH_take (i := 8) (v := ?_) rfl (by kernel_rfl) (by kernel_rfl) (by kernel_rfl) (fun _ _ _ h => h) (Or.inl ⟨by rfl, ?_⟩) (by assumption) ?_
              rotate_left
              · intro w hSw; (try dsimp only at hSw); go_simp; with_reducible rfl
              try simp only [Act.put, List.getElem_toArray, List.getElem_cons_zero, List.getElem_cons_succ, List.setIfInBounds_toArray, List.set_cons_zero, List.set_cons_succ]
              refine wpAnyH_take (i := 9) (v := ?_) rfl (by kernel_rfl) (by kernel_rfl) (by kernel_rfl) (fun _ _ _ h => h) (Or.inl ⟨by rfl, ?_⟩) (by assumption) ?_
              rotate_left
              · intro w hSw; (try dsimp only at hSw); go_simp; with_reducible rfl
              try simp only [Act.put, List.getElem_toArray, List.getElem_cons_zero, List.getElem_cons_succ, List.setIfInBounds_toArray, List.set_cons_zero, List.set_cons_succ]
              refine wpAnyH_take (i := 10) (v := ?_) rfl (by kernel_rfl) (by kernel_rfl) (by kernel_rfl) (fun _ _ _ h => h) (Or.inl ⟨by rfl, ?_⟩) (by assumption) ?_
              rotate_left
              · intro w hSw; (try dsimp only at hSw); go_simp; with_reducible rfl
              try simp only [Act.put, List.getElem_toArray, List.getElem_cons_zero, List.getElem_cons_succ, List.setIfInBounds_toArray, List.set_cons_zero, List.set_cons_succ]
              refine wpAnyH_take (i := 12) (v := ?_) rfl (by kernel_rfl) (by kernel_rfl) (by kernel_rfl) (fun _ _ _ h => h) (Or.inl ⟨by rfl, ?_⟩) (by assumption) ?_
              rotate_left
              · intro w hSw; (try dsimp only at hSw); go_simp; with_reducible rfl
              try simp only [Act.put, List.getElem_toArray, List.getElem_cons_zero, List.getElem_cons_succ, List.setIfInBounds_toArray, List.set_cons_zero, List.set_cons_succ]
              refine wpAnyH_take (i := 13) (v := ?_) rfl (by kernel_rfl) (by kernel_rfl) (by kernel_rfl) (fun _ _ _ h => h) (Or.inl ⟨by rfl, ?_⟩) (by assumption) ?_
              rotate_left
              · intro w hSw; (try dsimp only at hSw); go_simp; with_reducible rfl
              try simp only [Act.put, List.getElem_toArray, List.getElem_cons_zero, List.getElem_cons_succ, List.setIfInBounds_toArray, List.set_cons_zero, List.set_cons_succ]
              refine wpAnyH_take (i := 16) (v := ?_) rfl (by kernel_rfl) (by kernel_rfl) (by kernel_rfl) (fun _ _ _ h => h) (Or.inl ⟨by rfl, ?_⟩) (by assumption) ?_
              rotate_left
              · intro w hSw; (try dsimp only at hSw); go_simp; with_reducible rfl
              try simp only [Act.put, List.getElem_toArray, List.getElem_cons_zero, List.getElem_cons_succ, List.setIfInBounds_toArray, List.set_cons_zero, List.set_cons_succ]
              refine wpAnyH_take (i := 18) (v := ?_) rfl (by kernel_rfl) (by kernel_rfl) (by kernel_rfl) (fun _ _ _ h => h) (Or.inl ⟨by rfl, ?_⟩) (by assumption) ?_
              rotate_left
              · intro w hSw; (try dsimp only at hSw); go_simp; with_reducible rfl
              try simp only [Act.put, List.getElem_toArray, List.getElem_cons_zero, List.getElem_cons_succ, List.setIfInBounds_toArray, List.set_cons_zero, List.set_cons_succ]
              refine wpAnyH_ready (rs := [11]) (by kernel_rfl) (by simp) ?_
              refine AllReadyH.cons rfl (fun K hK => ?_) AllReadyH.nil
              go_simp
              (first | (go_at_call 11; (with_reducible refine (AA.out _).mono ?_); rintro e w' ⟨rfl, hb⟩; have LPA := LA; have LPB := LB; have LPW := LW; have LA := Lib.hid (Nat.lt_of_lt_of_le LA.out hb.size); have LB := Lib.hid (Nat.lt_of_lt_of_le LB.out hb.size); have LW := Lib.hid (Nat.lt_of_lt_of_le LW.out hb.size); first | (have HB := Lib.hid (HB.out.trans (hb.mono HB.out.size))) | (have HB := Lib.hid ((belDr HB.out).trans (hb.mono HB.out.size)))) | (go_at_call 11; (with_reducible refine (AB.out _).mono ?_); rintro e w' ⟨rfl, hb⟩; have LPA := LA; have LPB := LB; have LPW := LW; have LA := Lib.hid (Nat.lt_of_lt_of_le LA.out hb.size); have LB := Lib.hid (Nat.lt_of_lt_of_le LB.out hb.size); have LW := Lib.hid (Nat.lt_of_lt_of_le LW.out hb.size); first | (have HB := Lib.hid (HB.out.trans (hb.mono HB.out.size))) | (have HB := Lib.hid ((belDr HB.out).trans (hb.mono HB.out.size)))) | (go_at_call 16; (with_reducible refine (GN.out _).mono ?_); rintro e w' ⟨rfl, hb⟩; have LPA := LA; have LPB := LB; have LPW := LW; have LA := Lib.hid (Nat.lt_of_lt_of_le LA.out hb.size); have LB := Lib.hid (Nat.lt_of_lt_of_le LB.out hb.size); have LW := Lib.hid (Nat.lt_of_lt_of_le LW.out hb.size); first | (have HB := Lib.hid (HB.out.trans (hb.mono HB.out.size))) | (have HB := Lib.hid ((belDr HB.out).trans (hb.mono HB.out.size)))) | (go_at_call 33; (with_reducible refine (OM.out _).mono ?_); rintro e w' ⟨rfl, rfl⟩) | (go_at_call 34; (with_reducible refine (EG.out _).mono ?_); rintro e w' ⟨rfl, rfl⟩) | (go_at_call 34; (with_reducible refine (EB.out _).mono ?_); rintro e w' ⟨rfl, rfl⟩))
              refine hK.out _ _ ?_ (fun hHeld => ?_)
              · (first | go_keep | (rw [hb.cell (p := ⟨w1.heap.size, 0, none⟩) LPA.out, hb.cell (p := ⟨w1.heap.size, 1, none⟩) LPA.out, hb.cell (p := ⟨w1.heap.size + 1, 0, none⟩) LPB.out, hb.cell (p := ⟨w1.heap.size + 1, 1, none⟩) LPB.out, hb.cell (p := ⟨w4.heap.size, 0, none⟩) LPW.out, hb.cell (p := ⟨w4.heap.size, 1, none⟩) LPW.out]; first | assumption | exact ⟨by assumption, by assumption, by assumption, by assumption, by assumption, by assumption⟩))
              clear hK K
              try simp only [Act.put, List.getElem_toArray, List.getElem_cons_zero, List.getElem_cons_succ, List.setIfInBounds_toArray, List.set_cons_zero, List.set_cons_succ]
              refine wpAnyH_ready (rs := [14]) (by kernel_rfl) (by simp) ?_
              refine AllReadyH.cons rfl (fun K hK => ?_) AllReadyH.nil
              go_simp
              (first | (go_at_call 11; (with_reducible refine (AA.out _).mono ?_); rintro e w' ⟨rfl, hb⟩; have LPA := LA; have LPB := LB; have LPW := LW; have LA := Lib.hid (Nat.lt_of_lt_of_le LA.out hb.size); have LB := Lib.hid (Nat.lt_of_lt_of_le LB.out hb.size); have LW := Lib.hid (Nat.lt_of_lt_of_le LW.out hb.size); first | (have HB := Lib.hid (HB.out.trans (hb.mono HB.out.size))) | (have HB := Lib.hid ((belDr HB.out).trans (hb.mono HB.out.size)))) | (go_at_call 11; (with_reducible refine (AB.out _).mono ?_); rintro e w' ⟨rfl, hb⟩; have LPA := LA; have LPB := LB; have LPW := LW; have LA := Lib.hid (Nat.lt_of_lt_of_le LA.out hb.size); have LB := Lib.hid (Nat.lt_of_lt_of_le LB.out hb.size); have LW := Lib.hid (Nat.lt_of_lt_of_le LW.out hb.size); first | (have HB := Lib.hid (HB.out.trans (hb.mono HB.out.size))) | (have HB := Lib.hid ((belDr HB.out).trans (hb.mono HB.out.size)))) | (go_at_call 16; (with_reducible refine (GN.out _).mono ?_); rintro e w' ⟨rfl, hb⟩; have LPA := LA; have LPB := LB; have LPW := LW; have LA := Lib.hid (Nat.lt_of_lt_of_le LA.out hb.size); have LB := Lib.hid (Nat.lt_of_lt_of_le LB.out hb.size); have LW := Lib.hid (Nat.lt_of_lt_of_le LW.out hb.size); first | (have HB := Lib.hid (HB.out.trans (hb.mono HB.out.size))) | (have HB := Lib.hid ((belDr HB.out).trans (hb.mono HB.out.size)))) | (go_at_call 33; (with_reducible refine (OM.out _).mono ?_); rintro e w' ⟨rfl, rfl⟩) | (go_at_call 34; (with_reducible refine (EG.out _).mono ?_); rintro e w' ⟨rfl, rfl⟩) | (go_at_call 34; (with_reducible refine (EB.out _).mono ?_); rintro e w' ⟨rfl, rfl⟩))
              refine hK.out _ _ ?_ (fun hHeld => ?_)
              · (first | go_keep | (rw [hb.cell (p := ⟨w1.heap.size, 0, none⟩) LPA.out, hb.cell (p := ⟨w1.heap.size, 1, none⟩) LPA.out, hb.cell (p := ⟨w1.heap.size + 1, 0, none⟩) LPB.out, hb.cell (p := ⟨w1.heap.size + 1, 1, none⟩) LPB.out, hb.cell (p := ⟨w4.heap.size, 0, none⟩) LPW.out, hb.cell (p := ⟨w4.heap.size, 1, none⟩) LPW.out]; first | assumption | exact ⟨by assumption, by assumption, by assumption, by assumption, by assumption, by assumption⟩))
              clear hK K
              try simp only [Act.put, List.getElem_toArray, List.getElem_cons_zero, List.getElem_cons_succ, List.setIfInBounds_toArray, List.set_cons_zero, List.set_cons_succ]
              refine wpAnyH_ready (rs := [15]) (by kernel_rfl) (by simp) ?_
              refine AllReadyH.cons rfl (fun K hK => ?_) AllReadyH.nil
              go_simp
              (first | (go_at_call 11; (with_reducible refine (AA.out _).mono ?_); rintro e w' ⟨rfl, hb⟩; have LPA := LA; have LPB := LB; have LPW := LW; have LA := Lib.hid (Nat.lt_of_lt_of_le LA.out hb.size); have LB := Lib.hid (Nat.lt_of_lt_of_le LB.out hb.size); have LW := Lib.hid (Nat.lt_of_lt_of_le LW.out hb.size); first | (have HB := Lib.hid (HB.out.trans (hb.mono HB.out.size))) | (have HB := Lib.hid ((belDr HB.out).trans (hb.mono HB.out.size)))) | (go_at_call 11; (with_reducible refine (AB.out _).mono ?_); rintro e w' ⟨rfl, hb⟩; have LPA := LA; have LPB := LB; have LPW := LW; have LA := Lib.hid (Nat.lt_of_lt_of_le LA.out hb.size); have LB := Lib.hid (Nat.lt_of_lt_of_le LB.out hb.size); have LW := Lib.hid (Nat.lt_of_lt_of_le LW.out hb.size); first | (have HB := Lib.hid (HB.out.trans (hb.mono HB.out.size))) | (have HB := Lib.hid ((belDr HB.out).trans (hb.mono HB.out.size)))) | (go_at_call 16; (with_reducible refine (GN.out _).mono ?_); rintro e w' ⟨rfl, hb⟩; have LPA := LA; have LPB := LB; have LPW := LW; have LA := Lib.hid (Nat.lt_of_lt_of_le LA.out hb.size); have LB := Lib.hid (Nat.lt_of_lt_of_le LB.out hb.size); have LW := Lib.hid (Nat.lt_of_lt_of_le LW.out hb.size); first | (have HB := Lib.hid (HB.out.trans (hb.mono HB.out.size))) | (have HB := Lib.hid ((belDr HB.out).trans (hb.mono HB.out.size)))) | (go_at_call 33; (with_reducible refine (OM.out _).mono ?_); rintro e w' ⟨rfl, rfl⟩) | (go_at_call 34; (with_reducible refine (EG.out _).mono ?_); rintro e w' ⟨rfl, rfl⟩) | (go_at_call 34; (with_reducible refine (EB.out _).mono ?_); rintro e w' ⟨rfl, rfl⟩))
              refine hK.out _ _ ?_ (fun hHeld => ?_)
              · (first | go_keep | (rw [hb.cell (p := ⟨w1.heap.size, 0, none⟩) LPA.out, hb.cell (p := ⟨w1.heap.size, 1, none⟩) LPA.out, hb.cell (p := ⟨w1.heap.size + 1, 0, none⟩) LPB.out, hb.cell (p := ⟨w1.heap.size + 1, 1, none⟩) LPB.out, hb.cell (p := ⟨w4.heap.size, 0, none⟩) LPW.out, hb.cell (p := ⟨w4.heap.size, 1, none⟩) LPW.out]; first | assumption | exact ⟨by assumption, by assumption, by assumption, by assumption, by assumption, by assumption⟩))
              clear hK K
              try simp only [Act.put, List.getElem_toArray, List.getElem_cons_zero, List.getElem_cons_succ, List.setIfInBounds_toArray, List.set_cons_zero, List.set_cons_succ]
              refine wpAnyH_ready (rs := [17]) (by kernel_rfl) (by simp) ?_
              refine AllReadyH.cons rfl (fun K hK => ?_) AllReadyH.nil
              go_simp
              (first | (go_at_call 11; (with_reducible refine (AA.out _).mono ?_); rintro e w' ⟨rfl, hb⟩; have LPA := LA; have LPB := LB; have LPW := LW; have LA := Lib.hid (Nat.lt_of_lt_of_le LA.out hb.size); have LB := Lib.hid (Nat.lt_of_lt_of_le LB.out hb.size); have LW := Lib.hid (Nat.lt_of_lt_of_le LW.out hb.size); first | (have HB := Lib.hid (HB.out.trans (hb.mono HB.out.size))) | (have HB := Lib.hid ((belDr HB.out).trans (hb.mono HB.out.size)))) | (go_at_call 11; (with_reducible refine (AB.out _).mono ?_); rintro e w' ⟨rfl, hb⟩; have LPA := LA; have LPB := LB; have LPW := LW; have LA := Lib.hid (Nat.lt_of_lt_of_le LA.out hb.size); have LB := Lib.hid (Nat.lt_of_lt_of_le LB.out hb.size); have LW := Lib.hid (Nat.lt_of_lt_of_le LW.out hb.size); first | (have HB := Lib.hid (HB.out.trans (hb.mono HB.out.size))) | (have HB := Lib.hid ((belDr HB.out).trans (hb.mono HB.out.size)))) | (go_at_call 16; (with_reducible refine (GN.out _).mono ?_); rintro e w' ⟨rfl, hb⟩; have LPA := LA; have LPB := LB; have LPW := LW; have LA := Lib.hid (Nat.lt_of_lt_of_le LA.out hb.size); have LB := Lib.hid (Nat.lt_of_lt_of_le LB.out hb.size); have LW := Lib.hid (Nat.lt_of_lt_of_le LW.out hb.size); first | (have HB := Lib.hid (HB.out.trans (hb.mono HB.out.size))) | (have HB := Lib.hid ((belDr HB.out).trans (hb.mono HB.out.size)))) | (go_at_call 33; (with_reducible refine (OM.out _).mono ?_); rintro e w' ⟨rfl, rfl⟩) | (go_at_call 34; (with_reducible refine (EG.out _).mono ?_); rintro e w' ⟨rfl, rfl⟩) | (go_at_call 34; (with_reducible refine (EB.out _).mono ?_); rintro e w' ⟨rfl, rfl⟩))
              refine hK.out _ _ ?_ (fun hHeld => ?_)
              · (first | go_keep | (rw [hb.cell (p := ⟨w1.heap.size, 0, none⟩) LPA.out, hb.cell (p := ⟨w1.heap.size, 1, none⟩) LPA.out, hb.cell (p := ⟨w1.heap.size + 1, 0, none⟩) LPB.out, hb.cell (p := ⟨w1.heap.size + 1, 1, none⟩) LPB.out, hb.cell (p := ⟨w4.heap.size, 0, none⟩) LPW.out, hb.cell (p := ⟨w4.heap.size, 1, none⟩) LPW.out]; first | assumption | exact ⟨by assumption, by assumption, by assumption, by assumption, by assumption, by assumption⟩))
              clear hK K
              try simp only [Act.put, List.getElem_toArray, List.getElem_cons_zero, List.getElem_cons_succ, List.setIfInBounds_toArray, List.set_cons_zero, List.set_cons_succ]
              refine wpAnyH_ready (rs := [19]) (by kernel_rfl) (by simp) ?_
              refine AllReadyH.cons rfl (fun K hK => ?_) AllReadyH.nil
              go_simp
              (first | (go_at_call 11; (with_reducible refine (AA.out _).mono ?_); rintro e w' ⟨rfl, hb⟩; have LPA := LA; have LPB := LB; have LPW := LW; have LA := Lib.hid (Nat.lt_of_lt_of_le LA.out hb.size); have LB := Lib.hid (Nat.lt_of_lt_of_le LB.out hb.size); have LW := Lib.hid (Nat.lt_of_lt_of_le LW.out hb.size); first | (have HB := Lib.hid (HB.out.trans (hb.mono HB.out.size))) | (have HB := Lib.hid ((belDr HB.out).trans (hb.mono HB.out.size)))) | (go_at_call 11; (with_reducible refine (AB.out _).mono ?_); rintro e w' ⟨rfl, hb⟩; have LPA := LA; have LPB := LB; have LPW := LW; have LA := Lib.hid (Nat.lt_of_lt_of_le LA.out hb.size); have LB := Lib.hid (Nat.lt_of_lt_of_le LB.out hb.size); have LW := Lib.hid (Nat.lt_of_lt_of_le LW.out hb.size); first | (have HB := Lib.hid (HB.out.trans (hb.mono HB.out.size))) | (have HB := Lib.hid ((belDr HB.out).trans (hb.mono HB.out.size)))) | (go_at_call 16; (with_reducible refine (GN.out _).mono ?_); rintro e w' ⟨rfl, hb⟩; have LPA := LA; have LPB := LB; have LPW := LW; have LA := Lib.hid (Nat.lt_of_lt_of_le LA.out hb.size); have LB := Lib.hid (Nat.lt_of_lt_of_le LB.out hb.size); have LW := Lib.hid (Nat.lt_of_lt_of_le LW.out hb.size); first | (have HB := Lib.hid (HB.out.trans (hb.mono HB.out.size))) | (have HB := Lib.hid ((belDr HB.out).trans (hb.mono HB.out.size)))) | (go_at_call 33; (with_reducible refine (OM.out _).mono ?_); rintro e w' ⟨rfl, rfl⟩) | (go_at_call 34; (with_reducible refine (EG.out _).mono ?_); rintro e w' ⟨rfl, rfl⟩) | (go_at_call 34; (with_reducible refine (EB.out _).mono ?_); rintro e w' ⟨rfl, rfl⟩))
              refine hK.out _ _ ?_ (fun hHeld => ?_)
              · (first | go_keep | (rw [hb.cell (p := ⟨w1.heap.size, 0, none⟩) LPA.out, hb.cell (p := ⟨w1.heap.size, 1, none⟩) LPA.out, hb.cell (p := ⟨w1.heap.size + 1, 0, none⟩) LPB.out, hb.cell (p := ⟨w1.heap.size + 1, 1, none⟩) LPB.out, hb.cell (p := ⟨w4.heap.size, 0, none⟩) LPW.out, hb.cell (p := ⟨w4.heap.size, 1, none⟩) LPW.out]; first | assumption | exact ⟨by assumption, by assumption, by assumption, by assumption, by assumption, by assumption⟩))
              clear hK K
              try simp only [Act.put, List.getElem_toArray, List.getElem_cons_zero, List.getElem_cons_succ, List.setIfInBounds_toArray, List.set_cons_zero, List.set_cons_succ]
              refine wpAnyH_ready (rs := [20]) (by kernel_rfl) (by simp) ?_
              refine AllReadyH.cons rfl (fun K hK => ?_) AllReadyH.nil
              go_simp
              (first | (go_at_call 11; (with_reducible refine (AA.out _).mono ?_); rintro e w' ⟨rfl, hb⟩; have LPA := LA; have LPB := LB; have LPW := LW; have LA := Lib.hid (Nat.lt_of_lt_of_le LA.out hb.size); have LB := Lib.hid (Nat.lt_of_lt_of_le LB.out hb.size); have LW := Lib.hid (Nat.lt_of_lt_of_le LW.out hb.size); first | (have HB := Lib.hid (HB.out.trans (hb.mono HB.out.size))) | (have HB := Lib.hid ((belDr HB.out).trans (hb.mono HB.out.size)))) | (go_at_call 11; (with_reducible refine (AB.out _).mono ?_); rintro e w' ⟨rfl, hb⟩; have LPA := LA; have LPB := LB; have LPW := LW; have LA := Lib.hid (Nat.lt_of_lt_of_le LA.out hb.size); have LB := Lib.hid (Nat.lt_of_lt_of_le LB.out hb.size); have LW := Lib.hid (Nat.lt_of_lt_of_le LW.out hb.size); first | (have HB := Lib.hid (HB.out.trans (hb.mono HB.out.size))) | (have HB := Lib.hid ((belDr HB.out).trans (hb.mono HB.out.size)))) | (go_at_call 16; (with_reducible refine (GN.out _).mono ?_); rintro e w' ⟨rfl, hb⟩; have LPA := LA; have LPB := LB; have LPW := LW; have LA := Lib.hid (Nat.lt_of_lt_of_le LA.out hb.size); have LB := Lib.hid (Nat.lt_of_lt_of_le LB.out hb.size); have LW := Lib.hid (Nat.lt_of_lt_of_le LW.out hb.size); first | (have HB := Lib.hid (HB.out.trans (hb.mono HB.out.size))) | (have HB := Lib.hid ((belDr HB.out).trans (hb.mono HB.out.size)))) | (go_at_call 33; (with_reducible refine (OM.out _).mono ?_); rintro e w' ⟨rfl, rfl⟩) | (go_at_call 34; (with_reducible refine (EG.out _).mono ?_); rintro e w' ⟨rfl, rfl⟩) | (go_at_call 34; (with_reducible refine (EB.out _).mono ?_); rintro e w' ⟨rfl, rfl⟩))
              refine hK.out _ _ ?_ (fun hHeld => ?_)
              · (first | go_keep | (rw [hb.cell (p := ⟨w1.heap.size, 0, none⟩) LPA.out, hb.cell (p := ⟨w1.heap.size, 1, none⟩) LPA.out, hb.cell (p := ⟨w1.heap.size + 1, 0, none⟩) LPB.out, hb.cell (p := ⟨w1.heap.size + 1, 1, none⟩) LPB.out, hb.cell (p := ⟨w4.heap.size, 0, none⟩) LPW.out, hb.cell (p := ⟨w4.heap.size, 1, none⟩) LPW.out]; first | assumption | exact ⟨by assumption, by assumption, by assumption, by assumption, by assumption, by assumption⟩))
              clear hK K
              try simp only [Act.put, List.getElem_toArray, List.getElem_cons_zero, List.getElem_cons_succ, List.setIfInBounds_toArray, List.set_cons_zero, List.set_cons_succ]
              refine wpAnyH_take (i := 21) (v := ?_) rfl (by kernel_rfl) (by kernel_rfl) (by kernel_rfl) (fun _ _ _ h => h) (Or.inl ⟨by rfl, ?_⟩) (by assumption) ?_
              rotate_left
              · intro w hSw; (try dsimp only at hSw); go_simp; with_reducible rfl
              try simp only [Act.put, List.getElem_toArray, List.getElem_cons_zero, List.getElem_cons_succ, List.setIfInBounds_toArray, List.set_cons_zero, List.set_cons_succ]
              refine wpAnyH_take (i := 22) (v := ?_) rfl (by kernel_rfl) (by kernel_rfl) (by kernel_rfl) (fun _ _ _ h => h) (Or.inl ⟨by rfl, ?_⟩) (by assumption) ?_
              rotate_left
              · intro w hSw; (try dsimp only at hSw); go_simp; with_reducible rfl
              try simp only [Act.put, List.getElem_toArray, List.getElem_cons_zero, List.getElem_cons_succ, List.setIfInBounds_toArray, List.set_cons_zero, List.set_cons_succ]
              refine wpAnyH_take (i := 23) (v := ?_) rfl (by kernel_rfl) (by kernel_rfl) (by kernel_rfl) (fun _ _ _ h => h) (Or.inl ⟨by rfl, ?_⟩) (by assumption) ?_
              rotate_left
              · intro w hSw; (try dsimp only at hSw); go_simp; with_reducible rfl
              try simp only [Act.put, List.getElem_toArray, List.getElem_cons_zero, List.getElem_cons_succ, List.setIfInBounds_toArray, List.set_cons_zero, List.set_cons_succ]
              refine wpAnyH_done (by kernel_rfl) ?_ _
              go_wp2_with fail
              go_ret
              exact ⟨ret_bool (by simp), HB.out⟩
set_option maxRecDepth 100000 in
theorem fnAllowed_lifted (os : Os) (started : os.Started) (H : Type) (enc : TypeId × Value → H) :
    ReturnsInHanded {} Try.checked os 8 .any (Rows.fnAllowedSpec.pre6 enc Try.prog Try.f8 Rows.fnAllowedRow.domain false) (Rows.fnAllowedSpec.post enc Try.prog Try.f8 false true false false) := by
  refine returnsInHanded_of_change (C := Try.checked) ownK started (by kernel_rfl) Try.func8
    (ChangeSpec.witness6 (enc := enc) (C := Try.checked) false ⟨#[], #[.slice none 0 0], []⟩ 8 (by kernel_rfl) (by kernel_rfl) (by kernel_rfl) (by kernel_rfl)) ?_
  intro W base args ds gs before hval0 hW _ _
  have hval : ∀ (j : Nat) t v, Try.f8.params[j]? = some t → args[j]? = some v → Value.okWide Try.prog W .any base t v := hval0
  have hW' := hW
  obtain ⟨p, q, hA0, _, rfl, _, _⟩ := hW
  have hA : DataW.TrodAll enc Try.prog W 0 (fun _ => true) true Try.f8.params.toList args.toList ds p := hA0
  rw [Try.params8] at hA hval
  obtain ⟨v0, vs0, d0, ds0, p0, q0, hargs, rfl, rfl, h0, r0⟩ := trodAll_cons hA
  obtain ⟨rfl, rfl, rfl⟩ := trodAll_nil r0
  obtain rfl : args = #[v0] := by cases args; simp_all
  obtain ⟨l0, w0⟩ := open_byteRow Try.underlying45 Try.underlying5 (by kernel_rfl) (hval 0 45 v0 rfl rfl) h0
  clear hA0 hval0
  refine (fnAllowed_any v0 l0 W w0).mono fun e W1 ⟨he, hb⟩ => ?_
  subst he
  exact ⟨_, rfl, law_post laidK rfl (by kernel_rfl) Try.underlying4 (by kernel_rfl) (fun ds h => by match ds, h with | [_], _ => rfl) hW' hb⟩
theorem fnAllowed_closed : joinedFacts Try.prog 8 Try.f8 Rows.fnAllowedSpec Rows.fnAllowedRow = true := by unfold joinedFacts; rw [mayEnter_k, liftsFinal_k, make_k]; kernel_rfl
theorem fnAllowed_holds : Rows.FnAllowedSaid :=
  OpenClaim.holds_of_wide 8 Try.f8 rfl rfl rfl rfl rfl rfl rfl ⟨rfl, rfl, rfl, rfl, rfl⟩ rfl rfl rfl rfl rfl (by kernel_rfl) Try.func8 fnAllowed_closed
    (of_decide_eq_true (by kernel_rfl)) (by unfold Func.isWrapper; first | (rw [if_pos (by decide +kernel)]; kernel_rfl) | (rw [if_neg (by decide +kernel)]; exact ⟨rfl, rfl⟩))
    (fun os started H enc _ => fnAllowed_lifted os started H enc)
end Go.Proofs.Ytbjkalnahckfnab
