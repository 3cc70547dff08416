/- Offer: how it reads, and what the laws' own helpers do with it. Written by gen/deep.py. -/
import Derived.Test.YtbofplofpggdlaaRep
import Derived.Test.YtbofplofpggdlaaTOffer
namespace Go.Proofs.Ytbofplofpggdlaa
set_option linter.unusedVariables false
set_option linter.unusedSimpArgs false
open Go.RowKit
def rOffer : Nat → World → List Value → OfferD → Prop := fun F w cs x => ∃ v0, cs = [v0, .int .i64 x.fFace] ∧ SliceAt (rFlat cVersion) 2 F w v0 x.fVersions
theorem goodOffer : Good rOffer 2 := by
  refine ⟨?_, ?_, ?_⟩
  · rintro F w cs x ⟨v0, rfl, h0⟩; rfl
  · rintro F w w' cs x ⟨v0, rfl, h0⟩ hk; exact ⟨v0, rfl, h0.keep (good_flat cVersion_len) hk⟩
  · rintro F F' w cs x ⟨v0, rfl, h0⟩ hF; exact ⟨v0, rfl, h0.mono (good_flat cVersion_len) hF⟩
theorem offerAt_of {F : Nat} {w : World} {cs : List Value} {x : OfferD} (h : rOffer F w cs x) : OfferAt w (.agg cs.toArray) x := by
  obtain ⟨v0, rfl, h0⟩ := h
  exact ⟨v0, rfl, flatAt_of_slice cVersion_len (by decide) h0⟩
theorem ofOfferAt {w : World} {v : Value} {x : OfferD} (h : OfferAt w v x) : ValAt rOffer 0 w v x := by
  obtain ⟨cv, rfl, h⟩ := h
  exact ⟨_, rfl, cv, rfl, sliceAt_of_flat cVersion_len h⟩
theorem toOffer_d (v : Value) (x : OfferD) (w : World) (hx : ValAt rOffer 0 w v x) (hm : zOffer x ≤ 2097152) : Calls Try.prog 11 #[v] w fun e w' => GivesV rOffer x w e w' := by
  obtain ⟨cs, rfl, h⟩ := hx
  refine (toOffer_any _ x w (offerAt_of h) hm).mono ?_
  rintro e w' ⟨v, rfl, ⟨cv, rfl, ho⟩, hb⟩
  exact ⟨[cv, .int .i64 x.fFace], rfl, ⟨cv, rfl, sliceAt_of_owns cVersion_len ho (by unfold zOffer at hm; omega)⟩, hb⟩
theorem szOffer_d (v : Value) (x : OfferD) (left : Int) (w : World) (hx : ValAt rOffer 0 w v x) (hk : okOffer x) (h0 : 0 ≤ left) (h1 : left ≤ 1099511627776) : Calls Try.prog 9 #[v, .int .i64 left] w fun e w' => SzF (zOffer x) left w e w' := by
  obtain ⟨cs, rfl, h⟩ := hx
  exact szOffer_any _ x left w (offerAt_of h) h0 h1
theorem eqOffer_d (v u : Value) (x y : OfferD) (w : World) (hx : ValAt rOffer 0 w v x) (hy : ValAt rOffer 0 w u y) : Calls Try.prog 14 #[v, u] w fun e w' => e = .returned (.bool (decide (x = y))) ∧ Below w.heap.size w w' := by
  obtain ⟨cs, rfl, h⟩ := hx
  obtain ⟨cs2, rfl, h2⟩ := hy
  exact eqOffer_any _ _ x y w (offerAt_of h) (offerAt_of h2)
theorem infoDOffer : (Try.prog.info? 34).map (fun i => (i.zero, i.size, i.bytes)) = some (some (.agg #[.slice none 0 0, .int .i64 0]), 2, 32) := by kernel_rfl
set_option maxRecDepth 100000 in
set_option maxHeartbeats 3200000 in
theorem toOfferS_d (v : Value) (x : List OfferD) (w : World) (hx : SliceAt (rOffer) 2 0 w v x) (hm : x.length + sumF zOffer x ≤ 2097152) :
    Calls Try.prog 17 #[v] w fun e w' => GivesS (rOffer) 2 x w e w' := by
  obtain ⟨a, c, rfl, hl⟩ := sliceAt_len hx
  obtain ⟨i0, hi, hz0, hz1, hz2⟩ := info_parts infoDOffer
  have HX := Lib.hid hx
  have HZ := Lib.hid hm
  have hm2 : x.length ≤ 2097152 := by omega
  clear hx hm
  unfold maxLen at hl
  go_enter Try.func17, Try.ntmps17
  have hb2 : i0.bytes * x.length ≤ 281474976710656 := by rw [hz2]; omega
  have HB2 := Lib.hid hb2
  have HM := Lib.hid (show x.length ≤ maxLen from by unfold maxLen; omega)
  clear hb2
  go_wp2_with (refine wpList_make_full _ rfl (.tmp 6) (.tmp 6) 42 rfl w.heap.size 34 i0 _ 2 Try.underlying42 hi hz0 hz1 .i64 .i64 _ _ x.length rfl rfl rfl rfl HB2.out HM.out (Nat.le_refl _) ?_; intro w1 hown1 hgrow1)
  have HO := Lib.hid (show ∃ xs, w1.ownsRow w.heap.size 34 2 (.slice (some ⟨w.heap.size, 0, none⟩) x.length x.length) x.length xs ∧ Cells (rOffer) 2 (w.heap.size + 1) w1 xs (x.take 0) from ⟨_, hown1, Cells.nil _ _ _⟩)
  have HB := Lib.hid (show Below w.heap.size w w1 from ⟨hgrow1.os, hgrow1.tape, hgrow1.output, hgrow1.size, fun i hi => hgrow1.block i hi (by simp)⟩)
  have hsz : w.heap.size < w1.heap.size := by
    rcases hown1.2 with ⟨h, _⟩ | ⟨g, cap, cur, h, _, hg, _⟩
    · simp at h
    · injection h with h _ _; injection h with h; injection h with h _; subst h; exact (Array.getElem?_eq_some_iff.1 hg).1
  clear hown1 hgrow1 hz0 hz1 hz2 HB2 hi
  go_loopw [4] (fun i wr => ∃ k : Nat, k ≤ x.length ∧ i = .int .i64 k ∧ (∃ xs, wr.ownsRow w.heap.size 34 2 (.slice (some ⟨w.heap.size, 0, none⟩) x.length x.length) x.length xs ∧ Cells (rOffer) 2 (w.heap.size + 1) wr xs (x.take k)) ∧ Below w.heap.size w wr ∧ w.heap.size < wr.heap.size) (fun i _ => x.length - (intOf i).toNat)
  case atStart => exact ⟨0, Nat.zero_le _, rfl, HO.out, HB.out, hsz⟩
  case round =>
    obtain ⟨k, hk, rfl, ⟨xs, hown, htake⟩, hb, hszr⟩ := hrel
    have HR := Lib.hid (SliceAt.below HX.out goodOffer hb (Nat.le_refl _))
    have HBr := Lib.hid hb
    have HOw := Lib.hid hown
    have HT := Lib.hid htake
    have HXL := Lib.hid (show xs.length = x.length * 2 from hown.1)
    clear hb hown htake
    by_cases hlt : k < x.length
    · obtain ⟨b, o, cs, rfl, hbw, hat, hd⟩ := sliceAt_cell HR.out k hlt
      have HSN := Lib.hid (show x.take (k + 1) = x.take k ++ [x[k]] from List.take_succ_eq_append_getElem hlt)
      have HLT := Lib.hid (show (x.take k).length = k by rw [List.length_take]; omega)
      have HC := Lib.hid (toOffer_d (.agg cs.toArray) x[k] wr ⟨cs, rfl, hat⟩ (by have h1 := sumF_mem zOffer x x[k] (List.getElem_mem hlt); have h2 := HZ.out; omega))
      generalize x[k] = p at *
      obtain ⟨a0, a1⟩ := p
      obtain ⟨x0, rfl, hr0⟩ := hat
      have d0 := hd 0 (by decide)
      have d1 := hd 1 (by decide)
      simp only [List.getElem?_cons_zero, List.getElem?_cons_succ, Nat.add_zero] at d0 d1 HC
      clear hd
      go_wp2_with fail
      refine HC.out.mono ?_
      rintro e w2 ⟨cs, rfl, hat2, hb0⟩
      have HA := Lib.hid hat2
      have HB3 := Lib.hid (HBr.out.trans (hb0.mono HBr.out.size))
      have HO3 := Lib.hid (ownsRow_below HOw.out hb0 (Nat.le_refl _))
      have HK := Lib.hid (Cells.keep HT.out goodOffer (kept_below hb0 (Nat.le_refl _)))
      have hsz2 : w.heap.size < w2.heap.size := by have := hb0.size; omega
      obtain ⟨y0, rfl, hq0⟩ := hat2
      skip
      obtain ⟨yp0, yq0, rfl, _⟩ := sliceAt_len hq0
      clear hq0
      clear hb0
      obtain ⟨u0, c0⟩ : ∃ u, w2.cell? ⟨w.heap.size, k * 2, none⟩ = some u := by
        rw [World.ownsRow.cellAt HO3.out (k * 2) (by omega), List.getElem?_eq_getElem (by have := HXL.out; omega)]
        exact ⟨_, rfl⟩
      have f0 := World.ownsRow.frozenAt HO3.out (k * 2)
      obtain ⟨u1, c1⟩ : ∃ u, w2.cell? ⟨w.heap.size, k * 2 + 1, none⟩ = some u := by
        rw [World.ownsRow.cellAt HO3.out (k * 2 + 1) (by omega), List.getElem?_eq_getElem (by have := HXL.out; omega)]
        exact ⟨_, rfl⟩
      have f1 := World.ownsRow.frozenAt HO3.out (k * 2 + 1)
      have HS0 := Lib.hid (World.ownsRow.stored HO3.out (k * 2) (.slice yp0 a0.length yq0))
      have HS1 := Lib.hid (World.ownsRow.stored HS0.out.1 (k * 2 + 1) (.int .i64 a1))
      have HN := Lib.hid (show Cells (rOffer) 2 (w.heap.size + 1) (((w2).setCell ⟨w.heap.size, k * 2, none⟩ (.slice yp0 a0.length yq0)).setCell ⟨w.heap.size, k * 2 + 1, none⟩ (.int .i64 a1)) (((xs).set (k * 2) (.slice yp0 a0.length yq0)).set (k * 2 + 1) (.int .i64 a1)) (x.take (k + 1)) by
        rw [HSN.out]
        have hkk : Kept (w.heap.size + 1) w2 (((w2).setCell ⟨w.heap.size, k * 2, none⟩ (.slice yp0 a0.length yq0)).setCell ⟨w.heap.size, k * 2 + 1, none⟩ (.int .i64 a1)) := ((Kept.refl _ _).setCell (by simp) _).setCell (by simp) _
        refine Cells.snoc (Cells.keep HK.out goodOffer hkk) ((goodOffer).keep ((goodOffer).mono HA.out (by omega)) hkk) ?_ ?_
        · intro i hi
          rw [HLT.out] at hi
          repeat rw [List.getElem?_set_ne (by omega)]
        · intro j hj
          rw [HLT.out]
          have hxl := HXL.out
          rcases (show j = 0 ∨ j = 1 by omega) with rfl | rfl
          all_goals (simp [List.getElem?_set]; try omega))
      go_wp2_with fail
      refine ⟨⟨k + 1, by omega, by go_num, ⟨_, HS1.out.1, HN.out⟩, ?_, by simp; omega⟩, by simp [intOf]; omega⟩
      exact ((HB3.out.setCell (by simp) _).setCell (by simp) _)
    · have HN := Lib.hid (show x.take k = x from List.take_of_length_le (by omega))
      have HF := Lib.hid (show SliceAt (rOffer) 2 w.heap.size wr (.slice (some ⟨w.heap.size, 0, none⟩) x.length x.length) x from by
        have h := HT.out
        rw [HN.out] at h
        exact sliceAt_of_row HOw.out (fun i hi => by obtain ⟨cs, h1, h2⟩ := h i hi; exact ⟨cs, (goodOffer).mono h1 (by omega), h2⟩) (Nat.le_refl _) (by omega))
      go_wp2_with fail
      go_ret
      exact ⟨_, rfl, HF.out, HBr.out⟩
set_option maxRecDepth 100000 in
set_option maxHeartbeats 1600000 in
theorem szOfferS_d (v : Value) (x : List OfferD) (left : Int) (w : World) (hx : SliceAt (rOffer) 2 0 w v x) (hs : ∀ d ∈ x, okOffer d) (h0 : 0 ≤ left) (h1 : left ≤ 1099511627776) :
    Calls Try.prog 15 #[v, .int .i64 left] w fun e w' => SzF (x.length + sumF zOffer x) left w e w' := by
  obtain ⟨a, c, rfl, hl⟩ := sliceAt_len hx
  have HX := Lib.hid hx
  have HS := Lib.hid hs
  clear hx hs
  unfold maxLen at hl
  by_cases hneg : left - (x.length : Int) < 0
  · go_enter Try.func15, Try.ntmps15
    go_wp2
    go_ret
    exact ⟨-1, rfl, by omega, by omega, Below.refl _ _⟩
  · go_enter Try.func15, Try.ntmps15
    go_wp2
    go_loopw [1, 5] (fun r i wr => ∃ k : Nat, ∃ z : Int, k ≤ x.length ∧ i = .int .i64 k ∧ r = .int .i64 z ∧ 0 ≤ z ∧ z ≤ left ∧ (x.length : Int) + sumF zOffer (x.take k) + z = left ∧ Below w.heap.size w wr) (fun _ i _ => x.length - (intOf i).toNat)
    case atStart => exact ⟨0, _, Nat.zero_le _, rfl, rfl, by omega, by omega, by simp [sumF]; omega, Below.refl _ _⟩
    case round =>
      obtain ⟨k, z, hk, rfl, rfl, hz0, hz1, ht, hbr⟩ := hrel
      have HT := Lib.hid ht
      have HB := Lib.hid hbr
      have HXr := Lib.hid (SliceAt.below HX.out goodOffer hbr (Nat.le_refl _))
      clear ht hbr
      by_cases hlt : k < x.length
      · obtain ⟨b, o, cs, rfl, hbw, hat, hd⟩ := sliceAt_cell HXr.out k hlt
        have HC := Lib.hid (szOffer_d (.agg cs.toArray) x[k] z wr ⟨cs, rfl, hat⟩ (HS.out _ (List.getElem_mem hlt)) hz0 (by omega))
        have HK := Lib.hid (sumF_take_succ zOffer x k hlt)
        generalize x[k] = p at *
        generalize hzp : zOffer p = zp at *
        clear hzp
        obtain ⟨a0, a1⟩ := p
        obtain ⟨x0, rfl, hr0⟩ := hat
        have d0 := hd 0 (by decide)
        have d1 := hd 1 (by decide)
        simp only [List.getElem?_cons_zero, List.getElem?_cons_succ, Nat.add_zero] at d0 d1 HC
        clear hd
        go_wp2_with fail
        refine HC.out.mono ?_
        rintro e w2 ⟨r, rfl, hr0, hr1, hb0⟩
        have HB2 := Lib.hid (HB.out.trans (hb0.mono HB.out.size))
        have HR := Lib.hid hr1
        clear hb0 hr1
        by_cases hn2 : r < 0
        · go_wp2_with fail
          go_ret
          exact ⟨-1, rfl, by omega, by omega, HB2.out⟩
        · have hr := HR.out (by omega)
          go_wp2_with fail
          exact ⟨⟨k + 1, _, by omega, by go_num, rfl, by omega, by omega, by rw [HK.out]; have := HT.out; push_cast; omega, HB2.out⟩, by simp [intOf]; omega⟩
      · have HN := Lib.hid (show x.take k = x from List.take_of_length_le (by omega))
        go_wp2
        go_ret
        exact ⟨z, rfl, by omega, fun _ => by have := HT.out; rw [HN.out] at this; omega, HB.out⟩
set_option maxRecDepth 100000 in
set_option maxHeartbeats 1600000 in
theorem eqOfferS_d (v u : Value) (x y : List OfferD) (w : World) (hx : SliceAt (rOffer) 2 0 w v x) (hy : SliceAt (rOffer) 2 0 w u y) :
    Calls Try.prog 19 #[v, u] w fun e w' => e = .returned (.bool (decide (x = y))) ∧ Below w.heap.size w w' := by
  obtain ⟨a, c, rfl, hl⟩ := sliceAt_len hx
  obtain ⟨a2, c2, rfl, hl2⟩ := sliceAt_len hy
  have HX := Lib.hid hx
  have HY := Lib.hid hy
  clear hx hy
  unfold maxLen at hl hl2
  by_cases he : x.length = y.length
  · have hb : ((x.length : Int) == y.length) = true := beq_iff_eq.2 (by omega)
    have hbn : ((x.length : Int) != y.length) = false := by rw [bne_eq_false_iff_eq]; omega
    have HE := Lib.hid he
    clear he
    go_enter Try.func19, Try.ntmps19
    go_wp2
    go_loopw [5] (fun i wr => ∃ k : Nat, k ≤ x.length ∧ i = .int .i64 k ∧ x.take k = y.take k ∧ Below w.heap.size w wr) (fun i _ => x.length - (intOf i).toNat)
    case atStart => exact ⟨0, Nat.zero_le _, rfl, rfl, Below.refl _ _⟩
    case round =>
      obtain ⟨k, hk, rfl, ht, hbr⟩ := hrel
      have HT := Lib.hid ht
      have HB := Lib.hid hbr
      have HXr := Lib.hid (SliceAt.below HX.out goodOffer hbr (Nat.le_refl _))
      have HYr := Lib.hid (SliceAt.below HY.out goodOffer hbr (Nat.le_refl _))
      clear ht hbr
      by_cases hlt : k < x.length
      · have hky : k < y.length := by have := HE.out; omega
        obtain ⟨b, o, cs, rfl, _, hat, hd⟩ := sliceAt_cell HXr.out k hlt
        obtain ⟨b2, o2, cs2, rfl, _, hat2, hd2⟩ := sliceAt_cell HYr.out k hky
        have HS := Lib.hid (take_eq_step x y HE.out k hlt HT.out)
        have HD := Lib.hid (show x[k] ≠ y[k] → ¬ x = y from fun h e => h (by subst e; rfl))
        have HC := Lib.hid (fun w1 hw => eqOffer_d (.agg cs.toArray) (.agg cs2.toArray) x[k] y[k] w1 ⟨cs, rfl, (goodOffer).keep hat (kept_below (B := wr.heap.size) (w' := w1) hw (Nat.le_refl _))⟩ ⟨cs2, rfl, (goodOffer).keep hat2 (kept_below hw (Nat.le_refl _))⟩)
        generalize x[k] = p at *
        generalize y[k] = q at *
        generalize hqq : decide (p = q) = qq at *
        have HQ := Lib.hid (show qq = true → p = q from fun h => by rw [h] at hqq; exact of_decide_eq_true hqq)
        have HQ2 := Lib.hid (show qq = false → p ≠ q from fun h => by rw [h] at hqq; exact of_decide_eq_false hqq)
        clear hqq
        obtain ⟨a0, a1⟩ := p
        obtain ⟨b0, b1⟩ := q
        obtain ⟨x0, rfl, hr0⟩ := hat
        obtain ⟨z0, rfl, hs0⟩ := hat2
        have d0 := hd 0 (by decide)
        have d1 := hd 1 (by decide)
        have q0 := hd2 0 (by decide)
        have q1 := hd2 1 (by decide)
        simp only [List.getElem?_cons_zero, List.getElem?_cons_succ, Nat.add_zero] at d0 d1 q0 q1 HC
        clear hd hd2
        go_wp2
        go_still_tail 8, (by kernel_rfl)
        have HB0 := Lib.hid (show Below wr.heap.size wr wr.drew from ⟨rfl, rfl, rfl, Nat.le_refl _, fun _ _ => rfl⟩)
        have HB1 := Lib.hid (show Below w.heap.size w wr.drew from ⟨HB.out.os, HB.out.tape, HB.out.output, HB.out.size, HB.out.block⟩)
        change wpList _ _ _ _ _ wr.drew
        generalize wr.drew = w1 at *
        go_wp2_with fail
        refine (HC.out _ HB0.out).mono ?_
        rintro e w2 ⟨rfl, hb0⟩
        have HB2 := Lib.hid (HB1.out.trans (hb0.mono HB1.out.size))
        clear hb0
        cases qq with
        | true =>
          have HN := Lib.hid (HS.out (HQ.out rfl))
          go_wp2_with fail
          exact ⟨⟨k + 1, by omega, by go_num, HN.out, HB2.out⟩, by simp [intOf]; omega⟩
        | false =>
          have HN := Lib.hid (HD.out (HQ2.out rfl))
          go_wp2_with fail
          go_ret
          exact ⟨ret_bool (by simp [HN.out]), HB2.out⟩
      · have HN := Lib.hid (show x = y from by
          have h := HT.out
          rw [List.take_of_length_le (by omega), List.take_of_length_le (by have := HE.out; omega)] at h
          exact h)
        go_wp2
        go_ret
        exact ⟨ret_bool (by simp [HN.out]), HB.out⟩
  · have hb : ((x.length : Int) == y.length) = false := beq_eq_false_iff_ne.2 (by omega)
    have hbn : ((x.length : Int) != y.length) = true := by rw [bne_iff_ne]; omega
    have HN := Lib.hid (show ¬ x = y from fun e => he (by rw [e]))
    clear he
    go_enter Try.func19, Try.ntmps19
    go_wp2
    go_ret
    exact ⟨ret_bool (by simp [HN.out]), Below.refl _ _⟩
end Go.Proofs.Ytbofplofpggdlaa
