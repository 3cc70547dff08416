/- Contracts of chapter 4: SamePart, the model's. -/
import Derived.Test.YtbofplofpggdlabPart2
import Derived.Test.YtbofplofpggdlabSame2
namespace Go.Proofs.Ytbofplofpggdlab
set_option linter.unusedVariables false
set_option linter.unusedSimpArgs false
open Go.RowKit
set_option maxRecDepth 100000 in
set_option maxHeartbeats 3200000 in
theorem specSamePart_any (v u : Value) (x y : PartD) (w : World) (hx : ValAt rPart 0 w v x) (hy : ValAt rPart 0 w u y) :
    Calls Try.prog 27 #[v, u] w fun e w' => e = .returned (.bool (decide (x = y))) ∧ Below w.heap.size w w' := by
  rw [part_eq]
  obtain ⟨_, rfl, hx⟩ := hx
  obtain ⟨_, rfl, hy⟩ := hy
  obtain ⟨⟨a0, a1, a2, a3, a4⟩, ls⟩ := x
  obtain ⟨⟨b0, b1, b2, b3, b4⟩, ms⟩ := y
  obtain ⟨v3, v5, rfl, h3, h5⟩ := hx
  obtain ⟨u3, u5, rfl, k3, k5⟩ := hy
  simp only at h3 h5 k3 k5 ⊢
  have HC := Lib.hid (fun w1 (hw : Below w.heap.size w w1) => specSame_any (.agg #[.string ⟨a0.toArray⟩, .bool a1, .bool a2, v3, .int .i64 a4]) (.agg #[.string ⟨b0.toArray⟩, .bool b1, .bool b2, u3, .int .i64 b4]) ⟨a0, a1, a2, a3, a4⟩ ⟨b0, b1, b2, b3, b4⟩ w1 ⟨v3, rfl, (flatAt_of_slice cCell_len (by decide) h3).below hw (Nat.le_refl _)⟩ ⟨u3, rfl, (flatAt_of_slice cCell_len (by decide) k3).below hw (Nat.le_refl _)⟩)
  have HX := Lib.hid (flatAt_of_slice cLayer_len (by decide) h5)
  have HY := Lib.hid (flatAt_of_slice cLayer_len (by decide) k5)
  obtain ⟨ra, rc, rfl, _⟩ := sliceAt_len h3
  obtain ⟨sa, sc, rfl, hla⟩ := sliceAt_len h5
  obtain ⟨pa, pc, rfl, _⟩ := sliceAt_len k3
  obtain ⟨qa, qc, rfl, hlb⟩ := sliceAt_len k5
  unfold maxLen at hla hlb
  have HS := Lib.hid (bx_start2 w [.string ⟨a0.toArray⟩, .bool a1, .bool a2, .slice ra a3.length rc, .int .i64 a4, .slice sa ls.length sc] [.string ⟨b0.toArray⟩, .bool b1, .bool b2, .slice pa b3.length pc, .int .i64 b4, .slice qa ms.length qc] 35 35)
  generalize decide ((⟨a0, a1, a2, a3, a4⟩ : CoreD) = ⟨b0, b1, b2, b3, b4⟩) = p at *
  clear h3 h5 k3 k5
  cases p with
  | false =>
    go_enter Try.func27, Try.ntmps27
    go_wp2_with fail
    refine (HC.out _ HS.out.2.2).mono ?_
    rintro e w1 ⟨rfl, hb⟩
    have HB := Lib.hid (belS (w := w) HS.out.2.2 hb)
    clear hb
    go_wp2_with fail
    go_ret
    exact ⟨rfl, HB.out⟩
  | true =>
    by_cases hl : ls.length = ms.length
    case neg =>
      have hb2 : ((ls.length : Int) == ms.length) = false := beq_eq_false_iff_ne.2 (by omega)
      have hbn : ((ls.length : Int) != ms.length) = true := by rw [bne_iff_ne]; omega
      have HF := Lib.hid (show decide (ls = ms) = false from decide_eq_false (fun e => hl (by rw [e])))
      rw [HF.out]
      clear hl
      go_enter Try.func27, Try.ntmps27
      go_wp2_with fail
      refine (HC.out _ HS.out.2.2).mono ?_
      rintro e w1 ⟨rfl, hb⟩
      have HB := Lib.hid (belS (w := w) HS.out.2.2 hb)
      have BA := Lib.hid (HS.out.1.below hb)
      have BB := Lib.hid (HS.out.2.1.below hb)
      clear hb
      have eA := BA.out.cell 5 (by simp)
      have eB := BB.out.cell 5 (by simp)
      simp only [List.getElem_cons_zero, List.getElem_cons_succ] at eA eB
      go_wp2_with fail
      go_ret
      exact ⟨rfl, HB.out⟩
    case pos =>
      have hb2 : ((ls.length : Int) == ms.length) = true := beq_iff_eq.2 (by omega)
      have hbn : ((ls.length : Int) != ms.length) = false := by rw [bne_eq_false_iff_eq]; omega
      have HE := Lib.hid hl
      clear hl
      go_enter Try.func27, Try.ntmps27
      go_wp2_with fail
      refine (HC.out _ HS.out.2.2).mono ?_
      rintro e w1 ⟨rfl, hb⟩
      have HB0 := Lib.hid (belS (w := w) HS.out.2.2 hb)
      have BA := Lib.hid (HS.out.1.below hb)
      have BB := Lib.hid (HS.out.2.1.below hb)
      clear hb
      have eA := BA.out.cell 5 (by simp)
      have eB := BB.out.cell 5 (by simp)
      simp only [List.getElem_cons_zero, List.getElem_cons_succ] at eA eB
      have HAB := Lib.hid (show _ ∧ _ from ⟨eA, eB⟩)
      go_wp2_with fail
      clear eA eB
      go_loopw [5, 24] (fun _ i wr => ∃ k : Nat, k ≤ ls.length ∧ i = .int .i64 k ∧ ls.take k = ms.take k ∧ Below w.heap.size w wr ∧ wr.cell? ⟨w.heap.size, 5, none⟩ = some (.slice sa ls.length sc) ∧ wr.cell? ⟨w.heap.size + 1, 5, none⟩ = some (.slice qa ms.length qc)) (fun _ i _ => ls.length - (intOf i).toNat)
      case atStart => exact ⟨0, Nat.zero_le _, rfl, rfl, HB0.out, HAB.out.1, HAB.out.2⟩
      case round =>
        obtain ⟨k, hk, rfl, ht, hbr, hc1, hc2⟩ := hrel
        have HT := Lib.hid ht
        have HB := Lib.hid hbr
        have HCC := Lib.hid (show _ ∧ _ from ⟨hc1, hc2⟩)
        have HXr := Lib.hid (FlatAt.below HX.out hbr (Nat.le_refl _))
        have HYr := Lib.hid (FlatAt.below HY.out hbr (Nat.le_refl _))
        clear ht hbr
        by_cases hlt : k < ls.length
        · have hky : k < ms.length := by have := HE.out; omega
          obtain ⟨b, o, rfl, _, hd⟩ := flatAt_cell cLayer_len HXr.out k hlt (by decide)
          obtain ⟨b', o2, rfl, _, hd2⟩ := flatAt_cell cLayer_len HYr.out k hky (by decide)
          have d0 := hd 0 (by decide)
          have d1 := hd 1 (by decide)
          have q0 := hd2 0 (by decide)
          have q1 := hd2 1 (by decide)
          clear hd hd2
          have HSS := Lib.hid (take_eq_step ls ms HE.out k hlt HT.out)
          have HD := Lib.hid (show ls[k] ≠ ms[k] → ¬ ls = ms from fun h e => h (by subst e; rfl))
          generalize ls[k] = p at *
          generalize ms[k] = r at *
          obtain ⟨e0, e1⟩ := p
          obtain ⟨f0, f1⟩ := r
          simp only [cLayer, List.getElem?_cons_zero, List.getElem?_cons_succ, Nat.add_zero] at d0 d1 q0 q1
          have hk0 : (0 : Int) ≤ (k : Int) := by omega
          have hk1 : (k : Int) < (ls.length : Int) := by omega
          have hk2 : (k : Int) < (ms.length : Int) := by omega
          by_cases heq : (⟨e0, e1⟩ : LayerD) = ⟨f0, f1⟩
          · have HN2 := Lib.hid (HSS.out heq)
            injection heq with g0 g1
            subst g0 g1
            clear HSS HD
            go_wp2
            go_quiet (fail)
            go_wp2_with fail
            exact ⟨⟨k + 1, by omega, by go_num, HN2.out, belE HB.out _, HCC.out.1, HCC.out.2⟩, by simp [intOf]; omega⟩
          · have HN2 := Lib.hid (show decide (ls = ms) = false from decide_eq_false (HD.out heq))
            by_cases g0 : e0 = f0
            · have g1 : ¬ e1 = f1 := fun e => heq (by rw [g0, e])
              have hn1 : (e1 == f1) = false := by simpa using g1
              subst g0
              clear HSS HD heq g1
              go_wp2
              go_quiet (fail)
              go_wp2_with fail
              go_ret
              exact ⟨ret_bool (by rw [HN2.out]; rfl), belE HB.out _⟩
            · have hn0 : (e0 == f0) = false := by simpa using g0
              clear HSS HD heq g0
              go_wp2
              go_quiet (fail)
              go_wp2_with fail
              go_ret
              exact ⟨ret_bool (by rw [HN2.out]; rfl), belE HB.out _⟩
        · have HN2 := Lib.hid (show decide (ls = ms) = true from decide_eq_true (by
            have h := HT.out
            rw [List.take_of_length_le (by omega), List.take_of_length_le (by have := HE.out; omega)] at h
            exact h))
          go_wp2
          go_ret
          exact ⟨ret_bool (by rw [HN2.out]; rfl), HB.out⟩
end Go.Proofs.Ytbofplofpggdlab
