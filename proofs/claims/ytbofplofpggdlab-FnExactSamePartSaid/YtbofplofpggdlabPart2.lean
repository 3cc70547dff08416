/- Contracts of chapter 4: slices.Equal of layers; SamePart, the program's. -/
import Derived.Test.YtbofplofpggdlabDPart
import Derived.Test.YtbofplofpggdlabSame1
namespace Go.Proofs.Ytbofplofpggdlab
set_option linter.unusedVariables false
set_option linter.unusedSimpArgs false
open Go.RowKit
set_option maxRecDepth 100000 in
set_option maxHeartbeats 1600000 in
theorem equalLayers_any (v u : Value) (x y : List LayerD) (w : World) (hx : FlatAt cLayer 2 w v x) (hy : FlatAt cLayer 2 w u y) :
    Calls Try.prog 58 #[v, u] w fun e w' => e = .returned (.bool (decide (x = y))) ∧ Below w.heap.size w w' := by
  obtain ⟨a, c, rfl, hl⟩ := flatAt_len hx
  obtain ⟨a2, c2, rfl, hl2⟩ := flatAt_len hy
  have HX := Lib.hid hx
  have HY := Lib.hid hy
  clear hx hy
  unfold maxLen at hl hl2
  by_cases he : x.length = y.length
  · have hb : ((x.length : Int) == y.length) = true := beq_iff_eq.2 (by omega)
    have hbn : ((x.length : Int) != y.length) = false := by rw [bne_eq_false_iff_eq]; omega
    have HE := Lib.hid he
    clear he
    go_enter Try.func58, Try.ntmps58
    go_wp2
    go_loopw [5, 13] (fun _ i wr => ∃ k : Nat, k ≤ x.length ∧ i = .int .i64 k ∧ x.take k = y.take k ∧ Below w.heap.size w wr) (fun _ i _ => x.length - (intOf i).toNat)
    case atStart => exact ⟨0, Nat.zero_le _, rfl, rfl, Below.refl _ _⟩
    case round =>
      obtain ⟨k, hk, rfl, ht, hbr⟩ := hrel
      have HT := Lib.hid ht
      have HB := Lib.hid hbr
      have HXr := Lib.hid (FlatAt.below HX.out hbr (Nat.le_refl _))
      have HYr := Lib.hid (FlatAt.below HY.out hbr (Nat.le_refl _))
      clear ht hbr
      by_cases hlt : k < x.length
      · have hky : k < y.length := by have := HE.out; omega
        obtain ⟨b, o, rfl, _, hd⟩ := flatAt_cell cLayer_len HXr.out k hlt (by decide)
        obtain ⟨b2, o2, rfl, _, hd2⟩ := flatAt_cell cLayer_len HYr.out k hky (by decide)
        have d0 := hd 0 (by decide)
        have d1 := hd 1 (by decide)
        have q0 := hd2 0 (by decide)
        have q1 := hd2 1 (by decide)
        clear hd hd2
        have HS := Lib.hid (take_eq_step x y HE.out k hlt HT.out)
        have HD := Lib.hid (show x[k] ≠ y[k] → ¬ x = y from fun h e => h (by subst e; rfl))
        generalize x[k] = p at *
        generalize y[k] = q at *
        obtain ⟨a0, a1⟩ := p
        obtain ⟨b0, b1⟩ := q
        simp only [cLayer, List.getElem?_cons_zero, List.getElem?_cons_succ, Nat.add_zero] at d0 d1 q0 q1
        have hk0 : (0 : Int) ≤ (k : Int) := by omega
        have hk1 : (k : Int) < (x.length : Int) := by omega
        have hk2 : (k : Int) < (y.length : Int) := by omega
        by_cases heq : (⟨a0, a1⟩ : LayerD) = ⟨b0, b1⟩
        · have HN := Lib.hid (HS.out heq)
          injection heq with e0 e1
          subst e0 e1
          clear HS HD
          go_wp2
          go_quiet (fail)
          go_wp2_with fail
          exact ⟨⟨k + 1, by omega, by go_num, HN.out, belE HB.out _⟩, by simp [intOf]; omega⟩
        · have HN := Lib.hid (HD.out heq)
          by_cases e0 : a0 = b0
          · have e1 : ¬ a1 = b1 := fun e => heq (by rw [e0, e])
            have hn1 : (a1 == b1) = false := by simpa using e1
            subst e0
            clear HS HD heq e1
            go_wp2
            go_quiet (fail)
            go_wp2_with fail
            go_ret
            exact ⟨ret_bool (by simp [HN.out]), belE HB.out _⟩
          · have hn0 : (a0 == b0) = false := by simpa using e0
            clear HS HD heq e0
            go_wp2
            go_quiet (fail)
            go_wp2_with fail
            go_ret
            exact ⟨ret_bool (by simp [HN.out]), belE HB.out _⟩
      · have HN := Lib.hid (show x = y from by
          have h := HT.out
          rw [List.take_of_length_le (by omega), List.take_of_length_le (by have := HE.out; omega)] at h
          exact h)
        go_wp2
        go_ret
        exact ⟨ret_bool (by simp [HN.out]), HB.out⟩
  · have hb : ((x.length : Int) == y.length) = false := beq_eq_false_iff_ne.2 (by omega)
    have hbn : ((x.length : Int) != y.length) = true := by rw [bne_iff_ne]; omega
    have HN := Lib.hid (show ¬ x = y from fun e => he (by rw [e]))
    clear he
    go_enter Try.func58, Try.ntmps58
    go_wp2
    go_ret
    exact ⟨ret_bool (by simp [HN.out]), Below.refl _ _⟩

theorem part_eq (x y : PartD) : decide (x = y) = (decide (x.fCore = y.fCore) && decide (x.fLayers = y.fLayers)) := by rw [Bool.eq_iff_iff]; cases x; cases y; simp
set_option maxRecDepth 100000 in
set_option maxHeartbeats 1600000 in
theorem implSamePart_any (v u : Value) (x y : PartD) (w : World) (hx : ValAt rPart 0 w v x) (hy : ValAt rPart 0 w u y) :
    Calls Try.prog 28 #[v, u] w fun e w' => e = .returned (.bool (decide (x = y))) ∧ Below w.heap.size w w' := by
  rw [part_eq]
  obtain ⟨_, rfl, hx⟩ := hx
  obtain ⟨_, rfl, hy⟩ := hy
  obtain ⟨⟨a0, a1, a2, a3, a4⟩, ls⟩ := x
  obtain ⟨⟨b0, b1, b2, b3, b4⟩, ms⟩ := y
  obtain ⟨v3, v5, rfl, h3, h5⟩ := hx
  obtain ⟨u3, u5, rfl, k3, k5⟩ := hy
  simp only at h3 h5 k3 k5 ⊢
  have HC := Lib.hid (fun w1 (hw : Below w.heap.size w w1) => implSame_any (.agg #[.string ⟨a0.toArray⟩, .bool a1, .bool a2, v3, .int .i64 a4]) (.agg #[.string ⟨b0.toArray⟩, .bool b1, .bool b2, u3, .int .i64 b4]) ⟨a0, a1, a2, a3, a4⟩ ⟨b0, b1, b2, b3, b4⟩ w1 ⟨v3, rfl, (flatAt_of_slice cCell_len (by decide) h3).below hw (Nat.le_refl _)⟩ ⟨u3, rfl, (flatAt_of_slice cCell_len (by decide) k3).below hw (Nat.le_refl _)⟩)
  have HL := Lib.hid (fun w1 (hw : Below w.heap.size w w1) => equalLayers_any v5 u5 ls ms w1 ((flatAt_of_slice cLayer_len (by decide) h5).below hw (Nat.le_refl _)) ((flatAt_of_slice cLayer_len (by decide) k5).below hw (Nat.le_refl _)))
  obtain ⟨ra, rc, rfl, _⟩ := sliceAt_len h3
  obtain ⟨sa, sc, rfl, _⟩ := sliceAt_len h5
  obtain ⟨pa, pc, rfl, _⟩ := sliceAt_len k3
  obtain ⟨qa, qc, rfl, _⟩ := sliceAt_len k5
  have HS := Lib.hid (bx_start2 w [.string ⟨a0.toArray⟩, .bool a1, .bool a2, .slice ra a3.length rc, .int .i64 a4, .slice sa ls.length sc] [.string ⟨b0.toArray⟩, .bool b1, .bool b2, .slice pa b3.length pc, .int .i64 b4, .slice qa ms.length qc] 35 35)
  generalize decide ((⟨a0, a1, a2, a3, a4⟩ : CoreD) = ⟨b0, b1, b2, b3, b4⟩) = p at *
  generalize decide (ls = ms) = q at *
  clear h3 h5 k3 k5
  cases p with
  | false =>
    go_enter Try.func28, Try.ntmps28
    go_wp2_with fail
    refine (HC.out _ HS.out.2.2).mono ?_
    rintro e w1 ⟨rfl, hb⟩
    have HB := Lib.hid (belS (w := w) HS.out.2.2 hb)
    clear hb
    go_wp2_with fail
    go_ret
    exact ⟨rfl, HB.out⟩
  | true =>
    go_enter Try.func28, Try.ntmps28
    go_wp2_with fail
    refine (HC.out _ HS.out.2.2).mono ?_
    rintro e w1 ⟨rfl, hb⟩
    have HB := Lib.hid (belS (w := w) HS.out.2.2 hb)
    have BA := Lib.hid (HS.out.1.below hb)
    have BB := Lib.hid (HS.out.2.1.below hb)
    clear hb
    have eA := BA.out.cell 5 (by simp)
    have eB := BB.out.cell 5 (by simp)
    simp only [List.getElem_cons_zero, List.getElem_cons_succ] at eA eB
    go_wp2_with fail
    refine (HL.out _ HB.out).mono ?_
    rintro e w2 ⟨rfl, hb⟩
    have HB := Lib.hid (belS (w := w) HB.out hb)
    clear hb eA eB
    go_wp2_with fail
    go_ret
    exact ⟨ret_bool (by simp), HB.out⟩
end Go.Proofs.Ytbofplofpggdlab
