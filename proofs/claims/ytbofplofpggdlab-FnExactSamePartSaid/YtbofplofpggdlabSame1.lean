/- Contracts of chapter 3: slices.Equal of cells; SameCore, the program's and the model's. -/
import Derived.Test.YtbofplofpggdlabTCore
import Derived.Test.YtbofplofpggdlabCellP
namespace Go.Proofs.Ytbofplofpggdlab
set_option linter.unusedVariables false
open Go.RowKit
theorem belE {B : Nat} {a w : World} (h : Below B a w) (n : Nat) : Below B a (w.drewN n) := ⟨h.os, h.tape, h.output, h.size, h.block⟩
set_option maxRecDepth 100000 in
set_option maxHeartbeats 1600000 in
theorem equalCells_any (v u : Value) (x y : List CellD) (w : World) (hx : FlatAt cCell 2 w v x) (hy : FlatAt cCell 2 w u y) :
    Calls Try.prog 81 #[v, u] w fun e w' => e = .returned (.bool (decide (x = y))) ∧ Below w.heap.size w w' := by
  obtain ⟨a, c, rfl, hl⟩ := flatAt_len hx
  obtain ⟨a2, c2, rfl, hl2⟩ := flatAt_len hy
  have HX := Lib.hid hx
  have HY := Lib.hid hy
  clear hx hy
  unfold maxLen at hl hl2
  by_cases he : x.length = y.length
  · have hb : ((x.length : Int) == y.length) = true := beq_iff_eq.2 (by omega)
    have hbn : ((x.length : Int) != y.length) = false := by rw [bne_eq_false_iff_eq]; omega
    have HE := Lib.hid he
    clear he
    go_enter Try.func81, Try.ntmps81
    go_wp2
    go_loopw [5, 13] (fun _ i wr => ∃ k : Nat, k ≤ x.length ∧ i = .int .i64 k ∧ x.take k = y.take k ∧ Below w.heap.size w wr) (fun _ i _ => x.length - (intOf i).toNat)
    case atStart => exact ⟨0, Nat.zero_le _, rfl, rfl, Below.refl _ _⟩
    case round =>
      obtain ⟨k, hk, rfl, ht, hbr⟩ := hrel
      have HT := Lib.hid ht
      have HB := Lib.hid hbr
      have HXr := Lib.hid (FlatAt.below HX.out hbr (Nat.le_refl _))
      have HYr := Lib.hid (FlatAt.below HY.out hbr (Nat.le_refl _))
      clear ht hbr
      by_cases hlt : k < x.length
      · have hky : k < y.length := by have := HE.out; omega
        obtain ⟨b, o, rfl, _, hd⟩ := flatAt_cell cCell_len HXr.out k hlt (by decide)
        obtain ⟨b2, o2, rfl, _, hd2⟩ := flatAt_cell cCell_len HYr.out k hky (by decide)
        have d0 := hd 0 (by decide)
        have d1 := hd 1 (by decide)
        have q0 := hd2 0 (by decide)
        have q1 := hd2 1 (by decide)
        clear hd hd2
        have HS := Lib.hid (take_eq_step x y HE.out k hlt HT.out)
        have HD := Lib.hid (show x[k] ≠ y[k] → ¬ x = y from fun h e => h (by subst e; rfl))
        generalize x[k] = p at *
        generalize y[k] = q at *
        obtain ⟨a0, a1⟩ := p
        obtain ⟨b0, b1⟩ := q
        simp only [cCell, List.getElem?_cons_zero, List.getElem?_cons_succ, Nat.add_zero] at d0 d1 q0 q1
        have hk0 : (0 : Int) ≤ (k : Int) := by omega
        have hk1 : (k : Int) < (x.length : Int) := by omega
        have hk2 : (k : Int) < (y.length : Int) := by omega
        by_cases heq : (⟨a0, a1⟩ : CellD) = ⟨b0, b1⟩
        · have HN := Lib.hid (HS.out heq)
          injection heq with e0 e1
          subst e0 e1
          clear HS HD
          go_wp2
          go_quiet (fail)
          go_wp2_with fail
          exact ⟨⟨k + 1, by omega, by go_num, HN.out, belE HB.out _⟩, by simp [intOf]; omega⟩
        · have HN := Lib.hid (HD.out heq)
          by_cases e0 : a0 = b0
          · have e1 : ¬ a1 = b1 := fun e => heq (by rw [e0, e])
            have hn1 : (a1 == b1) = false := by simpa using e1
            subst e0
            clear HS HD heq e1
            go_wp2
            go_quiet (fail)
            go_wp2_with fail
            go_ret
            exact ⟨ret_bool (by simp [HN.out]), belE HB.out _⟩
          · have hn0 : (a0 == b0) = false := by simpa using e0
            clear HS HD heq e0
            go_wp2
            go_quiet (fail)
            go_wp2_with fail
            go_ret
            exact ⟨ret_bool (by simp [HN.out]), belE HB.out _⟩
      · have HN := Lib.hid (show x = y from by
          have h := HT.out
          rw [List.take_of_length_le (by omega), List.take_of_length_le (by have := HE.out; omega)] at h
          exact h)
        go_wp2
        go_ret
        exact ⟨ret_bool (by simp [HN.out]), HB.out⟩
  · have hb : ((x.length : Int) == y.length) = false := beq_eq_false_iff_ne.2 (by omega)
    have hbn : ((x.length : Int) != y.length) = true := by rw [bne_iff_ne]; omega
    have HN := Lib.hid (show ¬ x = y from fun e => he (by rw [e]))
    clear he
    go_enter Try.func81, Try.ntmps81
    go_wp2
    go_ret
    exact ⟨ret_bool (by simp [HN.out]), Below.refl _ _⟩
set_option maxRecDepth 100000 in
set_option maxHeartbeats 3200000 in
theorem implSame_b (v u : Value) (x y : CoreD) (q : Bool) (hq : decide (x = y) = q) (w : World) (hx : CoreAt w v x) (hy : CoreAt w u y) :
    Calls Try.prog 57 #[v, u] w fun e w' => e = .returned (.bool q) ∧ Below w.heap.size w w' := by
  obtain ⟨cv, rfl, hx⟩ := hx
  obtain ⟨cu, rfl, hy⟩ := hy
  have hex := coreD_ext x y
  obtain ⟨a0, a1, a2, a3, a4⟩ := x
  obtain ⟨b0, b1, b2, b3, b4⟩ := y
  unfold vCore
  simp only at *
  have B2 := Lib.hid (show ∀ o1 o2, Below w.heap.size w ((w.alloc o1).alloc o2) from fun o1 o2 => ((Below.refl _ _).alloc (Nat.le_refl _) _).alloc (by simp) _)
  have HX := Lib.hid hx
  have HY := Lib.hid hy
  have HN := Lib.hid (show ¬ (a0 = b0 ∧ a1 = b1 ∧ a2 = b2 ∧ a3 = b3 ∧ a4 = b4) → false = q from fun h => by rw [← hq]; symm; rw [decide_eq_false_iff_not, hex]; exact h)
  have HQ := Lib.hid (show a0 = b0 → a1 = b1 → a2 = b2 → a4 = b4 → decide (a3 = b3) = q from fun h0 h1 h2 h4 => by
    rw [← hq]
    by_cases h3 : a3 = b3
    · rw [decide_eq_true h3, decide_eq_true (hex.2 ⟨h0, h1, h2, h3, h4⟩)]
    · rw [decide_eq_false h3, decide_eq_false (fun e => h3 (hex.1 e).2.2.2.1)])
  have HC := Lib.hid (fun o1 o2 => equalCells_any cv cu a3 b3 ((w.alloc o1).alloc o2) (HX.out.below (B2.out o1 o2) (Nat.le_refl _)) (HY.out.below (B2.out o1 o2) (Nat.le_refl _)))
  clear hx hy hq hex
  by_cases h0 : a0 = b0
  case neg =>
    have HF := Lib.hid (HN.out fun e => h0 e.1)
    have hne : (a0 == b0) = false := by simpa using h0
    have hnf : (a0 != b0) = true := by simpa using h0
    clear h0
    go_enter Try.func57, Try.ntmps57
    go_wp2_with fail
    go_ret
    exact ⟨ret_bool HF.out, B2.out _ _⟩
  case pos =>
    by_cases h1 : a1 = b1
    case neg =>
      have HF := Lib.hid (HN.out fun e => h1 e.2.1)
      subst h0
      cases a1 <;> cases b1
      all_goals first
        | exact absurd rfl h1
        | (clear h1
           go_enter Try.func57, Try.ntmps57
           go_wp2_with fail
           go_ret
           exact ⟨ret_bool HF.out, B2.out _ _⟩)
    case pos =>
      by_cases h2 : a2 = b2
      case neg =>
        have HF := Lib.hid (HN.out fun e => h2 e.2.2.1)
        subst h0 h1
        cases a1 <;> cases a2 <;> cases b2
        all_goals first
          | exact absurd rfl h2
          | (clear h2
             go_enter Try.func57, Try.ntmps57
             go_wp2_with fail
             go_ret
             exact ⟨ret_bool HF.out, B2.out _ _⟩)
      case pos =>
        by_cases h4 : a4 = b4
        case neg =>
          have HF := Lib.hid (HN.out fun e => h4 e.2.2.2.2)
          have hne : (a4 == b4) = false := by simpa using h4
          have hnf : (a4 != b4) = true := by simpa using h4
          subst h0 h1 h2
          clear h4
          cases a1 <;> cases a2
          all_goals
            go_enter Try.func57, Try.ntmps57
            go_wp2_with fail
            go_ret
            exact ⟨ret_bool HF.out, B2.out _ _⟩
        case pos =>
          have HF := Lib.hid (HQ.out h0 h1 h2 h4)
          subst h0 h1 h2 h4
          obtain ⟨pa, pc, rfl, _⟩ := flatAt_len HX.out
          obtain ⟨qa, qc, rfl, _⟩ := flatAt_len HY.out
          generalize decide (a3 = b3) = eq at *
          cases a1 <;> cases a2
          all_goals
            go_enter Try.func57, Try.ntmps57
            go_wp2_with fail
            refine (HC.out _ _).mono ?_
            rintro e w1 ⟨rfl, hb⟩
            have HB := Lib.hid ((B2.out _ _).trans (hb.mono (B2.out _ _).size))
            clear hb
            go_wp2_with fail
            go_ret
            exact ⟨ret_bool HF.out, HB.out⟩
theorem implSame_any (v u : Value) (x y : CoreD) (w : World) (hx : CoreAt w v x) (hy : CoreAt w u y) :
    Calls Try.prog 57 #[v, u] w fun e w' => e = .returned (.bool (decide (x = y))) ∧ Below w.heap.size w w' := implSame_b v u x y _ rfl w hx hy
end Go.Proofs.Ytbofplofpggdlab
