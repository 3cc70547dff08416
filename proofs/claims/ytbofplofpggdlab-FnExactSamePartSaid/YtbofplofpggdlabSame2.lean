/- Contracts of chapter 3: the model's SameCore. -/
import Derived.Test.YtbofplofpggdlabSame1
namespace Go.Proofs.Ytbofplofpggdlab
set_option linter.unusedVariables false
open Go.RowKit
set_option maxRecDepth 100000 in
set_option maxHeartbeats 6400000 in
theorem specSame_b (v u : Value) (x y : CoreD) (q : Bool) (hq : decide (x = y) = q) (w : World) (hx : CoreAt w v x) (hy : CoreAt w u y) :
    Calls Try.prog 56 #[v, u] w fun e w' => e = .returned (.bool q) ∧ Below w.heap.size w w' := by
  obtain ⟨cv, rfl, hx⟩ := hx
  obtain ⟨cu, rfl, hy⟩ := hy
  have hex := coreD_ext x y
  obtain ⟨a0, a1, a2, a3, a4⟩ := x
  obtain ⟨b0, b1, b2, b3, b4⟩ := y
  unfold vCore
  simp only at *
  have B2 := Lib.hid (show ∀ o1 o2, Below w.heap.size w ((w.alloc o1).alloc o2) from fun o1 o2 => ((Below.refl _ _).alloc (Nat.le_refl _) _).alloc (by simp) _)
  have HX := Lib.hid hx
  have HY := Lib.hid hy
  have HN := Lib.hid (show ¬ (a0 = b0 ∧ a1 = b1 ∧ a2 = b2 ∧ a3 = b3 ∧ a4 = b4) → false = q from fun h => by rw [← hq]; symm; rw [decide_eq_false_iff_not, hex]; exact h)
  have HQ := Lib.hid (show a0 = b0 → a1 = b1 → a2 = b2 → a4 = b4 → decide (a3 = b3) = q from fun h0 h1 h2 h4 => by
    rw [← hq]
    by_cases h3 : a3 = b3
    · rw [decide_eq_true h3, decide_eq_true (hex.2 ⟨h0, h1, h2, h3, h4⟩)]
    · rw [decide_eq_false h3, decide_eq_false (fun e => h3 (hex.1 e).2.2.2.1)])
  obtain ⟨pa, pc, rfl, hla⟩ := flatAt_len hx
  obtain ⟨qa, qc, rfl, hlb⟩ := flatAt_len hy
  unfold maxLen at hla hlb
  clear hx hy hq hex
  by_cases h0 : a0 = b0
  case neg =>
    have HF := Lib.hid (HN.out fun e => h0 e.1)
    have hne : (a0 == b0) = false := by simpa using h0
    have hnf : (a0 != b0) = true := by simpa using h0
    clear h0
    go_enter Try.func56, Try.ntmps56
    go_wp2_with fail
    go_ret
    exact ⟨ret_bool HF.out, B2.out _ _⟩
  case pos =>
    by_cases h1 : a1 = b1
    case neg =>
      have HF := Lib.hid (HN.out fun e => h1 e.2.1)
      subst h0
      cases a1 <;> cases b1
      all_goals first
        | exact absurd rfl h1
        | (clear h1
           go_enter Try.func56, Try.ntmps56
           go_wp2_with fail
           go_ret
           exact ⟨ret_bool HF.out, B2.out _ _⟩)
    case pos =>
      by_cases h2 : a2 = b2
      case neg =>
        have HF := Lib.hid (HN.out fun e => h2 e.2.2.1)
        subst h0 h1
        cases a1 <;> cases a2 <;> cases b2
        all_goals first
          | exact absurd rfl h2
          | (clear h2
             go_enter Try.func56, Try.ntmps56
             go_wp2_with fail
             go_ret
             exact ⟨ret_bool HF.out, B2.out _ _⟩)
      case pos =>
        by_cases h4 : a4 = b4
        case neg =>
          have HF := Lib.hid (HN.out fun e => h4 e.2.2.2.2)
          have hne : (a4 == b4) = false := by simpa using h4
          have hnf : (a4 != b4) = true := by simpa using h4
          subst h0 h1 h2
          clear h4
          cases a1 <;> cases a2
          all_goals
            go_enter Try.func56, Try.ntmps56
            go_wp2_with fail
            go_ret
            exact ⟨ret_bool HF.out, B2.out _ _⟩
        case pos =>
          have HF := Lib.hid (HQ.out h0 h1 h2 h4)
          subst h0 h1 h2 h4
          by_cases hl : a3.length = b3.length
          case neg =>
            have hb : ((a3.length : Int) == b3.length) = false := beq_eq_false_iff_ne.2 (by omega)
            have hbn : ((a3.length : Int) != b3.length) = true := by rw [bne_iff_ne]; omega
            rw [show decide (a3 = b3) = false from decide_eq_false (fun e => hl (by rw [e]))] at HF
            clear hl
            cases a1 <;> cases a2
            all_goals
              go_enter Try.func56, Try.ntmps56
              go_wp2_with fail
              go_ret
              exact ⟨ret_bool HF.out, B2.out _ _⟩
          case pos =>
            have hb : ((a3.length : Int) == b3.length) = true := beq_iff_eq.2 (by omega)
            have hbn : ((a3.length : Int) != b3.length) = false := by rw [bne_eq_false_iff_eq]; omega
            have HE := Lib.hid hl
            clear hl
            cases a1 <;> cases a2
            all_goals
              go_enter Try.func56, Try.ntmps56
              go_wp2_with fail
              go_loopw [5, 44] (fun _ i wr => ∃ k : Nat, k ≤ a3.length ∧ i = .int .i64 k ∧ a3.take k = b3.take k ∧ Below w.heap.size w wr ∧ wr.cell? ⟨w.heap.size, 3, none⟩ = some (.slice pa a3.length pc) ∧ wr.cell? ⟨w.heap.size + 1, 3, none⟩ = some (.slice qa b3.length qc)) (fun _ i _ => a3.length - (intOf i).toNat)
              case atStart => exact ⟨0, Nat.zero_le _, rfl, rfl, B2.out _ _, by simp, by simp⟩
              case round =>
                obtain ⟨k, hk, rfl, ht, hbr, hc1, hc2⟩ := hrel
                have HT := Lib.hid ht
                have HB := Lib.hid hbr
                have HC := Lib.hid (show _ ∧ _ from ⟨hc1, hc2⟩)
                have HXr := Lib.hid (FlatAt.below HX.out hbr (Nat.le_refl _))
                have HYr := Lib.hid (FlatAt.below HY.out hbr (Nat.le_refl _))
                clear ht hbr
                by_cases hlt : k < a3.length
                · have hky : k < b3.length := by have := HE.out; omega
                  obtain ⟨b, o, rfl, _, hd⟩ := flatAt_cell cCell_len HXr.out k hlt (by decide)
                  obtain ⟨b', o2, rfl, _, hd2⟩ := flatAt_cell cCell_len HYr.out k hky (by decide)
                  have d0 := hd 0 (by decide)
                  have d1 := hd 1 (by decide)
                  have q0 := hd2 0 (by decide)
                  have q1 := hd2 1 (by decide)
                  clear hd hd2
                  have HS := Lib.hid (take_eq_step a3 b3 HE.out k hlt HT.out)
                  have HD := Lib.hid (show a3[k] ≠ b3[k] → ¬ a3 = b3 from fun h e => h (by subst e; rfl))
                  generalize a3[k] = p at *
                  generalize b3[k] = r at *
                  obtain ⟨e0, e1⟩ := p
                  obtain ⟨f0, f1⟩ := r
                  simp only [cCell, List.getElem?_cons_zero, List.getElem?_cons_succ, Nat.add_zero] at d0 d1 q0 q1
                  have hk0 : (0 : Int) ≤ (k : Int) := by omega
                  have hk1 : (k : Int) < (a3.length : Int) := by omega
                  have hk2 : (k : Int) < (b3.length : Int) := by omega
                  by_cases heq : (⟨e0, e1⟩ : CellD) = ⟨f0, f1⟩
                  · have HN2 := Lib.hid (HS.out heq)
                    injection heq with g0 g1
                    subst g0 g1
                    clear HS HD
                    go_wp2
                    go_quiet (fail)
                    go_wp2_with fail
                    exact ⟨⟨k + 1, by omega, by go_num, HN2.out, belE HB.out _, HC.out.1, HC.out.2⟩, by simp [intOf]; omega⟩
                  · have HN2 := Lib.hid (show decide (a3 = b3) = false from decide_eq_false (HD.out heq))
                    by_cases g0 : e0 = f0
                    · have g1 : ¬ e1 = f1 := fun e => heq (by rw [g0, e])
                      have hn1 : (e1 == f1) = false := by simpa using g1
                      subst g0
                      clear HS HD heq g1
                      go_wp2
                      go_quiet (fail)
                      go_wp2_with fail
                      go_ret
                      exact ⟨ret_bool (by rw [← HF.out, HN2.out]), belE HB.out _⟩
                    · have hn0 : (e0 == f0) = false := by simpa using g0
                      clear HS HD heq g0
                      go_wp2
                      go_quiet (fail)
                      go_wp2_with fail
                      go_ret
                      exact ⟨ret_bool (by rw [← HF.out, HN2.out]), belE HB.out _⟩
                · have HN2 := Lib.hid (show decide (a3 = b3) = true from decide_eq_true (by
                    have h := HT.out
                    rw [List.take_of_length_le (by omega), List.take_of_length_le (by have := HE.out; omega)] at h
                    exact h))
                  go_wp2
                  go_ret
                  exact ⟨ret_bool (by rw [← HF.out, HN2.out]), HB.out⟩
theorem specSame_any (v u : Value) (x y : CoreD) (w : World) (hx : CoreAt w v x) (hy : CoreAt w u y) :
    Calls Try.prog 56 #[v, u] w fun e w' => e = .returned (.bool (decide (x = y))) ∧ Below w.heap.size w w' := specSame_b v u x y _ rfl w hx hy
end Go.Proofs.Ytbofplofpggdlab
