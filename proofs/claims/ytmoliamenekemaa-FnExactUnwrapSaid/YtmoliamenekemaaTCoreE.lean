/- Cores: when two are equal. -/
import Derived.Test.YtmoliamenekemaaTCore
namespace Go.Proofs.Ytmoliamenekemaa
set_option linter.unusedVariables false
open Go.RowKit
set_option maxRecDepth 100000 in
set_option maxHeartbeats 1600000 in
theorem eqCore_b (v u : Value) (x y : CoreD) (q : Bool) (hq : decide (x = y) = q) (w : World) (hx : CoreAt w v x) (hy : CoreAt w u y) :
    Calls Try.prog 46 #[v, u] w fun e w' => e = .returned (.bool q) ∧ Below w.heap.size w w' := by
  obtain ⟨cv, rfl, hx⟩ := hx
  obtain ⟨cu, rfl, hy⟩ := hy
  have hex := coreD_ext x y
  obtain ⟨a0, a1, a2, a3, a4⟩ := x
  obtain ⟨b0, b1, b2, b3, b4⟩ := y
  unfold vCore
  simp only at *
  have B2 := Lib.hid (show ∀ o1 o2, Below w.heap.size w ((w.alloc o1).alloc o2) from fun o1 o2 => ((Below.refl _ _).alloc (Nat.le_refl _) _).alloc (by simp) _)
  have HX := Lib.hid hx
  have HY := Lib.hid hy
  have HN := Lib.hid (show ¬ (a0 = b0 ∧ a1 = b1 ∧ a2 = b2 ∧ a3 = b3 ∧ a4 = b4) → false = q from fun h => by rw [← hq]; symm; rw [decide_eq_false_iff_not, hex]; exact h)
  have HQ := Lib.hid (show (a0 = b0 ∧ a1 = b1 ∧ a2 = b2 ∧ a3 = b3 ∧ a4 = b4) → true = q from fun h => by rw [← hq]; symm; rw [decide_eq_true_iff, hex]; exact h)
  have HC := Lib.hid (fun o1 o2 => eqCellS_any cv cu a3 b3 ((w.alloc o1).alloc o2) (HX.out.below (B2.out o1 o2) (Nat.le_refl _)) (HY.out.below (B2.out o1 o2) (Nat.le_refl _)))
  clear hx hy hq hex
  by_cases h0 : a0 = b0
  case neg =>
    have HF := Lib.hid (HN.out fun e => h0 e.1)
    have hne : (a0 == b0) = false := by simpa using h0
    have hnf : (a0 != b0) = true := by simpa using h0
    clear h0
    go_enter Try.func46, Try.ntmps46
    go_wp2_with fail
    go_ret
    exact ⟨ret_bool HF.out, B2.out _ _⟩
  case pos =>
    by_cases h1 : a1 = b1
    case neg =>
      have HF := Lib.hid (HN.out fun e => h1 e.2.1)
      subst h0
      cases a1 <;> cases b1
      all_goals first
        | exact absurd rfl h1
        | (clear h1
           go_enter Try.func46, Try.ntmps46
           go_wp2_with fail
           go_ret
           exact ⟨ret_bool HF.out, B2.out _ _⟩)
    case pos =>
      by_cases h2 : a2 = b2
      case neg =>
        have HF := Lib.hid (HN.out fun e => h2 e.2.2.1)
        subst h0 h1
        cases a1 <;> cases a2 <;> cases b2
        all_goals first
          | exact absurd rfl h2
          | (clear h2
             go_enter Try.func46, Try.ntmps46
             go_wp2_with fail
             go_ret
             exact ⟨ret_bool HF.out, B2.out _ _⟩)
      case pos =>
        subst h0 h1 h2
        cases hd : decide (a3 = b3)
        case false =>
          have HF := Lib.hid (HN.out fun e => by rw [decide_eq_false_iff_not] at hd; exact hd e.2.2.2.1)
          rw [hd] at HC
          clear hd
          cases a1 <;> cases a2
          all_goals
            go_enter Try.func46, Try.ntmps46
            go_wp2_with fail
            refine (HC.out _ _).mono ?_
            rintro e w1 ⟨rfl, hb⟩
            have HB := Lib.hid ((B2.out _ _).trans (hb.mono (B2.out _ _).size))
            clear hb
            go_wp2_with fail
            go_ret
            exact ⟨ret_bool HF.out, HB.out⟩
        case true =>
          rw [hd] at HC
          by_cases h4 : a4 = b4
          case neg =>
            have HF := Lib.hid (HN.out fun e => h4 e.2.2.2.2)
            have hne : (a4 == b4) = false := by simpa using h4
            have hnf : (a4 != b4) = true := by simpa using h4
            clear hd h4
            cases a1 <;> cases a2
            all_goals
              go_enter Try.func46, Try.ntmps46
              go_wp2_with fail
              refine (HC.out _ _).mono ?_
              rintro e w1 ⟨rfl, hb⟩
              have HB := Lib.hid ((B2.out _ _).trans (hb.mono (B2.out _ _).size))
              obtain ⟨hcc, hff⟩ := bcell hb
              clear hb
              go_wp2_with fail
              go_ret
              exact ⟨ret_bool HF.out, HB.out⟩
          case pos =>
            have HF := Lib.hid (HQ.out ⟨rfl, rfl, rfl, by rw [decide_eq_true_iff] at hd; exact hd, h4⟩)
            subst h4
            clear hd
            cases a1 <;> cases a2
            all_goals
              go_enter Try.func46, Try.ntmps46
              go_wp2_with fail
              refine (HC.out _ _).mono ?_
              rintro e w1 ⟨rfl, hb⟩
              have HB := Lib.hid ((B2.out _ _).trans (hb.mono (B2.out _ _).size))
              obtain ⟨hcc, hff⟩ := bcell hb
              clear hb
              go_wp2_with fail
              go_ret
              exact ⟨ret_bool HF.out, HB.out⟩
theorem eqCore_any (v u : Value) (x y : CoreD) (w : World) (hx : CoreAt w v x) (hy : CoreAt w u y) :
    Calls Try.prog 46 #[v, u] w fun e w' => e = .returned (.bool (decide (x = y))) ∧ Below w.heap.size w w' := eqCore_b v u x y _ rfl w hx hy
end Go.Proofs.Ytmoliamenekemaa
