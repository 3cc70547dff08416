/- Contracts of chapter 3: the model's IsCore. -/
import Derived.Test.YtmoliamenekemaaCore3
namespace Go.Proofs.Ytmoliamenekemaa
set_option linter.unusedVariables false
open Go.RowKit
theorem l2Has_0 (f : Int) (x : Bool) (h : hasI f 0 = x) (hf : isF f = true) (w : World) :
    Calls Try.prog 65 #[.int .i64 f, .int .i64 0] w fun e w' => e = .returned (.bool x) ∧ w = w' := l2Has_b f 0 x h hf (by decide) w
theorem l2Has_1 (f : Int) (x : Bool) (h : hasI f 1 = x) (hf : isF f = true) (w : World) :
    Calls Try.prog 65 #[.int .i64 f, .int .i64 1] w fun e w' => e = .returned (.bool x) ∧ w = w' := l2Has_b f 1 x h hf (by decide) w
set_option maxRecDepth 100000 in
set_option maxHeartbeats 6400000 in
theorem specIsCore_any (v : Value) (d : CoreD) (w : World) (hx : CoreAt w v d) (hs : ∀ c ∈ d.fCells, c.fKey.length ≤ maxLen) :
    Calls Try.prog 34 #[v] w fun e w' => e = .returned (.bool (coreB d)) ∧ Below w.heap.size w w' := by
  obtain ⟨cv, rfl, hx⟩ := hx
  have HKD := Lib.hid (specKind_b d.fKind)
  have HH0 := Lib.hid (l2Has_0 (kfI (kindI d.fKind)) _ rfl (kfI_face _))
  have HH1 := Lib.hid (l2Has_1 (kfI (kindI d.fKind)) _ rfl (kfI_face _))
  have HR := Lib.hid (show coreB d = (decide (0 ≤ kindI d.fKind) && cellsB d.fCells && (decide (d.fCells.length = 0) || hasI (kfI (kindI d.fKind)) 1) && (!(d.fOn || d.fBroken) || hasI (kfI (kindI d.fKind)) 0) && numB d.fCount && !(d.fOn && d.fBroken)) from rfl)
  generalize coreB d = res at *
  obtain ⟨kd, on, br, l, cnt⟩ := d
  unfold vCore
  simp only at *
  obtain ⟨a, c, rfl, hl⟩ := flatAt_len hx
  unfold maxLen at hl
  have HB0 := Lib.hid (show ∀ o, Below w.heap.size w (w.alloc o) from fun o => (Below.refl w.heap.size w).alloc (Nat.le_refl _) o)
  have HIC := Lib.hid (fun w0 hb => specIsCells_any _ l w0 (hx.below hb (Nat.le_refl _)) hs)
  clear hx hs
  have HK := Lib.hid (HKD.out _ rfl)
  generalize hasI (kfI (kindI kd)) 1 = h1 at *
  generalize hasI (kfI (kindI kd)) 0 = h0 at *
  generalize kfI (kindI kd) = f at *
  generalize decide (0 ≤ kindI kd) = kk at *
  generalize cellsB l = cb at *
  have HN0 := Lib.hid (show cnt < 0 → numB cnt = false from fun h => by simp [numB]; omega)
  have HN1 := Lib.hid (show 999 < cnt → numB cnt = false from fun h => by simp [numB]; omega)
  have HN2 := Lib.hid (show 0 ≤ cnt → cnt ≤ 999 → numB cnt = true from fun h h2 => by simp [numB]; omega)
  generalize numB cnt = nb at *
  clear HKD
  go_enter Try.func34, Try.ntmps34
  go_wp2_with fail
  refine (HK.out _).mono ?_
  rintro e w1 ⟨rfl, hb⟩
  have HB1 := Lib.hid ((HB0.out _).trans (hb.mono (HB0.out _).size))
  obtain ⟨hcc, _⟩ := bcell hb
  simp at hcc
  have hc0 := hcc w.heap.size 0 (by omega)
  have hc1 := hcc w.heap.size 1 (by omega)
  have hc2 := hcc w.heap.size 2 (by omega)
  have hc3 := hcc w.heap.size 3 (by omega)
  have hc4 := hcc w.heap.size 4 (by omega)
  simp at hc0 hc1 hc2 hc3 hc4
  have HLT := Lib.hid (show w.heap.size < w1.heap.size from by have := hb.size; simp at this; omega)
  clear hb hcc
  cases kk with
  | false =>
    go_wp2_with (first | (go_at_call 65; (with_reducible refine (HH0.out _).mono ?_); rintro e w' ⟨rfl, rfl⟩))
    go_ret
    exact ⟨ret_bool (by rw [HR.out]; rfl), HB1.out⟩
  | true =>
    go_wp2_with (first | (go_at_call 65; (with_reducible refine (HH0.out _).mono ?_); rintro e w' ⟨rfl, rfl⟩))
    refine (HIC.out _ HB1.out).mono ?_
    rintro e w2 ⟨rfl, hb⟩
    have HB := Lib.hid (HB1.out.trans (hb.mono HB1.out.size))
    have c0 := (hb.cell (p := ⟨w.heap.size, 0, none⟩) HLT.out).trans hc0
    have c1 := (hb.cell (p := ⟨w.heap.size, 1, none⟩) HLT.out).trans hc1
    have c2 := (hb.cell (p := ⟨w.heap.size, 2, none⟩) HLT.out).trans hc2
    have c3 := (hb.cell (p := ⟨w.heap.size, 3, none⟩) HLT.out).trans hc3
    have c4 := (hb.cell (p := ⟨w.heap.size, 4, none⟩) HLT.out).trans hc4
    clear hb hc0 hc1 hc2 hc3 hc4
    cases cb with
    | false =>
      go_wp2_with fail
      go_ret
      exact ⟨ret_bool (by rw [HR.out]; rfl), HB.out⟩
    | true =>
      by_cases hn : 0 < l.length
      · have hg : decide ((0 : Int) < (l.length : Int)) = true := decide_eq_true (by omega)
        rw [show decide (l.length = 0) = false from decide_eq_false (by omega)] at HR
        cases h1 with
        | false =>
          go_wp2_with (first | (go_at_call 65; (with_reducible refine (HH1.out _).mono ?_); rintro e w' ⟨rfl, rfl⟩))
          go_ret
          exact ⟨ret_bool (by rw [HR.out]; rfl), HB.out⟩
        | true =>
          by_cases hv : cnt < 0
          · rw [HN0.out hv] at HR
            go_wp2_with (first | (go_at_call 65; (with_reducible refine (HH1.out _).mono ?_); rintro e w' ⟨rfl, rfl⟩))
            go_ret
            exact ⟨ret_bool (by rw [HR.out]; cases on <;> cases br <;> cases h0 <;> rfl), HB.out⟩
          · by_cases hv2 : 999 < cnt
            · rw [HN1.out hv2] at HR
              go_wp2_with (first | (go_at_call 65; (with_reducible refine (HH1.out _).mono ?_); rintro e w' ⟨rfl, rfl⟩))
              go_ret
              exact ⟨ret_bool (by rw [HR.out]; cases on <;> cases br <;> cases h0 <;> rfl), HB.out⟩
            · rw [HN2.out (by omega) (by omega)] at HR
              cases on <;> cases br <;> cases h0
              all_goals
                go_wp2_with (first | (go_at_call 65; (with_reducible refine (HH1.out _).mono ?_); rintro e w' ⟨rfl, rfl⟩))
                go_ret
                exact ⟨ret_bool (by rw [HR.out]; rfl), HB.out⟩
      · have hg : decide ((0 : Int) < (l.length : Int)) = false := decide_eq_false (by omega)
        rw [show decide (l.length = 0) = true from decide_eq_true (by omega)] at HR
        have hg2 : (l.length : Int) ≤ 0 := by omega
        clear hn
        by_cases hv : cnt < 0
        · rw [HN0.out hv] at HR
          go_wp2_with fail
          go_ret
          exact ⟨ret_bool (by rw [HR.out]; cases on <;> cases br <;> cases h0 <;> rfl), HB.out⟩
        · by_cases hv2 : 999 < cnt
          · rw [HN1.out hv2] at HR
            go_wp2_with fail
            go_ret
            exact ⟨ret_bool (by rw [HR.out]; cases on <;> cases br <;> cases h0 <;> rfl), HB.out⟩
          · rw [HN2.out (by omega) (by omega)] at HR
            cases on <;> cases br <;> cases h0
            all_goals
              go_wp2_with fail
              go_ret
              exact ⟨ret_bool (by rw [HR.out]; rfl), HB.out⟩
end Go.Proofs.Ytmoliamenekemaa
