/- FnExactSameSlots: at every two lists of slots the program's SameSlots answers as the model's (lists of more than 2^20 slots, cells, layers and signs together are not asked). No condition. -/
import Derived.Test.YtlkpinlkbikokaeIsSlotsLawM1
import Derived.Deep.RegionHeld3
import Derived.IntWalk
import Derived.Test.YtlkpinlkbikokaeIsSlotsLawM2
import Derived.Test.YtlkpinlkbikokaeIsSlotsLawM0
/- Slots that are alike, in plain words. -/
namespace Go.Proofs.Ytlkpinlkbikokae
set_option linter.unusedVariables false
set_option linter.unusedSimpArgs false
open Go.RowKit
theorem slot_eq (f g : Bool) (p q : PartD) : decide ((⟨f, p⟩ : SlotD) = ⟨g, q⟩) = ((f == g) && decide (p = q)) := by
  rw [Bool.eq_iff_iff]; simp
theorem bel_dr8 {B : Nat} {a w : World} (h : Below B a w) : Below B a w.drew := ⟨h.os, h.tape, h.output, h.size, h.block⟩
theorem alloc8 {X : World} {b o : Nat} {v : Value} {ob : Obj} (hlt : b < X.heap.size) (h : X.cell? ⟨b, o, none⟩ = some v) : (X.alloc ob).cell? ⟨b, o, none⟩ = some v :=
  (((Below.refl X.heap.size X).alloc (Nat.le_refl _) ob).cell (p := ⟨b, o, none⟩) hlt).trans h
end Go.Proofs.Ytlkpinlkbikokae
/- Contracts of chapter 8: SameSlots, the program's. Written by gen/ch8v.py. -/
namespace Go.Proofs.Ytlkpinlkbikokae
set_option linter.unusedVariables false
set_option linter.unusedSimpArgs false
open Go.RowKit
set_option maxRecDepth 100000 in
set_option maxHeartbeats 1600000 in
theorem sameSlot_any (v u : Value) (x y : SlotD) (w : World) (hx : ValAt rSlot 0 w v x) (hy : ValAt rSlot 0 w u y) :
    Calls Try.prog 20 #[v, u] w fun e w' => e = .returned (.bool (decide (x = y))) ∧ Below w.heap.size w w' := by
  obtain ⟨_, rfl, hx⟩ := hx
  obtain ⟨_, rfl, hy⟩ := hy
  obtain ⟨f, ⟨⟨a0, a1, a2, a3, a4⟩, ls⟩⟩ := x
  obtain ⟨v4, v6, rfl, h4, h6⟩ := hx
  simp only at h4 h6
  obtain ⟨ra, rc, rfl, _⟩ := sliceAt_len h4
  obtain ⟨sa, sc, rfl, _⟩ := sliceAt_len h6
  obtain ⟨g, ⟨⟨c0, c1, c2, c3, c4⟩, ms⟩⟩ := y
  obtain ⟨u4, u6, rfl, k4, k6⟩ := hy
  simp only at k4 k6
  obtain ⟨rb, rd, rfl, _⟩ := sliceAt_len k4
  obtain ⟨sb, sd, rfl, _⟩ := sliceAt_len k6
  have HSP := Lib.hid (fun W (hb : Below w.heap.size w W) => implSamePart_any (.agg #[.string ⟨a0.toArray⟩, .bool a1, .bool a2, .slice ra a3.length rc, .int .i64 a4, .slice sa ls.length sc]) (.agg #[.string ⟨c0.toArray⟩, .bool c1, .bool c2, .slice rb c3.length rd, .int .i64 c4, .slice sb ms.length sd]) (⟨⟨a0, a1, a2, a3, a4⟩, ls⟩ : PartD) (⟨⟨c0, c1, c2, c3, c4⟩, ms⟩ : PartD) W ⟨_, rfl, goodPart.keep (show rPart 0 w [.string ⟨a0.toArray⟩, .bool a1, .bool a2, .slice ra a3.length rc, .int .i64 a4, .slice sa ls.length sc] (⟨⟨a0, a1, a2, a3, a4⟩, ls⟩ : PartD) from ⟨_, _, rfl, h4, h6⟩) (kept_below hb (Nat.le_refl _))⟩ ⟨_, rfl, goodPart.keep (show rPart 0 w [.string ⟨c0.toArray⟩, .bool c1, .bool c2, .slice rb c3.length rd, .int .i64 c4, .slice sb ms.length sd] (⟨⟨c0, c1, c2, c3, c4⟩, ms⟩ : PartD) from ⟨_, _, rfl, k4, k6⟩) (kept_below hb (Nat.le_refl _))⟩)
  have BS := Lib.hid (bx_start2 w [.bool f, .string ⟨a0.toArray⟩, .bool a1, .bool a2, .slice ra a3.length rc, .int .i64 a4, .slice sa ls.length sc] [.bool g, .string ⟨c0.toArray⟩, .bool c1, .bool c2, .slice rb c3.length rd, .int .i64 c4, .slice sb ms.length sd] 46 46)
  have BX := Lib.hid BS.out.1
  have BY := Lib.hid BS.out.2.1
  have HB0 := Lib.hid BS.out.2.2
  rw [slot_eq]
  generalize decide ((⟨⟨a0, a1, a2, a3, a4⟩, ls⟩ : PartD) = (⟨⟨c0, c1, c2, c3, c4⟩, ms⟩ : PartD)) = pb at *
  clear h4 h6 k4 k6 BS
  cases f
  · cases g
    · rw [show (false == false) = true from rfl, Bool.true_and]
      go_enter Try.func20, Try.ntmps20
      have x0 := BX.out.cell 0 (by simp)
      have x1 := BX.out.cell 1 (by simp)
      have x2 := BX.out.cell 2 (by simp)
      have x3 := BX.out.cell 3 (by simp)
      have x4 := BX.out.cell 4 (by simp)
      have x5 := BX.out.cell 5 (by simp)
      have x6 := BX.out.cell 6 (by simp)
      simp only [List.getElem_cons_zero, List.getElem_cons_succ] at x0 x1 x2 x3 x4 x5 x6
      have y0 := BY.out.cell 0 (by simp)
      have y1 := BY.out.cell 1 (by simp)
      have y2 := BY.out.cell 2 (by simp)
      have y3 := BY.out.cell 3 (by simp)
      have y4 := BY.out.cell 4 (by simp)
      have y5 := BY.out.cell 5 (by simp)
      have y6 := BY.out.cell 6 (by simp)
      simp only [List.getElem_cons_zero, List.getElem_cons_succ] at y0 y1 y2 y3 y4 y5 y6
      go_wp2_with fail
      refine (HSP.out _ HB0.out).mono ?_
      rintro e w1 ⟨rfl, hb⟩
      have HB1 := Lib.hid (belS HB0.out hb)
      clear hb
      go_wp2_with fail
      go_ret
      exact ⟨rfl, HB1.out⟩
    · rw [show (false == true) = false from rfl, Bool.false_and]
      go_enter Try.func20, Try.ntmps20
      have x0 := BX.out.cell 0 (by simp)
      have x1 := BX.out.cell 1 (by simp)
      have x2 := BX.out.cell 2 (by simp)
      have x3 := BX.out.cell 3 (by simp)
      have x4 := BX.out.cell 4 (by simp)
      have x5 := BX.out.cell 5 (by simp)
      have x6 := BX.out.cell 6 (by simp)
      simp only [List.getElem_cons_zero, List.getElem_cons_succ] at x0 x1 x2 x3 x4 x5 x6
      have y0 := BY.out.cell 0 (by simp)
      have y1 := BY.out.cell 1 (by simp)
      have y2 := BY.out.cell 2 (by simp)
      have y3 := BY.out.cell 3 (by simp)
      have y4 := BY.out.cell 4 (by simp)
      have y5 := BY.out.cell 5 (by simp)
      have y6 := BY.out.cell 6 (by simp)
      simp only [List.getElem_cons_zero, List.getElem_cons_succ] at y0 y1 y2 y3 y4 y5 y6
      go_wp2_with fail
      go_ret
      exact ⟨rfl, HB0.out⟩
  · cases g
    · rw [show (true == false) = false from rfl, Bool.false_and]
      go_enter Try.func20, Try.ntmps20
      have x0 := BX.out.cell 0 (by simp)
      have x1 := BX.out.cell 1 (by simp)
      have x2 := BX.out.cell 2 (by simp)
      have x3 := BX.out.cell 3 (by simp)
      have x4 := BX.out.cell 4 (by simp)
      have x5 := BX.out.cell 5 (by simp)
      have x6 := BX.out.cell 6 (by simp)
      simp only [List.getElem_cons_zero, List.getElem_cons_succ] at x0 x1 x2 x3 x4 x5 x6
      have y0 := BY.out.cell 0 (by simp)
      have y1 := BY.out.cell 1 (by simp)
      have y2 := BY.out.cell 2 (by simp)
      have y3 := BY.out.cell 3 (by simp)
      have y4 := BY.out.cell 4 (by simp)
      have y5 := BY.out.cell 5 (by simp)
      have y6 := BY.out.cell 6 (by simp)
      simp only [List.getElem_cons_zero, List.getElem_cons_succ] at y0 y1 y2 y3 y4 y5 y6
      go_wp2_with fail
      go_ret
      exact ⟨rfl, HB0.out⟩
    · rw [show (true == true) = true from rfl, Bool.true_and]
      go_enter Try.func20, Try.ntmps20
      have x0 := BX.out.cell 0 (by simp)
      have x1 := BX.out.cell 1 (by simp)
      have x2 := BX.out.cell 2 (by simp)
      have x3 := BX.out.cell 3 (by simp)
      have x4 := BX.out.cell 4 (by simp)
      have x5 := BX.out.cell 5 (by simp)
      have x6 := BX.out.cell 6 (by simp)
      simp only [List.getElem_cons_zero, List.getElem_cons_succ] at x0 x1 x2 x3 x4 x5 x6
      have y0 := BY.out.cell 0 (by simp)
      have y1 := BY.out.cell 1 (by simp)
      have y2 := BY.out.cell 2 (by simp)
      have y3 := BY.out.cell 3 (by simp)
      have y4 := BY.out.cell 4 (by simp)
      have y5 := BY.out.cell 5 (by simp)
      have y6 := BY.out.cell 6 (by simp)
      simp only [List.getElem_cons_zero, List.getElem_cons_succ] at y0 y1 y2 y3 y4 y5 y6
      go_wp2_with fail
      refine (HSP.out _ HB0.out).mono ?_
      rintro e w1 ⟨rfl, hb⟩
      have HB1 := Lib.hid (belS HB0.out hb)
      clear hb
      go_wp2_with fail
      go_ret
      exact ⟨rfl, HB1.out⟩
set_option maxRecDepth 100000 in
set_option maxHeartbeats 3200000 in
theorem eqSlots_any (v u : Value) (x y : List SlotD) (w : World) (hx : SliceAt rSlot 7 0 w v x) (hy : SliceAt rSlot 7 0 w u y) :
    Calls Try.prog 19 #[v, u, .func (.func 20) #[] #[]] w fun e w' => e = .returned (.bool (decide (x = y))) ∧ Below w.heap.size w w' := by
  obtain ⟨a, c, rfl, hl⟩ := sliceAt_len hx
  obtain ⟨a2, c2, rfl, hl2⟩ := sliceAt_len hy
  have HX := Lib.hid hx
  have HY := Lib.hid hy
  clear hx hy
  unfold maxLen at hl hl2
  by_cases he : x.length = y.length
  · have hbn : ((x.length : Int) != y.length) = false := by rw [bne_eq_false_iff_eq]; omega
    have HE := Lib.hid he
    clear he
    go_enter Try.func19, Try.ntmps19
    go_wp2_with fail
    go_loopw [7, 8, 9, 17] (fun _ _ _ i wr => ∃ k : Nat, k ≤ x.length ∧ i = .int .i64 k ∧ x.take k = y.take k ∧ Below w.heap.size w wr) (fun _ _ _ i _ => x.length - (intOf i).toNat)
    case atStart => exact ⟨0, Nat.zero_le _, rfl, rfl, Below.refl _ _⟩
    case round =>
      obtain ⟨k, hk, rfl, ht, hbr⟩ := hrel
      have HT := Lib.hid ht
      have HB := Lib.hid hbr
      have HXr := Lib.hid (SliceAt.below HX.out goodSlot hbr (Nat.le_refl _))
      have HYr := Lib.hid (SliceAt.below HY.out goodSlot hbr (Nat.le_refl _))
      clear ht hbr
      by_cases hlt : k < x.length
      · have hky : k < y.length := by have := HE.out; omega
        obtain ⟨b, o, cs, rfl, hbw, hat, hd⟩ := sliceAt_cell HXr.out k hlt
        obtain ⟨b2, o2, cs2, rfl, hbw2, hat2, hd2⟩ := sliceAt_cell HYr.out k hky
        have HS := Lib.hid (take_eq_step x y HE.out k hlt HT.out)
        have HD := Lib.hid (show x[k] ≠ y[k] → ¬ x = y from fun h e => h (by subst e; rfl))
        have HC := Lib.hid (fun W (hb : Below wr.heap.size wr W) => sameSlot_any (.agg cs.toArray) (.agg cs2.toArray) x[k] y[k] W ⟨cs, rfl, goodSlot.keep hat (kept_below hb (Nat.le_refl _))⟩ ⟨cs2, rfl, goodSlot.keep hat2 (kept_below hb (Nat.le_refl _))⟩)
        generalize x[k] = x1 at *
        generalize y[k] = y1 at *
        generalize hqq : decide (x1 = y1) = qq at *
        have HQ := Lib.hid (show qq = true → x1 = y1 from fun h => by rw [h] at hqq; exact of_decide_eq_true hqq)
        have HQ2 := Lib.hid (show qq = false → x1 ≠ y1 from fun h => by rw [h] at hqq; exact of_decide_eq_false hqq)
        clear hqq
        have HS2 := Lib.hid (fun h => HS.out (HQ.out h))
        have HD2 := Lib.hid (fun h => HD.out (HQ2.out h))
        clear HS HD HQ HQ2
        obtain ⟨f, ⟨⟨a0, a1, a2, a3, a4⟩, ls⟩⟩ := x1
        obtain ⟨v4, v6, rfl, h4, h6⟩ := hat
        simp only at h4 h6
        obtain ⟨ra, rc, rfl, _⟩ := sliceAt_len h4
        obtain ⟨sa, sc, rfl, _⟩ := sliceAt_len h6
        obtain ⟨g, ⟨⟨c0, c1, c2, c3, c4⟩, ms⟩⟩ := y1
        obtain ⟨u4, u6, rfl, k4, k6⟩ := hat2
        simp only at k4 k6
        obtain ⟨rb, rd, rfl, _⟩ := sliceAt_len k4
        obtain ⟨sb, sd, rfl, _⟩ := sliceAt_len k6
        have d0 := hd 0 (by decide)
        have d1 := hd 1 (by decide)
        have d2 := hd 2 (by decide)
        have d3 := hd 3 (by decide)
        have d4 := hd 4 (by decide)
        have d5 := hd 5 (by decide)
        have d6 := hd 6 (by decide)
        have q0 := hd2 0 (by decide)
        have q1 := hd2 1 (by decide)
        have q2 := hd2 2 (by decide)
        have q3 := hd2 3 (by decide)
        have q4 := hd2 4 (by decide)
        have q5 := hd2 5 (by decide)
        have q6 := hd2 6 (by decide)
        simp only [List.getElem?_cons_zero, List.getElem?_cons_succ, Nat.add_zero] at d0 d1 d2 d3 d4 d5 d6 q0 q1 q2 q3 q4 q5 q6
        have hkl : (k : Int) < (x.length : Int) := by omega
        have hkm : (k : Int) < (y.length : Int) := by omega
        have h0k : (0 : Int) ≤ (k : Int) := by omega
        clear hd hd2
        clear h4 h6 k4 k6
        have BS := Lib.hid (bx_start2 wr [.bool f, .string ⟨a0.toArray⟩, .bool a1, .bool a2, .slice ra a3.length rc, .int .i64 a4, .slice sa ls.length sc] [.bool g, .string ⟨c0.toArray⟩, .bool c1, .bool c2, .slice rb c3.length rd, .int .i64 c4, .slice sb ms.length sd] 46 46)
        have BX := Lib.hid BS.out.1
        have BY := Lib.hid BS.out.2.1
        have HB0 := Lib.hid BS.out.2.2
        clear BS
        have r0 := alloc8 (ob := .cells #[.bool f, .string ⟨a0.toArray⟩, .bool a1, .bool a2, .slice ra a3.length rc, .int .i64 a4, .slice sa ls.length sc] 46) hbw2 q0
        have r1 := alloc8 (ob := .cells #[.bool f, .string ⟨a0.toArray⟩, .bool a1, .bool a2, .slice ra a3.length rc, .int .i64 a4, .slice sa ls.length sc] 46) hbw2 q1
        have r2 := alloc8 (ob := .cells #[.bool f, .string ⟨a0.toArray⟩, .bool a1, .bool a2, .slice ra a3.length rc, .int .i64 a4, .slice sa ls.length sc] 46) hbw2 q2
        have r3 := alloc8 (ob := .cells #[.bool f, .string ⟨a0.toArray⟩, .bool a1, .bool a2, .slice ra a3.length rc, .int .i64 a4, .slice sa ls.length sc] 46) hbw2 q3
        have r4 := alloc8 (ob := .cells #[.bool f, .string ⟨a0.toArray⟩, .bool a1, .bool a2, .slice ra a3.length rc, .int .i64 a4, .slice sa ls.length sc] 46) hbw2 q4
        have r5 := alloc8 (ob := .cells #[.bool f, .string ⟨a0.toArray⟩, .bool a1, .bool a2, .slice ra a3.length rc, .int .i64 a4, .slice sa ls.length sc] 46) hbw2 q5
        have r6 := alloc8 (ob := .cells #[.bool f, .string ⟨a0.toArray⟩, .bool a1, .bool a2, .slice ra a3.length rc, .int .i64 a4, .slice sa ls.length sc] 46) hbw2 q6
        clear q0 q1 q2 q3 q4 q5 q6
        have e0 := BX.out.cell 0 (by simp)
        have e1 := BX.out.cell 1 (by simp)
        have e2 := BX.out.cell 2 (by simp)
        have e3 := BX.out.cell 3 (by simp)
        have e4 := BX.out.cell 4 (by simp)
        have e5 := BX.out.cell 5 (by simp)
        have e6 := BX.out.cell 6 (by simp)
        simp only [List.getElem_cons_zero, List.getElem_cons_succ] at e0 e1 e2 e3 e4 e5 e6
        have z0 := BY.out.cell 0 (by simp)
        have z1 := BY.out.cell 1 (by simp)
        have z2 := BY.out.cell 2 (by simp)
        have z3 := BY.out.cell 3 (by simp)
        have z4 := BY.out.cell 4 (by simp)
        have z5 := BY.out.cell 5 (by simp)
        have z6 := BY.out.cell 6 (by simp)
        simp only [List.getElem_cons_zero, List.getElem_cons_succ] at z0 z1 z2 z3 z4 z5 z6
        go_wp2_with fail
        refine (HC.out _ HB0.out).mono ?_
        rintro e w2 ⟨rfl, hb0⟩
        have HB2 := Lib.hid (belS HB.out (belS HB0.out hb0))
        clear hb0
        cases qq
        · have HN := Lib.hid (HD2.out rfl)
          clear HS2 HD2
          go_wp2_with fail
          go_ret
          exact ⟨ret_bool (by simp [HN.out]), HB2.out⟩
        · have HN := Lib.hid (HS2.out rfl)
          clear HS2 HD2
          go_wp2_with fail
          exact ⟨⟨k + 1, by omega, by go_num, HN.out, HB2.out⟩, by simp [intOf]; omega⟩
      · have HN := Lib.hid (show x = y from by
          have h := HT.out
          rw [List.take_of_length_le (by omega), List.take_of_length_le (by have := HE.out; omega)] at h
          exact h)
        have hkl : ¬ (k : Int) < (x.length : Int) := by omega
        go_wp2_with fail
        go_ret
        exact ⟨ret_bool (by simp [HN.out]), HB.out⟩
  · have hbn : ((x.length : Int) != y.length) = true := by rw [bne_iff_ne]; omega
    have HN := Lib.hid (show ¬ x = y from fun e => he (by rw [e]))
    clear he
    go_enter Try.func19, Try.ntmps19
    go_wp2_with fail
    go_ret
    exact ⟨ret_bool (by simp [HN.out]), Below.refl _ _⟩
set_option maxRecDepth 100000 in
theorem implSameSlots_any (v u : Value) (x y : List SlotD) (w : World) (hx : SliceAt rSlot 7 0 w v x) (hy : SliceAt rSlot 7 0 w u y) :
    Calls Try.prog 11 #[v, u] w fun e w' => e = .returned (.bool (decide (x = y))) ∧ Below w.heap.size w w' := by
  have HI := Lib.hid (eqSlots_any v u x y w hx hy)
  clear hx hy
  generalize decide (x = y) = r at *
  go_enter Try.func11, Try.ntmps11
  go_wp2_with fail
  refine HI.out.mono ?_
  rintro e w1 ⟨rfl, hb⟩
  have HB := Lib.hid hb
  clear hb
  go_wp2_with fail
  go_ret
  exact ⟨rfl, HB.out⟩
end Go.Proofs.Ytlkpinlkbikokae
/- Contracts of chapter 8: SameSlots, the model's. Written by gen/ch8v.py. -/
namespace Go.Proofs.Ytlkpinlkbikokae
set_option linter.unusedVariables false
set_option linter.unusedSimpArgs false
open Go.RowKit
set_option maxRecDepth 100000 in
set_option maxHeartbeats 3200000 in
theorem specSameSlots_any (v u : Value) (x y : List SlotD) (w : World) (hx : SliceAt rSlot 7 0 w v x) (hy : SliceAt rSlot 7 0 w u y) :
    Calls Try.prog 10 #[v, u] w fun e w' => e = .returned (.bool (decide (x = y))) ∧ Below w.heap.size w w' := by
  obtain ⟨a, c, rfl, hl⟩ := sliceAt_len hx
  obtain ⟨a2, c2, rfl, hl2⟩ := sliceAt_len hy
  have HX := Lib.hid hx
  have HY := Lib.hid hy
  clear hx hy
  unfold maxLen at hl hl2
  by_cases he : x.length = y.length
  · have hbn : ((x.length : Int) != y.length) = false := by rw [bne_eq_false_iff_eq]; omega
    have HE := Lib.hid he
    clear he
    go_enter Try.func10, Try.ntmps10
    go_wp2_with fail
    go_loopw [5, 13] (fun _ i wr => ∃ k : Nat, k ≤ x.length ∧ i = .int .i64 k ∧ x.take k = y.take k ∧ Below w.heap.size w wr) (fun _ i _ => x.length - (intOf i).toNat)
    case atStart => exact ⟨0, Nat.zero_le _, rfl, rfl, Below.refl _ _⟩
    case round =>
      obtain ⟨k, hk, rfl, ht, hbr⟩ := hrel
      have HT := Lib.hid ht
      have HB := Lib.hid hbr
      have HXr := Lib.hid (SliceAt.below HX.out goodSlot hbr (Nat.le_refl _))
      have HYr := Lib.hid (SliceAt.below HY.out goodSlot hbr (Nat.le_refl _))
      clear ht hbr
      by_cases hlt : k < x.length
      · have hky : k < y.length := by have := HE.out; omega
        obtain ⟨b, o, cs, rfl, hbw, hat, hd⟩ := sliceAt_cell HXr.out k hlt
        obtain ⟨b2, o2, cs2, rfl, hbw2, hat2, hd2⟩ := sliceAt_cell HYr.out k hky
        have HS := Lib.hid (take_eq_step x y HE.out k hlt HT.out)
        have HD := Lib.hid (show x[k] ≠ y[k] → ¬ x = y from fun h e => h (by subst e; rfl))
        generalize x[k] = x1 at *
        generalize y[k] = y1 at *
        generalize hqq : decide (x1 = y1) = qq at *
        have HQ := Lib.hid (show qq = true → x1 = y1 from fun h => by rw [h] at hqq; exact of_decide_eq_true hqq)
        have HQ2 := Lib.hid (show qq = false → x1 ≠ y1 from fun h => by rw [h] at hqq; exact of_decide_eq_false hqq)
        have HS2 := Lib.hid (fun h => HS.out (HQ.out h))
        have HD2 := Lib.hid (fun h => HD.out (HQ2.out h))
        clear HS HD HQ HQ2
        obtain ⟨f, ⟨⟨a0, a1, a2, a3, a4⟩, ls⟩⟩ := x1
        obtain ⟨v4, v6, rfl, h4, h6⟩ := hat
        simp only at h4 h6
        obtain ⟨ra, rc, rfl, _⟩ := sliceAt_len h4
        obtain ⟨sa, sc, rfl, _⟩ := sliceAt_len h6
        obtain ⟨g, ⟨⟨c0, c1, c2, c3, c4⟩, ms⟩⟩ := y1
        obtain ⟨u4, u6, rfl, k4, k6⟩ := hat2
        simp only at k4 k6
        obtain ⟨rb, rd, rfl, _⟩ := sliceAt_len k4
        obtain ⟨sb, sd, rfl, _⟩ := sliceAt_len k6
        have d0 := hd 0 (by decide)
        have d1 := hd 1 (by decide)
        have d2 := hd 2 (by decide)
        have d3 := hd 3 (by decide)
        have d4 := hd 4 (by decide)
        have d5 := hd 5 (by decide)
        have d6 := hd 6 (by decide)
        have q0 := hd2 0 (by decide)
        have q1 := hd2 1 (by decide)
        have q2 := hd2 2 (by decide)
        have q3 := hd2 3 (by decide)
        have q4 := hd2 4 (by decide)
        have q5 := hd2 5 (by decide)
        have q6 := hd2 6 (by decide)
        simp only [List.getElem?_cons_zero, List.getElem?_cons_succ, Nat.add_zero] at d0 d1 d2 d3 d4 d5 d6 q0 q1 q2 q3 q4 q5 q6
        have hkl : (k : Int) < (x.length : Int) := by omega
        have hkm : (k : Int) < (y.length : Int) := by omega
        have h0k : (0 : Int) ≤ (k : Int) := by omega
        clear hd hd2
        have HSP := Lib.hid (fun W (hb : Below wr.heap.size wr W) => specSamePart_any (.agg #[.string ⟨a0.toArray⟩, .bool a1, .bool a2, .slice ra a3.length rc, .int .i64 a4, .slice sa ls.length sc]) (.agg #[.string ⟨c0.toArray⟩, .bool c1, .bool c2, .slice rb c3.length rd, .int .i64 c4, .slice sb ms.length sd]) (⟨⟨a0, a1, a2, a3, a4⟩, ls⟩ : PartD) (⟨⟨c0, c1, c2, c3, c4⟩, ms⟩ : PartD) W ⟨_, rfl, goodPart.keep (show rPart 0 wr [.string ⟨a0.toArray⟩, .bool a1, .bool a2, .slice ra a3.length rc, .int .i64 a4, .slice sa ls.length sc] (⟨⟨a0, a1, a2, a3, a4⟩, ls⟩ : PartD) from ⟨_, _, rfl, h4, h6⟩) (kept_below hb (Nat.le_refl _))⟩ ⟨_, rfl, goodPart.keep (show rPart 0 wr [.string ⟨c0.toArray⟩, .bool c1, .bool c2, .slice rb c3.length rd, .int .i64 c4, .slice sb ms.length sd] (⟨⟨c0, c1, c2, c3, c4⟩, ms⟩ : PartD) from ⟨_, _, rfl, k4, k6⟩) (kept_below hb (Nat.le_refl _))⟩)
        rw [slot_eq] at hqq
        generalize decide ((⟨⟨a0, a1, a2, a3, a4⟩, ls⟩ : PartD) = (⟨⟨c0, c1, c2, c3, c4⟩, ms⟩ : PartD)) = pb at *
        have HBD := Lib.hid (bel_dr8 (Below.refl wr.heap.size wr))
        clear h4 h6 k4 k6
        cases f
        · cases g
          · obtain rfl : qq = pb := by rw [← hqq]; rfl
            clear hqq
            cases qq
            · have HN := Lib.hid (HD2.out rfl)
              clear HS2 HD2
              go_wp2_with fail
              refine wp_region_held_drew (S := (fun w' => w'.cell? ⟨b, o + k * 7, none⟩ = some (.bool false) ∧ w'.cell? ⟨b, o + k * 7 + 1, none⟩ = some (.string ⟨a0.toArray⟩) ∧ w'.cell? ⟨b, o + k * 7 + 2, none⟩ = some (.bool a1) ∧ w'.cell? ⟨b, o + k * 7 + 3, none⟩ = some (.bool a2) ∧ w'.cell? ⟨b, o + k * 7 + 4, none⟩ = some (.slice ra a3.length rc) ∧ w'.cell? ⟨b, o + k * 7 + 5, none⟩ = some (.int .i64 a4) ∧ w'.cell? ⟨b, o + k * 7 + 6, none⟩ = some (.slice sa ls.length sc) ∧ w'.cell? ⟨b2, o2 + k * 7, none⟩ = some (.bool false) ∧ w'.cell? ⟨b2, o2 + k * 7 + 1, none⟩ = some (.string ⟨c0.toArray⟩) ∧ w'.cell? ⟨b2, o2 + k * 7 + 2, none⟩ = some (.bool c1) ∧ w'.cell? ⟨b2, o2 + k * 7 + 3, none⟩ = some (.bool c2) ∧ w'.cell? ⟨b2, o2 + k * 7 + 4, none⟩ = some (.slice rb c3.length rd) ∧ w'.cell? ⟨b2, o2 + k * 7 + 5, none⟩ = some (.int .i64 c4) ∧ w'.cell? ⟨b2, o2 + k * 7 + 6, none⟩ = some (.slice sb ms.length sd))) (by kernel_rfl) ?_ (fun hHeld => ?_)
              · exact ⟨d0, d1, d2, d3, d4, d5, d6, q0, q1, q2, q3, q4, q5, q6⟩
              refine wpAnyH_take (i := 0) (v := ?_) rfl (by kernel_rfl) (by kernel_rfl) (by kernel_rfl) (fun _ _ _ h => h) (Or.inl ⟨by rfl, ?_⟩) (by assumption) ?_
              rotate_left
              · intro w hSw; (try dsimp only at hSw); go_simp; with_reducible rfl
              try simp only [Act.put, List.getElem_toArray, List.getElem_cons_zero, List.getElem_cons_succ, List.setIfInBounds_toArray, List.set_cons_zero, List.set_cons_succ]
              refine wpAnyH_take (i := 1) (v := ?_) rfl (by kernel_rfl) (by kernel_rfl) (by kernel_rfl) (fun _ _ _ h => h) (Or.inl ⟨by rfl, ?_⟩) (by assumption) ?_
              rotate_left
              · intro w hSw; (try dsimp only at hSw); go_simp; with_reducible rfl
              try simp only [Act.put, List.getElem_toArray, List.getElem_cons_zero, List.getElem_cons_succ, List.setIfInBounds_toArray, List.set_cons_zero, List.set_cons_succ]
              refine wpAnyH_take (i := 2) (v := ?_) rfl (by kernel_rfl) (by kernel_rfl) (by kernel_rfl) (fun _ _ _ h => h) (Or.inl ⟨by rfl, ?_⟩) (by assumption) ?_
              rotate_left
              · intro w hSw; (try dsimp only at hSw); go_simp; with_reducible rfl
              try simp only [Act.put, List.getElem_toArray, List.getElem_cons_zero, List.getElem_cons_succ, List.setIfInBounds_toArray, List.set_cons_zero, List.set_cons_succ]
              refine wpAnyH_take (i := 3) (v := ?_) rfl (by kernel_rfl) (by kernel_rfl) (by kernel_rfl) (fun _ _ _ h => h) (Or.inl ⟨by rfl, ?_⟩) (by assumption) ?_
              rotate_left
              · intro w hSw; (try dsimp only at hSw); go_simp; with_reducible rfl
              try simp only [Act.put, List.getElem_toArray, List.getElem_cons_zero, List.getElem_cons_succ, List.setIfInBounds_toArray, List.set_cons_zero, List.set_cons_succ]
              refine wpAnyH_take (i := 4) (v := ?_) rfl (by kernel_rfl) (by kernel_rfl) (by kernel_rfl) (fun _ _ _ h => h) (Or.inl ⟨by rfl, ?_⟩) (by assumption) ?_
              rotate_left
              · intro w hSw; (try dsimp only at hSw); go_simp; with_reducible rfl
              try simp only [Act.put, List.getElem_toArray, List.getElem_cons_zero, List.getElem_cons_succ, List.setIfInBounds_toArray, List.set_cons_zero, List.set_cons_succ]
              refine wpAnyH_take (i := 5) (v := ?_) rfl (by kernel_rfl) (by kernel_rfl) (by kernel_rfl) (fun _ _ _ h => h) (Or.inl ⟨by rfl, ?_⟩) (by assumption) ?_
              rotate_left
              · intro w hSw; (try dsimp only at hSw); go_simp; with_reducible rfl
              try simp only [Act.put, List.getElem_toArray, List.getElem_cons_zero, List.getElem_cons_succ, List.setIfInBounds_toArray, List.set_cons_zero, List.set_cons_succ]
              refine wpAnyH_take (i := 6) (v := ?_) rfl (by kernel_rfl) (by kernel_rfl) (by kernel_rfl) (fun _ _ _ h => h) (Or.inl ⟨by rfl, ?_⟩) (by assumption) ?_
              rotate_left
              · intro w hSw; (try dsimp only at hSw); go_simp; with_reducible rfl
              try simp only [Act.put, List.getElem_toArray, List.getElem_cons_zero, List.getElem_cons_succ, List.setIfInBounds_toArray, List.set_cons_zero, List.set_cons_succ]
              refine wpAnyH_take (i := 7) (v := ?_) rfl (by kernel_rfl) (by kernel_rfl) (by kernel_rfl) (fun _ _ _ h => h) (Or.inl ⟨by rfl, ?_⟩) (by assumption) ?_
              rotate_left
              · intro w hSw; (try dsimp only at hSw); go_simp; with_reducible rfl
              try simp only [Act.put, List.getElem_toArray, List.getElem_cons_zero, List.getElem_cons_succ, List.setIfInBounds_toArray, List.set_cons_zero, List.set_cons_succ]
              refine wpAnyH_take (i := 8) (v := ?_) rfl (by kernel_rfl) (by kernel_rfl) (by kernel_rfl) (fun _ _ _ h => h) (Or.inl ⟨by rfl, ?_⟩) (by assumption) ?_
              rotate_left
              · intro w hSw; (try dsimp only at hSw); go_simp; with_reducible rfl
              try simp only [Act.put, List.getElem_toArray, List.getElem_cons_zero, List.getElem_cons_succ, List.setIfInBounds_toArray, List.set_cons_zero, List.set_cons_succ]
              refine wpAnyH_take (i := 9) (v := ?_) rfl (by kernel_rfl) (by kernel_rfl) (by kernel_rfl) (fun _ _ _ h => h) (Or.inl ⟨by rfl, ?_⟩) (by assumption) ?_
              rotate_left
              · intro w hSw; (try dsimp only at hSw); go_simp; with_reducible rfl
              try simp only [Act.put, List.getElem_toArray, List.getElem_cons_zero, List.getElem_cons_succ, List.setIfInBounds_toArray, List.set_cons_zero, List.set_cons_succ]
              refine wpAnyH_take (i := 10) (v := ?_) rfl (by kernel_rfl) (by kernel_rfl) (by kernel_rfl) (fun _ _ _ h => h) (Or.inl ⟨by rfl, ?_⟩) (by assumption) ?_
              rotate_left
              · intro w hSw; (try dsimp only at hSw); go_simp; with_reducible rfl
              try simp only [Act.put, List.getElem_toArray, List.getElem_cons_zero, List.getElem_cons_succ, List.setIfInBounds_toArray, List.set_cons_zero, List.set_cons_succ]
              refine wpAnyH_take (i := 11) (v := ?_) rfl (by kernel_rfl) (by kernel_rfl) (by kernel_rfl) (fun _ _ _ h => h) (Or.inl ⟨by rfl, ?_⟩) (by assumption) ?_
              rotate_left
              · intro w hSw; (try dsimp only at hSw); go_simp; with_reducible rfl
              try simp only [Act.put, List.getElem_toArray, List.getElem_cons_zero, List.getElem_cons_succ, List.setIfInBounds_toArray, List.set_cons_zero, List.set_cons_succ]
              refine wpAnyH_take (i := 12) (v := ?_) rfl (by kernel_rfl) (by kernel_rfl) (by kernel_rfl) (fun _ _ _ h => h) (Or.inl ⟨by rfl, ?_⟩) (by assumption) ?_
              rotate_left
              · intro w hSw; (try dsimp only at hSw); go_simp; with_reducible rfl
              try simp only [Act.put, List.getElem_toArray, List.getElem_cons_zero, List.getElem_cons_succ, List.setIfInBounds_toArray, List.set_cons_zero, List.set_cons_succ]
              refine wpAnyH_take (i := 13) (v := ?_) rfl (by kernel_rfl) (by kernel_rfl) (by kernel_rfl) (fun _ _ _ h => h) (Or.inl ⟨by rfl, ?_⟩) (by assumption) ?_
              rotate_left
              · intro w hSw; (try dsimp only at hSw); go_simp; with_reducible rfl
              try simp only [Act.put, List.getElem_toArray, List.getElem_cons_zero, List.getElem_cons_succ, List.setIfInBounds_toArray, List.set_cons_zero, List.set_cons_succ]
              refine wpAnyH_take (i := 14) (v := ?_) rfl (by kernel_rfl) (by kernel_rfl) (by kernel_rfl) (fun _ _ _ h => h) (Or.inl ⟨by rfl, ?_⟩) (by assumption) ?_
              rotate_left
              · intro w hSw; (try dsimp only at hSw); go_simp; with_reducible rfl
              try simp only [Act.put, List.getElem_toArray, List.getElem_cons_zero, List.getElem_cons_succ, List.setIfInBounds_toArray, List.set_cons_zero, List.set_cons_succ]
              refine wpAnyH_take (i := 15) (v := ?_) rfl (by kernel_rfl) (by kernel_rfl) (by kernel_rfl) (fun _ _ _ h => h) (Or.inl ⟨by rfl, ?_⟩) (by assumption) ?_
              rotate_left
              · intro w hSw; (try dsimp only at hSw); go_simp; with_reducible rfl
              try simp only [Act.put, List.getElem_toArray, List.getElem_cons_zero, List.getElem_cons_succ, List.setIfInBounds_toArray, List.set_cons_zero, List.set_cons_succ]
              refine wpAnyH_take (i := 16) (v := ?_) rfl (by kernel_rfl) (by kernel_rfl) (by kernel_rfl) (fun _ _ _ h => h) (Or.inl ⟨by rfl, ?_⟩) (by assumption) ?_
              rotate_left
              · intro w hSw; (try dsimp only at hSw); go_simp; with_reducible rfl
              try simp only [Act.put, List.getElem_toArray, List.getElem_cons_zero, List.getElem_cons_succ, List.setIfInBounds_toArray, List.set_cons_zero, List.set_cons_succ]
              refine wpAnyH_take (i := 17) (v := ?_) rfl (by kernel_rfl) (by kernel_rfl) (by kernel_rfl) (fun _ _ _ h => h) (Or.inl ⟨by rfl, ?_⟩) (by assumption) ?_
              rotate_left
              · intro w hSw; (try dsimp only at hSw); go_simp; with_reducible rfl
              try simp only [Act.put, List.getElem_toArray, List.getElem_cons_zero, List.getElem_cons_succ, List.setIfInBounds_toArray, List.set_cons_zero, List.set_cons_succ]
              refine wpAnyH_take (i := 18) (v := ?_) rfl (by kernel_rfl) (by kernel_rfl) (by kernel_rfl) (fun _ _ _ h => h) (Or.inl ⟨by rfl, ?_⟩) (by assumption) ?_
              rotate_left
              · intro w hSw; (try dsimp only at hSw); go_simp; with_reducible rfl
              try simp only [Act.put, List.getElem_toArray, List.getElem_cons_zero, List.getElem_cons_succ, List.setIfInBounds_toArray, List.set_cons_zero, List.set_cons_succ]
              refine wpAnyH_take (i := 19) (v := ?_) rfl (by kernel_rfl) (by kernel_rfl) (by kernel_rfl) (fun _ _ _ h => h) (Or.inl ⟨by rfl, ?_⟩) (by assumption) ?_
              rotate_left
              · intro w hSw; (try dsimp only at hSw); go_simp; with_reducible rfl
              try simp only [Act.put, List.getElem_toArray, List.getElem_cons_zero, List.getElem_cons_succ, List.setIfInBounds_toArray, List.set_cons_zero, List.set_cons_succ]
              refine wpAnyH_take (i := 20) (v := ?_) rfl (by kernel_rfl) (by kernel_rfl) (by kernel_rfl) (fun _ _ _ h => h) (Or.inl ⟨by rfl, ?_⟩) (by assumption) ?_
              rotate_left
              · intro w hSw; (try dsimp only at hSw); go_simp; with_reducible rfl
              try simp only [Act.put, List.getElem_toArray, List.getElem_cons_zero, List.getElem_cons_succ, List.setIfInBounds_toArray, List.set_cons_zero, List.set_cons_succ]
              refine wpAnyH_take (i := 21) (v := ?_) rfl (by kernel_rfl) (by kernel_rfl) (by kernel_rfl) (fun _ _ _ h => h) (Or.inl ⟨by rfl, ?_⟩) (by assumption) ?_
              rotate_left
              · intro w hSw; (try dsimp only at hSw); go_simp; with_reducible rfl
              try simp only [Act.put, List.getElem_toArray, List.getElem_cons_zero, List.getElem_cons_succ, List.setIfInBounds_toArray, List.set_cons_zero, List.set_cons_succ]
              refine wpAnyH_ready (rs := [22]) (by kernel_rfl) (by simp) ?_
              refine AllReadyH.cons rfl (fun K hK => ?_) AllReadyH.nil
              go_simp
              ((go_at_call 14; (with_reducible refine (HSP.out _ HBD.out).mono ?_); rintro e w2 ⟨rfl, hb1⟩))
              refine hK.out _ _ ?_ (fun hHeld => ?_)
              · (rw [hb1.cell (p := ⟨b, o + k * 7, none⟩) (by simp; omega), hb1.cell (p := ⟨b, o + k * 7 + 1, none⟩) (by simp; omega), hb1.cell (p := ⟨b, o + k * 7 + 2, none⟩) (by simp; omega), hb1.cell (p := ⟨b, o + k * 7 + 3, none⟩) (by simp; omega), hb1.cell (p := ⟨b, o + k * 7 + 4, none⟩) (by simp; omega), hb1.cell (p := ⟨b, o + k * 7 + 5, none⟩) (by simp; omega), hb1.cell (p := ⟨b, o + k * 7 + 6, none⟩) (by simp; omega), hb1.cell (p := ⟨b2, o2 + k * 7, none⟩) (by simp; omega), hb1.cell (p := ⟨b2, o2 + k * 7 + 1, none⟩) (by simp; omega), hb1.cell (p := ⟨b2, o2 + k * 7 + 2, none⟩) (by simp; omega), hb1.cell (p := ⟨b2, o2 + k * 7 + 3, none⟩) (by simp; omega), hb1.cell (p := ⟨b2, o2 + k * 7 + 4, none⟩) (by simp; omega), hb1.cell (p := ⟨b2, o2 + k * 7 + 5, none⟩) (by simp; omega), hb1.cell (p := ⟨b2, o2 + k * 7 + 6, none⟩) (by simp; omega)]; first | assumption | exact ⟨d0, d1, d2, d3, d4, d5, d6, q0, q1, q2, q3, q4, q5, q6⟩)
              clear hK K
              try simp only [Act.put, List.getElem_toArray, List.getElem_cons_zero, List.getElem_cons_succ, List.setIfInBounds_toArray, List.set_cons_zero, List.set_cons_succ]
              refine wpAnyH_take (i := 23) (v := ?_) rfl (by kernel_rfl) (by kernel_rfl) (by kernel_rfl) (fun _ _ _ h => h) (Or.inl ⟨by rfl, ?_⟩) (by assumption) ?_
              rotate_left
              · intro w hSw; (try dsimp only at hSw); go_simp; with_reducible rfl
              try simp only [Act.put, List.getElem_toArray, List.getElem_cons_zero, List.getElem_cons_succ, List.setIfInBounds_toArray, List.set_cons_zero, List.set_cons_succ]
              refine wpAnyH_take (i := 24) (v := ?_) rfl (by kernel_rfl) (by kernel_rfl) (by kernel_rfl) (fun _ _ _ h => h) (Or.inl ⟨by rfl, ?_⟩) (by assumption) ?_
              rotate_left
              · intro w hSw; (try dsimp only at hSw); go_simp; with_reducible rfl
              try simp only [Act.put, List.getElem_toArray, List.getElem_cons_zero, List.getElem_cons_succ, List.setIfInBounds_toArray, List.set_cons_zero, List.set_cons_succ]
              refine wpAnyH_done (by kernel_rfl) ?_ _
              have HB2 := Lib.hid (belS (bel_dr8 HB.out) hb1)
              go_wp2_with fail
              go_ret
              exact ⟨ret_bool (by simp [HN.out]), HB2.out⟩
            · have HN := Lib.hid (HS2.out rfl)
              clear HS2 HD2
              go_wp2_with fail
              refine wp_region_held_drew (S := (fun w' => w'.cell? ⟨b, o + k * 7, none⟩ = some (.bool false) ∧ w'.cell? ⟨b, o + k * 7 + 1, none⟩ = some (.string ⟨a0.toArray⟩) ∧ w'.cell? ⟨b, o + k * 7 + 2, none⟩ = some (.bool a1) ∧ w'.cell? ⟨b, o + k * 7 + 3, none⟩ = some (.bool a2) ∧ w'.cell? ⟨b, o + k * 7 + 4, none⟩ = some (.slice ra a3.length rc) ∧ w'.cell? ⟨b, o + k * 7 + 5, none⟩ = some (.int .i64 a4) ∧ w'.cell? ⟨b, o + k * 7 + 6, none⟩ = some (.slice sa ls.length sc) ∧ w'.cell? ⟨b2, o2 + k * 7, none⟩ = some (.bool false) ∧ w'.cell? ⟨b2, o2 + k * 7 + 1, none⟩ = some (.string ⟨c0.toArray⟩) ∧ w'.cell? ⟨b2, o2 + k * 7 + 2, none⟩ = some (.bool c1) ∧ w'.cell? ⟨b2, o2 + k * 7 + 3, none⟩ = some (.bool c2) ∧ w'.cell? ⟨b2, o2 + k * 7 + 4, none⟩ = some (.slice rb c3.length rd) ∧ w'.cell? ⟨b2, o2 + k * 7 + 5, none⟩ = some (.int .i64 c4) ∧ w'.cell? ⟨b2, o2 + k * 7 + 6, none⟩ = some (.slice sb ms.length sd))) (by kernel_rfl) ?_ (fun hHeld => ?_)
              · exact ⟨d0, d1, d2, d3, d4, d5, d6, q0, q1, q2, q3, q4, q5, q6⟩
              refine wpAnyH_take (i := 0) (v := ?_) rfl (by kernel_rfl) (by kernel_rfl) (by kernel_rfl) (fun _ _ _ h => h) (Or.inl ⟨by rfl, ?_⟩) (by assumption) ?_
              rotate_left
              · intro w hSw; (try dsimp only at hSw); go_simp; with_reducible rfl
              try simp only [Act.put, List.getElem_toArray, List.getElem_cons_zero, List.getElem_cons_succ, List.setIfInBounds_toArray, List.set_cons_zero, List.set_cons_succ]
              refine wpAnyH_take (i := 1) (v := ?_) rfl (by kernel_rfl) (by kernel_rfl) (by kernel_rfl) (fun _ _ _ h => h) (Or.inl ⟨by rfl, ?_⟩) (by assumption) ?_
              rotate_left
              · intro w hSw; (try dsimp only at hSw); go_simp; with_reducible rfl
              try simp only [Act.put, List.getElem_toArray, List.getElem_cons_zero, List.getElem_cons_succ, List.setIfInBounds_toArray, List.set_cons_zero, List.set_cons_succ]
              refine wpAnyH_take (i := 2) (v := ?_) rfl (by kernel_rfl) (by kernel_rfl) (by kernel_rfl) (fun _ _ _ h => h) (Or.inl ⟨by rfl, ?_⟩) (by assumption) ?_
              rotate_left
              · intro w hSw; (try dsimp only at hSw); go_simp; with_reducible rfl
              try simp only [Act.put, List.getElem_toArray, List.getElem_cons_zero, List.getElem_cons_succ, List.setIfInBounds_toArray, List.set_cons_zero, List.set_cons_succ]
              refine wpAnyH_take (i := 3) (v := ?_) rfl (by kernel_rfl) (by kernel_rfl) (by kernel_rfl) (fun _ _ _ h => h) (Or.inl ⟨by rfl, ?_⟩) (by assumption) ?_
              rotate_left
              · intro w hSw; (try dsimp only at hSw); go_simp; with_reducible rfl
              try simp only [Act.put, List.getElem_toArray, List.getElem_cons_zero, List.getElem_cons_succ, List.setIfInBounds_toArray, List.set_cons_zero, List.set_cons_succ]
              refine wpAnyH_take (i := 4) (v := ?_) rfl (by kernel_rfl) (by kernel_rfl) (by kernel_rfl) (fun _ _ _ h => h) (Or.inl ⟨by rfl, ?_⟩) (by assumption) ?_
              rotate_left
              · intro w hSw; (try dsimp only at hSw); go_simp; with_reducible rfl
              try simp only [Act.put, List.getElem_toArray, List.getElem_cons_zero, List.getElem_cons_succ, List.setIfInBounds_toArray, List.set_cons_zero, List.set_cons_succ]
              refine wpAnyH_take (i := 5) (v := ?_) rfl (by kernel_rfl) (by kernel_rfl) (by kernel_rfl) (fun _ _ _ h => h) (Or.inl ⟨by rfl, ?_⟩) (by assumption) ?_
              rotate_left
              · intro w hSw; (try dsimp only at hSw); go_simp; with_reducible rfl
              try simp only [Act.put, List.getElem_toArray, List.getElem_cons_zero, List.getElem_cons_succ, List.setIfInBounds_toArray, List.set_cons_zero, List.set_cons_succ]
              refine wpAnyH_take (i := 6) (v := ?_) rfl (by kernel_rfl) (by kernel_rfl) (by kernel_rfl) (fun _ _ _ h => h) (Or.inl ⟨by rfl, ?_⟩) (by assumption) ?_
              rotate_left
              · intro w hSw; (try dsimp only at hSw); go_simp; with_reducible rfl
              try simp only [Act.put, List.getElem_toArray, List.getElem_cons_zero, List.getElem_cons_succ, List.setIfInBounds_toArray, List.set_cons_zero, List.set_cons_succ]
              refine wpAnyH_take (i := 7) (v := ?_) rfl (by kernel_rfl) (by kernel_rfl) (by kernel_rfl) (fun _ _ _ h => h) (Or.inl ⟨by rfl, ?_⟩) (by assumption) ?_
              rotate_left
              · intro w hSw; (try dsimp only at hSw); go_simp; with_reducible rfl
              try simp only [Act.put, List.getElem_toArray, List.getElem_cons_zero, List.getElem_cons_succ, List.setIfInBounds_toArray, List.set_cons_zero, List.set_cons_succ]
              refine wpAnyH_take (i := 8) (v := ?_) rfl (by kernel_rfl) (by kernel_rfl) (by kernel_rfl) (fun _ _ _ h => h) (Or.inl ⟨by rfl, ?_⟩) (by assumption) ?_
              rotate_left
              · intro w hSw; (try dsimp only at hSw); go_simp; with_reducible rfl
              try simp only [Act.put, List.getElem_toArray, List.getElem_cons_zero, List.getElem_cons_succ, List.setIfInBounds_toArray, List.set_cons_zero, List.set_cons_succ]
              refine wpAnyH_take (i := 9) (v := ?_) rfl (by kernel_rfl) (by kernel_rfl) (by kernel_rfl) (fun _ _ _ h => h) (Or.inl ⟨by rfl, ?_⟩) (by assumption) ?_
              rotate_left
              · intro w hSw; (try dsimp only at hSw); go_simp; with_reducible rfl
              try simp only [Act.put, List.getElem_toArray, List.getElem_cons_zero, List.getElem_cons_succ, List.setIfInBounds_toArray, List.set_cons_zero, List.set_cons_succ]
              refine wpAnyH_take (i := 10) (v := ?_) rfl (by kernel_rfl) (by kernel_rfl) (by kernel_rfl) (fun _ _ _ h => h) (Or.inl ⟨by rfl, ?_⟩) (by assumption) ?_
              rotate_left
              · intro w hSw; (try dsimp only at hSw); go_simp; with_reducible rfl
              try simp only [Act.put, List.getElem_toArray, List.getElem_cons_zero, List.getElem_cons_succ, List.setIfInBounds_toArray, List.set_cons_zero, List.set_cons_succ]
              refine wpAnyH_take (i := 11) (v := ?_) rfl (by kernel_rfl) (by kernel_rfl) (by kernel_rfl) (fun _ _ _ h => h) (Or.inl ⟨by rfl, ?_⟩) (by assumption) ?_
              rotate_left
              · intro w hSw; (try dsimp only at hSw); go_simp; with_reducible rfl
              try simp only [Act.put, List.getElem_toArray, List.getElem_cons_zero, List.getElem_cons_succ, List.setIfInBounds_toArray, List.set_cons_zero, List.set_cons_succ]
              refine wpAnyH_take (i := 12) (v := ?_) rfl (by kernel_rfl) (by kernel_rfl) (by kernel_rfl) (fun _ _ _ h => h) (Or.inl ⟨by rfl, ?_⟩) (by assumption) ?_
              rotate_left
              · intro w hSw; (try dsimp only at hSw); go_simp; with_reducible rfl
              try simp only [Act.put, List.getElem_toArray, List.getElem_cons_zero, List.getElem_cons_succ, List.setIfInBounds_toArray, List.set_cons_zero, List.set_cons_succ]
              refine wpAnyH_take (i := 13) (v := ?_) rfl (by kernel_rfl) (by kernel_rfl) (by kernel_rfl) (fun _ _ _ h => h) (Or.inl ⟨by rfl, ?_⟩) (by assumption) ?_
              rotate_left
              · intro w hSw; (try dsimp only at hSw); go_simp; with_reducible rfl
              try simp only [Act.put, List.getElem_toArray, List.getElem_cons_zero, List.getElem_cons_succ, List.setIfInBounds_toArray, List.set_cons_zero, List.set_cons_succ]
              refine wpAnyH_take (i := 14) (v := ?_) rfl (by kernel_rfl) (by kernel_rfl) (by kernel_rfl) (fun _ _ _ h => h) (Or.inl ⟨by rfl, ?_⟩) (by assumption) ?_
              rotate_left
              · intro w hSw; (try dsimp only at hSw); go_simp; with_reducible rfl
              try simp only [Act.put, List.getElem_toArray, List.getElem_cons_zero, List.getElem_cons_succ, List.setIfInBounds_toArray, List.set_cons_zero, List.set_cons_succ]
              refine wpAnyH_take (i := 15) (v := ?_) rfl (by kernel_rfl) (by kernel_rfl) (by kernel_rfl) (fun _ _ _ h => h) (Or.inl ⟨by rfl, ?_⟩) (by assumption) ?_
              rotate_left
              · intro w hSw; (try dsimp only at hSw); go_simp; with_reducible rfl
              try simp only [Act.put, List.getElem_toArray, List.getElem_cons_zero, List.getElem_cons_succ, List.setIfInBounds_toArray, List.set_cons_zero, List.set_cons_succ]
              refine wpAnyH_take (i := 16) (v := ?_) rfl (by kernel_rfl) (by kernel_rfl) (by kernel_rfl) (fun _ _ _ h => h) (Or.inl ⟨by rfl, ?_⟩) (by assumption) ?_
              rotate_left
              · intro w hSw; (try dsimp only at hSw); go_simp; with_reducible rfl
              try simp only [Act.put, List.getElem_toArray, List.getElem_cons_zero, List.getElem_cons_succ, List.setIfInBounds_toArray, List.set_cons_zero, List.set_cons_succ]
              refine wpAnyH_take (i := 17) (v := ?_) rfl (by kernel_rfl) (by kernel_rfl) (by kernel_rfl) (fun _ _ _ h => h) (Or.inl ⟨by rfl, ?_⟩) (by assumption) ?_
              rotate_left
              · intro w hSw; (try dsimp only at hSw); go_simp; with_reducible rfl
              try simp only [Act.put, List.getElem_toArray, List.getElem_cons_zero, List.getElem_cons_succ, List.setIfInBounds_toArray, List.set_cons_zero, List.set_cons_succ]
              refine wpAnyH_take (i := 18) (v := ?_) rfl (by kernel_rfl) (by kernel_rfl) (by kernel_rfl) (fun _ _ _ h => h) (Or.inl ⟨by rfl, ?_⟩) (by assumption) ?_
              rotate_left
              · intro w hSw; (try dsimp only at hSw); go_simp; with_reducible rfl
              try simp only [Act.put, List.getElem_toArray, List.getElem_cons_zero, List.getElem_cons_succ, List.setIfInBounds_toArray, List.set_cons_zero, List.set_cons_succ]
              refine wpAnyH_take (i := 19) (v := ?_) rfl (by kernel_rfl) (by kernel_rfl) (by kernel_rfl) (fun _ _ _ h => h) (Or.inl ⟨by rfl, ?_⟩) (by assumption) ?_
              rotate_left
              · intro w hSw; (try dsimp only at hSw); go_simp; with_reducible rfl
              try simp only [Act.put, List.getElem_toArray, List.getElem_cons_zero, List.getElem_cons_succ, List.setIfInBounds_toArray, List.set_cons_zero, List.set_cons_succ]
              refine wpAnyH_take (i := 20) (v := ?_) rfl (by kernel_rfl) (by kernel_rfl) (by kernel_rfl) (fun _ _ _ h => h) (Or.inl ⟨by rfl, ?_⟩) (by assumption) ?_
              rotate_left
              · intro w hSw; (try dsimp only at hSw); go_simp; with_reducible rfl
              try simp only [Act.put, List.getElem_toArray, List.getElem_cons_zero, List.getElem_cons_succ, List.setIfInBounds_toArray, List.set_cons_zero, List.set_cons_succ]
              refine wpAnyH_take (i := 21) (v := ?_) rfl (by kernel_rfl) (by kernel_rfl) (by kernel_rfl) (fun _ _ _ h => h) (Or.inl ⟨by rfl, ?_⟩) (by assumption) ?_
              rotate_left
              · intro w hSw; (try dsimp only at hSw); go_simp; with_reducible rfl
              try simp only [Act.put, List.getElem_toArray, List.getElem_cons_zero, List.getElem_cons_succ, List.setIfInBounds_toArray, List.set_cons_zero, List.set_cons_succ]
              refine wpAnyH_ready (rs := [22]) (by kernel_rfl) (by simp) ?_
              refine AllReadyH.cons rfl (fun K hK => ?_) AllReadyH.nil
              go_simp
              ((go_at_call 14; (with_reducible refine (HSP.out _ HBD.out).mono ?_); rintro e w2 ⟨rfl, hb1⟩))
              refine hK.out _ _ ?_ (fun hHeld => ?_)
              · (rw [hb1.cell (p := ⟨b, o + k * 7, none⟩) (by simp; omega), hb1.cell (p := ⟨b, o + k * 7 + 1, none⟩) (by simp; omega), hb1.cell (p := ⟨b, o + k * 7 + 2, none⟩) (by simp; omega), hb1.cell (p := ⟨b, o + k * 7 + 3, none⟩) (by simp; omega), hb1.cell (p := ⟨b, o + k * 7 + 4, none⟩) (by simp; omega), hb1.cell (p := ⟨b, o + k * 7 + 5, none⟩) (by simp; omega), hb1.cell (p := ⟨b, o + k * 7 + 6, none⟩) (by simp; omega), hb1.cell (p := ⟨b2, o2 + k * 7, none⟩) (by simp; omega), hb1.cell (p := ⟨b2, o2 + k * 7 + 1, none⟩) (by simp; omega), hb1.cell (p := ⟨b2, o2 + k * 7 + 2, none⟩) (by simp; omega), hb1.cell (p := ⟨b2, o2 + k * 7 + 3, none⟩) (by simp; omega), hb1.cell (p := ⟨b2, o2 + k * 7 + 4, none⟩) (by simp; omega), hb1.cell (p := ⟨b2, o2 + k * 7 + 5, none⟩) (by simp; omega), hb1.cell (p := ⟨b2, o2 + k * 7 + 6, none⟩) (by simp; omega)]; first | assumption | exact ⟨d0, d1, d2, d3, d4, d5, d6, q0, q1, q2, q3, q4, q5, q6⟩)
              clear hK K
              try simp only [Act.put, List.getElem_toArray, List.getElem_cons_zero, List.getElem_cons_succ, List.setIfInBounds_toArray, List.set_cons_zero, List.set_cons_succ]
              refine wpAnyH_take (i := 23) (v := ?_) rfl (by kernel_rfl) (by kernel_rfl) (by kernel_rfl) (fun _ _ _ h => h) (Or.inl ⟨by rfl, ?_⟩) (by assumption) ?_
              rotate_left
              · intro w hSw; (try dsimp only at hSw); go_simp; with_reducible rfl
              try simp only [Act.put, List.getElem_toArray, List.getElem_cons_zero, List.getElem_cons_succ, List.setIfInBounds_toArray, List.set_cons_zero, List.set_cons_succ]
              refine wpAnyH_take (i := 24) (v := ?_) rfl (by kernel_rfl) (by kernel_rfl) (by kernel_rfl) (fun _ _ _ h => h) (Or.inl ⟨by rfl, ?_⟩) (by assumption) ?_
              rotate_left
              · intro w hSw; (try dsimp only at hSw); go_simp; with_reducible rfl
              try simp only [Act.put, List.getElem_toArray, List.getElem_cons_zero, List.getElem_cons_succ, List.setIfInBounds_toArray, List.set_cons_zero, List.set_cons_succ]
              refine wpAnyH_done (by kernel_rfl) ?_ _
              have HB2 := Lib.hid (belS (bel_dr8 HB.out) hb1)
              go_wp2_with fail
              exact ⟨⟨k + 1, by omega, by go_num, HN.out, HB2.out⟩, by simp [intOf]; omega⟩
          · obtain rfl : qq = false := by rw [← hqq]; rfl
            clear hqq
            have HN := Lib.hid (HD2.out rfl)
            clear HS2 HD2
            go_wp2_with fail
            refine wp_region_held_drew (S := (fun w' => w'.cell? ⟨b, o + k * 7, none⟩ = some (.bool false) ∧ w'.cell? ⟨b, o + k * 7 + 1, none⟩ = some (.string ⟨a0.toArray⟩) ∧ w'.cell? ⟨b, o + k * 7 + 2, none⟩ = some (.bool a1) ∧ w'.cell? ⟨b, o + k * 7 + 3, none⟩ = some (.bool a2) ∧ w'.cell? ⟨b, o + k * 7 + 4, none⟩ = some (.slice ra a3.length rc) ∧ w'.cell? ⟨b, o + k * 7 + 5, none⟩ = some (.int .i64 a4) ∧ w'.cell? ⟨b, o + k * 7 + 6, none⟩ = some (.slice sa ls.length sc) ∧ w'.cell? ⟨b2, o2 + k * 7, none⟩ = some (.bool true) ∧ w'.cell? ⟨b2, o2 + k * 7 + 1, none⟩ = some (.string ⟨c0.toArray⟩) ∧ w'.cell? ⟨b2, o2 + k * 7 + 2, none⟩ = some (.bool c1) ∧ w'.cell? ⟨b2, o2 + k * 7 + 3, none⟩ = some (.bool c2) ∧ w'.cell? ⟨b2, o2 + k * 7 + 4, none⟩ = some (.slice rb c3.length rd) ∧ w'.cell? ⟨b2, o2 + k * 7 + 5, none⟩ = some (.int .i64 c4) ∧ w'.cell? ⟨b2, o2 + k * 7 + 6, none⟩ = some (.slice sb ms.length sd))) (by kernel_rfl) ?_ (fun hHeld => ?_)
            · exact ⟨d0, d1, d2, d3, d4, d5, d6, q0, q1, q2, q3, q4, q5, q6⟩
            refine wpAnyH_take (i := 0) (v := ?_) rfl (by kernel_rfl) (by kernel_rfl) (by kernel_rfl) (fun _ _ _ h => h) (Or.inl ⟨by rfl, ?_⟩) (by assumption) ?_
            rotate_left
            · intro w hSw; (try dsimp only at hSw); go_simp; with_reducible rfl
            try simp only [Act.put, List.getElem_toArray, List.getElem_cons_zero, List.getElem_cons_succ, List.setIfInBounds_toArray, List.set_cons_zero, List.set_cons_succ]
            refine wpAnyH_take (i := 1) (v := ?_) rfl (by kernel_rfl) (by kernel_rfl) (by kernel_rfl) (fun _ _ _ h => h) (Or.inl ⟨by rfl, ?_⟩) (by assumption) ?_
            rotate_left
            · intro w hSw; (try dsimp only at hSw); go_simp; with_reducible rfl
            try simp only [Act.put, List.getElem_toArray, List.getElem_cons_zero, List.getElem_cons_succ, List.setIfInBounds_toArray, List.set_cons_zero, List.set_cons_succ]
            refine wpAnyH_take (i := 2) (v := ?_) rfl (by kernel_rfl) (by kernel_rfl) (by kernel_rfl) (fun _ _ _ h => h) (Or.inl ⟨by rfl, ?_⟩) (by assumption) ?_
            rotate_left
            · intro w hSw; (try dsimp only at hSw); go_simp; with_reducible rfl
            try simp only [Act.put, List.getElem_toArray, List.getElem_cons_zero, List.getElem_cons_succ, List.setIfInBounds_toArray, List.set_cons_zero, List.set_cons_succ]
            refine wpAnyH_take (i := 3) (v := ?_) rfl (by kernel_rfl) (by kernel_rfl) (by kernel_rfl) (fun _ _ _ h => h) (Or.inl ⟨by rfl, ?_⟩) (by assumption) ?_
            rotate_left
            · intro w hSw; (try dsimp only at hSw); go_simp; with_reducible rfl
            try simp only [Act.put, List.getElem_toArray, List.getElem_cons_zero, List.getElem_cons_succ, List.setIfInBounds_toArray, List.set_cons_zero, List.set_cons_succ]
            refine wpAnyH_take (i := 4) (v := ?_) rfl (by kernel_rfl) (by kernel_rfl) (by kernel_rfl) (fun _ _ _ h => h) (Or.inl ⟨by rfl, ?_⟩) (by assumption) ?_
            rotate_left
            · intro w hSw; (try dsimp only at hSw); go_simp; with_reducible rfl
            try simp only [Act.put, List.getElem_toArray, List.getElem_cons_zero, List.getElem_cons_succ, List.setIfInBounds_toArray, List.set_cons_zero, List.set_cons_succ]
            refine wpAnyH_take (i := 5) (v := ?_) rfl (by kernel_rfl) (by kernel_rfl) (by kernel_rfl) (fun _ _ _ h => h) (Or.inl ⟨by rfl, ?_⟩) (by assumption) ?_
            rotate_left
            · intro w hSw; (try dsimp only at hSw); go_simp; with_reducible rfl
            try simp only [Act.put, List.getElem_toArray, List.getElem_cons_zero, List.getElem_cons_succ, List.setIfInBounds_toArray, List.set_cons_zero, List.set_cons_succ]
            refine wpAnyH_take (i := 6) (v := ?_) rfl (by kernel_rfl) (by kernel_rfl) (by kernel_rfl) (fun _ _ _ h => h) (Or.inl ⟨by rfl, ?_⟩) (by assumption) ?_
            rotate_left
            · intro w hSw; (try dsimp only at hSw); go_simp; with_reducible rfl
            try simp only [Act.put, List.getElem_toArray, List.getElem_cons_zero, List.getElem_cons_succ, List.setIfInBounds_toArray, List.set_cons_zero, List.set_cons_succ]
            refine wpAnyH_take (i := 7) (v := ?_) rfl (by kernel_rfl) (by kernel_rfl) (by kernel_rfl) (fun _ _ _ h => h) (Or.inl ⟨by rfl, ?_⟩) (by assumption) ?_
            rotate_left
            · intro w hSw; (try dsimp only at hSw); go_simp; with_reducible rfl
            try simp only [Act.put, List.getElem_toArray, List.getElem_cons_zero, List.getElem_cons_succ, List.setIfInBounds_toArray, List.set_cons_zero, List.set_cons_succ]
            refine wpAnyH_take (i := 8) (v := ?_) rfl (by kernel_rfl) (by kernel_rfl) (by kernel_rfl) (fun _ _ _ h => h) (Or.inl ⟨by rfl, ?_⟩) (by assumption) ?_
            rotate_left
            · intro w hSw; (try dsimp only at hSw); go_simp; with_reducible rfl
            try simp only [Act.put, List.getElem_toArray, List.getElem_cons_zero, List.getElem_cons_succ, List.setIfInBounds_toArray, List.set_cons_zero, List.set_cons_succ]
            refine wpAnyH_take (i := 9) (v := ?_) rfl (by kernel_rfl) (by kernel_rfl) (by kernel_rfl) (fun _ _ _ h => h) (Or.inl ⟨by rfl, ?_⟩) (by assumption) ?_
            rotate_left
            · intro w hSw; (try dsimp only at hSw); go_simp; with_reducible rfl
            try simp only [Act.put, List.getElem_toArray, List.getElem_cons_zero, List.getElem_cons_succ, List.setIfInBounds_toArray, List.set_cons_zero, List.set_cons_succ]
            refine wpAnyH_take (i := 10) (v := ?_) rfl (by kernel_rfl) (by kernel_rfl) (by kernel_rfl) (fun _ _ _ h => h) (Or.inl ⟨by rfl, ?_⟩) (by assumption) ?_
            rotate_left
            · intro w hSw; (try dsimp only at hSw); go_simp; with_reducible rfl
            try simp only [Act.put, List.getElem_toArray, List.getElem_cons_zero, List.getElem_cons_succ, List.setIfInBounds_toArray, List.set_cons_zero, List.set_cons_succ]
            refine wpAnyH_take (i := 11) (v := ?_) rfl (by kernel_rfl) (by kernel_rfl) (by kernel_rfl) (fun _ _ _ h => h) (Or.inl ⟨by rfl, ?_⟩) (by assumption) ?_
            rotate_left
            · intro w hSw; (try dsimp only at hSw); go_simp; with_reducible rfl
            try simp only [Act.put, List.getElem_toArray, List.getElem_cons_zero, List.getElem_cons_succ, List.setIfInBounds_toArray, List.set_cons_zero, List.set_cons_succ]
            refine wpAnyH_take (i := 12) (v := undef) rfl (by kernel_rfl) (by kernel_rfl) (by kernel_rfl) (fun _ _ _ h => h) (Or.inr ⟨by rfl, rfl⟩) (by assumption) ?_
            try simp only [Act.put, List.getElem_toArray, List.getElem_cons_zero, List.getElem_cons_succ, List.setIfInBounds_toArray, List.set_cons_zero, List.set_cons_succ]
            refine wpAnyH_take (i := 13) (v := undef) rfl (by kernel_rfl) (by kernel_rfl) (by kernel_rfl) (fun _ _ _ h => h) (Or.inr ⟨by rfl, rfl⟩) (by assumption) ?_
            try simp only [Act.put, List.getElem_toArray, List.getElem_cons_zero, List.getElem_cons_succ, List.setIfInBounds_toArray, List.set_cons_zero, List.set_cons_succ]
            refine wpAnyH_take (i := 14) (v := undef) rfl (by kernel_rfl) (by kernel_rfl) (by kernel_rfl) (fun _ _ _ h => h) (Or.inr ⟨by rfl, rfl⟩) (by assumption) ?_
            try simp only [Act.put, List.getElem_toArray, List.getElem_cons_zero, List.getElem_cons_succ, List.setIfInBounds_toArray, List.set_cons_zero, List.set_cons_succ]
            refine wpAnyH_take (i := 15) (v := undef) rfl (by kernel_rfl) (by kernel_rfl) (by kernel_rfl) (fun _ _ _ h => h) (Or.inr ⟨by rfl, rfl⟩) (by assumption) ?_
            try simp only [Act.put, List.getElem_toArray, List.getElem_cons_zero, List.getElem_cons_succ, List.setIfInBounds_toArray, List.set_cons_zero, List.set_cons_succ]
            refine wpAnyH_take (i := 16) (v := undef) rfl (by kernel_rfl) (by kernel_rfl) (by kernel_rfl) (fun _ _ _ h => h) (Or.inr ⟨by rfl, rfl⟩) (by assumption) ?_
            try simp only [Act.put, List.getElem_toArray, List.getElem_cons_zero, List.getElem_cons_succ, List.setIfInBounds_toArray, List.set_cons_zero, List.set_cons_succ]
            refine wpAnyH_take (i := 17) (v := undef) rfl (by kernel_rfl) (by kernel_rfl) (by kernel_rfl) (fun _ _ _ h => h) (Or.inr ⟨by rfl, rfl⟩) (by assumption) ?_
            try simp only [Act.put, List.getElem_toArray, List.getElem_cons_zero, List.getElem_cons_succ, List.setIfInBounds_toArray, List.set_cons_zero, List.set_cons_succ]
            refine wpAnyH_take (i := 18) (v := undef) rfl (by kernel_rfl) (by kernel_rfl) (by kernel_rfl) (fun _ _ _ h => h) (Or.inr ⟨by rfl, rfl⟩) (by assumption) ?_
            try simp only [Act.put, List.getElem_toArray, List.getElem_cons_zero, List.getElem_cons_succ, List.setIfInBounds_toArray, List.set_cons_zero, List.set_cons_succ]
            refine wpAnyH_take (i := 19) (v := undef) rfl (by kernel_rfl) (by kernel_rfl) (by kernel_rfl) (fun _ _ _ h => h) (Or.inr ⟨by rfl, rfl⟩) (by assumption) ?_
            try simp only [Act.put, List.getElem_toArray, List.getElem_cons_zero, List.getElem_cons_succ, List.setIfInBounds_toArray, List.set_cons_zero, List.set_cons_succ]
            refine wpAnyH_take (i := 20) (v := undef) rfl (by kernel_rfl) (by kernel_rfl) (by kernel_rfl) (fun _ _ _ h => h) (Or.inr ⟨by rfl, rfl⟩) (by assumption) ?_
            try simp only [Act.put, List.getElem_toArray, List.getElem_cons_zero, List.getElem_cons_succ, List.setIfInBounds_toArray, List.set_cons_zero, List.set_cons_succ]
            refine wpAnyH_take (i := 21) (v := undef) rfl (by kernel_rfl) (by kernel_rfl) (by kernel_rfl) (fun _ _ _ h => h) (Or.inr ⟨by rfl, rfl⟩) (by assumption) ?_
            try simp only [Act.put, List.getElem_toArray, List.getElem_cons_zero, List.getElem_cons_succ, List.setIfInBounds_toArray, List.set_cons_zero, List.set_cons_succ]
            refine wpAnyH_take (i := 22) (v := undef) rfl (by kernel_rfl) (by kernel_rfl) (by kernel_rfl) (fun _ _ _ h => h) (Or.inr ⟨by rfl, rfl⟩) (by assumption) ?_
            try simp only [Act.put, List.getElem_toArray, List.getElem_cons_zero, List.getElem_cons_succ, List.setIfInBounds_toArray, List.set_cons_zero, List.set_cons_succ]
            refine wpAnyH_take (i := 23) (v := undef) rfl (by kernel_rfl) (by kernel_rfl) (by kernel_rfl) (fun _ _ _ h => h) (Or.inr ⟨by rfl, rfl⟩) (by assumption) ?_
            try simp only [Act.put, List.getElem_toArray, List.getElem_cons_zero, List.getElem_cons_succ, List.setIfInBounds_toArray, List.set_cons_zero, List.set_cons_succ]
            refine wpAnyH_take (i := 24) (v := ?_) rfl (by kernel_rfl) (by kernel_rfl) (by kernel_rfl) (fun _ _ _ h => h) (Or.inl ⟨by rfl, ?_⟩) (by assumption) ?_
            rotate_left
            · intro w hSw; (try dsimp only at hSw); go_simp; with_reducible rfl
            try simp only [Act.put, List.getElem_toArray, List.getElem_cons_zero, List.getElem_cons_succ, List.setIfInBounds_toArray, List.set_cons_zero, List.set_cons_succ]
            refine wpAnyH_done (by kernel_rfl) ?_ _
            have HB2 := Lib.hid (bel_dr8 HB.out)
            go_wp2_with fail
            go_ret
            exact ⟨ret_bool (by simp [HN.out]), HB2.out⟩
        · cases g
          · obtain rfl : qq = false := by rw [← hqq]; rfl
            clear hqq
            have HN := Lib.hid (HD2.out rfl)
            clear HS2 HD2
            go_wp2_with fail
            refine wp_region_held_drew (S := (fun w' => w'.cell? ⟨b, o + k * 7, none⟩ = some (.bool true) ∧ w'.cell? ⟨b, o + k * 7 + 1, none⟩ = some (.string ⟨a0.toArray⟩) ∧ w'.cell? ⟨b, o + k * 7 + 2, none⟩ = some (.bool a1) ∧ w'.cell? ⟨b, o + k * 7 + 3, none⟩ = some (.bool a2) ∧ w'.cell? ⟨b, o + k * 7 + 4, none⟩ = some (.slice ra a3.length rc) ∧ w'.cell? ⟨b, o + k * 7 + 5, none⟩ = some (.int .i64 a4) ∧ w'.cell? ⟨b, o + k * 7 + 6, none⟩ = some (.slice sa ls.length sc) ∧ w'.cell? ⟨b2, o2 + k * 7, none⟩ = some (.bool false) ∧ w'.cell? ⟨b2, o2 + k * 7 + 1, none⟩ = some (.string ⟨c0.toArray⟩) ∧ w'.cell? ⟨b2, o2 + k * 7 + 2, none⟩ = some (.bool c1) ∧ w'.cell? ⟨b2, o2 + k * 7 + 3, none⟩ = some (.bool c2) ∧ w'.cell? ⟨b2, o2 + k * 7 + 4, none⟩ = some (.slice rb c3.length rd) ∧ w'.cell? ⟨b2, o2 + k * 7 + 5, none⟩ = some (.int .i64 c4) ∧ w'.cell? ⟨b2, o2 + k * 7 + 6, none⟩ = some (.slice sb ms.length sd))) (by kernel_rfl) ?_ (fun hHeld => ?_)
            · exact ⟨d0, d1, d2, d3, d4, d5, d6, q0, q1, q2, q3, q4, q5, q6⟩
            refine wpAnyH_take (i := 0) (v := ?_) rfl (by kernel_rfl) (by kernel_rfl) (by kernel_rfl) (fun _ _ _ h => h) (Or.inl ⟨by rfl, ?_⟩) (by assumption) ?_
            rotate_left
            · intro w hSw; (try dsimp only at hSw); go_simp; with_reducible rfl
            try simp only [Act.put, List.getElem_toArray, List.getElem_cons_zero, List.getElem_cons_succ, List.setIfInBounds_toArray, List.set_cons_zero, List.set_cons_succ]
            refine wpAnyH_take (i := 1) (v := ?_) rfl (by kernel_rfl) (by kernel_rfl) (by kernel_rfl) (fun _ _ _ h => h) (Or.inl ⟨by rfl, ?_⟩) (by assumption) ?_
            rotate_left
            · intro w hSw; (try dsimp only at hSw); go_simp; with_reducible rfl
            try simp only [Act.put, List.getElem_toArray, List.getElem_cons_zero, List.getElem_cons_succ, List.setIfInBounds_toArray, List.set_cons_zero, List.set_cons_succ]
            refine wpAnyH_take (i := 2) (v := ?_) rfl (by kernel_rfl) (by kernel_rfl) (by kernel_rfl) (fun _ _ _ h => h) (Or.inl ⟨by rfl, ?_⟩) (by assumption) ?_
            rotate_left
            · intro w hSw; (try dsimp only at hSw); go_simp; with_reducible rfl
            try simp only [Act.put, List.getElem_toArray, List.getElem_cons_zero, List.getElem_cons_succ, List.setIfInBounds_toArray, List.set_cons_zero, List.set_cons_succ]
            refine wpAnyH_take (i := 3) (v := ?_) rfl (by kernel_rfl) (by kernel_rfl) (by kernel_rfl) (fun _ _ _ h => h) (Or.inl ⟨by rfl, ?_⟩) (by assumption) ?_
            rotate_left
            · intro w hSw; (try dsimp only at hSw); go_simp; with_reducible rfl
            try simp only [Act.put, List.getElem_toArray, List.getElem_cons_zero, List.getElem_cons_succ, List.setIfInBounds_toArray, List.set_cons_zero, List.set_cons_succ]
            refine wpAnyH_take (i := 4) (v := ?_) rfl (by kernel_rfl) (by kernel_rfl) (by kernel_rfl) (fun _ _ _ h => h) (Or.inl ⟨by rfl, ?_⟩) (by assumption) ?_
            rotate_left
            · intro w hSw; (try dsimp only at hSw); go_simp; with_reducible rfl
            try simp only [Act.put, List.getElem_toArray, List.getElem_cons_zero, List.getElem_cons_succ, List.setIfInBounds_toArray, List.set_cons_zero, List.set_cons_succ]
            refine wpAnyH_take (i := 5) (v := ?_) rfl (by kernel_rfl) (by kernel_rfl) (by kernel_rfl) (fun _ _ _ h => h) (Or.inl ⟨by rfl, ?_⟩) (by assumption) ?_
            rotate_left
            · intro w hSw; (try dsimp only at hSw); go_simp; with_reducible rfl
            try simp only [Act.put, List.getElem_toArray, List.getElem_cons_zero, List.getElem_cons_succ, List.setIfInBounds_toArray, List.set_cons_zero, List.set_cons_succ]
            refine wpAnyH_take (i := 6) (v := ?_) rfl (by kernel_rfl) (by kernel_rfl) (by kernel_rfl) (fun _ _ _ h => h) (Or.inl ⟨by rfl, ?_⟩) (by assumption) ?_
            rotate_left
            · intro w hSw; (try dsimp only at hSw); go_simp; with_reducible rfl
            try simp only [Act.put, List.getElem_toArray, List.getElem_cons_zero, List.getElem_cons_succ, List.setIfInBounds_toArray, List.set_cons_zero, List.set_cons_succ]
            refine wpAnyH_take (i := 7) (v := ?_) rfl (by kernel_rfl) (by kernel_rfl) (by kernel_rfl) (fun _ _ _ h => h) (Or.inl ⟨by rfl, ?_⟩) (by assumption) ?_
            rotate_left
            · intro w hSw; (try dsimp only at hSw); go_simp; with_reducible rfl
            try simp only [Act.put, List.getElem_toArray, List.getElem_cons_zero, List.getElem_cons_succ, List.setIfInBounds_toArray, List.set_cons_zero, List.set_cons_succ]
            refine wpAnyH_take (i := 8) (v := ?_) rfl (by kernel_rfl) (by kernel_rfl) (by kernel_rfl) (fun _ _ _ h => h) (Or.inl ⟨by rfl, ?_⟩) (by assumption) ?_
            rotate_left
            · intro w hSw; (try dsimp only at hSw); go_simp; with_reducible rfl
            try simp only [Act.put, List.getElem_toArray, List.getElem_cons_zero, List.getElem_cons_succ, List.setIfInBounds_toArray, List.set_cons_zero, List.set_cons_succ]
            refine wpAnyH_take (i := 9) (v := ?_) rfl (by kernel_rfl) (by kernel_rfl) (by kernel_rfl) (fun _ _ _ h => h) (Or.inl ⟨by rfl, ?_⟩) (by assumption) ?_
            rotate_left
            · intro w hSw; (try dsimp only at hSw); go_simp; with_reducible rfl
            try simp only [Act.put, List.getElem_toArray, List.getElem_cons_zero, List.getElem_cons_succ, List.setIfInBounds_toArray, List.set_cons_zero, List.set_cons_succ]
            refine wpAnyH_take (i := 10) (v := ?_) rfl (by kernel_rfl) (by kernel_rfl) (by kernel_rfl) (fun _ _ _ h => h) (Or.inl ⟨by rfl, ?_⟩) (by assumption) ?_
            rotate_left
            · intro w hSw; (try dsimp only at hSw); go_simp; with_reducible rfl
            try simp only [Act.put, List.getElem_toArray, List.getElem_cons_zero, List.getElem_cons_succ, List.setIfInBounds_toArray, List.set_cons_zero, List.set_cons_succ]
            refine wpAnyH_take (i := 11) (v := ?_) rfl (by kernel_rfl) (by kernel_rfl) (by kernel_rfl) (fun _ _ _ h => h) (Or.inl ⟨by rfl, ?_⟩) (by assumption) ?_
            rotate_left
            · intro w hSw; (try dsimp only at hSw); go_simp; with_reducible rfl
            try simp only [Act.put, List.getElem_toArray, List.getElem_cons_zero, List.getElem_cons_succ, List.setIfInBounds_toArray, List.set_cons_zero, List.set_cons_succ]
            refine wpAnyH_take (i := 12) (v := undef) rfl (by kernel_rfl) (by kernel_rfl) (by kernel_rfl) (fun _ _ _ h => h) (Or.inr ⟨by rfl, rfl⟩) (by assumption) ?_
            try simp only [Act.put, List.getElem_toArray, List.getElem_cons_zero, List.getElem_cons_succ, List.setIfInBounds_toArray, List.set_cons_zero, List.set_cons_succ]
            refine wpAnyH_take (i := 13) (v := undef) rfl (by kernel_rfl) (by kernel_rfl) (by kernel_rfl) (fun _ _ _ h => h) (Or.inr ⟨by rfl, rfl⟩) (by assumption) ?_
            try simp only [Act.put, List.getElem_toArray, List.getElem_cons_zero, List.getElem_cons_succ, List.setIfInBounds_toArray, List.set_cons_zero, List.set_cons_succ]
            refine wpAnyH_take (i := 14) (v := undef) rfl (by kernel_rfl) (by kernel_rfl) (by kernel_rfl) (fun _ _ _ h => h) (Or.inr ⟨by rfl, rfl⟩) (by assumption) ?_
            try simp only [Act.put, List.getElem_toArray, List.getElem_cons_zero, List.getElem_cons_succ, List.setIfInBounds_toArray, List.set_cons_zero, List.set_cons_succ]
            refine wpAnyH_take (i := 15) (v := undef) rfl (by kernel_rfl) (by kernel_rfl) (by kernel_rfl) (fun _ _ _ h => h) (Or.inr ⟨by rfl, rfl⟩) (by assumption) ?_
            try simp only [Act.put, List.getElem_toArray, List.getElem_cons_zero, List.getElem_cons_succ, List.setIfInBounds_toArray, List.set_cons_zero, List.set_cons_succ]
            refine wpAnyH_take (i := 16) (v := undef) rfl (by kernel_rfl) (by kernel_rfl) (by kernel_rfl) (fun _ _ _ h => h) (Or.inr ⟨by rfl, rfl⟩) (by assumption) ?_
            try simp only [Act.put, List.getElem_toArray, List.getElem_cons_zero, List.getElem_cons_succ, List.setIfInBounds_toArray, List.set_cons_zero, List.set_cons_succ]
            refine wpAnyH_take (i := 17) (v := undef) rfl (by kernel_rfl) (by kernel_rfl) (by kernel_rfl) (fun _ _ _ h => h) (Or.inr ⟨by rfl, rfl⟩) (by assumption) ?_
            try simp only [Act.put, List.getElem_toArray, List.getElem_cons_zero, List.getElem_cons_succ, List.setIfInBounds_toArray, List.set_cons_zero, List.set_cons_succ]
            refine wpAnyH_take (i := 18) (v := undef) rfl (by kernel_rfl) (by kernel_rfl) (by kernel_rfl) (fun _ _ _ h => h) (Or.inr ⟨by rfl, rfl⟩) (by assumption) ?_
            try simp only [Act.put, List.getElem_toArray, List.getElem_cons_zero, List.getElem_cons_succ, List.setIfInBounds_toArray, List.set_cons_zero, List.set_cons_succ]
            refine wpAnyH_take (i := 19) (v := undef) rfl (by kernel_rfl) (by kernel_rfl) (by kernel_rfl) (fun _ _ _ h => h) (Or.inr ⟨by rfl, rfl⟩) (by assumption) ?_
            try simp only [Act.put, List.getElem_toArray, List.getElem_cons_zero, List.getElem_cons_succ, List.setIfInBounds_toArray, List.set_cons_zero, List.set_cons_succ]
            refine wpAnyH_take (i := 20) (v := undef) rfl (by kernel_rfl) (by kernel_rfl) (by kernel_rfl) (fun _ _ _ h => h) (Or.inr ⟨by rfl, rfl⟩) (by assumption) ?_
            try simp only [Act.put, List.getElem_toArray, List.getElem_cons_zero, List.getElem_cons_succ, List.setIfInBounds_toArray, List.set_cons_zero, List.set_cons_succ]
            refine wpAnyH_take (i := 21) (v := undef) rfl (by kernel_rfl) (by kernel_rfl) (by kernel_rfl) (fun _ _ _ h => h) (Or.inr ⟨by rfl, rfl⟩) (by assumption) ?_
            try simp only [Act.put, List.getElem_toArray, List.getElem_cons_zero, List.getElem_cons_succ, List.setIfInBounds_toArray, List.set_cons_zero, List.set_cons_succ]
            refine wpAnyH_take (i := 22) (v := undef) rfl (by kernel_rfl) (by kernel_rfl) (by kernel_rfl) (fun _ _ _ h => h) (Or.inr ⟨by rfl, rfl⟩) (by assumption) ?_
            try simp only [Act.put, List.getElem_toArray, List.getElem_cons_zero, List.getElem_cons_succ, List.setIfInBounds_toArray, List.set_cons_zero, List.set_cons_succ]
            refine wpAnyH_take (i := 23) (v := undef) rfl (by kernel_rfl) (by kernel_rfl) (by kernel_rfl) (fun _ _ _ h => h) (Or.inr ⟨by rfl, rfl⟩) (by assumption) ?_
            try simp only [Act.put, List.getElem_toArray, List.getElem_cons_zero, List.getElem_cons_succ, List.setIfInBounds_toArray, List.set_cons_zero, List.set_cons_succ]
            refine wpAnyH_take (i := 24) (v := ?_) rfl (by kernel_rfl) (by kernel_rfl) (by kernel_rfl) (fun _ _ _ h => h) (Or.inl ⟨by rfl, ?_⟩) (by assumption) ?_
            rotate_left
            · intro w hSw; (try dsimp only at hSw); go_simp; with_reducible rfl
            try simp only [Act.put, List.getElem_toArray, List.getElem_cons_zero, List.getElem_cons_succ, List.setIfInBounds_toArray, List.set_cons_zero, List.set_cons_succ]
            refine wpAnyH_done (by kernel_rfl) ?_ _
            have HB2 := Lib.hid (bel_dr8 HB.out)
            go_wp2_with fail
            go_ret
            exact ⟨ret_bool (by simp [HN.out]), HB2.out⟩
          · obtain rfl : qq = pb := by rw [← hqq]; rfl
            clear hqq
            cases qq
            · have HN := Lib.hid (HD2.out rfl)
              clear HS2 HD2
              go_wp2_with fail
              refine wp_region_held_drew (S := (fun w' => w'.cell? ⟨b, o + k * 7, none⟩ = some (.bool true) ∧ w'.cell? ⟨b, o + k * 7 + 1, none⟩ = some (.string ⟨a0.toArray⟩) ∧ w'.cell? ⟨b, o + k * 7 + 2, none⟩ = some (.bool a1) ∧ w'.cell? ⟨b, o + k * 7 + 3, none⟩ = some (.bool a2) ∧ w'.cell? ⟨b, o + k * 7 + 4, none⟩ = some (.slice ra a3.length rc) ∧ w'.cell? ⟨b, o + k * 7 + 5, none⟩ = some (.int .i64 a4) ∧ w'.cell? ⟨b, o + k * 7 + 6, none⟩ = some (.slice sa ls.length sc) ∧ w'.cell? ⟨b2, o2 + k * 7, none⟩ = some (.bool true) ∧ w'.cell? ⟨b2, o2 + k * 7 + 1, none⟩ = some (.string ⟨c0.toArray⟩) ∧ w'.cell? ⟨b2, o2 + k * 7 + 2, none⟩ = some (.bool c1) ∧ w'.cell? ⟨b2, o2 + k * 7 + 3, none⟩ = some (.bool c2) ∧ w'.cell? ⟨b2, o2 + k * 7 + 4, none⟩ = some (.slice rb c3.length rd) ∧ w'.cell? ⟨b2, o2 + k * 7 + 5, none⟩ = some (.int .i64 c4) ∧ w'.cell? ⟨b2, o2 + k * 7 + 6, none⟩ = some (.slice sb ms.length sd))) (by kernel_rfl) ?_ (fun hHeld => ?_)
              · exact ⟨d0, d1, d2, d3, d4, d5, d6, q0, q1, q2, q3, q4, q5, q6⟩
              refine wpAnyH_take (i := 0) (v := ?_) rfl (by kernel_rfl) (by kernel_rfl) (by kernel_rfl) (fun _ _ _ h => h) (Or.inl ⟨by rfl, ?_⟩) (by assumption) ?_
              rotate_left
              · intro w hSw; (try dsimp only at hSw); go_simp; with_reducible rfl
              try simp only [Act.put, List.getElem_toArray, List.getElem_cons_zero, List.getElem_cons_succ, List.setIfInBounds_toArray, List.set_cons_zero, List.set_cons_succ]
              refine wpAnyH_take (i := 1) (v := ?_) rfl (by kernel_rfl) (by kernel_rfl) (by kernel_rfl) (fun _ _ _ h => h) (Or.inl ⟨by rfl, ?_⟩) (by assumption) ?_
              rotate_left
              · intro w hSw; (try dsimp only at hSw); go_simp; with_reducible rfl
              try simp only [Act.put, List.getElem_toArray, List.getElem_cons_zero, List.getElem_cons_succ, List.setIfInBounds_toArray, List.set_cons_zero, List.set_cons_succ]
              refine wpAnyH_take (i := 2) (v := ?_) rfl (by kernel_rfl) (by kernel_rfl) (by kernel_rfl) (fun _ _ _ h => h) (Or.inl ⟨by rfl, ?_⟩) (by assumption) ?_
              rotate_left
              · intro w hSw; (try dsimp only at hSw); go_simp; with_reducible rfl
              try simp only [Act.put, List.getElem_toArray, List.getElem_cons_zero, List.getElem_cons_succ, List.setIfInBounds_toArray, List.set_cons_zero, List.set_cons_succ]
              refine wpAnyH_take (i := 3) (v := ?_) rfl (by kernel_rfl) (by kernel_rfl) (by kernel_rfl) (fun _ _ _ h => h) (Or.inl ⟨by rfl, ?_⟩) (by assumption) ?_
              rotate_left
              · intro w hSw; (try dsimp only at hSw); go_simp; with_reducible rfl
              try simp only [Act.put, List.getElem_toArray, List.getElem_cons_zero, List.getElem_cons_succ, List.setIfInBounds_toArray, List.set_cons_zero, List.set_cons_succ]
              refine wpAnyH_take (i := 4) (v := ?_) rfl (by kernel_rfl) (by kernel_rfl) (by kernel_rfl) (fun _ _ _ h => h) (Or.inl ⟨by rfl, ?_⟩) (by assumption) ?_
              rotate_left
              · intro w hSw; (try dsimp only at hSw); go_simp; with_reducible rfl
              try simp only [Act.put, List.getElem_toArray, List.getElem_cons_zero, List.getElem_cons_succ, List.setIfInBounds_toArray, List.set_cons_zero, List.set_cons_succ]
              refine wpAnyH_take (i := 5) (v := ?_) rfl (by kernel_rfl) (by kernel_rfl) (by kernel_rfl) (fun _ _ _ h => h) (Or.inl ⟨by rfl, ?_⟩) (by assumption) ?_
              rotate_left
              · intro w hSw; (try dsimp only at hSw); go_simp; with_reducible rfl
              try simp only [Act.put, List.getElem_toArray, List.getElem_cons_zero, List.getElem_cons_succ, List.setIfInBounds_toArray, List.set_cons_zero, List.set_cons_succ]
              refine wpAnyH_take (i := 6) (v := ?_) rfl (by kernel_rfl) (by kernel_rfl) (by kernel_rfl) (fun _ _ _ h => h) (Or.inl ⟨by rfl, ?_⟩) (by assumption) ?_
              rotate_left
              · intro w hSw; (try dsimp only at hSw); go_simp; with_reducible rfl
              try simp only [Act.put, List.getElem_toArray, List.getElem_cons_zero, List.getElem_cons_succ, List.setIfInBounds_toArray, List.set_cons_zero, List.set_cons_succ]
              refine wpAnyH_take (i := 7) (v := ?_) rfl (by kernel_rfl) (by kernel_rfl) (by kernel_rfl) (fun _ _ _ h => h) (Or.inl ⟨by rfl, ?_⟩) (by assumption) ?_
              rotate_left
              · intro w hSw; (try dsimp only at hSw); go_simp; with_reducible rfl
              try simp only [Act.put, List.getElem_toArray, List.getElem_cons_zero, List.getElem_cons_succ, List.setIfInBounds_toArray, List.set_cons_zero, List.set_cons_succ]
              refine wpAnyH_take (i := 8) (v := ?_) rfl (by kernel_rfl) (by kernel_rfl) (by kernel_rfl) (fun _ _ _ h => h) (Or.inl ⟨by rfl, ?_⟩) (by assumption) ?_
              rotate_left
              · intro w hSw; (try dsimp only at hSw); go_simp; with_reducible rfl
              try simp only [Act.put, List.getElem_toArray, List.getElem_cons_zero, List.getElem_cons_succ, List.setIfInBounds_toArray, List.set_cons_zero, List.set_cons_succ]
              refine wpAnyH_take (i := 9) (v := ?_) rfl (by kernel_rfl) (by kernel_rfl) (by kernel_rfl) (fun _ _ _ h => h) (Or.inl ⟨by rfl, ?_⟩) (by assumption) ?_
              rotate_left
              · intro w hSw; (try dsimp only at hSw); go_simp; with_reducible rfl
              try simp only [Act.put, List.getElem_toArray, List.getElem_cons_zero, List.getElem_cons_succ, List.setIfInBounds_toArray, List.set_cons_zero, List.set_cons_succ]
              refine wpAnyH_take (i := 10) (v := ?_) rfl (by kernel_rfl) (by kernel_rfl) (by kernel_rfl) (fun _ _ _ h => h) (Or.inl ⟨by rfl, ?_⟩) (by assumption) ?_
              rotate_left
              · intro w hSw; (try dsimp only at hSw); go_simp; with_reducible rfl
              try simp only [Act.put, List.getElem_toArray, List.getElem_cons_zero, List.getElem_cons_succ, List.setIfInBounds_toArray, List.set_cons_zero, List.set_cons_succ]
              refine wpAnyH_take (i := 11) (v := ?_) rfl (by kernel_rfl) (by kernel_rfl) (by kernel_rfl) (fun _ _ _ h => h) (Or.inl ⟨by rfl, ?_⟩) (by assumption) ?_
              rotate_left
              · intro w hSw; (try dsimp only at hSw); go_simp; with_reducible rfl
              try simp only [Act.put, List.getElem_toArray, List.getElem_cons_zero, List.getElem_cons_succ, List.setIfInBounds_toArray, List.set_cons_zero, List.set_cons_succ]
              refine wpAnyH_take (i := 12) (v := ?_) rfl (by kernel_rfl) (by kernel_rfl) (by kernel_rfl) (fun _ _ _ h => h) (Or.inl ⟨by rfl, ?_⟩) (by assumption) ?_
              rotate_left
              · intro w hSw; (try dsimp only at hSw); go_simp; with_reducible rfl
              try simp only [Act.put, List.getElem_toArray, List.getElem_cons_zero, List.getElem_cons_succ, List.setIfInBounds_toArray, List.set_cons_zero, List.set_cons_succ]
              refine wpAnyH_take (i := 13) (v := ?_) rfl (by kernel_rfl) (by kernel_rfl) (by kernel_rfl) (fun _ _ _ h => h) (Or.inl ⟨by rfl, ?_⟩) (by assumption) ?_
              rotate_left
              · intro w hSw; (try dsimp only at hSw); go_simp; with_reducible rfl
              try simp only [Act.put, List.getElem_toArray, List.getElem_cons_zero, List.getElem_cons_succ, List.setIfInBounds_toArray, List.set_cons_zero, List.set_cons_succ]
              refine wpAnyH_take (i := 14) (v := ?_) rfl (by kernel_rfl) (by kernel_rfl) (by kernel_rfl) (fun _ _ _ h => h) (Or.inl ⟨by rfl, ?_⟩) (by assumption) ?_
              rotate_left
              · intro w hSw; (try dsimp only at hSw); go_simp; with_reducible rfl
              try simp only [Act.put, List.getElem_toArray, List.getElem_cons_zero, List.getElem_cons_succ, List.setIfInBounds_toArray, List.set_cons_zero, List.set_cons_succ]
              refine wpAnyH_take (i := 15) (v := ?_) rfl (by kernel_rfl) (by kernel_rfl) (by kernel_rfl) (fun _ _ _ h => h) (Or.inl ⟨by rfl, ?_⟩) (by assumption) ?_
              rotate_left
              · intro w hSw; (try dsimp only at hSw); go_simp; with_reducible rfl
              try simp only [Act.put, List.getElem_toArray, List.getElem_cons_zero, List.getElem_cons_succ, List.setIfInBounds_toArray, List.set_cons_zero, List.set_cons_succ]
              refine wpAnyH_take (i := 16) (v := ?_) rfl (by kernel_rfl) (by kernel_rfl) (by kernel_rfl) (fun _ _ _ h => h) (Or.inl ⟨by rfl, ?_⟩) (by assumption) ?_
              rotate_left
              · intro w hSw; (try dsimp only at hSw); go_simp; with_reducible rfl
              try simp only [Act.put, List.getElem_toArray, List.getElem_cons_zero, List.getElem_cons_succ, List.setIfInBounds_toArray, List.set_cons_zero, List.set_cons_succ]
              refine wpAnyH_take (i := 17) (v := ?_) rfl (by kernel_rfl) (by kernel_rfl) (by kernel_rfl) (fun _ _ _ h => h) (Or.inl ⟨by rfl, ?_⟩) (by assumption) ?_
              rotate_left
              · intro w hSw; (try dsimp only at hSw); go_simp; with_reducible rfl
              try simp only [Act.put, List.getElem_toArray, List.getElem_cons_zero, List.getElem_cons_succ, List.setIfInBounds_toArray, List.set_cons_zero, List.set_cons_succ]
              refine wpAnyH_take (i := 18) (v := ?_) rfl (by kernel_rfl) (by kernel_rfl) (by kernel_rfl) (fun _ _ _ h => h) (Or.inl ⟨by rfl, ?_⟩) (by assumption) ?_
              rotate_left
              · intro w hSw; (try dsimp only at hSw); go_simp; with_reducible rfl
              try simp only [Act.put, List.getElem_toArray, List.getElem_cons_zero, List.getElem_cons_succ, List.setIfInBounds_toArray, List.set_cons_zero, List.set_cons_succ]
              refine wpAnyH_take (i := 19) (v := ?_) rfl (by kernel_rfl) (by kernel_rfl) (by kernel_rfl) (fun _ _ _ h => h) (Or.inl ⟨by rfl, ?_⟩) (by assumption) ?_
              rotate_left
              · intro w hSw; (try dsimp only at hSw); go_simp; with_reducible rfl
              try simp only [Act.put, List.getElem_toArray, List.getElem_cons_zero, List.getElem_cons_succ, List.setIfInBounds_toArray, List.set_cons_zero, List.set_cons_succ]
              refine wpAnyH_take (i := 20) (v := ?_) rfl (by kernel_rfl) (by kernel_rfl) (by kernel_rfl) (fun _ _ _ h => h) (Or.inl ⟨by rfl, ?_⟩) (by assumption) ?_
              rotate_left
              · intro w hSw; (try dsimp only at hSw); go_simp; with_reducible rfl
              try simp only [Act.put, List.getElem_toArray, List.getElem_cons_zero, List.getElem_cons_succ, List.setIfInBounds_toArray, List.set_cons_zero, List.set_cons_succ]
              refine wpAnyH_take (i := 21) (v := ?_) rfl (by kernel_rfl) (by kernel_rfl) (by kernel_rfl) (fun _ _ _ h => h) (Or.inl ⟨by rfl, ?_⟩) (by assumption) ?_
              rotate_left
              · intro w hSw; (try dsimp only at hSw); go_simp; with_reducible rfl
              try simp only [Act.put, List.getElem_toArray, List.getElem_cons_zero, List.getElem_cons_succ, List.setIfInBounds_toArray, List.set_cons_zero, List.set_cons_succ]
              refine wpAnyH_ready (rs := [22]) (by kernel_rfl) (by simp) ?_
              refine AllReadyH.cons rfl (fun K hK => ?_) AllReadyH.nil
              go_simp
              ((go_at_call 14; (with_reducible refine (HSP.out _ HBD.out).mono ?_); rintro e w2 ⟨rfl, hb1⟩))
              refine hK.out _ _ ?_ (fun hHeld => ?_)
              · (rw [hb1.cell (p := ⟨b, o + k * 7, none⟩) (by simp; omega), hb1.cell (p := ⟨b, o + k * 7 + 1, none⟩) (by simp; omega), hb1.cell (p := ⟨b, o + k * 7 + 2, none⟩) (by simp; omega), hb1.cell (p := ⟨b, o + k * 7 + 3, none⟩) (by simp; omega), hb1.cell (p := ⟨b, o + k * 7 + 4, none⟩) (by simp; omega), hb1.cell (p := ⟨b, o + k * 7 + 5, none⟩) (by simp; omega), hb1.cell (p := ⟨b, o + k * 7 + 6, none⟩) (by simp; omega), hb1.cell (p := ⟨b2, o2 + k * 7, none⟩) (by simp; omega), hb1.cell (p := ⟨b2, o2 + k * 7 + 1, none⟩) (by simp; omega), hb1.cell (p := ⟨b2, o2 + k * 7 + 2, none⟩) (by simp; omega), hb1.cell (p := ⟨b2, o2 + k * 7 + 3, none⟩) (by simp; omega), hb1.cell (p := ⟨b2, o2 + k * 7 + 4, none⟩) (by simp; omega), hb1.cell (p := ⟨b2, o2 + k * 7 + 5, none⟩) (by simp; omega), hb1.cell (p := ⟨b2, o2 + k * 7 + 6, none⟩) (by simp; omega)]; first | assumption | exact ⟨d0, d1, d2, d3, d4, d5, d6, q0, q1, q2, q3, q4, q5, q6⟩)
              clear hK K
              try simp only [Act.put, List.getElem_toArray, List.getElem_cons_zero, List.getElem_cons_succ, List.setIfInBounds_toArray, List.set_cons_zero, List.set_cons_succ]
              refine wpAnyH_take (i := 23) (v := ?_) rfl (by kernel_rfl) (by kernel_rfl) (by kernel_rfl) (fun _ _ _ h => h) (Or.inl ⟨by rfl, ?_⟩) (by assumption) ?_
              rotate_left
              · intro w hSw; (try dsimp only at hSw); go_simp; with_reducible rfl
              try simp only [Act.put, List.getElem_toArray, List.getElem_cons_zero, List.getElem_cons_succ, List.setIfInBounds_toArray, List.set_cons_zero, List.set_cons_succ]
              refine wpAnyH_take (i := 24) (v := ?_) rfl (by kernel_rfl) (by kernel_rfl) (by kernel_rfl) (fun _ _ _ h => h) (Or.inl ⟨by rfl, ?_⟩) (by assumption) ?_
              rotate_left
              · intro w hSw; (try dsimp only at hSw); go_simp; with_reducible rfl
              try simp only [Act.put, List.getElem_toArray, List.getElem_cons_zero, List.getElem_cons_succ, List.setIfInBounds_toArray, List.set_cons_zero, List.set_cons_succ]
              refine wpAnyH_done (by kernel_rfl) ?_ _
              have HB2 := Lib.hid (belS (bel_dr8 HB.out) hb1)
              go_wp2_with fail
              go_ret
              exact ⟨ret_bool (by simp [HN.out]), HB2.out⟩
            · have HN := Lib.hid (HS2.out rfl)
              clear HS2 HD2
              go_wp2_with fail
              refine wp_region_held_drew (S := (fun w' => w'.cell? ⟨b, o + k * 7, none⟩ = some (.bool true) ∧ w'.cell? ⟨b, o + k * 7 + 1, none⟩ = some (.string ⟨a0.toArray⟩) ∧ w'.cell? ⟨b, o + k * 7 + 2, none⟩ = some (.bool a1) ∧ w'.cell? ⟨b, o + k * 7 + 3, none⟩ = some (.bool a2) ∧ w'.cell? ⟨b, o + k * 7 + 4, none⟩ = some (.slice ra a3.length rc) ∧ w'.cell? ⟨b, o + k * 7 + 5, none⟩ = some (.int .i64 a4) ∧ w'.cell? ⟨b, o + k * 7 + 6, none⟩ = some (.slice sa ls.length sc) ∧ w'.cell? ⟨b2, o2 + k * 7, none⟩ = some (.bool true) ∧ w'.cell? ⟨b2, o2 + k * 7 + 1, none⟩ = some (.string ⟨c0.toArray⟩) ∧ w'.cell? ⟨b2, o2 + k * 7 + 2, none⟩ = some (.bool c1) ∧ w'.cell? ⟨b2, o2 + k * 7 + 3, none⟩ = some (.bool c2) ∧ w'.cell? ⟨b2, o2 + k * 7 + 4, none⟩ = some (.slice rb c3.length rd) ∧ w'.cell? ⟨b2, o2 + k * 7 + 5, none⟩ = some (.int .i64 c4) ∧ w'.cell? ⟨b2, o2 + k * 7 + 6, none⟩ = some (.slice sb ms.length sd))) (by kernel_rfl) ?_ (fun hHeld => ?_)
              · exact ⟨d0, d1, d2, d3, d4, d5, d6, q0, q1, q2, q3, q4, q5, q6⟩
              refine wpAnyH_take (i := 0) (v := ?_) rfl (by kernel_rfl) (by kernel_rfl) (by kernel_rfl) (fun _ _ _ h => h) (Or.inl ⟨by rfl, ?_⟩) (by assumption) ?_
              rotate_left
              · intro w hSw; (try dsimp only at hSw); go_simp; with_reducible rfl
              try simp only [Act.put, List.getElem_toArray, List.getElem_cons_zero, List.getElem_cons_succ, List.setIfInBounds_toArray, List.set_cons_zero, List.set_cons_succ]
              refine wpAnyH_take (i := 1) (v := ?_) rfl (by kernel_rfl) (by kernel_rfl) (by kernel_rfl) (fun _ _ _ h => h) (Or.inl ⟨by rfl, ?_⟩) (by assumption) ?_
              rotate_left
              · intro w hSw; (try dsimp only at hSw); go_simp; with_reducible rfl
              try simp only [Act.put, List.getElem_toArray, List.getElem_cons_zero, List.getElem_cons_succ, List.setIfInBounds_toArray, List.set_cons_zero, List.set_cons_succ]
              refine wpAnyH_take (i := 2) (v := ?_) rfl (by kernel_rfl) (by kernel_rfl) (by kernel_rfl) (fun _ _ _ h => h) (Or.inl ⟨by rfl, ?_⟩) (by assumption) ?_
              rotate_left
              · intro w hSw; (try dsimp only at hSw); go_simp; with_reducible rfl
              try simp only [Act.put, List.getElem_toArray, List.getElem_cons_zero, List.getElem_cons_succ, List.setIfInBounds_toArray, List.set_cons_zero, List.set_cons_succ]
              refine wpAnyH_take (i := 3) (v := ?_) rfl (by kernel_rfl) (by kernel_rfl) (by kernel_rfl) (fun _ _ _ h => h) (Or.inl ⟨by rfl, ?_⟩) (by assumption) ?_
              rotate_left
              · intro w hSw; (try dsimp only at hSw); go_simp; with_reducible rfl
              try simp only [Act.put, List.getElem_toArray, List.getElem_cons_zero, List.getElem_cons_succ, List.setIfInBounds_toArray, List.set_cons_zero, List.set_cons_succ]
              refine wpAnyH_take (i := 4) (v := ?_) rfl (by kernel_rfl) (by kernel_rfl) (by kernel_rfl) (fun _ _ _ h => h) (Or.inl ⟨by rfl, ?_⟩) (by assumption) ?_
              rotate_left
              · intro w hSw; (try dsimp only at hSw); go_simp; with_reducible rfl
              try simp only [Act.put, List.getElem_toArray, List.getElem_cons_zero, List.getElem_cons_succ, List.setIfInBounds_toArray, List.set_cons_zero, List.set_cons_succ]
              refine wpAnyH_take (i := 5) (v := ?_) rfl (by kernel_rfl) (by kernel_rfl) (by kernel_rfl) (fun _ _ _ h => h) (Or.inl ⟨by rfl, ?_⟩) (by assumption) ?_
              rotate_left
              · intro w hSw; (try dsimp only at hSw); go_simp; with_reducible rfl
              try simp only [Act.put, List.getElem_toArray, List.getElem_cons_zero, List.getElem_cons_succ, List.setIfInBounds_toArray, List.set_cons_zero, List.set_cons_succ]
              refine wpAnyH_take (i := 6) (v := ?_) rfl (by kernel_rfl) (by kernel_rfl) (by kernel_rfl) (fun _ _ _ h => h) (Or.inl ⟨by rfl, ?_⟩) (by assumption) ?_
              rotate_left
              · intro w hSw; (try dsimp only at hSw); go_simp; with_reducible rfl
              try simp only [Act.put, List.getElem_toArray, List.getElem_cons_zero, List.getElem_cons_succ, List.setIfInBounds_toArray, List.set_cons_zero, List.set_cons_succ]
              refine wpAnyH_take (i := 7) (v := ?_) rfl (by kernel_rfl) (by kernel_rfl) (by kernel_rfl) (fun _ _ _ h => h) (Or.inl ⟨by rfl, ?_⟩) (by assumption) ?_
              rotate_left
              · intro w hSw; (try dsimp only at hSw); go_simp; with_reducible rfl
              try simp only [Act.put, List.getElem_toArray, List.getElem_cons_zero, List.getElem_cons_succ, List.setIfInBounds_toArray, List.set_cons_zero, List.set_cons_succ]
              refine wpAnyH_take (i := 8) (v := ?_) rfl (by kernel_rfl) (by kernel_rfl) (by kernel_rfl) (fun _ _ _ h => h) (Or.inl ⟨by rfl, ?_⟩) (by assumption) ?_
              rotate_left
              · intro w hSw; (try dsimp only at hSw); go_simp; with_reducible rfl
              try simp only [Act.put, List.getElem_toArray, List.getElem_cons_zero, List.getElem_cons_succ, List.setIfInBounds_toArray, List.set_cons_zero, List.set_cons_succ]
              refine wpAnyH_take (i := 9) (v := ?_) rfl (by kernel_rfl) (by kernel_rfl) (by kernel_rfl) (fun _ _ _ h => h) (Or.inl ⟨by rfl, ?_⟩) (by assumption) ?_
              rotate_left
              · intro w hSw; (try dsimp only at hSw); go_simp; with_reducible rfl
              try simp only [Act.put, List.getElem_toArray, List.getElem_cons_zero, List.getElem_cons_succ, List.setIfInBounds_toArray, List.set_cons_zero, List.set_cons_succ]
              refine wpAnyH_take (i := 10) (v := ?_) rfl (by kernel_rfl) (by kernel_rfl) (by kernel_rfl) (fun _ _ _ h => h) (Or.inl ⟨by rfl, ?_⟩) (by assumption) ?_
              rotate_left
              · intro w hSw; (try dsimp only at hSw); go_simp; with_reducible rfl
              try simp only [Act.put, List.getElem_toArray, List.getElem_cons_zero, List.getElem_cons_succ, List.setIfInBounds_toArray, List.set_cons_zero, List.set_cons_succ]
              refine wpAnyH_take (i := 11) (v := ?_) rfl (by kernel_rfl) (by kernel_rfl) (by kernel_rfl) (fun _ _ _ h => h) (Or.inl ⟨by rfl, ?_⟩) (by assumption) ?_
              rotate_left
              · intro w hSw; (try dsimp only at hSw); go_simp; with_reducible rfl
              try simp only [Act.put, List.getElem_toArray, List.getElem_cons_zero, List.getElem_cons_succ, List.setIfInBounds_toArray, List.set_cons_zero, List.set_cons_succ]
              refine wpAnyH_take (i := 12) (v := ?_) rfl (by kernel_rfl) (by kernel_rfl) (by kernel_rfl) (fun _ _ _ h => h) (Or.inl ⟨by rfl, ?_⟩) (by assumption) ?_
              rotate_left
              · intro w hSw; (try dsimp only at hSw); go_simp; with_reducible rfl
              try simp only [Act.put, List.getElem_toArray, List.getElem_cons_zero, List.getElem_cons_succ, List.setIfInBounds_toArray, List.set_cons_zero, List.set_cons_succ]
              refine wpAnyH_take (i := 13) (v := ?_) rfl (by kernel_rfl) (by kernel_rfl) (by kernel_rfl) (fun _ _ _ h => h) (Or.inl ⟨by rfl, ?_⟩) (by assumption) ?_
              rotate_left
              · intro w hSw; (try dsimp only at hSw); go_simp; with_reducible rfl
              try simp only [Act.put, List.getElem_toArray, List.getElem_cons_zero, List.getElem_cons_succ, List.setIfInBounds_toArray, List.set_cons_zero, List.set_cons_succ]
              refine wpAnyH_take (i := 14) (v := ?_) rfl (by kernel_rfl) (by kernel_rfl) (by kernel_rfl) (fun _ _ _ h => h) (Or.inl ⟨by rfl, ?_⟩) (by assumption) ?_
              rotate_left
              · intro w hSw; (try dsimp only at hSw); go_simp; with_reducible rfl
              try simp only [Act.put, List.getElem_toArray, List.getElem_cons_zero, List.getElem_cons_succ, List.setIfInBounds_toArray, List.set_cons_zero, List.set_cons_succ]
              refine wpAnyH_take (i := 15) (v := ?_) rfl (by kernel_rfl) (by kernel_rfl) (by kernel_rfl) (fun _ _ _ h => h) (Or.inl ⟨by rfl, ?_⟩) (by assumption) ?_
              rotate_left
              · intro w hSw; (try dsimp only at hSw); go_simp; with_reducible rfl
              try simp only [Act.put, List.getElem_toArray, List.getElem_cons_zero, List.getElem_cons_succ, List.setIfInBounds_toArray, List.set_cons_zero, List.set_cons_succ]
              refine wpAnyH_take (i := 16) (v := ?_) rfl (by kernel_rfl) (by kernel_rfl) (by kernel_rfl) (fun _ _ _ h => h) (Or.inl ⟨by rfl, ?_⟩) (by assumption) ?_
              rotate_left
              · intro w hSw; (try dsimp only at hSw); go_simp; with_reducible rfl
              try simp only [Act.put, List.getElem_toArray, List.getElem_cons_zero, List.getElem_cons_succ, List.setIfInBounds_toArray, List.set_cons_zero, List.set_cons_succ]
              refine wpAnyH_take (i := 17) (v := ?_) rfl (by kernel_rfl) (by kernel_rfl) (by kernel_rfl) (fun _ _ _ h => h) (Or.inl ⟨by rfl, ?_⟩) (by assumption) ?_
              rotate_left
              · intro w hSw; (try dsimp only at hSw); go_simp; with_reducible rfl
              try simp only [Act.put, List.getElem_toArray, List.getElem_cons_zero, List.getElem_cons_succ, List.setIfInBounds_toArray, List.set_cons_zero, List.set_cons_succ]
              refine wpAnyH_take (i := 18) (v := ?_) rfl (by kernel_rfl) (by kernel_rfl) (by kernel_rfl) (fun _ _ _ h => h) (Or.inl ⟨by rfl, ?_⟩) (by assumption) ?_
              rotate_left
              · intro w hSw; (try dsimp only at hSw); go_simp; with_reducible rfl
              try simp only [Act.put, List.getElem_toArray, List.getElem_cons_zero, List.getElem_cons_succ, List.setIfInBounds_toArray, List.set_cons_zero, List.set_cons_succ]
              refine wpAnyH_take (i := 19) (v := ?_) rfl (by kernel_rfl) (by kernel_rfl) (by kernel_rfl) (fun _ _ _ h => h) (Or.inl ⟨by rfl, ?_⟩) (by assumption) ?_
              rotate_left
              · intro w hSw; (try dsimp only at hSw); go_simp; with_reducible rfl
              try simp only [Act.put, List.getElem_toArray, List.getElem_cons_zero, List.getElem_cons_succ, List.setIfInBounds_toArray, List.set_cons_zero, List.set_cons_succ]
              refine wpAnyH_take (i := 20) (v := ?_) rfl (by kernel_rfl) (by kernel_rfl) (by kernel_rfl) (fun _ _ _ h => h) (Or.inl ⟨by rfl, ?_⟩) (by assumption) ?_
              rotate_left
              · intro w hSw; (try dsimp only at hSw); go_simp; with_reducible rfl
              try simp only [Act.put, List.getElem_toArray, List.getElem_cons_zero, List.getElem_cons_succ, List.setIfInBounds_toArray, List.set_cons_zero, List.set_cons_succ]
              refine wpAnyH_take (i := 21) (v := ?_) rfl (by kernel_rfl) (by kernel_rfl) (by kernel_rfl) (fun _ _ _ h => h) (Or.inl ⟨by rfl, ?_⟩) (by assumption) ?_
              rotate_left
              · intro w hSw; (try dsimp only at hSw); go_simp; with_reducible rfl
              try simp only [Act.put, List.getElem_toArray, List.getElem_cons_zero, List.getElem_cons_succ, List.setIfInBounds_toArray, List.set_cons_zero, List.set_cons_succ]
              refine wpAnyH_ready (rs := [22]) (by kernel_rfl) (by simp) ?_
              refine AllReadyH.cons rfl (fun K hK => ?_) AllReadyH.nil
              go_simp
              ((go_at_call 14; (with_reducible refine (HSP.out _ HBD.out).mono ?_); rintro e w2 ⟨rfl, hb1⟩))
              refine hK.out _ _ ?_ (fun hHeld => ?_)
              · (rw [hb1.cell (p := ⟨b, o + k * 7, none⟩) (by simp; omega), hb1.cell (p := ⟨b, o + k * 7 + 1, none⟩) (by simp; omega), hb1.cell (p := ⟨b, o + k * 7 + 2, none⟩) (by simp; omega), hb1.cell (p := ⟨b, o + k * 7 + 3, none⟩) (by simp; omega), hb1.cell (p := ⟨b, o + k * 7 + 4, none⟩) (by simp; omega), hb1.cell (p := ⟨b, o + k * 7 + 5, none⟩) (by simp; omega), hb1.cell (p := ⟨b, o + k * 7 + 6, none⟩) (by simp; omega), hb1.cell (p := ⟨b2, o2 + k * 7, none⟩) (by simp; omega), hb1.cell (p := ⟨b2, o2 + k * 7 + 1, none⟩) (by simp; omega), hb1.cell (p := ⟨b2, o2 + k * 7 + 2, none⟩) (by simp; omega), hb1.cell (p := ⟨b2, o2 + k * 7 + 3, none⟩) (by simp; omega), hb1.cell (p := ⟨b2, o2 + k * 7 + 4, none⟩) (by simp; omega), hb1.cell (p := ⟨b2, o2 + k * 7 + 5, none⟩) (by simp; omega), hb1.cell (p := ⟨b2, o2 + k * 7 + 6, none⟩) (by simp; omega)]; first | assumption | exact ⟨d0, d1, d2, d3, d4, d5, d6, q0, q1, q2, q3, q4, q5, q6⟩)
              clear hK K
              try simp only [Act.put, List.getElem_toArray, List.getElem_cons_zero, List.getElem_cons_succ, List.setIfInBounds_toArray, List.set_cons_zero, List.set_cons_succ]
              refine wpAnyH_take (i := 23) (v := ?_) rfl (by kernel_rfl) (by kernel_rfl) (by kernel_rfl) (fun _ _ _ h => h) (Or.inl ⟨by rfl, ?_⟩) (by assumption) ?_
              rotate_left
              · intro w hSw; (try dsimp only at hSw); go_simp; with_reducible rfl
              try simp only [Act.put, List.getElem_toArray, List.getElem_cons_zero, List.getElem_cons_succ, List.setIfInBounds_toArray, List.set_cons_zero, List.set_cons_succ]
              refine wpAnyH_take (i := 24) (v := ?_) rfl (by kernel_rfl) (by kernel_rfl) (by kernel_rfl) (fun _ _ _ h => h) (Or.inl ⟨by rfl, ?_⟩) (by assumption) ?_
              rotate_left
              · intro w hSw; (try dsimp only at hSw); go_simp; with_reducible rfl
              try simp only [Act.put, List.getElem_toArray, List.getElem_cons_zero, List.getElem_cons_succ, List.setIfInBounds_toArray, List.set_cons_zero, List.set_cons_succ]
              refine wpAnyH_done (by kernel_rfl) ?_ _
              have HB2 := Lib.hid (belS (bel_dr8 HB.out) hb1)
              go_wp2_with fail
              exact ⟨⟨k + 1, by omega, by go_num, HN.out, HB2.out⟩, by simp [intOf]; omega⟩
      · have HN := Lib.hid (show x = y from by
          have h := HT.out
          rw [List.take_of_length_le (by omega), List.take_of_length_le (by have := HE.out; omega)] at h
          exact h)
        have hkl : ¬ (k : Int) < (x.length : Int) := by omega
        go_wp2_with fail
        go_ret
        exact ⟨ret_bool (by simp [HN.out]), HB.out⟩
  · have hbn : ((x.length : Int) != y.length) = true := by rw [bne_iff_ne]; omega
    have HN := Lib.hid (show ¬ x = y from fun e => he (by rw [e]))
    clear he
    go_enter Try.func10, Try.ntmps10
    go_wp2_with fail
    go_ret
    exact ⟨ret_bool (by simp [HN.out]), Below.refl _ _⟩
end Go.Proofs.Ytlkpinlkbikokae
/- Arguments opened: parts. -/
namespace Go.Proofs.Ytlkpinlkbikokae
set_option linter.unusedVariables false
open Go.ChangeShapes Go.WideShapes Go.ChangeAt Go.RowKit Go.WideMaps Go.WideElems
open Go.Deep
theorem belPart {w w' : World} {cs : List Value} {x : PartD} {F B : Nat} (h : rPart F w cs x) (hb : Below B w w') (hB : w.heap.size ≤ B) : rPart F w' cs x := goodPart.keep h (kept_below hb hB)
theorem six_of {α : Type} {l : List α} (h : l.length = 6) : ∃ a b c d e f, l = [a, b, c, d, e, f] := by match l, h with | [a, b, c, d, e, f], _ => exact ⟨a, b, c, d, e, f, rfl⟩
section
variable {H : Type} {enc : TypeId × Value → H} {W : World}
set_option maxRecDepth 100000 in
theorem openR_Part {n : Nat} {cs : List Value} {x : DataW H × List MemPlace} (h : DataW.trod enc Try.prog W 0 (fun _ => true) true n 36 cs = some x) : ∃ d : PartD, rPart 0 W cs d ∧ okPart d := by
  obtain ⟨xs, m, rfl, _, hl, hn, hf⟩ := DataW.trod_struct Try.underlying36 h
  rw [show Try.prog.cellsOf 36 = 6 by kernel_rfl] at hl
  obtain ⟨c0, c1, c2, c3, c4, c5, rfl⟩ := six_of hl
  obtain ⟨y0, k0⟩ := field_at hn hf 0 _ rfl
  have k0 : DataW.trod enc Try.prog W 0 (fun _ => true) true m 33 [c0, c1, c2, c3, c4] = some y0 := by
    have e : Try.prog.cellsOf 33 = 5 := by kernel_rfl
    simpa [e] using k0
  obtain ⟨y1, k1⟩ := field_one hn hf 1 _ 34 5 _ _ rfl rfl rfl (by kernel_rfl) rfl
  obtain ⟨d, cv, e0, b0, g0⟩ := open_Core k0
  obtain ⟨l1, b1, g1⟩ := openS_Layer k1
  injection e0 with e0 e1
  injection e1 with e1 e2
  injection e2 with e2 e3
  injection e3 with e3 e4
  injection e4 with e4 _
  subst e0 e1 e2 e3 e4
  exact ⟨⟨d, l1⟩, ⟨c3, c5, rfl, sliceAt_of_flat cCell_len b0, sliceAt_of_flat cLayer_len b1⟩, g0, g1⟩
set_option maxRecDepth 100000 in
theorem arg_Part {base : Nat} {v : Value} {d : DataW H} {p : List MemPlace} (hval : Value.okWide Try.prog W .any base 36 v) (h : DataW.Trod enc Try.prog W 0 (fun _ => true) true 36 v d p) : ∃ d : PartD, ValAt rPart 0 W v d ∧ okPart d := by
  obtain ⟨cs, rfl, _⟩ := okWide_struct Try.underlying36 hval
  obtain ⟨fuel, hf⟩ := h
  obtain ⟨d, h1, h2⟩ := openR_Part hf
  exact ⟨d, ⟨cs.toList, by simp, h1⟩, h2⟩
end
end Go.Proofs.Ytlkpinlkbikokae
/- Arguments opened: slices of slots. -/
namespace Go.Proofs.Ytlkpinlkbikokae
set_option linter.unusedVariables false
open Go.ChangeShapes Go.WideShapes Go.ChangeAt Go.RowKit Go.WideMaps Go.WideElems
open Go.Deep
theorem belSlot {w w' : World} {cs : List Value} {x : SlotD} {F B : Nat} (h : rSlot F w cs x) (hb : Below B w w') (hB : w.heap.size ≤ B) : rSlot F w' cs x := goodSlot.keep h (kept_below hb hB)
theorem belSlotS {w w' : World} {v : Value} {l : List SlotD} {F B : Nat} (h : SliceAt rSlot 7 F w v l) (hb : Below B w w') (hB : w.heap.size ≤ B) : SliceAt rSlot 7 F w' v l := h.below goodSlot hb hB
theorem zeroSlotS {w : World} {v : Value} {l : List SlotD} {F : Nat} (h : SliceAt rSlot 7 F w v l) : SliceAt rSlot 7 0 w v l := h.mono goodSlot (Nat.zero_le _)
theorem slot_seven {α : Type} {l : List α} (h : l.length = 7) : ∃ a b c d e f g, l = [a, b, c, d, e, f, g] := by match l, h with | [a, b, c, d, e, f, g], _ => exact ⟨a, b, c, d, e, f, g, rfl⟩
section
variable {H : Type} {enc : TypeId × Value → H} {W : World}
set_option maxRecDepth 100000 in
theorem openR_Slot {n : Nat} {cs : List Value} {x : DataW H × List MemPlace} (h : DataW.trod enc Try.prog W 0 (fun _ => true) true n 38 cs = some x) : ∃ d : SlotD, rSlot 0 W cs d ∧ okSlot d := by
  obtain ⟨xs, m, rfl, _, hl, hn, hf⟩ := DataW.trod_struct Try.underlying38 h
  rw [show Try.prog.cellsOf 38 = 7 by kernel_rfl] at hl
  obtain ⟨c0, c1, c2, c3, c4, c5, c6, rfl⟩ := slot_seven hl
  obtain ⟨y0, k0⟩ := field_one hn hf 0 _ 4 0 _ _ rfl rfl rfl (by kernel_rfl) rfl
  obtain ⟨y1, k1⟩ := field_at hn hf 1 _ rfl
  have k1 : DataW.trod enc Try.prog W 0 (fun _ => true) true m 36 [c1, c2, c3, c4, c5, c6] = some y1 := by
    have e : Try.prog.cellsOf 36 = 6 := by kernel_rfl
    simpa [e] using k1
  obtain ⟨b, rfl⟩ := leaf_bool Try.underlying4 k0
  obtain ⟨p, ⟨v3, v5, e1, b3, b5⟩, g1⟩ := openR_Part k1
  injection e1 with e1 e2
  injection e2 with e2 e3
  injection e3 with e3 e4
  injection e4 with e4 e5
  injection e5 with e5 e6
  injection e6 with e6 _
  subst e1 e2 e3 e4 e5 e6
  exact ⟨⟨b, p⟩, ⟨_, _, rfl, b3, b5⟩, trivial, g1⟩
set_option maxRecDepth 100000 in
theorem argS_Slot {base : Nat} {v : Value} {d : DataW H} {p : List MemPlace} (hval : Value.okWide Try.prog W .any base 22 v) (h : DataW.Trod enc Try.prog W 0 (fun _ => true) true 22 v d p) : ∃ l : List SlotD, SliceAt rSlot 7 0 W v l ∧ ∀ d ∈ l, okSlot d := by
  obtain ⟨a1, len, cap, rfl⟩ := okWide_slice Try.underlying22 hval
  obtain ⟨fuel, hf⟩ := h
  haveI : Inhabited SlotD := ⟨⟨false, ⟨⟨[], false, false, [], 0⟩, []⟩⟩⟩
  exact open_deep goodSlot (by decide) Try.underlying22 (by kernel_rfl) (fun _ _ _ h => openR_Slot h) hf
end
end Go.Proofs.Ytlkpinlkbikokae
namespace Go.Proofs.Ytlkpinlkbikokae
set_option linter.unusedVariables false
open Go.ChangeShapes Go.WideShapes Go.ChangeAt Go.RowKit Go.WideMaps Go.WideElems
open Go.ChangeMaps (open_string shut_string)
set_option maxRecDepth 100000 in
set_option maxHeartbeats 3200000 in
theorem exactSameSlots_any (v0 : Value) (x0 : List SlotD) (v1 : Value) (x1 : List SlotD) (w : World) (a0 : SliceAt rSlot 7 0 w v0 x0) (g0 : ∀ d ∈ x0, okSlot d) (a1 : SliceAt rSlot 7 0 w v1 x1) (g1 : ∀ d ∈ x1, okSlot d) :
    Calls Try.prog 4 #[v0, v1] w fun e w' => e = .returned (.bool true) ∧ Below w.heap.size w w' := by
  have A0 := Lib.hid a0
  have G0 := Lib.hid g0
  clear a0 g0
  have A1 := Lib.hid a1
  have G1 := Lib.hid g1
  clear a1 g1
  go_enter Try.func4, Try.ntmps4
  go_wp2_with fail
  refine (szSlotS_d v0 x0 1048576 _ (belSlotS A0.out (by repeat (first | exact Below.refl _ _ | refine Below.alloc ?_ (by simp; try omega) _ | refine Below.setCell ?_ (by simp; try omega) _ | refine belN ?_ _ | refine belD ?_)) (Nat.le_refl _)) G0.out (by omega) (by omega)).mono ?_
  rintro e w1 ⟨r0, rfl, hr0a, hr0b, hb0⟩
  have hb := below_step (w := w) (by repeat (first | exact Below.refl _ _ | refine Below.alloc ?_ (by simp; try omega) _ | refine Below.setCell ?_ (by simp; try omega) _ | refine belN ?_ _ | refine belD ?_)) hb0
  have Cw_w1 := Lib.hid hb
  have A0_w1 := Lib.hid (belSlotS A0.out hb (Nat.le_refl _))
  have A1_w1 := Lib.hid (belSlotS A1.out hb (Nat.le_refl _))
  clear hb hb0
  by_cases hr0 : r0 < 0
  · clear hr0b
    go_wp2_with fail
    go_ret
    exact ⟨rfl, below_to Cw_w1.out (by repeat (first | exact Below.refl _ _ | refine Below.alloc ?_ (by simp; try omega) _ | refine Below.setCell ?_ (by simp; try omega) _ | refine belN ?_ _ | refine belD ?_))⟩
  · have hs0 := hr0b (by omega)
    clear hr0b
    go_wp2_with fail
    refine (szSlotS_d v1 x1 r0 _ (belSlotS A1_w1.out (by repeat (first | exact Below.refl _ _ | refine Below.alloc ?_ (by simp; try omega) _ | refine Below.setCell ?_ (by simp; try omega) _ | refine belN ?_ _ | refine belD ?_)) (Nat.le_refl _)) G1.out (by omega) (by omega)).mono ?_
    rintro e w2 ⟨r1, rfl, hr1a, hr1b, hb0⟩
    have hb := below_step (w := w1) (by repeat (first | exact Below.refl _ _ | refine Below.alloc ?_ (by simp; try omega) _ | refine Below.setCell ?_ (by simp; try omega) _ | refine belN ?_ _ | refine belD ?_)) hb0
    have Cw_w2 := Lib.hid (Cw_w1.out.trans (hb.mono Cw_w1.out.size))
    have A0_w2 := Lib.hid (belSlotS A0_w1.out hb (Nat.le_refl _))
    have A1_w2 := Lib.hid (belSlotS A1_w1.out hb (Nat.le_refl _))
    clear hb hb0
    by_cases hr1 : r1 < 0
    · clear hr1b
      go_wp2_with fail
      go_ret
      exact ⟨rfl, below_to Cw_w2.out (by repeat (first | exact Below.refl _ _ | refine Below.alloc ?_ (by simp; try omega) _ | refine Below.setCell ?_ (by simp; try omega) _ | refine belN ?_ _ | refine belD ?_))⟩
    · have hs1 := hr1b (by omega)
      clear hr1b
      have HSZ := Lib.hid (show (x0.length + sumF zSlot x0) + (x1.length + sumF zSlot x1) ≤ 1048576 by push_cast; omega)
      clear hs0 hs1
      have HSM0 := Lib.hid (show x0.length ≤ 1048576 by have h := HSZ.out; omega)
      have HSM1 := Lib.hid (show x1.length ≤ 1048576 by have h := HSZ.out; omega)
      have HSP := Lib.hid (fun v u w1 (h : SliceAt rSlot 7 0 w1 v x0) (h2 : SliceAt rSlot 7 0 w1 u x1) => specSameSlots_any v u x0 x1 w1 h h2)
      have HIM := Lib.hid (fun v u w1 (h : SliceAt rSlot 7 0 w1 v x0) (h2 : SliceAt rSlot 7 0 w1 u x1) => implSameSlots_any v u x0 x1 w1 h h2)
      generalize decide (x0 = x1) = f at *
      go_wp2_with fail
      refine (toSlotS_d v0 x0 _ (belSlotS A0_w2.out (by repeat (first | exact Below.refl _ _ | refine Below.alloc ?_ (by simp; try omega) _ | refine Below.setCell ?_ (by simp; try omega) _ | refine belN ?_ _ | refine belD ?_)) (Nat.le_refl _)) (by have := HSZ.out; omega)).mono ?_
      rintro e w3 ⟨u1, rfl, ho, hb0⟩
      have hb := below_step (w := w2) (by repeat (first | exact Below.refl _ _ | refine Below.alloc ?_ (by simp; try omega) _ | refine Below.setCell ?_ (by simp; try omega) _ | refine belN ?_ _ | refine belD ?_)) hb0
      have Cw_w3 := Lib.hid (Cw_w2.out.trans (hb.mono Cw_w2.out.size))
      have A0_w3 := Lib.hid (belSlotS A0_w2.out hb (Nat.le_refl _))
      have A1_w3 := Lib.hid (belSlotS A1_w2.out hb (Nat.le_refl _))
      have S1 := Lib.hid (zeroSlotS ho)
      clear ho
      clear hb hb0
      go_wp2_with fail
      refine (toSlotS_d v1 x1 _ (belSlotS A1_w3.out (by repeat (first | exact Below.refl _ _ | refine Below.alloc ?_ (by simp; try omega) _ | refine Below.setCell ?_ (by simp; try omega) _ | refine belN ?_ _ | refine belD ?_)) (Nat.le_refl _)) (by have := HSZ.out; omega)).mono ?_
      rintro e w4 ⟨u2, rfl, ho, hb0⟩
      have hb := below_step (w := w3) (by repeat (first | exact Below.refl _ _ | refine Below.alloc ?_ (by simp; try omega) _ | refine Below.setCell ?_ (by simp; try omega) _ | refine belN ?_ _ | refine belD ?_)) hb0
      have Cw_w4 := Lib.hid (Cw_w3.out.trans (hb.mono Cw_w3.out.size))
      have A0_w4 := Lib.hid (belSlotS A0_w3.out hb (Nat.le_refl _))
      have A1_w4 := Lib.hid (belSlotS A1_w3.out hb (Nat.le_refl _))
      have S1_w4 := Lib.hid (belSlotS S1.out hb (Nat.le_refl _))
      have S2 := Lib.hid (zeroSlotS ho)
      clear ho
      clear hb hb0
      go_wp2_with fail
      refine (HSP.out u1 u2 _ (belSlotS S1_w4.out (by repeat (first | exact Below.refl _ _ | refine Below.alloc ?_ (by simp; try omega) _ | refine Below.setCell ?_ (by simp; try omega) _ | refine belN ?_ _ | refine belD ?_)) (Nat.le_refl _)) (belSlotS S2.out (by repeat (first | exact Below.refl _ _ | refine Below.alloc ?_ (by simp; try omega) _ | refine Below.setCell ?_ (by simp; try omega) _ | refine belN ?_ _ | refine belD ?_)) (Nat.le_refl _))).mono ?_
      rintro e w5 ⟨rfl, hb0⟩
      have hb := below_step (w := w4) (by repeat (first | exact Below.refl _ _ | refine Below.alloc ?_ (by simp; try omega) _ | refine Below.setCell ?_ (by simp; try omega) _ | refine belN ?_ _ | refine belD ?_)) hb0
      have Cw_w5 := Lib.hid (Cw_w4.out.trans (hb.mono Cw_w4.out.size))
      have A0_w5 := Lib.hid (belSlotS A0_w4.out hb (Nat.le_refl _))
      have A1_w5 := Lib.hid (belSlotS A1_w4.out hb (Nat.le_refl _))
      have S1_w5 := Lib.hid (belSlotS S1_w4.out hb (Nat.le_refl _))
      have S2_w5 := Lib.hid (belSlotS S2.out hb (Nat.le_refl _))
      clear hb hb0
      go_wp2_with fail
      refine (toSlotS_d v0 x0 _ (belSlotS A0_w5.out (by repeat (first | exact Below.refl _ _ | refine Below.alloc ?_ (by simp; try omega) _ | refine Below.setCell ?_ (by simp; try omega) _ | refine belN ?_ _ | refine belD ?_)) (Nat.le_refl _)) (by have := HSZ.out; omega)).mono ?_
      rintro e w6 ⟨u3, rfl, ho, hb0⟩
      have hb := below_step (w := w5) (by repeat (first | exact Below.refl _ _ | refine Below.alloc ?_ (by simp; try omega) _ | refine Below.setCell ?_ (by simp; try omega) _ | refine belN ?_ _ | refine belD ?_)) hb0
      have Cw_w6 := Lib.hid (Cw_w5.out.trans (hb.mono Cw_w5.out.size))
      have A0_w6 := Lib.hid (belSlotS A0_w5.out hb (Nat.le_refl _))
      have A1_w6 := Lib.hid (belSlotS A1_w5.out hb (Nat.le_refl _))
      have X3 := Lib.hid (zeroSlotS ho)
      clear ho
      clear hb hb0
      go_wp2_with fail
      refine (toSlotS_d v1 x1 _ (belSlotS A1_w6.out (by repeat (first | exact Below.refl _ _ | refine Below.alloc ?_ (by simp; try omega) _ | refine Below.setCell ?_ (by simp; try omega) _ | refine belN ?_ _ | refine belD ?_)) (Nat.le_refl _)) (by have := HSZ.out; omega)).mono ?_
      rintro e w7 ⟨u4, rfl, ho, hb0⟩
      have hb := below_step (w := w6) (by repeat (first | exact Below.refl _ _ | refine Below.alloc ?_ (by simp; try omega) _ | refine Below.setCell ?_ (by simp; try omega) _ | refine belN ?_ _ | refine belD ?_)) hb0
      have Cw_w7 := Lib.hid (Cw_w6.out.trans (hb.mono Cw_w6.out.size))
      have A0_w7 := Lib.hid (belSlotS A0_w6.out hb (Nat.le_refl _))
      have A1_w7 := Lib.hid (belSlotS A1_w6.out hb (Nat.le_refl _))
      have X3_w7 := Lib.hid (belSlotS X3.out hb (Nat.le_refl _))
      have X4 := Lib.hid (zeroSlotS ho)
      clear ho
      clear hb hb0
      go_wp2_with fail
      refine (HIM.out u3 u4 _ (belSlotS X3_w7.out (by repeat (first | exact Below.refl _ _ | refine Below.alloc ?_ (by simp; try omega) _ | refine Below.setCell ?_ (by simp; try omega) _ | refine belN ?_ _ | refine belD ?_)) (Nat.le_refl _)) (belSlotS X4.out (by repeat (first | exact Below.refl _ _ | refine Below.alloc ?_ (by simp; try omega) _ | refine Below.setCell ?_ (by simp; try omega) _ | refine belN ?_ _ | refine belD ?_)) (Nat.le_refl _))).mono ?_
      rintro e w8 ⟨rfl, hb0⟩
      have hb := below_step (w := w7) (by repeat (first | exact Below.refl _ _ | refine Below.alloc ?_ (by simp; try omega) _ | refine Below.setCell ?_ (by simp; try omega) _ | refine belN ?_ _ | refine belD ?_)) hb0
      have Cw_w8 := Lib.hid (Cw_w7.out.trans (hb.mono Cw_w7.out.size))
      have A0_w8 := Lib.hid (belSlotS A0_w7.out hb (Nat.le_refl _))
      have A1_w8 := Lib.hid (belSlotS A1_w7.out hb (Nat.le_refl _))
      have X3_w8 := Lib.hid (belSlotS X3_w7.out hb (Nat.le_refl _))
      have X4_w8 := Lib.hid (belSlotS X4.out hb (Nat.le_refl _))
      clear hb hb0
      go_wp2_with fail
      refine (toSlotS_d v0 x0 _ (belSlotS A0_w8.out (by repeat (first | exact Below.refl _ _ | refine Below.alloc ?_ (by simp; try omega) _ | refine Below.setCell ?_ (by simp; try omega) _ | refine belN ?_ _ | refine belD ?_)) (Nat.le_refl _)) (by have := HSZ.out; omega)).mono ?_
      rintro e w9 ⟨u5, rfl, ho, hb0⟩
      have hb := below_step (w := w8) (by repeat (first | exact Below.refl _ _ | refine Below.alloc ?_ (by simp; try omega) _ | refine Below.setCell ?_ (by simp; try omega) _ | refine belN ?_ _ | refine belD ?_)) hb0
      have Cw_w9 := Lib.hid (Cw_w8.out.trans (hb.mono Cw_w8.out.size))
      have A0_w9 := Lib.hid (belSlotS A0_w8.out hb (Nat.le_refl _))
      have A1_w9 := Lib.hid (belSlotS A1_w8.out hb (Nat.le_refl _))
      have X3_w9 := Lib.hid (belSlotS X3_w8.out hb (Nat.le_refl _))
      have X4_w9 := Lib.hid (belSlotS X4_w8.out hb (Nat.le_refl _))
      have Z5 := Lib.hid (zeroSlotS ho)
      clear ho
      clear hb hb0
      go_wp2_with fail
      refine (eqSlotS_d u3 u5 x0 x0 _ (belSlotS X3_w9.out (by repeat (first | exact Below.refl _ _ | refine Below.alloc ?_ (by simp; try omega) _ | refine Below.setCell ?_ (by simp; try omega) _ | refine belN ?_ _ | refine belD ?_)) (Nat.le_refl _)) (belSlotS Z5.out (by repeat (first | exact Below.refl _ _ | refine Below.alloc ?_ (by simp; try omega) _ | refine Below.setCell ?_ (by simp; try omega) _ | refine belN ?_ _ | refine belD ?_)) (Nat.le_refl _))).mono ?_
      rintro e w10 ⟨rfl, hb0⟩
      have hb := below_step (w := w9) (by repeat (first | exact Below.refl _ _ | refine Below.alloc ?_ (by simp; try omega) _ | refine Below.setCell ?_ (by simp; try omega) _ | refine belN ?_ _ | refine belD ?_)) hb0
      have Cw_w10 := Lib.hid (Cw_w9.out.trans (hb.mono Cw_w9.out.size))
      have A0_w10 := Lib.hid (belSlotS A0_w9.out hb (Nat.le_refl _))
      have A1_w10 := Lib.hid (belSlotS A1_w9.out hb (Nat.le_refl _))
      have X3_w10 := Lib.hid (belSlotS X3_w9.out hb (Nat.le_refl _))
      have X4_w10 := Lib.hid (belSlotS X4_w9.out hb (Nat.le_refl _))
      have Z5_w10 := Lib.hid (belSlotS Z5.out hb (Nat.le_refl _))
      rw [show decide (x0 = x0) = true by simp]
      clear hb hb0
      go_wp2_with fail
      refine (toSlotS_d v1 x1 _ (belSlotS A1_w10.out (by repeat (first | exact Below.refl _ _ | refine Below.alloc ?_ (by simp; try omega) _ | refine Below.setCell ?_ (by simp; try omega) _ | refine belN ?_ _ | refine belD ?_)) (Nat.le_refl _)) (by have := HSZ.out; omega)).mono ?_
      rintro e w11 ⟨u6, rfl, ho, hb0⟩
      have hb := below_step (w := w10) (by repeat (first | exact Below.refl _ _ | refine Below.alloc ?_ (by simp; try omega) _ | refine Below.setCell ?_ (by simp; try omega) _ | refine belN ?_ _ | refine belD ?_)) hb0
      have Cw_w11 := Lib.hid (Cw_w10.out.trans (hb.mono Cw_w10.out.size))
      have A0_w11 := Lib.hid (belSlotS A0_w10.out hb (Nat.le_refl _))
      have A1_w11 := Lib.hid (belSlotS A1_w10.out hb (Nat.le_refl _))
      have X3_w11 := Lib.hid (belSlotS X3_w10.out hb (Nat.le_refl _))
      have X4_w11 := Lib.hid (belSlotS X4_w10.out hb (Nat.le_refl _))
      have Z6 := Lib.hid (zeroSlotS ho)
      clear ho
      clear hb hb0
      go_wp2_with fail
      refine (eqSlotS_d u4 u6 x1 x1 _ (belSlotS X4_w11.out (by repeat (first | exact Below.refl _ _ | refine Below.alloc ?_ (by simp; try omega) _ | refine Below.setCell ?_ (by simp; try omega) _ | refine belN ?_ _ | refine belD ?_)) (Nat.le_refl _)) (belSlotS Z6.out (by repeat (first | exact Below.refl _ _ | refine Below.alloc ?_ (by simp; try omega) _ | refine Below.setCell ?_ (by simp; try omega) _ | refine belN ?_ _ | refine belD ?_)) (Nat.le_refl _))).mono ?_
      rintro e w12 ⟨rfl, hb0⟩
      have hb := below_step (w := w11) (by repeat (first | exact Below.refl _ _ | refine Below.alloc ?_ (by simp; try omega) _ | refine Below.setCell ?_ (by simp; try omega) _ | refine belN ?_ _ | refine belD ?_)) hb0
      have Cw_w12 := Lib.hid (Cw_w11.out.trans (hb.mono Cw_w11.out.size))
      have A0_w12 := Lib.hid (belSlotS A0_w11.out hb (Nat.le_refl _))
      have A1_w12 := Lib.hid (belSlotS A1_w11.out hb (Nat.le_refl _))
      have X3_w12 := Lib.hid (belSlotS X3_w11.out hb (Nat.le_refl _))
      have X4_w12 := Lib.hid (belSlotS X4_w11.out hb (Nat.le_refl _))
      have Z6_w12 := Lib.hid (belSlotS Z6.out hb (Nat.le_refl _))
      rw [show decide (x1 = x1) = true by simp]
      clear hb hb0
      go_wp2_with fail
      go_ret
      exact ⟨rfl, below_to Cw_w12.out (by repeat (first | exact Below.refl _ _ | refine Below.alloc ?_ (by simp; try omega) _ | refine Below.setCell ?_ (by simp; try omega) _ | refine belN ?_ _ | refine belD ?_))⟩
set_option maxRecDepth 100000 in
theorem fnExactSameSlots_lifted (os : Os) (started : os.Started) (H : Type) (enc : TypeId × Value → H) :
    ReturnsInHanded {} Try.checked os 4 .any (Rows.fnExactSameSlotsSpec.pre6 enc Try.prog Try.f4 Rows.fnExactSameSlotsRow.domain false) (Rows.fnExactSameSlotsSpec.post enc Try.prog Try.f4 false true false false) := by
  refine returnsInHanded_of_change (C := Try.checked) ownK started (by kernel_rfl) Try.func4
    (ChangeSpec.witness6 (enc := enc) (C := Try.checked) false ⟨#[], #[.slice none 0 0, .slice none 0 0], []⟩ 8 (by kernel_rfl) (by kernel_rfl) (by kernel_rfl) (by kernel_rfl)) ?_
  intro W base args ds gs before hval0 hW _ _
  have hval : ∀ (j : Nat) t v, Try.f4.params[j]? = some t → args[j]? = some v → Value.okWide Try.prog W .any base t v := hval0
  have hW' := hW
  obtain ⟨p, q, hA0, _, rfl, _, _⟩ := hW
  have hA : DataW.TrodAll enc Try.prog W 0 (fun _ => true) true Try.f4.params.toList args.toList ds p := hA0
  rw [Try.params4] at hA hval
  obtain ⟨v0, vs0, d0, ds0, p0, q0, hargs, rfl, rfl, h0, r0⟩ := trodAll_cons hA
  obtain ⟨v1, vs1, d1, ds1, p1, q1, rfl, rfl, rfl, h1, r1⟩ := trodAll_cons r0
  obtain ⟨rfl, rfl, rfl⟩ := trodAll_nil r1
  obtain rfl : args = #[v0, v1] := by cases args; simp_all
  obtain ⟨l0, w0, z0⟩ := argS_Slot (hval 0 22 v0 rfl rfl) h0
  obtain ⟨l1, w1, z1⟩ := argS_Slot (hval 1 22 v1 rfl rfl) h1
  clear hA0 hval0
  refine (exactSameSlots_any v0 l0 v1 l1 W w0 z0 w1 z1).mono fun e W1 ⟨he, hb⟩ => ?_
  subst he
  exact ⟨_, rfl, law_post laidK rfl (by kernel_rfl) Try.underlying4 (by kernel_rfl) (fun ds h => by match ds, h with | [_, _], _ => rfl) hW' hb⟩
theorem fnExactSameSlots_closed : joinedFacts Try.prog 4 Try.f4 Rows.fnExactSameSlotsSpec Rows.fnExactSameSlotsRow = true := by unfold joinedFacts; rw [mayEnter_k, liftsFinal_k, make_k]; kernel_rfl
theorem fnExactSameSlots_holds : Rows.FnExactSameSlotsSaid :=
  OpenClaim.holds_of_wide 4 Try.f4 rfl rfl rfl rfl rfl rfl rfl ⟨rfl, rfl, rfl, rfl, rfl⟩ rfl rfl rfl rfl rfl (by kernel_rfl) Try.func4 fnExactSameSlots_closed
    (of_decide_eq_true (by kernel_rfl)) (by unfold Func.isWrapper; first | (rw [if_pos (by decide +kernel)]; kernel_rfl) | (rw [if_neg (by decide +kernel)]; exact ⟨rfl, rfl⟩))
    (fun os started H enc _ => fnExactSameSlots_lifted os started H enc)
end Go.Proofs.Ytlkpinlkbikokae
