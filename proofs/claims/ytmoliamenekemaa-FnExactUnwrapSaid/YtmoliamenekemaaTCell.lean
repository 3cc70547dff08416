/- Cell: what the laws' own helpers do with it. Written by gen/flat.py. -/
import Derived.Test.YtmoliamenekemaaFlat
import Derived.StillTailTactics
namespace Go.Proofs.Ytmoliamenekemaa
set_option linter.unusedVariables false
open Go.RowKit
structure CellD where
  fKey : List UInt8
  fValue : Int
deriving DecidableEq
def okCell (d : CellD) : Prop := (d.fKey.length ≤ maxLen) ∧ (-9223372036854775808 ≤ d.fValue ∧ d.fValue ≤ 9223372036854775807)
def vCell (d : CellD) : Value := .agg #[.string ⟨d.fKey.toArray⟩, .int .i64 d.fValue]
def cCell (d : CellD) : List Value := [.string ⟨d.fKey.toArray⟩, .int .i64 d.fValue]
theorem cCell_len (d : CellD) : (cCell d).length = 2 := rfl
theorem cCell_one (d : CellD) : ∀ u ∈ cCell d, u.oneCell' = true := by intro u hu; simp only [cCell, List.mem_cons, List.not_mem_nil, or_false] at hu; rcases hu with rfl | rfl <;> rfl
set_option maxHeartbeats 800000 in
theorem eqCell_any (x y : CellD) (w : World) :
    Calls Try.prog 95 #[vCell x, vCell y] w fun e w' => e = .returned (.bool (decide (x = y))) ∧ Below w.heap.size w w' := by
  obtain ⟨a0, a1⟩ := x
  obtain ⟨b0, b1⟩ := y
  unfold vCell
  by_cases h0 : a0 = b0
  · by_cases h1 : a1 = b1
    · have HN := Lib.hid (show decide ((⟨a0, a1⟩ : CellD) = (⟨b0, b1⟩ : CellD)) = true by rw [h0, h1]; simp)
      subst h0 h1
      go_enter Try.func95, Try.ntmps95
      go_wp2
      go_ret
      exact ⟨ret_bool HN.out.symm, ((Below.refl _ _).alloc (Nat.le_refl _) _).alloc (by simp) _⟩
    · have HN := Lib.hid (show decide ((⟨a0, a1⟩ : CellD) = (⟨b0, b1⟩ : CellD)) = false by rw [decide_eq_false_iff_not]; exact fun e => h1 (by injection e))
      have hne1 : (a1 == b1) = false := by simpa using h1
      have hnf1 : (a1 != b1) = true := by simpa using h1
      subst h0
      clear h1
      go_enter Try.func95, Try.ntmps95
      go_wp2
      go_ret
      exact ⟨ret_bool HN.out.symm, ((Below.refl _ _).alloc (Nat.le_refl _) _).alloc (by simp) _⟩
  · have HN := Lib.hid (show decide ((⟨a0, a1⟩ : CellD) = (⟨b0, b1⟩ : CellD)) = false by rw [decide_eq_false_iff_not]; exact fun e => h0 (by injection e))
    have hne0 : (a0 == b0) = false := by simpa using h0
    have hnf0 : (a0 != b0) = true := by simpa using h0
    clear h0
    go_enter Try.func95, Try.ntmps95
    go_wp2
    go_ret
    exact ⟨ret_bool HN.out.symm, ((Below.refl _ _).alloc (Nat.le_refl _) _).alloc (by simp) _⟩
set_option maxHeartbeats 800000 in
theorem toCell_any (x : CellD) (w : World) :
    Calls Try.prog 92 #[vCell x] w fun e w' => e = .returned (vCell x) ∧ Below w.heap.size w w' := by
  obtain ⟨a0, a1⟩ := x
  unfold vCell
  go_enter Try.func92, Try.ntmps92
  go_wp2
  exact bodyPost_ret (v := .agg #[.string ⟨a0.toArray⟩, .int .i64 a1]) (by simp [results, Try.results92, go_sem]) rfl ⟨rfl, ((((Below.refl _ _).alloc (Nat.le_refl _) _).alloc (by simp) _).alloc (by simp; try omega) _)⟩
set_option maxRecDepth 100000 in
set_option maxHeartbeats 1600000 in
theorem eqCellS_any (v u : Value) (x y : List CellD) (w : World) (hx : FlatAt cCell 2 w v x) (hy : FlatAt cCell 2 w u y) :
    Calls Try.prog 77 #[v, u] w fun e w' => e = .returned (.bool (decide (x = y))) ∧ Below w.heap.size w w' := by
  obtain ⟨a, c, rfl, hl⟩ := flatAt_len hx
  obtain ⟨a2, c2, rfl, hl2⟩ := flatAt_len hy
  have HX := Lib.hid hx
  have HY := Lib.hid hy
  clear hx hy
  unfold maxLen at hl hl2
  by_cases he : x.length = y.length
  · have hb : ((x.length : Int) == y.length) = true := beq_iff_eq.2 (by omega)
    have hbn : ((x.length : Int) != y.length) = false := by rw [bne_eq_false_iff_eq]; omega
    have HE := Lib.hid he
    clear he
    go_enter Try.func77, Try.ntmps77
    go_wp2
    go_loopw [5] (fun i wr => ∃ k : Nat, k ≤ x.length ∧ i = .int .i64 k ∧ x.take k = y.take k ∧ Below w.heap.size w wr) (fun i _ => x.length - (intOf i).toNat)
    case atStart => exact ⟨0, Nat.zero_le _, rfl, rfl, Below.refl _ _⟩
    case round =>
      obtain ⟨k, hk, rfl, ht, hbr⟩ := hrel
      have HT := Lib.hid ht
      have HB := Lib.hid hbr
      have HXr := Lib.hid (FlatAt.below HX.out hbr (Nat.le_refl _))
      have HYr := Lib.hid (FlatAt.below HY.out hbr (Nat.le_refl _))
      clear ht hbr
      by_cases hlt : k < x.length
      · have hky : k < y.length := by have := HE.out; omega
        obtain ⟨b, o, rfl, _, hd⟩ := flatAt_cell cCell_len HXr.out k hlt (by decide)
        obtain ⟨b2, o2, rfl, _, hd2⟩ := flatAt_cell cCell_len HYr.out k hky (by decide)
        have d0 := hd 0 (by decide)
        have d1 := hd 1 (by decide)
        have q0 := hd2 0 (by decide)
        have q1 := hd2 1 (by decide)
        clear hd hd2
        have HS := Lib.hid (take_eq_step x y HE.out k hlt HT.out)
        have HD := Lib.hid (show x[k] ≠ y[k] → ¬ x = y from fun h e => h (by subst e; rfl))
        have HC := Lib.hid (eqCell_any x[k] y[k])
        generalize x[k] = p at *
        generalize y[k] = q at *
        obtain ⟨a0, a1⟩ := p
        obtain ⟨b0, b1⟩ := q
        simp only [cCell, vCell, List.getElem?_cons_zero, List.getElem?_cons_succ, Nat.add_zero] at d0 q0 d1 q1 HC
        go_wp2
        go_still_tail 8, (by kernel_rfl)
        have HB1 := Lib.hid (show Below w.heap.size w wr.drew from ⟨HB.out.os, HB.out.tape, HB.out.output, HB.out.size, HB.out.block⟩)
        change wpList _ _ _ _ _ wr.drew
        generalize wr.drew = w1 at *
        go_wp2_with fail
        refine (HC.out _).mono ?_
        rintro e w2 ⟨rfl, hb0⟩
        have HB2 := Lib.hid (HB1.out.trans (hb0.mono HB1.out.size))
        clear hb0
        by_cases heq : (⟨a0, a1⟩ : CellD) = (⟨b0, b1⟩ : CellD)
        · have HN := Lib.hid (HS.out heq)
          rw [show decide ((⟨a0, a1⟩ : CellD) = (⟨b0, b1⟩ : CellD)) = true by simpa using heq]
          clear heq
          go_wp2_with fail
          exact ⟨⟨k + 1, by omega, by go_num, HN.out, HB2.out⟩, by simp [intOf]; omega⟩
        · have HN := Lib.hid (HD.out heq)
          rw [show decide ((⟨a0, a1⟩ : CellD) = (⟨b0, b1⟩ : CellD)) = false by rw [decide_eq_false_iff_not]; exact heq]
          clear heq
          go_wp2_with fail
          go_ret
          exact ⟨ret_bool (by simp [HN.out]), HB2.out⟩
      · have HN := Lib.hid (show x = y from by
          have h := HT.out
          rw [List.take_of_length_le (by omega), List.take_of_length_le (by have := HE.out; omega)] at h
          exact h)
        go_wp2
        go_ret
        exact ⟨ret_bool (by simp [HN.out]), HB.out⟩
  · have hb : ((x.length : Int) == y.length) = false := beq_eq_false_iff_ne.2 (by omega)
    have hbn : ((x.length : Int) != y.length) = true := by rw [bne_iff_ne]; omega
    have HN := Lib.hid (show ¬ x = y from fun e => he (by rw [e]))
    clear he
    go_enter Try.func77, Try.ntmps77
    go_wp2
    go_ret
    exact ⟨ret_bool (by simp [HN.out]), Below.refl _ _⟩
def zCell (d : CellD) : Nat := d.fKey.length
set_option maxHeartbeats 800000 in
theorem szCell_any (x : CellD) (left : Int) (w : World) (h0 : 0 ≤ left) (h1 : left ≤ 1099511627776) (hs : okCell x) :
    Calls Try.prog 90 #[vCell x, .int .i64 left] w fun e w' => SzF (zCell x) left w e w' := by
  obtain ⟨a0, a1⟩ := x
  obtain ⟨hs0, hs1⟩ := hs
  simp only [vCell, zCell] at *
  unfold maxLen at *
  have HZ0 := Lib.hid (size_strB a0)
  by_cases hn0 : left - (a0.length : Int) < 0
  · go_enter Try.func90, Try.ntmps90
    go_wp2
    go_ret
    exact ⟨-1, rfl, by omega, by omega, (Below.refl _ _).alloc (Nat.le_refl _) _⟩
  · go_enter Try.func90, Try.ntmps90
    go_wp2
    go_ret
    exact ⟨_, rfl, by omega, by push_cast; omega, (Below.refl _ _).alloc (Nat.le_refl _) _⟩
set_option maxRecDepth 100000 in
set_option maxHeartbeats 800000 in
theorem szCellS_any (v : Value) (x : List CellD) (left : Int) (w : World) (hx : FlatAt cCell 2 w v x) (hs : ∀ d ∈ x, okCell d) (h0 : 0 ≤ left) (h1 : left ≤ 1099511627776) :
    Calls Try.prog 62 #[v, .int .i64 left] w fun e w' => SzF (x.length + sumF zCell x) left w e w' := by
  obtain ⟨a, c, rfl, hl⟩ := flatAt_len hx
  have HX := Lib.hid hx
  have HS := Lib.hid hs
  clear hx hs
  unfold maxLen at hl
  by_cases hneg : left - (x.length : Int) < 0
  · go_enter Try.func62, Try.ntmps62
    go_wp2
    go_ret
    exact ⟨-1, rfl, by omega, by omega, Below.refl _ _⟩
  · go_enter Try.func62, Try.ntmps62
    go_wp2
    go_loopw [1, 5] (fun r i wr => ∃ k : Nat, ∃ z : Int, k ≤ x.length ∧ i = .int .i64 k ∧ r = .int .i64 z ∧ 0 ≤ z ∧ z ≤ left ∧ (x.length : Int) + sumF zCell (x.take k) + z = left ∧ Below w.heap.size w wr) (fun _ i _ => x.length - (intOf i).toNat)
    case atStart => exact ⟨0, _, Nat.zero_le _, rfl, rfl, by omega, by omega, by simp [sumF]; omega, Below.refl _ _⟩
    case round =>
      obtain ⟨k, z, hk, rfl, rfl, hz0, hz1, ht, hbr⟩ := hrel
      have HT := Lib.hid ht
      have HB := Lib.hid hbr
      have HXr := Lib.hid (FlatAt.below HX.out hbr (Nat.le_refl _))
      clear ht hbr
      by_cases hlt : k < x.length
      · obtain ⟨b, o, rfl, _, hd⟩ := flatAt_cell cCell_len HXr.out k hlt (by decide)
        have d0 := hd 0 (by decide)
        have d1 := hd 1 (by decide)
        clear hd
        have HC := Lib.hid (szCell_any x[k] z wr hz0 (by omega) (HS.out _ (List.getElem_mem hlt)))
        have HK := Lib.hid (sumF_take_succ zCell x k hlt)
        generalize x[k] = p at *
        have HP := Lib.hid (rfl : zCell p = zCell p)
        obtain ⟨a0, a1⟩ := p
        simp only [cCell, vCell, List.getElem?_cons_zero, List.getElem?_cons_succ, Nat.add_zero] at d0 d1 HC
        go_wp2_with fail
        refine HC.out.mono ?_
        rintro e w2 ⟨r, rfl, hr0, hr1, hb0⟩
        have HB2 := Lib.hid (HB.out.trans (hb0.mono HB.out.size))
        have HR := Lib.hid hr1
        clear hb0 hr1
        by_cases hn2 : r < 0
        · go_wp2_with fail
          go_ret
          exact ⟨-1, rfl, by omega, by omega, HB2.out⟩
        · have hr := HR.out (by omega)
          go_wp2_with fail
          exact ⟨⟨k + 1, _, by omega, by go_num, rfl, by omega, by omega, by rw [HK.out]; have := HT.out; push_cast; omega, HB2.out⟩, by simp [intOf]; omega⟩
      · have HN := Lib.hid (show x.take k = x from List.take_of_length_le (by omega))
        go_wp2
        go_ret
        exact ⟨z, rfl, by omega, fun _ => by have := HT.out; rw [HN.out] at this; omega, HB.out⟩
theorem infoCell : (Try.prog.info? 115).map (fun i => (i.zero, i.size, i.bytes)) = some (some (.agg #[.string ⟨#[]⟩, .int .i64 0]), 2, 24) := by kernel_rfl
set_option maxRecDepth 100000 in
set_option maxHeartbeats 1600000 in
theorem toCellS_any (v : Value) (x : List CellD) (w : World) (hx : FlatAt cCell 2 w v x) (hm : x.length ≤ 2097152) :
    Calls Try.prog 68 #[v] w fun e w' => e = .returned (.slice (some ⟨w.heap.size, 0, none⟩) x.length x.length) ∧ OwnsF cCell 115 2 w' w.heap.size (.slice (some ⟨w.heap.size, 0, none⟩) x.length x.length) x ∧ Below w.heap.size w w' := by
  obtain ⟨a, c, rfl, hl⟩ := flatAt_len hx
  obtain ⟨i0, hi, hz0, hz1, hz2⟩ := info_parts infoCell
  have HX := Lib.hid hx
  clear hx
  unfold maxLen at hl
  go_enter Try.func68, Try.ntmps68
  have hb2 : i0.bytes * x.length ≤ 281474976710656 := by rw [hz2]; omega
  have HB2 := Lib.hid hb2
  have HM := Lib.hid (show x.length ≤ maxLen from by unfold maxLen; omega)
  clear hb2
  go_wp2_with (refine wpList_make_full _ rfl (.tmp 6) (.tmp 6) 30 rfl w.heap.size 115 i0 _ 2 Try.underlying30 hi hz0 hz1 .i64 .i64 _ _ x.length rfl rfl rfl rfl HB2.out HM.out (Nat.le_refl _) ?_; intro w1 hown1 hgrow1)
  have HO := Lib.hid (show ∃ xs, w1.ownsRow w.heap.size 115 2 (.slice (some ⟨w.heap.size, 0, none⟩) x.length x.length) x.length xs ∧ xs.take (0 * 2) = (x.flatMap cCell).take (0 * 2) from ⟨_, hown1, by simp⟩)
  have HB := Lib.hid (show Below w.heap.size w w1 from ⟨hgrow1.os, hgrow1.tape, hgrow1.output, hgrow1.size, fun i hi => hgrow1.block i hi (by simp)⟩)
  have hsz := hgrow1.size
  clear hown1 hgrow1 hz0 hz1 hz2 HB2 hi
  go_loopw [4] (fun i wr => ∃ k : Nat, k ≤ x.length ∧ i = .int .i64 k ∧ (∃ xs, wr.ownsRow w.heap.size 115 2 (.slice (some ⟨w.heap.size, 0, none⟩) x.length x.length) x.length xs ∧ xs.take (k * 2) = (x.flatMap cCell).take (k * 2)) ∧ Below w.heap.size w wr) (fun i _ => x.length - (intOf i).toNat)
  case atStart => exact ⟨0, Nat.zero_le _, rfl, HO.out, HB.out⟩
  case round =>
    obtain ⟨k, hk, rfl, ⟨xs, hown, htake⟩, hb⟩ := hrel
    have HR := Lib.hid (FlatAt.below HX.out hb (Nat.le_refl _))
    have HBr := Lib.hid hb
    have HOw := Lib.hid hown
    have HT := Lib.hid htake
    have HXL := Lib.hid (show xs.length = x.length * 2 from hown.1)
    clear hb hown htake
    by_cases hlt : k < x.length
    · obtain ⟨b, o, rfl, _, hd⟩ := flatAt_cell cCell_len HR.out k hlt (by decide)
      have d0 := hd 0 (by decide)
      have d1 := hd 1 (by decide)
      have g0 := flat_get cCell 2 cCell_len x k hlt 0 (by decide)
      have g1 := flat_get cCell 2 cCell_len x k hlt 1 (by decide)
      clear hd
      have HC := Lib.hid (toCell_any x[k] wr)
      generalize x[k] = p at *
      obtain ⟨a0, a1⟩ := p
      simp only [cCell, vCell, List.getElem?_cons_zero, List.getElem?_cons_succ, Nat.add_zero] at d0 d1 HC g0 g1
      have G0 := Lib.hid g0
      have G1 := Lib.hid g1
      clear g0 g1
      go_wp2_with fail
      refine HC.out.mono ?_
      rintro e w2 ⟨rfl, hb0⟩
      have HB3 := Lib.hid (HBr.out.trans (hb0.mono HBr.out.size))
      have HO3 := Lib.hid (ownsRow_below HOw.out hb0 (Nat.le_refl _))
      clear hb0
      obtain ⟨u0, c0⟩ : ∃ u, w2.cell? ⟨w.heap.size, k * 2, none⟩ = some u := by
        rw [World.ownsRow.cellAt HO3.out (k * 2) (by omega), List.getElem?_eq_getElem (by have := HXL.out; omega)]
        exact ⟨_, rfl⟩
      have f0 := World.ownsRow.frozenAt HO3.out (k * 2)
      obtain ⟨u1, c1⟩ : ∃ u, w2.cell? ⟨w.heap.size, k * 2 + 1, none⟩ = some u := by
        rw [World.ownsRow.cellAt HO3.out (k * 2 + 1) (by omega), List.getElem?_eq_getElem (by have := HXL.out; omega)]
        exact ⟨_, rfl⟩
      have f1 := World.ownsRow.frozenAt HO3.out (k * 2 + 1)
      have HS0 := Lib.hid (World.ownsRow.stored HO3.out (k * 2) (.string ⟨a0.toArray⟩))
      have HT0 := Lib.hid (take_set_get _ (x.flatMap cCell) (k * 2) _ (by have := HXL.out; (try simp only [List.length_set]); omega) G0.out HT.out)
      have HS1 := Lib.hid (World.ownsRow.stored HS0.out.1 (k * 2 + 1) (.int .i64 a1))
      have HT1 := Lib.hid (take_set_get _ (x.flatMap cCell) (k * 2 + 1) _ (by have := HXL.out; (try simp only [List.length_set]); omega) G1.out HT0.out)
      go_wp2_with fail
      refine ⟨⟨k + 1, by omega, by go_num, ⟨_, HS1.out.1, by rw [show (k + 1) * 2 = k * 2 + 1 + 1 by omega]; exact HT1.out⟩, ?_⟩, by simp [intOf]; omega⟩
      exact ((HB3.out.setCell (Nat.le_refl _) _).setCell (Nat.le_refl _) _)
    · have HN := Lib.hid (show xs = x.flatMap cCell from by
        have h := HT.out
        rw [List.take_of_length_le (by have := HXL.out; omega), List.take_of_length_le (by rw [flat_len cCell 2 cCell_len]; omega)] at h
        exact h)
      go_wp2
      go_ret
      exact ⟨rfl, by have h := HOw.out; rw [HN.out] at h; exact h, HBr.out⟩
def marksCell (k : Int) (n : Nat) : List CellD := (List.range n).map fun i : Nat => ⟨markL (k + i * 2), k + i * 2 + 1⟩
theorem marksCell_len (k : Int) (n : Nat) : (marksCell k n).length = n := by simp [marksCell]
theorem marksCell_get (k : Int) (n i : Nat) (h : i < n) : (marksCell k n)[i]'(by rw [marksCell_len]; exact h) = ⟨markL (k + i * 2), k + i * 2 + 1⟩ := by simp [marksCell]
set_option maxRecDepth 100000 in
set_option maxHeartbeats 1600000 in
theorem markCellS_any (B : Nat) (v : Value) (x : List CellD) (k : Int) (w : World) (hO : OwnsF cCell 115 2 w B v x) (hm : x.length ≤ 2097152) (h0 : 1 ≤ k) (h1 : k ≤ 16777216) :
    Calls Try.prog 81 #[v, .int .i64 k] w fun e w' => e = .returned (.int .i64 (k + x.length * 2)) ∧ OwnsF cCell 115 2 w' B v (marksCell k x.length) ∧ w.grownBy w' v.ownBlock := by
  unfold OwnsF at hO
  rcases hO.2 with ⟨rfl, hn⟩ | ⟨g, cap, cur, rfl, _⟩
  · have hx : x = [] := List.eq_nil_of_length_eq_zero hn
    subst hx
    go_enter Try.func81, Try.ntmps81
    go_wp2_with fail
    refine wp_loop_rounds 1 ?_
    rw [rounds_succ]
    go_wp2_with fail
    go_ret
    exact ⟨ret_int (by simp), by simpa [OwnsF, marksCell] using hO, grownBy_refl _ _⟩
  · have HO := Lib.hid (show ∃ xs, w.ownsRow B 115 2 (.slice (some ⟨g, 0, none⟩) x.length cap) x.length xs ∧ xs.take (0 * 2) = ((marksCell k x.length).flatMap cCell).take (0 * 2) from ⟨_, hO, by simp⟩)
    have hgw : g < w.heap.size := (hO.lt g rfl).2
    clear hO
    go_enter Try.func81, Try.ntmps81
    go_wp2_with fail
    go_loopw [1, 5] (fun kv i wr => ∃ j : Nat, j ≤ x.length ∧ i = .int .i64 j ∧ kv = .int .i64 (k + j * 2) ∧ (∃ xs, wr.ownsRow B 115 2 (.slice (some ⟨g, 0, none⟩) x.length cap) x.length xs ∧ xs.take (j * 2) = ((marksCell k x.length).flatMap cCell).take (j * 2)) ∧ w.grownBy wr (some g)) (fun _ i _ => x.length - (intOf i).toNat)
    case atStart => exact ⟨0, Nat.zero_le _, rfl, by simp, HO.out, grownBy_refl _ _⟩
    case round =>
      obtain ⟨j, hj, rfl, rfl, ⟨xs, hown, htake⟩, hg⟩ := hrel
      have HG := Lib.hid hg
      have HOw := Lib.hid hown
      have HT := Lib.hid htake
      have HXL := Lib.hid (show xs.length = x.length * 2 from hown.1)
      clear hg hown htake
      by_cases hlt : j < x.length
      · have G0 := Lib.hid (flat_get cCell 2 cCell_len (marksCell k x.length) j (by rw [marksCell_len]; exact hlt) 0 (by decide))
        have G1 := Lib.hid (flat_get cCell 2 cCell_len (marksCell k x.length) j (by rw [marksCell_len]; exact hlt) 1 (by decide))
        rw [marksCell_get k _ j hlt] at G0 G1
        simp only [cCell, List.getElem?_cons_zero, List.getElem?_cons_succ, Nat.add_zero] at G0 G1
        go_wp2_with fail
        refine (markText_any (k + j * 2) _ (by omega) (by omega)).mono ?_
        rintro e w1 ⟨rfl, hb⟩
        have HO1 := Lib.hid (ownsRow_below HOw.out hb (Nat.le_refl _))
        have HG1 := Lib.hid (grownBy_below (HG.out) hb (HG.out).size)
        clear hb
        obtain ⟨u0, c0⟩ : ∃ u, w1.cell? ⟨g, j * 2, none⟩ = some u := by
          rw [World.ownsRow.cellAt HO1.out (j * 2) (by omega), List.getElem?_eq_getElem (by have := HXL.out; (try simp only [List.length_set]); omega)]
          exact ⟨_, rfl⟩
        have f0 := World.ownsRow.frozenAt HO1.out (j * 2)
        obtain ⟨u1, c1⟩ : ∃ u, w1.cell? ⟨g, j * 2 + 1, none⟩ = some u := by
          rw [World.ownsRow.cellAt HO1.out (j * 2 + 1) (by omega), List.getElem?_eq_getElem (by have := HXL.out; (try simp only [List.length_set]); omega)]
          exact ⟨_, rfl⟩
        have f1 := World.ownsRow.frozenAt HO1.out (j * 2 + 1)
        have HS0 := Lib.hid (World.ownsRow.stored HO1.out (j * 2) (.string ⟨(markL (k + j * 2)).toArray⟩))
        have HT0 := Lib.hid (take_set_get _ _ (j * 2) _ (by have := HXL.out; (try simp only [List.length_set]); omega) G0.out HT.out)
        have HS1 := Lib.hid (World.ownsRow.stored HS0.out.1 (j * 2 + 1) (.int .i64 (k + j * 2 + 1)))
        have HT1 := Lib.hid (take_set_get _ _ (j * 2 + 1) _ (by have := HXL.out; (try simp only [List.length_set]); omega) G1.out HT0.out)
        go_wp2_with fail
        refine ⟨⟨j + 1, by omega, by go_num, ?_, ⟨_, HS1.out.1, by rw [show (j + 1) * 2 = j * 2 + 1 + 1 by omega]; exact HT1.out⟩, ?_⟩, by simp [intOf]; omega⟩
        · congr 1; push_cast; omega
        · exact (grownBy_trans (grownBy_trans HG1.out HS0.out.2) HS1.out.2)
      · have HN := Lib.hid (show xs = (marksCell k x.length).flatMap cCell from by
          have h := HT.out
          rw [List.take_of_length_le (by have := HXL.out; omega), List.take_of_length_le (by rw [flat_len cCell 2 cCell_len, marksCell_len]; omega)] at h
          exact h)
        go_wp2_with fail
        go_ret
        exact ⟨ret_int (by rw [show j = x.length by omega]), by have h := HOw.out; rw [HN.out] at h; unfold OwnsF; rw [marksCell_len]; exact h, HG.out⟩
set_option maxRecDepth 100000 in
set_option maxHeartbeats 1600000 in
theorem heldCellS_any (v : Value) (n : Nat) (k : Int) (w : World) (hR : FlatAt cCell 2 w v (marksCell k n)) (hm : n ≤ 2097152) (h0 : 1 ≤ k) (h1 : k ≤ 16777216) :
    Calls Try.prog 82 #[v, .int .i64 k] w fun e w' => e = .returned (.int .i64 (k + n * 2)) ∧ Below w.heap.size w w' := by
  obtain ⟨a, c, rfl, hl⟩ := flatAt_len hR
  rw [marksCell_len] at *
  have HR := Lib.hid hR
  clear hR
  unfold maxLen at hl
  go_enter Try.func82, Try.ntmps82
  go_wp2_with fail
  go_loopw [1, 5] (fun kv i wr => ∃ j : Nat, j ≤ n ∧ i = .int .i64 j ∧ kv = .int .i64 (k + j * 2) ∧ Below w.heap.size w wr) (fun _ i _ => n - (intOf i).toNat)
  case atStart => exact ⟨0, Nat.zero_le _, rfl, by simp, Below.refl _ _⟩
  case round =>
    obtain ⟨j, hj, rfl, rfl, hb⟩ := hrel
    have HB := Lib.hid hb
    have HRr := Lib.hid (FlatAt.below HR.out hb (Nat.le_refl _))
    clear hb
    by_cases hlt : j < n
    · obtain ⟨b, o, rfl, hbw, hd⟩ := flatAt_cell cCell_len HRr.out j (by rw [marksCell_len]; exact hlt) (by decide)
      rw [marksCell_get k n j hlt] at hd
      have d0 := hd 0 (by decide)
      have d1 := hd 1 (by decide)
      clear hd
      simp only [cCell, List.getElem?_cons_zero, List.getElem?_cons_succ, Nat.add_zero] at d0 d1
      have hj0 : (0 : Int) ≤ (j : Int) := Int.natCast_nonneg _
      have hj1 : (j : Int) < (n : Int) := by omega
      have D0 := Lib.hid d0
      have D1 := Lib.hid d1
      clear d0 d1
      have HBL := Lib.hid hbw
      have d0 := D0.out
      have hbeq0 : (markL (k + j * 2) == markL (k + j * 2)) = true := by simp
      go_wp2_with fail
      go_region_held3 (fun w' => w'.cell? ⟨b, o + j * 2, none⟩ = some (.string ⟨(markL (k + j * 2)).toArray⟩))
        (first
          | go_keep
          | (rw [hb1.cell (p := ⟨b, o + j * 2, none⟩) (by simpa using hbw)]; assumption))
        ((go_at_call 55; refine (markText_any (k + j * 2) _ (by omega) (by omega)).mono ?_; rintro e w1 ⟨rfl, hb1⟩))
      have hB1 : Below wr.heap.size wr w1 := ⟨hb1.os, hb1.tape, hb1.output, hb1.size, hb1.block⟩
      have HB1 := Lib.hid (HB.out.trans (hB1.mono HB.out.size))
      have E1_1 := Lib.hid (show w1.cell? ⟨b, o + j * 2 + 1, none⟩ = some (.int .i64 (k + j * 2 + 1)) by rw [hB1.cell (p := ⟨b, o + j * 2 + 1, none⟩) hbw]; exact D1.out)
      have hbw1 : b < w1.heap.size := Nat.lt_of_lt_of_le hbw hB1.size
      clear hb1 hB1
      have hbw := hbw1
      have d1 := E1_1.out
      go_wp2_with fail
      exact ⟨⟨j + 1, by omega, by go_num, by congr 1; push_cast; omega, HB1.out⟩, by simp [intOf]; omega⟩
    · go_wp2_with fail
      go_ret
      exact ⟨ret_int (by rw [show j = n by omega]), HB.out⟩
end Go.Proofs.Ytmoliamenekemaa
