/- Need: what the laws' own helpers do with it. Written by gen/flat.py. -/
import Derived.Test.YtbofplofpggdladFlat
import Derived.Test.YtbofplofpggdladTVersion
import Derived.StillTailTactics
namespace Go.Proofs.Ytbofplofpggdlad
set_option linter.unusedVariables false
open Go.RowKit
structure NeedD where
  fFace : Int
  fFrom : List UInt8
  fMajor : Int
  fMinor : Int
deriving DecidableEq
def okNeed (d : NeedD) : Prop := (-9223372036854775808 ≤ d.fFace ∧ d.fFace ≤ 9223372036854775807) ∧ (d.fFrom.length ≤ maxLen) ∧ (-9223372036854775808 ≤ d.fMajor ∧ d.fMajor ≤ 9223372036854775807) ∧ (-9223372036854775808 ≤ d.fMinor ∧ d.fMinor ≤ 9223372036854775807)
def vNeed (d : NeedD) : Value := .agg #[.int .i64 d.fFace, .string ⟨d.fFrom.toArray⟩, .int .i64 d.fMajor, .int .i64 d.fMinor]
def cNeed (d : NeedD) : List Value := [.int .i64 d.fFace, .string ⟨d.fFrom.toArray⟩, .int .i64 d.fMajor, .int .i64 d.fMinor]
theorem cNeed_len (d : NeedD) : (cNeed d).length = 4 := rfl
theorem cNeed_one (d : NeedD) : ∀ u ∈ cNeed d, u.oneCell' = true := by intro u hu; simp only [cNeed, List.mem_cons, List.not_mem_nil, or_false] at hu; rcases hu with rfl | rfl | rfl | rfl <;> rfl
set_option maxHeartbeats 800000 in
theorem eqNeed_any (x y : NeedD) (w : World) :
    Calls Try.prog 39 #[vNeed x, vNeed y] w fun e w' => e = .returned (.bool (decide (x = y))) ∧ Below w.heap.size w w' := by
  obtain ⟨a0, a1, a2, a3⟩ := x
  obtain ⟨b0, b1, b2, b3⟩ := y
  unfold vNeed
  by_cases h0 : a0 = b0
  · by_cases h1 : a1 = b1
    · by_cases h2 : a2 = b2
      · by_cases h3 : a3 = b3
        · have HN := Lib.hid (show decide ((⟨a0, a1, a2, a3⟩ : NeedD) = (⟨b0, b1, b2, b3⟩ : NeedD)) = true by rw [h0, h1, h2, h3]; simp)
          subst h0 h1 h2 h3
          go_enter Try.func39, Try.ntmps39
          go_wp2
          go_ret
          exact ⟨ret_bool HN.out.symm, (by repeat (first | exact Below.refl _ _ | refine Below.alloc ?_ (by simp; try omega) _ | refine Below.setCell ?_ (by simp; try omega) _))⟩
        · have HN := Lib.hid (show decide ((⟨a0, a1, a2, a3⟩ : NeedD) = (⟨b0, b1, b2, b3⟩ : NeedD)) = false by rw [decide_eq_false_iff_not]; exact fun e => h3 (by injection e))
          have hne3 : (a3 == b3) = false := by simpa using h3
          have hnf3 : (a3 != b3) = true := by simpa using h3
          subst h0 h1 h2
          clear h3
          go_enter Try.func39, Try.ntmps39
          go_wp2
          go_ret
          exact ⟨ret_bool HN.out.symm, (by repeat (first | exact Below.refl _ _ | refine Below.alloc ?_ (by simp; try omega) _ | refine Below.setCell ?_ (by simp; try omega) _))⟩
      · have HN := Lib.hid (show decide ((⟨a0, a1, a2, a3⟩ : NeedD) = (⟨b0, b1, b2, b3⟩ : NeedD)) = false by rw [decide_eq_false_iff_not]; exact fun e => h2 (by injection e))
        have hne2 : (a2 == b2) = false := by simpa using h2
        have hnf2 : (a2 != b2) = true := by simpa using h2
        subst h0 h1
        clear h2
        go_enter Try.func39, Try.ntmps39
        go_wp2
        go_ret
        exact ⟨ret_bool HN.out.symm, (by repeat (first | exact Below.refl _ _ | refine Below.alloc ?_ (by simp; try omega) _ | refine Below.setCell ?_ (by simp; try omega) _))⟩
    · have HN := Lib.hid (show decide ((⟨a0, a1, a2, a3⟩ : NeedD) = (⟨b0, b1, b2, b3⟩ : NeedD)) = false by rw [decide_eq_false_iff_not]; exact fun e => h1 (by injection e))
      have hne1 : (a1 == b1) = false := by simpa using h1
      have hnf1 : (a1 != b1) = true := by simpa using h1
      subst h0
      clear h1
      go_enter Try.func39, Try.ntmps39
      go_wp2
      go_ret
      exact ⟨ret_bool HN.out.symm, (by repeat (first | exact Below.refl _ _ | refine Below.alloc ?_ (by simp; try omega) _ | refine Below.setCell ?_ (by simp; try omega) _))⟩
  · have HN := Lib.hid (show decide ((⟨a0, a1, a2, a3⟩ : NeedD) = (⟨b0, b1, b2, b3⟩ : NeedD)) = false by rw [decide_eq_false_iff_not]; exact fun e => h0 (by injection e))
    have hne0 : (a0 == b0) = false := by simpa using h0
    have hnf0 : (a0 != b0) = true := by simpa using h0
    clear h0
    go_enter Try.func39, Try.ntmps39
    go_wp2
    go_ret
    exact ⟨ret_bool HN.out.symm, (by repeat (first | exact Below.refl _ _ | refine Below.alloc ?_ (by simp; try omega) _ | refine Below.setCell ?_ (by simp; try omega) _))⟩
set_option maxHeartbeats 800000 in
theorem toNeed_any (x : NeedD) (w : World) :
    Calls Try.prog 34 #[vNeed x] w fun e w' => e = .returned (vNeed x) ∧ Below w.heap.size w w' := by
  obtain ⟨a0, a1, a2, a3⟩ := x
  unfold vNeed
  have HC := Lib.hid (toVersion_any ⟨a2, a3⟩)
  simp only [vVersion] at HC
  go_enter Try.func34, Try.ntmps34
  go_wp2_with fail
  refine (HC.out _).mono ?_
  rintro e w1 ⟨rfl, hb⟩
  have HB := Lib.hid (show Below w.heap.size w w1 from ((by repeat (first | exact Below.refl _ _ | refine Below.alloc ?_ (by simp; try omega) _ | refine Below.setCell ?_ (by simp; try omega) _)) : Below w.heap.size w _).trans (hb.mono (by simp; omega)))
  have hcc : ∀ b o, b < _ → w1.cell? ⟨b, o, none⟩ = _ := fun b o h => hb.cell (p := ⟨b, o, none⟩) h
  have hff : ∀ b o, b < _ → w1.frozen? ⟨b, o, none⟩ = _ := fun b o h => hb.frozen (p := ⟨b, o, none⟩) h
  have hsz := hb.size
  simp at hsz
  clear hb
  go_wp2_with fail
  refine bodyPost_ret (v := .agg #[.int .i64 a0, .string ⟨a1.toArray⟩, .int .i64 a2, .int .i64 a3]) (by simp [results, Try.results34, go_sem, hcc]; try rfl) rfl ⟨rfl, ?_⟩
  repeat (refine Below.setCell ?_ (by simp; try omega) _)
  exact HB.out
set_option maxRecDepth 100000 in
set_option maxHeartbeats 1600000 in
theorem eqNeedS_any (v u : Value) (x y : List NeedD) (w : World) (hx : FlatAt cNeed 4 w v x) (hy : FlatAt cNeed 4 w u y) :
    Calls Try.prog 27 #[v, u] w fun e w' => e = .returned (.bool (decide (x = y))) ∧ Below w.heap.size w w' := by
  obtain ⟨a, c, rfl, hl⟩ := flatAt_len hx
  obtain ⟨a2, c2, rfl, hl2⟩ := flatAt_len hy
  have HX := Lib.hid hx
  have HY := Lib.hid hy
  clear hx hy
  unfold maxLen at hl hl2
  by_cases he : x.length = y.length
  · have hb : ((x.length : Int) == y.length) = true := beq_iff_eq.2 (by omega)
    have hbn : ((x.length : Int) != y.length) = false := by rw [bne_eq_false_iff_eq]; omega
    have HE := Lib.hid he
    clear he
    go_enter Try.func27, Try.ntmps27
    go_wp2
    go_loopw [5] (fun i wr => ∃ k : Nat, k ≤ x.length ∧ i = .int .i64 k ∧ x.take k = y.take k ∧ Below w.heap.size w wr) (fun i _ => x.length - (intOf i).toNat)
    case atStart => exact ⟨0, Nat.zero_le _, rfl, rfl, Below.refl _ _⟩
    case round =>
      obtain ⟨k, hk, rfl, ht, hbr⟩ := hrel
      have HT := Lib.hid ht
      have HB := Lib.hid hbr
      have HXr := Lib.hid (FlatAt.below HX.out hbr (Nat.le_refl _))
      have HYr := Lib.hid (FlatAt.below HY.out hbr (Nat.le_refl _))
      clear ht hbr
      by_cases hlt : k < x.length
      · have hky : k < y.length := by have := HE.out; omega
        obtain ⟨b, o, rfl, _, hd⟩ := flatAt_cell cNeed_len HXr.out k hlt (by decide)
        obtain ⟨b2, o2, rfl, _, hd2⟩ := flatAt_cell cNeed_len HYr.out k hky (by decide)
        have d0 := hd 0 (by decide)
        have d1 := hd 1 (by decide)
        have d2 := hd 2 (by decide)
        have d3 := hd 3 (by decide)
        have q0 := hd2 0 (by decide)
        have q1 := hd2 1 (by decide)
        have q2 := hd2 2 (by decide)
        have q3 := hd2 3 (by decide)
        clear hd hd2
        have HS := Lib.hid (take_eq_step x y HE.out k hlt HT.out)
        have HD := Lib.hid (show x[k] ≠ y[k] → ¬ x = y from fun h e => h (by subst e; rfl))
        have HC := Lib.hid (eqNeed_any x[k] y[k])
        generalize x[k] = p at *
        generalize y[k] = q at *
        obtain ⟨a0, a1, a2, a3⟩ := p
        obtain ⟨b0, b1, b2, b3⟩ := q
        simp only [cNeed, vNeed, List.getElem?_cons_zero, List.getElem?_cons_succ, Nat.add_zero] at d0 q0 d1 q1 d2 q2 d3 q3 HC
        go_wp2
        go_still_tail 8, (by kernel_rfl)
        have HB1 := Lib.hid (show Below w.heap.size w wr.drew from ⟨HB.out.os, HB.out.tape, HB.out.output, HB.out.size, HB.out.block⟩)
        change wpList _ _ _ _ _ wr.drew
        generalize wr.drew = w1 at *
        go_wp2_with fail
        refine (HC.out _).mono ?_
        rintro e w2 ⟨rfl, hb0⟩
        have HB2 := Lib.hid (HB1.out.trans (hb0.mono HB1.out.size))
        clear hb0
        by_cases heq : (⟨a0, a1, a2, a3⟩ : NeedD) = (⟨b0, b1, b2, b3⟩ : NeedD)
        · have HN := Lib.hid (HS.out heq)
          rw [show decide ((⟨a0, a1, a2, a3⟩ : NeedD) = (⟨b0, b1, b2, b3⟩ : NeedD)) = true by simpa using heq]
          clear heq
          go_wp2_with fail
          exact ⟨⟨k + 1, by omega, by go_num, HN.out, HB2.out⟩, by simp [intOf]; omega⟩
        · have HN := Lib.hid (HD.out heq)
          rw [show decide ((⟨a0, a1, a2, a3⟩ : NeedD) = (⟨b0, b1, b2, b3⟩ : NeedD)) = false by rw [decide_eq_false_iff_not]; exact heq]
          clear heq
          go_wp2_with fail
          go_ret
          exact ⟨ret_bool (by simp [HN.out]), HB2.out⟩
      · have HN := Lib.hid (show x = y from by
          have h := HT.out
          rw [List.take_of_length_le (by omega), List.take_of_length_le (by have := HE.out; omega)] at h
          exact h)
        go_wp2
        go_ret
        exact ⟨ret_bool (by simp [HN.out]), HB.out⟩
  · have hb : ((x.length : Int) == y.length) = false := beq_eq_false_iff_ne.2 (by omega)
    have hbn : ((x.length : Int) != y.length) = true := by rw [bne_iff_ne]; omega
    have HN := Lib.hid (show ¬ x = y from fun e => he (by rw [e]))
    clear he
    go_enter Try.func27, Try.ntmps27
    go_wp2
    go_ret
    exact ⟨ret_bool (by simp [HN.out]), Below.refl _ _⟩
def zNeed (d : NeedD) : Nat := d.fFrom.length
set_option maxHeartbeats 800000 in
theorem szNeed_any (x : NeedD) (left : Int) (w : World) (h0 : 0 ≤ left) (h1 : left ≤ 1099511627776) (hs : okNeed x) :
    Calls Try.prog 30 #[vNeed x, .int .i64 left] w fun e w' => SzF (zNeed x) left w e w' := by
  obtain ⟨a0, a1, a2, a3⟩ := x
  obtain ⟨hs0, hs1, hs2, hs3⟩ := hs
  simp only [vNeed, zNeed] at *
  unfold maxLen at *
  have HZ1 := Lib.hid (size_strB a1)
  by_cases hn0 : left - (a1.length : Int) < 0
  · go_enter Try.func30, Try.ntmps30
    go_wp2
    go_ret
    exact ⟨-1, rfl, by omega, by omega, (Below.refl _ _).alloc (Nat.le_refl _) _⟩
  · go_enter Try.func30, Try.ntmps30
    go_wp2
    go_ret
    exact ⟨_, rfl, by omega, by push_cast; omega, (Below.refl _ _).alloc (Nat.le_refl _) _⟩
set_option maxRecDepth 100000 in
set_option maxHeartbeats 800000 in
theorem szNeedS_any (v : Value) (x : List NeedD) (left : Int) (w : World) (hx : FlatAt cNeed 4 w v x) (hs : ∀ d ∈ x, okNeed d) (h0 : 0 ≤ left) (h1 : left ≤ 1099511627776) :
    Calls Try.prog 16 #[v, .int .i64 left] w fun e w' => SzF (x.length + sumF zNeed x) left w e w' := by
  obtain ⟨a, c, rfl, hl⟩ := flatAt_len hx
  have HX := Lib.hid hx
  have HS := Lib.hid hs
  clear hx hs
  unfold maxLen at hl
  by_cases hneg : left - (x.length : Int) < 0
  · go_enter Try.func16, Try.ntmps16
    go_wp2
    go_ret
    exact ⟨-1, rfl, by omega, by omega, Below.refl _ _⟩
  · go_enter Try.func16, Try.ntmps16
    go_wp2
    go_loopw [1, 5] (fun r i wr => ∃ k : Nat, ∃ z : Int, k ≤ x.length ∧ i = .int .i64 k ∧ r = .int .i64 z ∧ 0 ≤ z ∧ z ≤ left ∧ (x.length : Int) + sumF zNeed (x.take k) + z = left ∧ Below w.heap.size w wr) (fun _ i _ => x.length - (intOf i).toNat)
    case atStart => exact ⟨0, _, Nat.zero_le _, rfl, rfl, by omega, by omega, by simp [sumF]; omega, Below.refl _ _⟩
    case round =>
      obtain ⟨k, z, hk, rfl, rfl, hz0, hz1, ht, hbr⟩ := hrel
      have HT := Lib.hid ht
      have HB := Lib.hid hbr
      have HXr := Lib.hid (FlatAt.below HX.out hbr (Nat.le_refl _))
      clear ht hbr
      by_cases hlt : k < x.length
      · obtain ⟨b, o, rfl, _, hd⟩ := flatAt_cell cNeed_len HXr.out k hlt (by decide)
        have d0 := hd 0 (by decide)
        have d1 := hd 1 (by decide)
        have d2 := hd 2 (by decide)
        have d3 := hd 3 (by decide)
        clear hd
        have HC := Lib.hid (szNeed_any x[k] z wr hz0 (by omega) (HS.out _ (List.getElem_mem hlt)))
        have HK := Lib.hid (sumF_take_succ zNeed x k hlt)
        generalize x[k] = p at *
        have HP := Lib.hid (rfl : zNeed p = zNeed p)
        obtain ⟨a0, a1, a2, a3⟩ := p
        simp only [cNeed, vNeed, List.getElem?_cons_zero, List.getElem?_cons_succ, Nat.add_zero] at d0 d1 d2 d3 HC
        go_wp2_with fail
        refine HC.out.mono ?_
        rintro e w2 ⟨r, rfl, hr0, hr1, hb0⟩
        have HB2 := Lib.hid (HB.out.trans (hb0.mono HB.out.size))
        have HR := Lib.hid hr1
        clear hb0 hr1
        by_cases hn2 : r < 0
        · go_wp2_with fail
          go_ret
          exact ⟨-1, rfl, by omega, by omega, HB2.out⟩
        · have hr := HR.out (by omega)
          go_wp2_with fail
          exact ⟨⟨k + 1, _, by omega, by go_num, rfl, by omega, by omega, by rw [HK.out]; have := HT.out; push_cast; omega, HB2.out⟩, by simp [intOf]; omega⟩
      · have HN := Lib.hid (show x.take k = x from List.take_of_length_le (by omega))
        go_wp2
        go_ret
        exact ⟨z, rfl, by omega, fun _ => by have := HT.out; rw [HN.out] at this; omega, HB.out⟩
theorem infoNeed : (Try.prog.info? 51).map (fun i => (i.zero, i.size, i.bytes)) = some (some (.agg #[.int .i64 0, .string ⟨#[]⟩, .int .i64 0, .int .i64 0]), 4, 40) := by kernel_rfl
set_option maxRecDepth 100000 in
set_option maxHeartbeats 1600000 in
theorem toNeedS_any (v : Value) (x : List NeedD) (w : World) (hx : FlatAt cNeed 4 w v x) (hm : x.length ≤ 2097152) :
    Calls Try.prog 23 #[v] w fun e w' => e = .returned (.slice (some ⟨w.heap.size, 0, none⟩) x.length x.length) ∧ OwnsF cNeed 51 4 w' w.heap.size (.slice (some ⟨w.heap.size, 0, none⟩) x.length x.length) x ∧ Below w.heap.size w w' := by
  obtain ⟨a, c, rfl, hl⟩ := flatAt_len hx
  obtain ⟨i0, hi, hz0, hz1, hz2⟩ := info_parts infoNeed
  have HX := Lib.hid hx
  clear hx
  unfold maxLen at hl
  go_enter Try.func23, Try.ntmps23
  have hb2 : i0.bytes * x.length ≤ 281474976710656 := by rw [hz2]; omega
  have HB2 := Lib.hid hb2
  have HM := Lib.hid (show x.length ≤ maxLen from by unfold maxLen; omega)
  clear hb2
  go_wp2_with (refine wpList_make_full _ rfl (.tmp 6) (.tmp 6) 31 rfl w.heap.size 51 i0 _ 4 Try.underlying31 hi hz0 hz1 .i64 .i64 _ _ x.length rfl rfl rfl rfl HB2.out HM.out (Nat.le_refl _) ?_; intro w1 hown1 hgrow1)
  have HO := Lib.hid (show ∃ xs, w1.ownsRow w.heap.size 51 4 (.slice (some ⟨w.heap.size, 0, none⟩) x.length x.length) x.length xs ∧ xs.take (0 * 4) = (x.flatMap cNeed).take (0 * 4) from ⟨_, hown1, by simp⟩)
  have HB := Lib.hid (show Below w.heap.size w w1 from ⟨hgrow1.os, hgrow1.tape, hgrow1.output, hgrow1.size, fun i hi => hgrow1.block i hi (by simp)⟩)
  have hsz := hgrow1.size
  clear hown1 hgrow1 hz0 hz1 hz2 HB2 hi
  go_loopw [4] (fun i wr => ∃ k : Nat, k ≤ x.length ∧ i = .int .i64 k ∧ (∃ xs, wr.ownsRow w.heap.size 51 4 (.slice (some ⟨w.heap.size, 0, none⟩) x.length x.length) x.length xs ∧ xs.take (k * 4) = (x.flatMap cNeed).take (k * 4)) ∧ Below w.heap.size w wr) (fun i _ => x.length - (intOf i).toNat)
  case atStart => exact ⟨0, Nat.zero_le _, rfl, HO.out, HB.out⟩
  case round =>
    obtain ⟨k, hk, rfl, ⟨xs, hown, htake⟩, hb⟩ := hrel
    have HR := Lib.hid (FlatAt.below HX.out hb (Nat.le_refl _))
    have HBr := Lib.hid hb
    have HOw := Lib.hid hown
    have HT := Lib.hid htake
    have HXL := Lib.hid (show xs.length = x.length * 4 from hown.1)
    clear hb hown htake
    by_cases hlt : k < x.length
    · obtain ⟨b, o, rfl, _, hd⟩ := flatAt_cell cNeed_len HR.out k hlt (by decide)
      have d0 := hd 0 (by decide)
      have d1 := hd 1 (by decide)
      have d2 := hd 2 (by decide)
      have d3 := hd 3 (by decide)
      have g0 := flat_get cNeed 4 cNeed_len x k hlt 0 (by decide)
      have g1 := flat_get cNeed 4 cNeed_len x k hlt 1 (by decide)
      have g2 := flat_get cNeed 4 cNeed_len x k hlt 2 (by decide)
      have g3 := flat_get cNeed 4 cNeed_len x k hlt 3 (by decide)
      clear hd
      have HC := Lib.hid (toNeed_any x[k] wr)
      generalize x[k] = p at *
      obtain ⟨a0, a1, a2, a3⟩ := p
      simp only [cNeed, vNeed, List.getElem?_cons_zero, List.getElem?_cons_succ, Nat.add_zero] at d0 d1 d2 d3 HC g0 g1 g2 g3
      have G0 := Lib.hid g0
      have G1 := Lib.hid g1
      have G2 := Lib.hid g2
      have G3 := Lib.hid g3
      clear g0 g1 g2 g3
      go_wp2_with fail
      refine HC.out.mono ?_
      rintro e w2 ⟨rfl, hb0⟩
      have HB3 := Lib.hid (HBr.out.trans (hb0.mono HBr.out.size))
      have HO3 := Lib.hid (ownsRow_below HOw.out hb0 (Nat.le_refl _))
      clear hb0
      obtain ⟨u0, c0⟩ : ∃ u, w2.cell? ⟨w.heap.size, k * 4, none⟩ = some u := by
        rw [World.ownsRow.cellAt HO3.out (k * 4) (by omega), List.getElem?_eq_getElem (by have := HXL.out; omega)]
        exact ⟨_, rfl⟩
      have f0 := World.ownsRow.frozenAt HO3.out (k * 4)
      obtain ⟨u1, c1⟩ : ∃ u, w2.cell? ⟨w.heap.size, k * 4 + 1, none⟩ = some u := by
        rw [World.ownsRow.cellAt HO3.out (k * 4 + 1) (by omega), List.getElem?_eq_getElem (by have := HXL.out; omega)]
        exact ⟨_, rfl⟩
      have f1 := World.ownsRow.frozenAt HO3.out (k * 4 + 1)
      obtain ⟨u2, c2⟩ : ∃ u, w2.cell? ⟨w.heap.size, k * 4 + 2, none⟩ = some u := by
        rw [World.ownsRow.cellAt HO3.out (k * 4 + 2) (by omega), List.getElem?_eq_getElem (by have := HXL.out; omega)]
        exact ⟨_, rfl⟩
      have f2 := World.ownsRow.frozenAt HO3.out (k * 4 + 2)
      obtain ⟨u3, c3⟩ : ∃ u, w2.cell? ⟨w.heap.size, k * 4 + 3, none⟩ = some u := by
        rw [World.ownsRow.cellAt HO3.out (k * 4 + 3) (by omega), List.getElem?_eq_getElem (by have := HXL.out; omega)]
        exact ⟨_, rfl⟩
      have f3 := World.ownsRow.frozenAt HO3.out (k * 4 + 3)
      have HS0 := Lib.hid (World.ownsRow.stored HO3.out (k * 4) (.int .i64 a0))
      have HT0 := Lib.hid (take_set_get _ (x.flatMap cNeed) (k * 4) _ (by have := HXL.out; (try simp only [List.length_set]); omega) G0.out HT.out)
      have HS1 := Lib.hid (World.ownsRow.stored HS0.out.1 (k * 4 + 1) (.string ⟨a1.toArray⟩))
      have HT1 := Lib.hid (take_set_get _ (x.flatMap cNeed) (k * 4 + 1) _ (by have := HXL.out; (try simp only [List.length_set]); omega) G1.out HT0.out)
      have HS2 := Lib.hid (World.ownsRow.stored HS1.out.1 (k * 4 + 2) (.int .i64 a2))
      have HT2 := Lib.hid (take_set_get _ (x.flatMap cNeed) (k * 4 + 2) _ (by have := HXL.out; (try simp only [List.length_set]); omega) G2.out HT1.out)
      have HS3 := Lib.hid (World.ownsRow.stored HS2.out.1 (k * 4 + 3) (.int .i64 a3))
      have HT3 := Lib.hid (take_set_get _ (x.flatMap cNeed) (k * 4 + 3) _ (by have := HXL.out; (try simp only [List.length_set]); omega) G3.out HT2.out)
      go_wp2_with fail
      refine ⟨⟨k + 1, by omega, by go_num, ⟨_, HS3.out.1, by rw [show (k + 1) * 4 = k * 4 + 3 + 1 by omega]; exact HT3.out⟩, ?_⟩, by simp [intOf]; omega⟩
      exact ((((HB3.out.setCell (Nat.le_refl _) _).setCell (Nat.le_refl _) _).setCell (Nat.le_refl _) _).setCell (Nat.le_refl _) _)
    · have HN := Lib.hid (show xs = x.flatMap cNeed from by
        have h := HT.out
        rw [List.take_of_length_le (by have := HXL.out; omega), List.take_of_length_le (by rw [flat_len cNeed 4 cNeed_len]; omega)] at h
        exact h)
      go_wp2
      go_ret
      exact ⟨rfl, by have h := HOw.out; rw [HN.out] at h; exact h, HBr.out⟩
def marksNeed (k : Int) (n : Nat) : List NeedD := (List.range n).map fun i : Nat => ⟨k + i * 4, markL (k + i * 4 + 1), k + i * 4 + 1 + 1, k + i * 4 + 1 + 1 + 1⟩
theorem marksNeed_len (k : Int) (n : Nat) : (marksNeed k n).length = n := by simp [marksNeed]
theorem marksNeed_get (k : Int) (n i : Nat) (h : i < n) : (marksNeed k n)[i]'(by rw [marksNeed_len]; exact h) = ⟨k + i * 4, markL (k + i * 4 + 1), k + i * 4 + 1 + 1, k + i * 4 + 1 + 1 + 1⟩ := by simp [marksNeed]
end Go.Proofs.Ytbofplofpggdlad
