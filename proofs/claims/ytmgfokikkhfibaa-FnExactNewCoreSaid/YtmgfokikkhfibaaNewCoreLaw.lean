/- FnExactNewCore: at every text the program's NewCore answers as the model's, and its answer owns its memory (a text longer than 2^20 is not asked). No condition. -/
import Derived.Test.YtmgfokikkhfibaaLaw5
import Derived.Test.YtmgfokikkhfibaaCore5
import Derived.Test.YtmgfokikkhfibaaOpen
import Derived.Test.YtmgfokikkhfibaaTCoreE
namespace Go.Proofs.Ytmgfokikkhfibaa
set_option linter.unusedVariables false
open Go.ChangeShapes Go.WideShapes Go.ChangeAt Go.RowKit Go.WideMaps Go.WideElems
open Go.ChangeMaps (open_string shut_string)
set_option maxRecDepth 100000 in
set_option maxHeartbeats 3200000 in
theorem exactNewCore_any (x0 : ByteArray) (w : World) (h0 : x0.size ≤ maxLen) :
    Calls Try.prog 7 #[.string x0] w fun e w' => e = .returned (.bool true) ∧ Below w.heap.size w w' := by
  unfold maxLen at h0
  by_cases hb0 : 1048576 < x0.size
  · go_enter Try.func7, Try.ntmps7
    go_wp2_with fail
    go_ret
    exact ⟨rfl, Below.refl _ _⟩
  · have HS0 := Lib.hid (show x0.size ≤ 1048576 by omega)
    have HRL := Lib.hid (show (newCoreD x0.data.toList).fCells.length ≤ 1048577 by unfold newCoreD; split <;> simp)
    have HSP := Lib.hid (fun w1 => new_cells (specNewCore_any x0 w1 HS0.out))
    have HIM := Lib.hid (fun w1 => new_cells (implNewCore_any x0 w1 HS0.out))
    generalize newCoreD x0.data.toList = x at *
    generalize decide (0 ≤ kindI x0.data.toList) = y at *
    obtain ⟨a0, a1, a2, a3, a4⟩ := x
    simp only [vCore] at HSP HIM HRL
    go_enter Try.func7, Try.ntmps7
    go_wp2_with fail
    refine (HSP.out _).mono ?_
    rintro e w1 ⟨vs, rfl, ho, hb0⟩
    have hb := below_step (w := w) (by repeat (first | exact Below.refl _ _ | refine Below.alloc ?_ (by simp; try omega) _ | refine Below.setCell ?_ (by simp; try omega) _ | refine belN ?_ _ | refine belD ?_)) hb0
    have Cw_w1 := Lib.hid hb
    have ho := (show OwnsF cCell 53 2 _ _ _ a3 from ho)
    obtain ⟨ps, qs, rfl, _⟩ := flatAt_len (ownsF_at ho (by have := HRL.out; omega))
    obtain ⟨LRs, hLRs, ho⟩ := own_lo ho
    try simp at hLRs
    have HLRs := Lib.hid hLRs
    clear hLRs
    have Rs := Lib.hid (ownR_of ho)
    have Rsa := Lib.hid (ownsF_at ho (by have := HRL.out; omega))
    clear ho
    clear hb hb0
    go_wp2_with fail
    refine (HIM.out _).mono ?_
    rintro e w2 ⟨vg, rfl, ho, hb0⟩
    have hb := below_step (w := w1) (by repeat (first | exact Below.refl _ _ | refine Below.alloc ?_ (by simp; try omega) _ | refine Below.setCell ?_ (by simp; try omega) _ | refine belN ?_ _ | refine belD ?_)) hb0
    have Cw_w2 := Lib.hid (Cw_w1.out.trans (hb.mono Cw_w1.out.size))
    have Cw1_w2 := Lib.hid hb
    have Rsa_w2 := Lib.hid (FlatAt.below Rsa.out hb (Nat.le_refl _))
    have es0_0_w2 : w2.cell? ⟨w1.heap.size, 0, none⟩ = some (.string ⟨a0.toArray⟩) := by rw [hb0.cell (p := ⟨w1.heap.size, 0, none⟩) (by simp; try omega)]; simp
    have es0_1_w2 : w2.cell? ⟨w1.heap.size, 1, none⟩ = some (.bool a1) := by rw [hb0.cell (p := ⟨w1.heap.size, 1, none⟩) (by simp; try omega)]; simp
    have es0_2_w2 : w2.cell? ⟨w1.heap.size, 2, none⟩ = some (.bool a2) := by rw [hb0.cell (p := ⟨w1.heap.size, 2, none⟩) (by simp; try omega)]; simp
    have es0_3_w2 : w2.cell? ⟨w1.heap.size, 3, none⟩ = some ((.slice ps a3.length qs)) := by rw [hb0.cell (p := ⟨w1.heap.size, 3, none⟩) (by simp; try omega)]; simp
    have es0_4_w2 : w2.cell? ⟨w1.heap.size, 4, none⟩ = some (.int .i64 a4) := by rw [hb0.cell (p := ⟨w1.heap.size, 4, none⟩) (by simp; try omega)]; simp
    have Ls0_w2 : w1.heap.size < w2.heap.size := by have h := hb0.size; simp at h; omega
    have ho := (show OwnsF cCell 53 2 _ _ _ a3 from ho)
    obtain ⟨pg, qg, rfl, _⟩ := flatAt_len (ownsF_at ho (by have := HRL.out; omega))
    obtain ⟨LRg, hLRg, ho⟩ := own_lo ho
    try simp at hLRg
    have HLRg := Lib.hid hLRg
    clear hLRg
    have Rg := Lib.hid (ownR_of ho)
    have Rga := Lib.hid (ownsF_at ho (by have := HRL.out; omega))
    clear ho
    have LCRg_w := Lib.hid (show w.heap.size ≤ LRg by have h := Cw_w1.out.size; have h2 := HLRg.out; omega)
    have LCRg_w1 := Lib.hid (show w1.heap.size ≤ LRg by have h := (Below.refl w1.heap.size w1).size; have h2 := HLRg.out; omega)
    have LBRg_s0 := Lib.hid (show w1.heap.size < LRg by have h2 := HLRg.out; omega)
    clear hb hb0
    have GBRg_g0 := Lib.hid (show w2.heap.size ≤ w2.heap.size by have h := (Below.refl w2.heap.size w2).size; omega)
    cases y
    all_goals
      go_wp2_with fail
      refine (eqCore_any (vCore (⟨a0, a1, a2, a3, a4⟩ : CoreD) (.slice pg a3.length qg)) (vCore (⟨a0, a1, a2, a3, a4⟩ : CoreD) (.slice ps a3.length qs)) (⟨a0, a1, a2, a3, a4⟩ : CoreD) (⟨a0, a1, a2, a3, a4⟩ : CoreD) _ ⟨(.slice pg a3.length qg), rfl, (FlatAt.below Rga.out (by repeat (first | exact Below.refl _ _ | refine Below.alloc ?_ (by simp; try omega) _ | refine Below.setCell ?_ (by simp; try omega) _ | refine belN ?_ _ | refine belD ?_)) (Nat.le_refl _))⟩ ⟨(.slice ps a3.length qs), rfl, (FlatAt.below Rsa_w2.out (by repeat (first | exact Below.refl _ _ | refine Below.alloc ?_ (by simp; try omega) _ | refine Below.setCell ?_ (by simp; try omega) _ | refine belN ?_ _ | refine belD ?_)) (Nat.le_refl _))⟩).mono ?_
      rintro e w3 ⟨rfl, hb0⟩
      have hb := below_step (w := w2) (by repeat (first | exact Below.refl _ _ | refine Below.alloc ?_ (by simp; try omega) _ | refine Below.setCell ?_ (by simp; try omega) _ | refine belN ?_ _ | refine belD ?_)) hb0
      have Cw_w3 := Lib.hid (Cw_w2.out.trans (hb.mono Cw_w2.out.size))
      have Cw1_w3 := Lib.hid (Cw1_w2.out.trans (hb.mono Cw1_w2.out.size))
      have Cw2_w3 := Lib.hid hb
      have Rsa_w3 := Lib.hid (FlatAt.below Rsa_w2.out hb (Nat.le_refl _))
      have Rga_w3 := Lib.hid (FlatAt.below Rga.out hb (Nat.le_refl _))
      have Rg_w3 := Lib.hid (ownR_below Rg.out hb (Nat.le_refl _))
      have es0_0_w3 := (hb.cell (p := ⟨w1.heap.size, 0, none⟩) Ls0_w2).trans es0_0_w2
      have es0_1_w3 := (hb.cell (p := ⟨w1.heap.size, 1, none⟩) Ls0_w2).trans es0_1_w2
      have es0_2_w3 := (hb.cell (p := ⟨w1.heap.size, 2, none⟩) Ls0_w2).trans es0_2_w2
      have es0_3_w3 := (hb.cell (p := ⟨w1.heap.size, 3, none⟩) Ls0_w2).trans es0_3_w2
      have es0_4_w3 := (hb.cell (p := ⟨w1.heap.size, 4, none⟩) Ls0_w2).trans es0_4_w2
      have Ls0_w3 : w1.heap.size < w3.heap.size := by have h := hb.size; omega
      clear es0_0_w2 es0_1_w2 es0_2_w2 es0_3_w2 es0_4_w2 Ls0_w2
      have eg0_0_w3 : w3.cell? ⟨w2.heap.size, 0, none⟩ = some (.string ⟨a0.toArray⟩) := by rw [hb0.cell (p := ⟨w2.heap.size, 0, none⟩) (by simp; try omega)]; simp
      have eg0_1_w3 : w3.cell? ⟨w2.heap.size, 1, none⟩ = some (.bool a1) := by rw [hb0.cell (p := ⟨w2.heap.size, 1, none⟩) (by simp; try omega)]; simp
      have eg0_2_w3 : w3.cell? ⟨w2.heap.size, 2, none⟩ = some (.bool a2) := by rw [hb0.cell (p := ⟨w2.heap.size, 2, none⟩) (by simp; try omega)]; simp
      have eg0_3_w3 : w3.cell? ⟨w2.heap.size, 3, none⟩ = some ((.slice pg a3.length qg)) := by rw [hb0.cell (p := ⟨w2.heap.size, 3, none⟩) (by simp; try omega)]; simp
      have eg0_4_w3 : w3.cell? ⟨w2.heap.size, 4, none⟩ = some (.int .i64 a4) := by rw [hb0.cell (p := ⟨w2.heap.size, 4, none⟩) (by simp; try omega)]; simp
      have Lg0_w3 : w2.heap.size < w3.heap.size := by have h := hb0.size; simp at h; omega
      rw [show decide ((⟨a0, a1, a2, a3, a4⟩ : CoreD) = (⟨a0, a1, a2, a3, a4⟩ : CoreD)) = true by simp]
      clear hb hb0
      go_wp2_with fail
      refine (mark_range (ownR_below Rg_w3.out (by repeat (first | exact Below.refl _ _ | refine Below.alloc ?_ (by simp; try omega) _ | refine Below.setCell ?_ (by simp; try omega) _ | refine belN ?_ _ | refine belD ?_)) (Nat.le_refl _)) (markCore_c LRg (.slice pg a3.length qg) (⟨a0, a1, a2, a3, a4⟩ : CoreD) 1 _ (ownR_below Rg_w3.out (by repeat (first | exact Below.refl _ _ | refine Below.alloc ?_ (by simp; try omega) _ | refine Below.setCell ?_ (by simp; try omega) _ | refine belN ?_ _ | refine belD ?_)) (Nat.le_refl _)).1 (by show a3.length ≤ _; have := HRL.out; omega) (by omega) (by omega))).mono ?_
      rintro e w4 ⟨rfl, ho, hbt⟩
      have Cw_w4 := Lib.hid (betw_below Cw_w3.out hbt LCRg_w.out)
      have Cw1_w4 := Lib.hid (betw_below Cw1_w3.out hbt LCRg_w1.out)
      have Rsa_w4 := Lib.hid (FlatAt.below Rsa.out Cw1_w4.out (Nat.le_refl _))
      have es0_0_w4 := (betw_cell hbt w1.heap.size 0 Ls0_w3 (Or.inl LBRg_s0.out)).trans es0_0_w3
      have es0_1_w4 := (betw_cell hbt w1.heap.size 1 Ls0_w3 (Or.inl LBRg_s0.out)).trans es0_1_w3
      have es0_2_w4 := (betw_cell hbt w1.heap.size 2 Ls0_w3 (Or.inl LBRg_s0.out)).trans es0_2_w3
      have es0_3_w4 := (betw_cell hbt w1.heap.size 3 Ls0_w3 (Or.inl LBRg_s0.out)).trans es0_3_w3
      have es0_4_w4 := (betw_cell hbt w1.heap.size 4 Ls0_w3 (Or.inl LBRg_s0.out)).trans es0_4_w3
      have Ls0_w4 : w1.heap.size < w4.heap.size := by have h := hbt.size; omega
      clear es0_0_w3 es0_1_w3 es0_2_w3 es0_3_w3 es0_4_w3 Ls0_w3
      have eg0_0_w4 := (betw_cell hbt w2.heap.size 0 Lg0_w3 (Or.inr GBRg_g0.out)).trans eg0_0_w3
      have eg0_1_w4 := (betw_cell hbt w2.heap.size 1 Lg0_w3 (Or.inr GBRg_g0.out)).trans eg0_1_w3
      have eg0_2_w4 := (betw_cell hbt w2.heap.size 2 Lg0_w3 (Or.inr GBRg_g0.out)).trans eg0_2_w3
      have eg0_3_w4 := (betw_cell hbt w2.heap.size 3 Lg0_w3 (Or.inr GBRg_g0.out)).trans eg0_3_w3
      have eg0_4_w4 := (betw_cell hbt w2.heap.size 4 Lg0_w3 (Or.inr GBRg_g0.out)).trans eg0_4_w3
      have Lg0_w4 : w2.heap.size < w4.heap.size := by have h := hbt.size; omega
      clear eg0_0_w3 eg0_1_w3 eg0_2_w3 eg0_3_w3 eg0_4_w3 Lg0_w3
      have MK := Lib.hid (ownR_at ho (by simp only [marksCell_len]; have := HRL.out; omega))
      clear ho hbt
      go_wp2_with fail
      refine (heldCore_any (vCore (⟨a0, a1, a2, a3, a4⟩ : CoreD) (.slice pg a3.length qg)) (⟨a0, a1, a2, a3, a4⟩ : CoreD) a3.length 1 _ ⟨(.slice pg a3.length qg), rfl, (FlatAt.below MK.out (by repeat (first | exact Below.refl _ _ | refine Below.alloc ?_ (by simp; try omega) _ | refine Below.setCell ?_ (by simp; try omega) _ | refine belN ?_ _ | refine belD ?_)) (Nat.le_refl _))⟩ (by have := HRL.out; omega) (by omega) (by omega)).mono ?_
      rintro e w5 ⟨rfl, hb0⟩
      have hb := below_step (w := w4) (by repeat (first | exact Below.refl _ _ | refine Below.alloc ?_ (by simp; try omega) _ | refine Below.setCell ?_ (by simp; try omega) _ | refine belN ?_ _ | refine belD ?_)) hb0
      have Cw_w5 := Lib.hid (Cw_w4.out.trans (hb.mono Cw_w4.out.size))
      have Cw1_w5 := Lib.hid (Cw1_w4.out.trans (hb.mono Cw1_w4.out.size))
      have Rsa_w5 := Lib.hid (FlatAt.below Rsa_w4.out hb (Nat.le_refl _))
      have MK_w5 := Lib.hid (FlatAt.below MK.out hb (Nat.le_refl _))
      have es0_0_w5 := (hb.cell (p := ⟨w1.heap.size, 0, none⟩) Ls0_w4).trans es0_0_w4
      have es0_1_w5 := (hb.cell (p := ⟨w1.heap.size, 1, none⟩) Ls0_w4).trans es0_1_w4
      have es0_2_w5 := (hb.cell (p := ⟨w1.heap.size, 2, none⟩) Ls0_w4).trans es0_2_w4
      have es0_3_w5 := (hb.cell (p := ⟨w1.heap.size, 3, none⟩) Ls0_w4).trans es0_3_w4
      have es0_4_w5 := (hb.cell (p := ⟨w1.heap.size, 4, none⟩) Ls0_w4).trans es0_4_w4
      have Ls0_w5 : w1.heap.size < w5.heap.size := by have h := hb.size; omega
      clear es0_0_w4 es0_1_w4 es0_2_w4 es0_3_w4 es0_4_w4 Ls0_w4
      have eg0_0_w5 := (hb.cell (p := ⟨w2.heap.size, 0, none⟩) Lg0_w4).trans eg0_0_w4
      have eg0_1_w5 := (hb.cell (p := ⟨w2.heap.size, 1, none⟩) Lg0_w4).trans eg0_1_w4
      have eg0_2_w5 := (hb.cell (p := ⟨w2.heap.size, 2, none⟩) Lg0_w4).trans eg0_2_w4
      have eg0_3_w5 := (hb.cell (p := ⟨w2.heap.size, 3, none⟩) Lg0_w4).trans eg0_3_w4
      have eg0_4_w5 := (hb.cell (p := ⟨w2.heap.size, 4, none⟩) Lg0_w4).trans eg0_4_w4
      have Lg0_w5 : w2.heap.size < w5.heap.size := by have h := hb.size; omega
      clear eg0_0_w4 eg0_1_w4 eg0_2_w4 eg0_3_w4 eg0_4_w4 Lg0_w4
      clear hb hb0
      have K_s0 := Ls0_w5
      have K_g0 := Lg0_w5
      go_wp2_with fail
      refine (HIM.out _).mono ?_
      rintro e w6 ⟨vh, rfl, ho, hb0⟩
      have hb := below_step (w := w5) (by repeat (first | exact Below.refl _ _ | refine Below.alloc ?_ (by simp; try omega) _ | refine Below.setCell ?_ (by simp; try omega) _ | refine belN ?_ _ | refine belD ?_)) hb0
      have Cw_w6 := Lib.hid (Cw_w5.out.trans (hb.mono Cw_w5.out.size))
      have Cw1_w6 := Lib.hid (Cw1_w5.out.trans (hb.mono Cw1_w5.out.size))
      have Rsa_w6 := Lib.hid (FlatAt.below Rsa_w5.out hb (Nat.le_refl _))
      have MK_w6 := Lib.hid (FlatAt.below MK_w5.out hb (Nat.le_refl _))
      have es0_0_w6 := (hb.cell (p := ⟨w1.heap.size, 0, none⟩) Ls0_w5).trans es0_0_w5
      have es0_1_w6 := (hb.cell (p := ⟨w1.heap.size, 1, none⟩) Ls0_w5).trans es0_1_w5
      have es0_2_w6 := (hb.cell (p := ⟨w1.heap.size, 2, none⟩) Ls0_w5).trans es0_2_w5
      have es0_3_w6 := (hb.cell (p := ⟨w1.heap.size, 3, none⟩) Ls0_w5).trans es0_3_w5
      have es0_4_w6 := (hb.cell (p := ⟨w1.heap.size, 4, none⟩) Ls0_w5).trans es0_4_w5
      have Ls0_w6 : w1.heap.size < w6.heap.size := by have h := hb.size; omega
      clear es0_0_w5 es0_1_w5 es0_2_w5 es0_3_w5 es0_4_w5 Ls0_w5
      have eg0_0_w6 := (hb.cell (p := ⟨w2.heap.size, 0, none⟩) Lg0_w5).trans eg0_0_w5
      have eg0_1_w6 := (hb.cell (p := ⟨w2.heap.size, 1, none⟩) Lg0_w5).trans eg0_1_w5
      have eg0_2_w6 := (hb.cell (p := ⟨w2.heap.size, 2, none⟩) Lg0_w5).trans eg0_2_w5
      have eg0_3_w6 := (hb.cell (p := ⟨w2.heap.size, 3, none⟩) Lg0_w5).trans eg0_3_w5
      have eg0_4_w6 := (hb.cell (p := ⟨w2.heap.size, 4, none⟩) Lg0_w5).trans eg0_4_w5
      have Lg0_w6 : w2.heap.size < w6.heap.size := by have h := hb.size; omega
      clear eg0_0_w5 eg0_1_w5 eg0_2_w5 eg0_3_w5 eg0_4_w5 Lg0_w5
      have ho := (show OwnsF cCell 53 2 _ _ _ a3 from ho)
      obtain ⟨ph, qh, rfl, _⟩ := flatAt_len (ownsF_at ho (by have := HRL.out; omega))
      obtain ⟨LRh, hLRh, ho⟩ := own_lo ho
      try simp at hLRh
      have HLRh := Lib.hid hLRh
      clear hLRh
      have Rh := Lib.hid (ownR_of ho)
      have Rha := Lib.hid (ownsF_at ho (by have := HRL.out; omega))
      clear ho
      clear hb hb0
      go_wp2_with fail
      refine (eqCore_any (vCore (⟨a0, a1, a2, a3, a4⟩ : CoreD) (.slice ph a3.length qh)) (vCore (⟨a0, a1, a2, a3, a4⟩ : CoreD) (.slice ps a3.length qs)) (⟨a0, a1, a2, a3, a4⟩ : CoreD) (⟨a0, a1, a2, a3, a4⟩ : CoreD) _ ⟨(.slice ph a3.length qh), rfl, (FlatAt.below Rha.out (by repeat (first | exact Below.refl _ _ | refine Below.alloc ?_ (by simp; try omega) _ | refine Below.setCell ?_ (by simp; try omega) _ | refine belN ?_ _ | refine belD ?_)) (Nat.le_refl _))⟩ ⟨(.slice ps a3.length qs), rfl, (FlatAt.below Rsa_w6.out (by repeat (first | exact Below.refl _ _ | refine Below.alloc ?_ (by simp; try omega) _ | refine Below.setCell ?_ (by simp; try omega) _ | refine belN ?_ _ | refine belD ?_)) (Nat.le_refl _))⟩).mono ?_
      rintro e w7 ⟨rfl, hb0⟩
      have hb := below_step (w := w6) (by repeat (first | exact Below.refl _ _ | refine Below.alloc ?_ (by simp; try omega) _ | refine Below.setCell ?_ (by simp; try omega) _ | refine belN ?_ _ | refine belD ?_)) hb0
      have Cw_w7 := Lib.hid (Cw_w6.out.trans (hb.mono Cw_w6.out.size))
      have Cw1_w7 := Lib.hid (Cw1_w6.out.trans (hb.mono Cw1_w6.out.size))
      have Rsa_w7 := Lib.hid (FlatAt.below Rsa_w6.out hb (Nat.le_refl _))
      have MK_w7 := Lib.hid (FlatAt.below MK_w6.out hb (Nat.le_refl _))
      have Rha_w7 := Lib.hid (FlatAt.below Rha.out hb (Nat.le_refl _))
      have Rh_w7 := Lib.hid (ownR_below Rh.out hb (Nat.le_refl _))
      have es0_0_w7 := (hb.cell (p := ⟨w1.heap.size, 0, none⟩) Ls0_w6).trans es0_0_w6
      have es0_1_w7 := (hb.cell (p := ⟨w1.heap.size, 1, none⟩) Ls0_w6).trans es0_1_w6
      have es0_2_w7 := (hb.cell (p := ⟨w1.heap.size, 2, none⟩) Ls0_w6).trans es0_2_w6
      have es0_3_w7 := (hb.cell (p := ⟨w1.heap.size, 3, none⟩) Ls0_w6).trans es0_3_w6
      have es0_4_w7 := (hb.cell (p := ⟨w1.heap.size, 4, none⟩) Ls0_w6).trans es0_4_w6
      have Ls0_w7 : w1.heap.size < w7.heap.size := by have h := hb.size; omega
      clear es0_0_w6 es0_1_w6 es0_2_w6 es0_3_w6 es0_4_w6 Ls0_w6
      have eg0_0_w7 := (hb.cell (p := ⟨w2.heap.size, 0, none⟩) Lg0_w6).trans eg0_0_w6
      have eg0_1_w7 := (hb.cell (p := ⟨w2.heap.size, 1, none⟩) Lg0_w6).trans eg0_1_w6
      have eg0_2_w7 := (hb.cell (p := ⟨w2.heap.size, 2, none⟩) Lg0_w6).trans eg0_2_w6
      have eg0_3_w7 := (hb.cell (p := ⟨w2.heap.size, 3, none⟩) Lg0_w6).trans eg0_3_w6
      have eg0_4_w7 := (hb.cell (p := ⟨w2.heap.size, 4, none⟩) Lg0_w6).trans eg0_4_w6
      have Lg0_w7 : w2.heap.size < w7.heap.size := by have h := hb.size; omega
      clear eg0_0_w6 eg0_1_w6 eg0_2_w6 eg0_3_w6 eg0_4_w6 Lg0_w6
      have eh0_0_w7 : w7.cell? ⟨w6.heap.size, 0, none⟩ = some (.string ⟨a0.toArray⟩) := by rw [hb0.cell (p := ⟨w6.heap.size, 0, none⟩) (by simp; try omega)]; simp
      have eh0_1_w7 : w7.cell? ⟨w6.heap.size, 1, none⟩ = some (.bool a1) := by rw [hb0.cell (p := ⟨w6.heap.size, 1, none⟩) (by simp; try omega)]; simp
      have eh0_2_w7 : w7.cell? ⟨w6.heap.size, 2, none⟩ = some (.bool a2) := by rw [hb0.cell (p := ⟨w6.heap.size, 2, none⟩) (by simp; try omega)]; simp
      have eh0_3_w7 : w7.cell? ⟨w6.heap.size, 3, none⟩ = some ((.slice ph a3.length qh)) := by rw [hb0.cell (p := ⟨w6.heap.size, 3, none⟩) (by simp; try omega)]; simp
      have eh0_4_w7 : w7.cell? ⟨w6.heap.size, 4, none⟩ = some (.int .i64 a4) := by rw [hb0.cell (p := ⟨w6.heap.size, 4, none⟩) (by simp; try omega)]; simp
      have Lh0_w7 : w6.heap.size < w7.heap.size := by have h := hb0.size; simp at h; omega
      rw [show decide ((⟨a0, a1, a2, a3, a4⟩ : CoreD) = (⟨a0, a1, a2, a3, a4⟩ : CoreD)) = true by simp]
      clear hb hb0
      go_wp2_with fail
      refine (heldCore_any (vCore (⟨a0, a1, a2, a3, a4⟩ : CoreD) (.slice pg a3.length qg)) (⟨a0, a1, a2, a3, a4⟩ : CoreD) a3.length 1 _ ⟨(.slice pg a3.length qg), rfl, (FlatAt.below MK_w7.out (by repeat (first | exact Below.refl _ _ | refine Below.alloc ?_ (by simp; try omega) _ | refine Below.setCell ?_ (by simp; try omega) _ | refine belN ?_ _ | refine belD ?_)) (Nat.le_refl _))⟩ (by have := HRL.out; omega) (by omega) (by omega)).mono ?_
      rintro e w8 ⟨rfl, hb0⟩
      have hb := below_step (w := w7) (by repeat (first | exact Below.refl _ _ | refine Below.alloc ?_ (by simp; try omega) _ | refine Below.setCell ?_ (by simp; try omega) _ | refine belN ?_ _ | refine belD ?_)) hb0
      have Cw_w8 := Lib.hid (Cw_w7.out.trans (hb.mono Cw_w7.out.size))
      have Cw1_w8 := Lib.hid (Cw1_w7.out.trans (hb.mono Cw1_w7.out.size))
      have Rsa_w8 := Lib.hid (FlatAt.below Rsa_w7.out hb (Nat.le_refl _))
      have MK_w8 := Lib.hid (FlatAt.below MK_w7.out hb (Nat.le_refl _))
      have Rha_w8 := Lib.hid (FlatAt.below Rha_w7.out hb (Nat.le_refl _))
      have Rh_w8 := Lib.hid (ownR_below Rh_w7.out hb (Nat.le_refl _))
      have es0_0_w8 := (hb.cell (p := ⟨w1.heap.size, 0, none⟩) Ls0_w7).trans es0_0_w7
      have es0_1_w8 := (hb.cell (p := ⟨w1.heap.size, 1, none⟩) Ls0_w7).trans es0_1_w7
      have es0_2_w8 := (hb.cell (p := ⟨w1.heap.size, 2, none⟩) Ls0_w7).trans es0_2_w7
      have es0_3_w8 := (hb.cell (p := ⟨w1.heap.size, 3, none⟩) Ls0_w7).trans es0_3_w7
      have es0_4_w8 := (hb.cell (p := ⟨w1.heap.size, 4, none⟩) Ls0_w7).trans es0_4_w7
      have Ls0_w8 : w1.heap.size < w8.heap.size := by have h := hb.size; omega
      clear es0_0_w7 es0_1_w7 es0_2_w7 es0_3_w7 es0_4_w7 Ls0_w7
      have eg0_0_w8 := (hb.cell (p := ⟨w2.heap.size, 0, none⟩) Lg0_w7).trans eg0_0_w7
      have eg0_1_w8 := (hb.cell (p := ⟨w2.heap.size, 1, none⟩) Lg0_w7).trans eg0_1_w7
      have eg0_2_w8 := (hb.cell (p := ⟨w2.heap.size, 2, none⟩) Lg0_w7).trans eg0_2_w7
      have eg0_3_w8 := (hb.cell (p := ⟨w2.heap.size, 3, none⟩) Lg0_w7).trans eg0_3_w7
      have eg0_4_w8 := (hb.cell (p := ⟨w2.heap.size, 4, none⟩) Lg0_w7).trans eg0_4_w7
      have Lg0_w8 : w2.heap.size < w8.heap.size := by have h := hb.size; omega
      clear eg0_0_w7 eg0_1_w7 eg0_2_w7 eg0_3_w7 eg0_4_w7 Lg0_w7
      have eh0_0_w8 := (hb.cell (p := ⟨w6.heap.size, 0, none⟩) Lh0_w7).trans eh0_0_w7
      have eh0_1_w8 := (hb.cell (p := ⟨w6.heap.size, 1, none⟩) Lh0_w7).trans eh0_1_w7
      have eh0_2_w8 := (hb.cell (p := ⟨w6.heap.size, 2, none⟩) Lh0_w7).trans eh0_2_w7
      have eh0_3_w8 := (hb.cell (p := ⟨w6.heap.size, 3, none⟩) Lh0_w7).trans eh0_3_w7
      have eh0_4_w8 := (hb.cell (p := ⟨w6.heap.size, 4, none⟩) Lh0_w7).trans eh0_4_w7
      have Lh0_w8 : w6.heap.size < w8.heap.size := by have h := hb.size; omega
      clear eh0_0_w7 eh0_1_w7 eh0_2_w7 eh0_3_w7 eh0_4_w7 Lh0_w7
      clear hb hb0
      go_wp2_with fail
      go_ret
      exact ⟨rfl, below_to Cw_w8.out (by repeat (first | exact Below.refl _ _ | refine Below.alloc ?_ (by simp; try omega) _ | refine Below.setCell ?_ (by simp; try omega) _ | refine belN ?_ _ | refine belD ?_))⟩
set_option maxRecDepth 100000 in
theorem fnExactNewCore_lifted (os : Os) (started : os.Started) (H : Type) (enc : TypeId × Value → H) :
    ReturnsInHanded {} Try.checked os 7 .any (Rows.fnExactNewCoreSpec.pre6 enc Try.prog Try.f7 Rows.fnExactNewCoreRow.domain false) (Rows.fnExactNewCoreSpec.post enc Try.prog Try.f7 false true false false) := by
  refine returnsInHanded_of_change (C := Try.checked) ownK started (by kernel_rfl) Try.func7
    (ChangeSpec.witness6 (enc := enc) (C := Try.checked) false ⟨#[], #[.string ⟨#[]⟩], []⟩ 8 (by kernel_rfl) (by kernel_rfl) (by kernel_rfl) (by kernel_rfl)) ?_
  intro W base args ds gs before hval0 hW _ _
  have hval : ∀ (j : Nat) t v, Try.f7.params[j]? = some t → args[j]? = some v → Value.okWide Try.prog W .any base t v := hval0
  have hW' := hW
  obtain ⟨p, q, hA0, _, rfl, _, _⟩ := hW
  have hA : DataW.TrodAll enc Try.prog W 0 (fun _ => true) true Try.f7.params.toList args.toList ds p := hA0
  rw [Try.params7] at hA hval
  obtain ⟨v0, vs0, d0, ds0, p0, q0, hargs, rfl, rfl, h0, r0⟩ := trodAll_cons hA
  obtain ⟨rfl, rfl, rfl⟩ := trodAll_nil r0
  obtain rfl : args = #[v0] := by cases args; simp_all
  obtain ⟨x0, rfl, rfl, rfl, w0⟩ := open_string Try.underlying9 (hval 0 9 v0 rfl rfl) h0
  clear hA0 hval0
  refine (exactNewCore_any x0 W w0).mono fun e W1 ⟨he, hb⟩ => ?_
  subst he
  exact ⟨_, rfl, law_post laidK rfl (by kernel_rfl) Try.underlying4 (by kernel_rfl) (fun ds h => by match ds, h with | [_], _ => rfl) hW' hb⟩
theorem fnExactNewCore_closed : joinedFacts Try.prog 7 Try.f7 Rows.fnExactNewCoreSpec Rows.fnExactNewCoreRow = true := by unfold joinedFacts; rw [mayEnter_k, liftsFinal_k, make_k]; kernel_rfl
theorem fnExactNewCore_holds : Rows.FnExactNewCoreSaid :=
  OpenClaim.holds_of_wide 7 Try.f7 rfl rfl rfl rfl rfl rfl rfl ⟨rfl, rfl, rfl, rfl, rfl⟩ rfl rfl rfl rfl rfl (by kernel_rfl) Try.func7 fnExactNewCore_closed
    (of_decide_eq_true (by kernel_rfl)) (by unfold Func.isWrapper; first | (rw [if_pos (by decide +kernel)]; kernel_rfl) | (rw [if_neg (by decide +kernel)]; exact ⟨rfl, rfl⟩))
    (fun os started H enc _ => fnExactNewCore_lifted os started H enc)
end Go.Proofs.Ytmgfokikkhfibaa
