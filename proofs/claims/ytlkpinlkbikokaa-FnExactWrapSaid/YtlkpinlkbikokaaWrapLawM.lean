/- FnExactWrap: at every part and text the program's Wrap answers as the model's, and its answer owns its memory (a part of more than 2^20 cells, layers and signs is not asked, nor a text longer than 2^20). No condition. -/
import Derived.Test.YtlkpinlkbikokaaWrapLawM0
import Derived.Test.YtlkpinlkbikokaaWrapLawM3
import Derived.Test.YtlkpinlkbikokaaWrapLawM5
namespace Go.Proofs.Ytlkpinlkbikokaa
set_option linter.unusedVariables false
open Go.ChangeShapes Go.WideShapes Go.ChangeAt Go.RowKit Go.WideMaps Go.WideElems
open Go.ChangeMaps (open_string shut_string)
set_option maxRecDepth 100000 in
set_option maxHeartbeats 3200000 in
theorem exactWrap_any (v0 : Value) (x0 : PartD) (x1 : ByteArray) (w : World) (a0 : ValAt rPart 0 w v0 x0) (g0 : okPart x0) (h1 : x1.size ≤ maxLen) :
    Calls Try.prog 3 #[v0, .string x1] w fun e w' => e = .returned (.bool true) ∧ Below w.heap.size w w' := by
  obtain ⟨_, rfl, a0⟩ := a0
  obtain ⟨⟨n0_0_0, n0_0_1, n0_0_2, n0_0_3, n0_0_4⟩, n0_1⟩ := x0
  try simp only at *
  obtain ⟨ua0_3, ua0_5, rfl, hrua0_3, hrua0_5⟩ := a0
  simp only at hrua0_3 hrua0_5
  obtain ⟨ca0_3, cc0_3, rfl, _⟩ := sliceAt_len hrua0_3
  obtain ⟨ca0_5, cc0_5, rfl, _⟩ := sliceAt_len hrua0_5
  have A0 := Lib.hid (show rPart 0 _ _ (⟨⟨n0_0_0, n0_0_1, n0_0_2, n0_0_3, n0_0_4⟩, n0_1⟩ : PartD) from ⟨_, _, rfl, hrua0_3.mono (good_flat cCell_len) (Nat.zero_le _), hrua0_5.mono (good_flat cLayer_len) (Nat.zero_le _)⟩)
  have G0 := Lib.hid g0
  clear g0 hrua0_3 hrua0_5
  unfold maxLen at h1
  by_cases hb1 : 1048576 < x1.size
  · go_enter Try.func3, Try.ntmps3
    go_wp2_with fail
    go_ret
    exact ⟨rfl, below_to (Below.refl w.heap.size w) (by repeat (first | exact Below.refl _ _ | refine Below.alloc ?_ (by simp; try omega) _ | refine Below.setCell ?_ (by simp; try omega) _ | refine belN ?_ _ | refine belD ?_))⟩
  · have HS1 := Lib.hid (show x1.size ≤ 1048576 by omega)
    go_enter Try.func3, Try.ntmps3
    go_wp2_with fail
    refine (szPart_d _ (⟨⟨n0_0_0, n0_0_1, n0_0_2, n0_0_3, n0_0_4⟩, n0_1⟩ : PartD) 1048576 _ ⟨_, rfl, (belPart A0.out (by repeat (first | exact Below.refl _ _ | refine Below.alloc ?_ (by simp; try omega) _ | refine Below.setCell ?_ (by simp; try omega) _ | refine belN ?_ _ | refine belD ?_)) (Nat.le_refl _))⟩ G0.out (by omega) (by omega)).mono ?_
    rintro e w1 ⟨r0, rfl, hr0a, hr0b, hb0⟩
    have hb := below_step (w := w) (by repeat (first | exact Below.refl _ _ | refine Below.alloc ?_ (by simp; try omega) _ | refine Below.setCell ?_ (by simp; try omega) _ | refine belN ?_ _ | refine belD ?_)) hb0
    have Cw_w1 := Lib.hid hb
    have A0_w1 := Lib.hid (belPart A0.out hb (Nat.le_refl _))
    have ep0_0_w1 : w1.cell? ⟨w.heap.size, 0, none⟩ = some (.string ⟨n0_0_0.toArray⟩) := by rw [hb0.cell (p := ⟨w.heap.size, 0, none⟩) (by simp; try omega)]; simp
    have ep0_1_w1 : w1.cell? ⟨w.heap.size, 1, none⟩ = some (.bool n0_0_1) := by rw [hb0.cell (p := ⟨w.heap.size, 1, none⟩) (by simp; try omega)]; simp
    have ep0_2_w1 : w1.cell? ⟨w.heap.size, 2, none⟩ = some (.bool n0_0_2) := by rw [hb0.cell (p := ⟨w.heap.size, 2, none⟩) (by simp; try omega)]; simp
    have ep0_3_w1 : w1.cell? ⟨w.heap.size, 3, none⟩ = some (.slice ca0_3 n0_0_3.length cc0_3) := by rw [hb0.cell (p := ⟨w.heap.size, 3, none⟩) (by simp; try omega)]; simp
    have ep0_4_w1 : w1.cell? ⟨w.heap.size, 4, none⟩ = some (.int .i64 n0_0_4) := by rw [hb0.cell (p := ⟨w.heap.size, 4, none⟩) (by simp; try omega)]; simp
    have ep0_5_w1 : w1.cell? ⟨w.heap.size, 5, none⟩ = some (.slice ca0_5 n0_1.length cc0_5) := by rw [hb0.cell (p := ⟨w.heap.size, 5, none⟩) (by simp; try omega)]; simp
    have Lp0_w1 : w.heap.size < w1.heap.size := by have h := hb0.size; simp at h; omega
    clear hb hb0
    by_cases hr0 : r0 < 0
    · clear hr0b
      go_wp2_with fail
      go_ret
      exact ⟨rfl, below_to Cw_w1.out (by repeat (first | exact Below.refl _ _ | refine Below.alloc ?_ (by simp; try omega) _ | refine Below.setCell ?_ (by simp; try omega) _ | refine belN ?_ _ | refine belD ?_))⟩
    · have hs0 := hr0b (by omega)
      clear hr0b
      have HSZ := Lib.hid (show (zPart (⟨⟨n0_0_0, n0_0_1, n0_0_2, n0_0_3, n0_0_4⟩, n0_1⟩ : PartD)) ≤ 1048576 by push_cast; omega)
      clear hs0
      have HSM := Lib.hid (smallP_of (x := (⟨⟨n0_0_0, n0_0_1, n0_0_2, n0_0_3, n0_0_4⟩, n0_1⟩ : PartD)) (by have h := HSZ.out; omega))
      have HK := Lib.hid (show ∀ c ∈ (⟨⟨n0_0_0, n0_0_1, n0_0_2, n0_0_3, n0_0_4⟩, n0_1⟩ : PartD).fCore.fCells, c.fKey.length ≤ maxLen from fun c hc => (G0.out.1.2.1 c hc).1)
      have HSR := Lib.hid (wrapP_small HSM.out x1.data.toList)
      have HSP := Lib.hid (fun cs w1 (h : rPart 0 w1 cs (⟨⟨n0_0_0, n0_0_1, n0_0_2, n0_0_3, n0_0_4⟩, n0_1⟩ : PartD)) => (specWrap_any (.agg cs.toArray) (⟨⟨n0_0_0, n0_0_1, n0_0_2, n0_0_3, n0_0_4⟩, n0_1⟩ : PartD) x1 w1 ⟨cs, rfl, h⟩ HSM.out HK.out HS1.out).mono (fun e w2 h2 => givesPR_of h2 HSR.out))
      have HIM := Lib.hid (fun cs w1 (h : rPart 0 w1 cs (⟨⟨n0_0_0, n0_0_1, n0_0_2, n0_0_3, n0_0_4⟩, n0_1⟩ : PartD)) => (implWrap_any (.agg cs.toArray) (⟨⟨n0_0_0, n0_0_1, n0_0_2, n0_0_3, n0_0_4⟩, n0_1⟩ : PartD) x1 w1 ⟨cs, rfl, h⟩ HSM.out HK.out HS1.out))
      unfold GivesPR at HSP
      unfold GivesOPR at HIM
      generalize wrapP (⟨⟨n0_0_0, n0_0_1, n0_0_2, n0_0_3, n0_0_4⟩, n0_1⟩ : PartD) x1.data.toList = x at *
      generalize wrapR (⟨⟨n0_0_0, n0_0_1, n0_0_2, n0_0_3, n0_0_4⟩, n0_1⟩ : PartD) x1.data.toList = y at *
      obtain ⟨⟨n9_0_0, n9_0_1, n9_0_2, n9_0_3, n9_0_4⟩, n9_1⟩ := x
      obtain ⟨m0, m1, m2, m3, m4⟩ := y
      simp only [vReply] at HSP HIM
      have K_p0 := Lp0_w1
      go_wp2_with fail
      refine (toPart_d _ (⟨⟨n0_0_0, n0_0_1, n0_0_2, n0_0_3, n0_0_4⟩, n0_1⟩ : PartD) _ ⟨_, rfl, (belPart A0_w1.out (by repeat (first | exact Below.refl _ _ | refine Below.alloc ?_ (by simp; try omega) _ | refine Below.setCell ?_ (by simp; try omega) _ | refine belN ?_ _ | refine belD ?_)) (Nat.le_refl _))⟩ (by have := HSZ.out; omega)).mono ?_
      rintro e w2 ⟨_, rfl, ho, hb0⟩
      have hb := below_step (w := w1) (by repeat (first | exact Below.refl _ _ | refine Below.alloc ?_ (by simp; try omega) _ | refine Below.setCell ?_ (by simp; try omega) _ | refine belN ?_ _ | refine belD ?_)) hb0
      have Cw_w2 := Lib.hid (Cw_w1.out.trans (hb.mono Cw_w1.out.size))
      have A0_w2 := Lib.hid (belPart A0_w1.out hb (Nat.le_refl _))
      have ep0_0_w2 := (hb.cell (p := ⟨w.heap.size, 0, none⟩) Lp0_w1).trans ep0_0_w1
      have ep0_1_w2 := (hb.cell (p := ⟨w.heap.size, 1, none⟩) Lp0_w1).trans ep0_1_w1
      have ep0_2_w2 := (hb.cell (p := ⟨w.heap.size, 2, none⟩) Lp0_w1).trans ep0_2_w1
      have ep0_3_w2 := (hb.cell (p := ⟨w.heap.size, 3, none⟩) Lp0_w1).trans ep0_3_w1
      have ep0_4_w2 := (hb.cell (p := ⟨w.heap.size, 4, none⟩) Lp0_w1).trans ep0_4_w1
      have ep0_5_w2 := (hb.cell (p := ⟨w.heap.size, 5, none⟩) Lp0_w1).trans ep0_5_w1
      have Lp0_w2 : w.heap.size < w2.heap.size := by have h := hb.size; omega
      clear ep0_0_w1 ep0_1_w1 ep0_2_w1 ep0_3_w1 ep0_4_w1 ep0_5_w1 Lp0_w1
      obtain ⟨uS1_3, uS1_5, rfl, hruS1_3, hruS1_5⟩ := ho
      simp only at hruS1_3 hruS1_5
      obtain ⟨pS1_3, qS1_3, rfl, _⟩ := sliceAt_len hruS1_3
      obtain ⟨pS1_5, qS1_5, rfl, _⟩ := sliceAt_len hruS1_5
      have S1 := Lib.hid (show rPart 0 _ _ (⟨⟨n0_0_0, n0_0_1, n0_0_2, n0_0_3, n0_0_4⟩, n0_1⟩ : PartD) from ⟨_, _, rfl, hruS1_3.mono (good_flat cCell_len) (Nat.zero_le _), hruS1_5.mono (good_flat cLayer_len) (Nat.zero_le _)⟩)
      clear hruS1_3 hruS1_5
      clear hb hb0
      have K_p0 := Lp0_w2
      go_wp2_with fail
      refine (HSP.out _ _ (belPart S1.out (by repeat (first | exact Below.refl _ _ | refine Below.alloc ?_ (by simp; try omega) _ | refine Below.setCell ?_ (by simp; try omega) _ | refine belN ?_ _ | refine belD ?_)) (Nat.le_refl _))).mono ?_
      rintro e w3 ⟨_, rfl, ho, hb0⟩
      have hb := below_step (w := w2) (by repeat (first | exact Below.refl _ _ | refine Below.alloc ?_ (by simp; try omega) _ | refine Below.setCell ?_ (by simp; try omega) _ | refine belN ?_ _ | refine belD ?_)) hb0
      have Cw_w3 := Lib.hid (Cw_w2.out.trans (hb.mono Cw_w2.out.size))
      have A0_w3 := Lib.hid (belPart A0_w2.out hb (Nat.le_refl _))
      have S1_w3 := Lib.hid (belPart S1.out hb (Nat.le_refl _))
      have ep0_0_w3 := (hb.cell (p := ⟨w.heap.size, 0, none⟩) Lp0_w2).trans ep0_0_w2
      have ep0_1_w3 := (hb.cell (p := ⟨w.heap.size, 1, none⟩) Lp0_w2).trans ep0_1_w2
      have ep0_2_w3 := (hb.cell (p := ⟨w.heap.size, 2, none⟩) Lp0_w2).trans ep0_2_w2
      have ep0_3_w3 := (hb.cell (p := ⟨w.heap.size, 3, none⟩) Lp0_w2).trans ep0_3_w2
      have ep0_4_w3 := (hb.cell (p := ⟨w.heap.size, 4, none⟩) Lp0_w2).trans ep0_4_w2
      have ep0_5_w3 := (hb.cell (p := ⟨w.heap.size, 5, none⟩) Lp0_w2).trans ep0_5_w2
      have Lp0_w3 : w.heap.size < w3.heap.size := by have h := hb.size; omega
      clear ep0_0_w2 ep0_1_w2 ep0_2_w2 ep0_3_w2 ep0_4_w2 ep0_5_w2 Lp0_w2
      obtain ⟨uRs_3, uRs_5, rfl, hruRs_3, hruRs_5⟩ := ho
      simp only at hruRs_3 hruRs_5
      obtain ⟨pRs_3, qRs_3, rfl, _⟩ := sliceAt_len hruRs_3
      obtain ⟨pRs_5, qRs_5, rfl, _⟩ := sliceAt_len hruRs_5
      have Rs := Lib.hid (show rPart 0 _ _ (⟨⟨n9_0_0, n9_0_1, n9_0_2, n9_0_3, n9_0_4⟩, n9_1⟩ : PartD) from ⟨_, _, rfl, hruRs_3.mono (good_flat cCell_len) (Nat.zero_le _), hruRs_5.mono (good_flat cLayer_len) (Nat.zero_le _)⟩)
      clear hruRs_3 hruRs_5
      clear hb hb0
      have K_p0 := Lp0_w3
      go_wp2_with fail
      refine (toPart_o _ (⟨⟨n0_0_0, n0_0_1, n0_0_2, n0_0_3, n0_0_4⟩, n0_1⟩ : PartD) _ ⟨_, rfl, (belPart A0_w3.out (by repeat (first | exact Below.refl _ _ | refine Below.alloc ?_ (by simp; try omega) _ | refine Below.setCell ?_ (by simp; try omega) _ | refine belN ?_ _ | refine belD ?_)) (Nat.le_refl _))⟩ (by have := HSZ.out; omega)).mono ?_
      rintro e w4 ⟨_, rfl, ho, hb0⟩
      have hb := below_step (w := w3) (by repeat (first | exact Below.refl _ _ | refine Below.alloc ?_ (by simp; try omega) _ | refine Below.setCell ?_ (by simp; try omega) _ | refine belN ?_ _ | refine belD ?_)) hb0
      have Cw_w4 := Lib.hid (Cw_w3.out.trans (hb.mono Cw_w3.out.size))
      have Cw3_w4 := Lib.hid hb
      have A0_w4 := Lib.hid (belPart A0_w3.out hb (Nat.le_refl _))
      have Rs_w4 := Lib.hid (belPart Rs.out hb (Nat.le_refl _))
      have ep0_0_w4 := (hb.cell (p := ⟨w.heap.size, 0, none⟩) Lp0_w3).trans ep0_0_w3
      have ep0_1_w4 := (hb.cell (p := ⟨w.heap.size, 1, none⟩) Lp0_w3).trans ep0_1_w3
      have ep0_2_w4 := (hb.cell (p := ⟨w.heap.size, 2, none⟩) Lp0_w3).trans ep0_2_w3
      have ep0_3_w4 := (hb.cell (p := ⟨w.heap.size, 3, none⟩) Lp0_w3).trans ep0_3_w3
      have ep0_4_w4 := (hb.cell (p := ⟨w.heap.size, 4, none⟩) Lp0_w3).trans ep0_4_w3
      have ep0_5_w4 := (hb.cell (p := ⟨w.heap.size, 5, none⟩) Lp0_w3).trans ep0_5_w3
      have Lp0_w4 : w.heap.size < w4.heap.size := by have h := hb.size; omega
      clear ep0_0_w3 ep0_1_w3 ep0_2_w3 ep0_3_w3 ep0_4_w3 ep0_5_w3 Lp0_w3
      have es0_0_w4 : w4.cell? ⟨w3.heap.size, 0, none⟩ = some (.string ⟨n9_0_0.toArray⟩) := by rw [hb0.cell (p := ⟨w3.heap.size, 0, none⟩) (by simp; try omega)]; simp
      have es0_1_w4 : w4.cell? ⟨w3.heap.size, 1, none⟩ = some (.bool n9_0_1) := by rw [hb0.cell (p := ⟨w3.heap.size, 1, none⟩) (by simp; try omega)]; simp
      have es0_2_w4 : w4.cell? ⟨w3.heap.size, 2, none⟩ = some (.bool n9_0_2) := by rw [hb0.cell (p := ⟨w3.heap.size, 2, none⟩) (by simp; try omega)]; simp
      have es0_3_w4 : w4.cell? ⟨w3.heap.size, 3, none⟩ = some (.slice pRs_3 n9_0_3.length qRs_3) := by rw [hb0.cell (p := ⟨w3.heap.size, 3, none⟩) (by simp; try omega)]; simp
      have es0_4_w4 : w4.cell? ⟨w3.heap.size, 4, none⟩ = some (.int .i64 n9_0_4) := by rw [hb0.cell (p := ⟨w3.heap.size, 4, none⟩) (by simp; try omega)]; simp
      have es0_5_w4 : w4.cell? ⟨w3.heap.size, 5, none⟩ = some (.slice pRs_5 n9_1.length qRs_5) := by rw [hb0.cell (p := ⟨w3.heap.size, 5, none⟩) (by simp; try omega)]; simp
      have Ls0_w4 : w3.heap.size < w4.heap.size := by have h := hb0.size; simp at h; omega
      have es1_0_w4 : w4.cell? ⟨w3.heap.size + 1, 0, none⟩ = some (.int .i64 m0) := by rw [hb0.cell (p := ⟨w3.heap.size + 1, 0, none⟩) (by simp; try omega)]; simp
      have es1_1_w4 : w4.cell? ⟨w3.heap.size + 1, 1, none⟩ = some (.int .i64 m1) := by rw [hb0.cell (p := ⟨w3.heap.size + 1, 1, none⟩) (by simp; try omega)]; simp
      have es1_2_w4 : w4.cell? ⟨w3.heap.size + 1, 2, none⟩ = some (.string ⟨m2.toArray⟩) := by rw [hb0.cell (p := ⟨w3.heap.size + 1, 2, none⟩) (by simp; try omega)]; simp
      have es1_3_w4 : w4.cell? ⟨w3.heap.size + 1, 3, none⟩ = some (.int .i64 m3) := by rw [hb0.cell (p := ⟨w3.heap.size + 1, 3, none⟩) (by simp; try omega)]; simp
      have es1_4_w4 : w4.cell? ⟨w3.heap.size + 1, 4, none⟩ = some (.int .i64 m4) := by rw [hb0.cell (p := ⟨w3.heap.size + 1, 4, none⟩) (by simp; try omega)]; simp
      have Ls1_w4 : w3.heap.size + 1 < w4.heap.size := by have h := hb0.size; simp at h; omega
      obtain ⟨uX2_3, uX2_5, rfl, hoX2_3, hoX2_5⟩ := ho
      obtain ⟨pX2_3, qX2_3, rfl⟩ := slice_of hoX2_3
      obtain ⟨pX2_5, qX2_5, rfl⟩ := slice_of hoX2_5
      simp only at hoX2_3 hoX2_5
      have ho := (show oPart _ _ _ (⟨⟨n0_0_0, n0_0_1, n0_0_2, n0_0_3, n0_0_4⟩, n0_1⟩ : PartD) from ⟨_, _, rfl, hoX2_3, hoX2_5⟩)
      clear hoX2_3 hoX2_5
      obtain ⟨LX2, hLX2, ho⟩ := own_loP ho
      try simp at hLX2
      have HLX2 := Lib.hid hLX2
      clear hLX2
      have X2 := Lib.hid (ownP_of ho)
      have X2a := Lib.hid (oPart_0 ho HSM.out)
      clear ho
      have LCX2_w := Lib.hid (show w.heap.size ≤ LX2 by have h := Cw_w3.out.size; have h2 := HLX2.out; omega)
      have LCX2_w3 := Lib.hid (show w3.heap.size ≤ LX2 by have h := (Below.refl w3.heap.size w3).size; have h2 := HLX2.out; omega)
      have LBX2_p0 := Lib.hid (show w.heap.size < LX2 by have h2 := HLX2.out; have h := K_p0; omega)
      have LBX2_s0 := Lib.hid (show w3.heap.size < LX2 by have h2 := HLX2.out; omega)
      have LBX2_s1 := Lib.hid (show w3.heap.size + 1 < LX2 by have h2 := HLX2.out; omega)
      clear hb hb0
      have GBX2_x0 := Lib.hid (show w4.heap.size ≤ w4.heap.size by have h := (Below.refl w4.heap.size w4).size; omega)
      have K_p0 := Lp0_w4
      have K_s0 := Ls0_w4
      have K_s1 := Ls1_w4
      go_wp2_with fail
      refine (HIM.out _ _ (belPart X2a.out (by repeat (first | exact Below.refl _ _ | refine Below.alloc ?_ (by simp; try omega) _ | refine Below.setCell ?_ (by simp; try omega) _ | refine belN ?_ _ | refine belD ?_)) (Nat.le_refl _))).mono ?_
      rintro e w5 ⟨_, rfl, ho, hb0⟩
      have hb := below_step (w := w4) (by repeat (first | exact Below.refl _ _ | refine Below.alloc ?_ (by simp; try omega) _ | refine Below.setCell ?_ (by simp; try omega) _ | refine belN ?_ _ | refine belD ?_)) hb0
      have Cw_w5 := Lib.hid (Cw_w4.out.trans (hb.mono Cw_w4.out.size))
      have Cw3_w5 := Lib.hid (Cw3_w4.out.trans (hb.mono Cw3_w4.out.size))
      have Cw4_w5 := Lib.hid hb
      have A0_w5 := Lib.hid (belPart A0_w4.out hb (Nat.le_refl _))
      have Rs_w5 := Lib.hid (belPart Rs_w4.out hb (Nat.le_refl _))
      have X2a_w5 := Lib.hid (belPart X2a.out hb (Nat.le_refl _))
      have X2_w5 := Lib.hid (ownP_below X2.out hb (Nat.le_refl _))
      have ep0_0_w5 := (hb.cell (p := ⟨w.heap.size, 0, none⟩) Lp0_w4).trans ep0_0_w4
      have ep0_1_w5 := (hb.cell (p := ⟨w.heap.size, 1, none⟩) Lp0_w4).trans ep0_1_w4
      have ep0_2_w5 := (hb.cell (p := ⟨w.heap.size, 2, none⟩) Lp0_w4).trans ep0_2_w4
      have ep0_3_w5 := (hb.cell (p := ⟨w.heap.size, 3, none⟩) Lp0_w4).trans ep0_3_w4
      have ep0_4_w5 := (hb.cell (p := ⟨w.heap.size, 4, none⟩) Lp0_w4).trans ep0_4_w4
      have ep0_5_w5 := (hb.cell (p := ⟨w.heap.size, 5, none⟩) Lp0_w4).trans ep0_5_w4
      have Lp0_w5 : w.heap.size < w5.heap.size := by have h := hb.size; omega
      clear ep0_0_w4 ep0_1_w4 ep0_2_w4 ep0_3_w4 ep0_4_w4 ep0_5_w4 Lp0_w4
      have es0_0_w5 := (hb.cell (p := ⟨w3.heap.size, 0, none⟩) Ls0_w4).trans es0_0_w4
      have es0_1_w5 := (hb.cell (p := ⟨w3.heap.size, 1, none⟩) Ls0_w4).trans es0_1_w4
      have es0_2_w5 := (hb.cell (p := ⟨w3.heap.size, 2, none⟩) Ls0_w4).trans es0_2_w4
      have es0_3_w5 := (hb.cell (p := ⟨w3.heap.size, 3, none⟩) Ls0_w4).trans es0_3_w4
      have es0_4_w5 := (hb.cell (p := ⟨w3.heap.size, 4, none⟩) Ls0_w4).trans es0_4_w4
      have es0_5_w5 := (hb.cell (p := ⟨w3.heap.size, 5, none⟩) Ls0_w4).trans es0_5_w4
      have Ls0_w5 : w3.heap.size < w5.heap.size := by have h := hb.size; omega
      clear es0_0_w4 es0_1_w4 es0_2_w4 es0_3_w4 es0_4_w4 es0_5_w4 Ls0_w4
      have es1_0_w5 := (hb.cell (p := ⟨w3.heap.size + 1, 0, none⟩) Ls1_w4).trans es1_0_w4
      have es1_1_w5 := (hb.cell (p := ⟨w3.heap.size + 1, 1, none⟩) Ls1_w4).trans es1_1_w4
      have es1_2_w5 := (hb.cell (p := ⟨w3.heap.size + 1, 2, none⟩) Ls1_w4).trans es1_2_w4
      have es1_3_w5 := (hb.cell (p := ⟨w3.heap.size + 1, 3, none⟩) Ls1_w4).trans es1_3_w4
      have es1_4_w5 := (hb.cell (p := ⟨w3.heap.size + 1, 4, none⟩) Ls1_w4).trans es1_4_w4
      have Ls1_w5 : w3.heap.size + 1 < w5.heap.size := by have h := hb.size; omega
      clear es1_0_w4 es1_1_w4 es1_2_w4 es1_3_w4 es1_4_w4 Ls1_w4
      have ex0_0_w5 : w5.cell? ⟨w4.heap.size, 0, none⟩ = some (.string ⟨n0_0_0.toArray⟩) := by rw [hb0.cell (p := ⟨w4.heap.size, 0, none⟩) (by simp; try omega)]; simp
      have ex0_1_w5 : w5.cell? ⟨w4.heap.size, 1, none⟩ = some (.bool n0_0_1) := by rw [hb0.cell (p := ⟨w4.heap.size, 1, none⟩) (by simp; try omega)]; simp
      have ex0_2_w5 : w5.cell? ⟨w4.heap.size, 2, none⟩ = some (.bool n0_0_2) := by rw [hb0.cell (p := ⟨w4.heap.size, 2, none⟩) (by simp; try omega)]; simp
      have ex0_3_w5 : w5.cell? ⟨w4.heap.size, 3, none⟩ = some (.slice pX2_3 n0_0_3.length qX2_3) := by rw [hb0.cell (p := ⟨w4.heap.size, 3, none⟩) (by simp; try omega)]; simp
      have ex0_4_w5 : w5.cell? ⟨w4.heap.size, 4, none⟩ = some (.int .i64 n0_0_4) := by rw [hb0.cell (p := ⟨w4.heap.size, 4, none⟩) (by simp; try omega)]; simp
      have ex0_5_w5 : w5.cell? ⟨w4.heap.size, 5, none⟩ = some (.slice pX2_5 n0_1.length qX2_5) := by rw [hb0.cell (p := ⟨w4.heap.size, 5, none⟩) (by simp; try omega)]; simp
      have Lx0_w5 : w4.heap.size < w5.heap.size := by have h := hb0.size; simp at h; omega
      obtain ⟨uRg_3, uRg_5, rfl, hoRg_3, hoRg_5⟩ := ho
      obtain ⟨pRg_3, qRg_3, rfl⟩ := slice_of hoRg_3
      obtain ⟨pRg_5, qRg_5, rfl⟩ := slice_of hoRg_5
      simp only at hoRg_3 hoRg_5
      have ho := (show oPart _ _ _ (⟨⟨n9_0_0, n9_0_1, n9_0_2, n9_0_3, n9_0_4⟩, n9_1⟩ : PartD) from ⟨_, _, rfl, hoRg_3, hoRg_5⟩)
      clear hoRg_3 hoRg_5
      obtain ⟨LRg, hLRg, ho⟩ := own_loP ho
      try simp at hLRg
      have HLRg := Lib.hid hLRg
      clear hLRg
      have Rg := Lib.hid (ownP_of ho)
      have Rga := Lib.hid (oPart_0 ho HSR.out)
      clear ho
      have LCRg_w := Lib.hid (show w.heap.size ≤ LRg by have h := Cw_w4.out.size; have h2 := HLRg.out; omega)
      have LCRg_w3 := Lib.hid (show w3.heap.size ≤ LRg by have h := Cw3_w4.out.size; have h2 := HLRg.out; omega)
      have LCRg_w4 := Lib.hid (show w4.heap.size ≤ LRg by have h := (Below.refl w4.heap.size w4).size; have h2 := HLRg.out; omega)
      have LBRg_p0 := Lib.hid (show w.heap.size < LRg by have h2 := HLRg.out; have h := K_p0; omega)
      have LBRg_s0 := Lib.hid (show w3.heap.size < LRg by have h2 := HLRg.out; have h := K_s0; omega)
      have LBRg_s1 := Lib.hid (show w3.heap.size + 1 < LRg by have h2 := HLRg.out; have h := K_s1; omega)
      have LBRg_x0 := Lib.hid (show w4.heap.size < LRg by have h2 := HLRg.out; omega)
      clear hb hb0
      have GBX2_g0 := Lib.hid (show w4.heap.size ≤ w5.heap.size by have h := Cw4_w5.out.size; omega)
      have GBRg_g0 := Lib.hid (show w5.heap.size ≤ w5.heap.size by have h := (Below.refl w5.heap.size w5).size; omega)
      have GBX2_g1 := Lib.hid (show w4.heap.size ≤ w5.heap.size + 1 by have h := Cw4_w5.out.size; omega)
      have GBRg_g1 := Lib.hid (show w5.heap.size ≤ w5.heap.size + 1 by have h := (Below.refl w5.heap.size w5).size; omega)
      go_wp2_with fail
      refine (eqPart_d _ _ (⟨⟨n9_0_0, n9_0_1, n9_0_2, n9_0_3, n9_0_4⟩, n9_1⟩ : PartD) (⟨⟨n9_0_0, n9_0_1, n9_0_2, n9_0_3, n9_0_4⟩, n9_1⟩ : PartD) _ ⟨_, rfl, (belPart Rga.out (by repeat (first | exact Below.refl _ _ | refine Below.alloc ?_ (by simp; try omega) _ | refine Below.setCell ?_ (by simp; try omega) _ | refine belN ?_ _ | refine belD ?_)) (Nat.le_refl _))⟩ ⟨_, rfl, (belPart Rs_w5.out (by repeat (first | exact Below.refl _ _ | refine Below.alloc ?_ (by simp; try omega) _ | refine Below.setCell ?_ (by simp; try omega) _ | refine belN ?_ _ | refine belD ?_)) (Nat.le_refl _))⟩).mono ?_
      rintro e w6 ⟨rfl, hb0⟩
      have hb := below_step (w := w5) (by repeat (first | exact Below.refl _ _ | refine Below.alloc ?_ (by simp; try omega) _ | refine Below.setCell ?_ (by simp; try omega) _ | refine belN ?_ _ | refine belD ?_)) hb0
      have Cw_w6 := Lib.hid (Cw_w5.out.trans (hb.mono Cw_w5.out.size))
      have Cw3_w6 := Lib.hid (Cw3_w5.out.trans (hb.mono Cw3_w5.out.size))
      have Cw4_w6 := Lib.hid (Cw4_w5.out.trans (hb.mono Cw4_w5.out.size))
      have Cw5_w6 := Lib.hid hb
      have A0_w6 := Lib.hid (belPart A0_w5.out hb (Nat.le_refl _))
      have Rs_w6 := Lib.hid (belPart Rs_w5.out hb (Nat.le_refl _))
      have X2a_w6 := Lib.hid (belPart X2a_w5.out hb (Nat.le_refl _))
      have X2_w6 := Lib.hid (ownP_below X2_w5.out hb (Nat.le_refl _))
      have Rga_w6 := Lib.hid (belPart Rga.out hb (Nat.le_refl _))
      have Rg_w6 := Lib.hid (ownP_below Rg.out hb (Nat.le_refl _))
      have ep0_0_w6 := (hb.cell (p := ⟨w.heap.size, 0, none⟩) Lp0_w5).trans ep0_0_w5
      have ep0_1_w6 := (hb.cell (p := ⟨w.heap.size, 1, none⟩) Lp0_w5).trans ep0_1_w5
      have ep0_2_w6 := (hb.cell (p := ⟨w.heap.size, 2, none⟩) Lp0_w5).trans ep0_2_w5
      have ep0_3_w6 := (hb.cell (p := ⟨w.heap.size, 3, none⟩) Lp0_w5).trans ep0_3_w5
      have ep0_4_w6 := (hb.cell (p := ⟨w.heap.size, 4, none⟩) Lp0_w5).trans ep0_4_w5
      have ep0_5_w6 := (hb.cell (p := ⟨w.heap.size, 5, none⟩) Lp0_w5).trans ep0_5_w5
      have Lp0_w6 : w.heap.size < w6.heap.size := by have h := hb.size; omega
      clear ep0_0_w5 ep0_1_w5 ep0_2_w5 ep0_3_w5 ep0_4_w5 ep0_5_w5 Lp0_w5
      have es0_0_w6 := (hb.cell (p := ⟨w3.heap.size, 0, none⟩) Ls0_w5).trans es0_0_w5
      have es0_1_w6 := (hb.cell (p := ⟨w3.heap.size, 1, none⟩) Ls0_w5).trans es0_1_w5
      have es0_2_w6 := (hb.cell (p := ⟨w3.heap.size, 2, none⟩) Ls0_w5).trans es0_2_w5
      have es0_3_w6 := (hb.cell (p := ⟨w3.heap.size, 3, none⟩) Ls0_w5).trans es0_3_w5
      have es0_4_w6 := (hb.cell (p := ⟨w3.heap.size, 4, none⟩) Ls0_w5).trans es0_4_w5
      have es0_5_w6 := (hb.cell (p := ⟨w3.heap.size, 5, none⟩) Ls0_w5).trans es0_5_w5
      have Ls0_w6 : w3.heap.size < w6.heap.size := by have h := hb.size; omega
      clear es0_0_w5 es0_1_w5 es0_2_w5 es0_3_w5 es0_4_w5 es0_5_w5 Ls0_w5
      have es1_0_w6 := (hb.cell (p := ⟨w3.heap.size + 1, 0, none⟩) Ls1_w5).trans es1_0_w5
      have es1_1_w6 := (hb.cell (p := ⟨w3.heap.size + 1, 1, none⟩) Ls1_w5).trans es1_1_w5
      have es1_2_w6 := (hb.cell (p := ⟨w3.heap.size + 1, 2, none⟩) Ls1_w5).trans es1_2_w5
      have es1_3_w6 := (hb.cell (p := ⟨w3.heap.size + 1, 3, none⟩) Ls1_w5).trans es1_3_w5
      have es1_4_w6 := (hb.cell (p := ⟨w3.heap.size + 1, 4, none⟩) Ls1_w5).trans es1_4_w5
      have Ls1_w6 : w3.heap.size + 1 < w6.heap.size := by have h := hb.size; omega
      clear es1_0_w5 es1_1_w5 es1_2_w5 es1_3_w5 es1_4_w5 Ls1_w5
      have ex0_0_w6 := (hb.cell (p := ⟨w4.heap.size, 0, none⟩) Lx0_w5).trans ex0_0_w5
      have ex0_1_w6 := (hb.cell (p := ⟨w4.heap.size, 1, none⟩) Lx0_w5).trans ex0_1_w5
      have ex0_2_w6 := (hb.cell (p := ⟨w4.heap.size, 2, none⟩) Lx0_w5).trans ex0_2_w5
      have ex0_3_w6 := (hb.cell (p := ⟨w4.heap.size, 3, none⟩) Lx0_w5).trans ex0_3_w5
      have ex0_4_w6 := (hb.cell (p := ⟨w4.heap.size, 4, none⟩) Lx0_w5).trans ex0_4_w5
      have ex0_5_w6 := (hb.cell (p := ⟨w4.heap.size, 5, none⟩) Lx0_w5).trans ex0_5_w5
      have Lx0_w6 : w4.heap.size < w6.heap.size := by have h := hb.size; omega
      clear ex0_0_w5 ex0_1_w5 ex0_2_w5 ex0_3_w5 ex0_4_w5 ex0_5_w5 Lx0_w5
      have eg0_0_w6 : w6.cell? ⟨w5.heap.size, 0, none⟩ = some (.string ⟨n9_0_0.toArray⟩) := by rw [hb0.cell (p := ⟨w5.heap.size, 0, none⟩) (by simp; try omega)]; simp
      have eg0_1_w6 : w6.cell? ⟨w5.heap.size, 1, none⟩ = some (.bool n9_0_1) := by rw [hb0.cell (p := ⟨w5.heap.size, 1, none⟩) (by simp; try omega)]; simp
      have eg0_2_w6 : w6.cell? ⟨w5.heap.size, 2, none⟩ = some (.bool n9_0_2) := by rw [hb0.cell (p := ⟨w5.heap.size, 2, none⟩) (by simp; try omega)]; simp
      have eg0_3_w6 : w6.cell? ⟨w5.heap.size, 3, none⟩ = some (.slice pRg_3 n9_0_3.length qRg_3) := by rw [hb0.cell (p := ⟨w5.heap.size, 3, none⟩) (by simp; try omega)]; simp
      have eg0_4_w6 : w6.cell? ⟨w5.heap.size, 4, none⟩ = some (.int .i64 n9_0_4) := by rw [hb0.cell (p := ⟨w5.heap.size, 4, none⟩) (by simp; try omega)]; simp
      have eg0_5_w6 : w6.cell? ⟨w5.heap.size, 5, none⟩ = some (.slice pRg_5 n9_1.length qRg_5) := by rw [hb0.cell (p := ⟨w5.heap.size, 5, none⟩) (by simp; try omega)]; simp
      have Lg0_w6 : w5.heap.size < w6.heap.size := by have h := hb0.size; simp at h; omega
      have eg1_0_w6 : w6.cell? ⟨w5.heap.size + 1, 0, none⟩ = some (.int .i64 m0) := by rw [hb0.cell (p := ⟨w5.heap.size + 1, 0, none⟩) (by simp; try omega)]; simp
      have eg1_1_w6 : w6.cell? ⟨w5.heap.size + 1, 1, none⟩ = some (.int .i64 m1) := by rw [hb0.cell (p := ⟨w5.heap.size + 1, 1, none⟩) (by simp; try omega)]; simp
      have eg1_2_w6 : w6.cell? ⟨w5.heap.size + 1, 2, none⟩ = some (.string ⟨m2.toArray⟩) := by rw [hb0.cell (p := ⟨w5.heap.size + 1, 2, none⟩) (by simp; try omega)]; simp
      have eg1_3_w6 : w6.cell? ⟨w5.heap.size + 1, 3, none⟩ = some (.int .i64 m3) := by rw [hb0.cell (p := ⟨w5.heap.size + 1, 3, none⟩) (by simp; try omega)]; simp
      have eg1_4_w6 : w6.cell? ⟨w5.heap.size + 1, 4, none⟩ = some (.int .i64 m4) := by rw [hb0.cell (p := ⟨w5.heap.size + 1, 4, none⟩) (by simp; try omega)]; simp
      have Lg1_w6 : w5.heap.size + 1 < w6.heap.size := by have h := hb0.size; simp at h; omega
      rw [show decide ((⟨⟨n9_0_0, n9_0_1, n9_0_2, n9_0_3, n9_0_4⟩, n9_1⟩ : PartD) = (⟨⟨n9_0_0, n9_0_1, n9_0_2, n9_0_3, n9_0_4⟩, n9_1⟩ : PartD)) = true by simp]
      clear hb hb0
      go_wp2_with fail
      refine (eqReply_any (⟨m0, m1, m2, m3, m4⟩ : ReplyD) (⟨m0, m1, m2, m3, m4⟩ : ReplyD) _).mono ?_
      rintro e w7 ⟨rfl, hb0⟩
      have hb := below_step (w := w6) (by repeat (first | exact Below.refl _ _ | refine Below.alloc ?_ (by simp; try omega) _ | refine Below.setCell ?_ (by simp; try omega) _ | refine belN ?_ _ | refine belD ?_)) hb0
      have Cw_w7 := Lib.hid (Cw_w6.out.trans (hb.mono Cw_w6.out.size))
      have Cw3_w7 := Lib.hid (Cw3_w6.out.trans (hb.mono Cw3_w6.out.size))
      have Cw4_w7 := Lib.hid (Cw4_w6.out.trans (hb.mono Cw4_w6.out.size))
      have Cw5_w7 := Lib.hid (Cw5_w6.out.trans (hb.mono Cw5_w6.out.size))
      have A0_w7 := Lib.hid (belPart A0_w6.out hb (Nat.le_refl _))
      have Rs_w7 := Lib.hid (belPart Rs_w6.out hb (Nat.le_refl _))
      have X2a_w7 := Lib.hid (belPart X2a_w6.out hb (Nat.le_refl _))
      have X2_w7 := Lib.hid (ownP_below X2_w6.out hb (Nat.le_refl _))
      have Rga_w7 := Lib.hid (belPart Rga_w6.out hb (Nat.le_refl _))
      have Rg_w7 := Lib.hid (ownP_below Rg_w6.out hb (Nat.le_refl _))
      have ep0_0_w7 := (hb.cell (p := ⟨w.heap.size, 0, none⟩) Lp0_w6).trans ep0_0_w6
      have ep0_1_w7 := (hb.cell (p := ⟨w.heap.size, 1, none⟩) Lp0_w6).trans ep0_1_w6
      have ep0_2_w7 := (hb.cell (p := ⟨w.heap.size, 2, none⟩) Lp0_w6).trans ep0_2_w6
      have ep0_3_w7 := (hb.cell (p := ⟨w.heap.size, 3, none⟩) Lp0_w6).trans ep0_3_w6
      have ep0_4_w7 := (hb.cell (p := ⟨w.heap.size, 4, none⟩) Lp0_w6).trans ep0_4_w6
      have ep0_5_w7 := (hb.cell (p := ⟨w.heap.size, 5, none⟩) Lp0_w6).trans ep0_5_w6
      have Lp0_w7 : w.heap.size < w7.heap.size := by have h := hb.size; omega
      clear ep0_0_w6 ep0_1_w6 ep0_2_w6 ep0_3_w6 ep0_4_w6 ep0_5_w6 Lp0_w6
      have es0_0_w7 := (hb.cell (p := ⟨w3.heap.size, 0, none⟩) Ls0_w6).trans es0_0_w6
      have es0_1_w7 := (hb.cell (p := ⟨w3.heap.size, 1, none⟩) Ls0_w6).trans es0_1_w6
      have es0_2_w7 := (hb.cell (p := ⟨w3.heap.size, 2, none⟩) Ls0_w6).trans es0_2_w6
      have es0_3_w7 := (hb.cell (p := ⟨w3.heap.size, 3, none⟩) Ls0_w6).trans es0_3_w6
      have es0_4_w7 := (hb.cell (p := ⟨w3.heap.size, 4, none⟩) Ls0_w6).trans es0_4_w6
      have es0_5_w7 := (hb.cell (p := ⟨w3.heap.size, 5, none⟩) Ls0_w6).trans es0_5_w6
      have Ls0_w7 : w3.heap.size < w7.heap.size := by have h := hb.size; omega
      clear es0_0_w6 es0_1_w6 es0_2_w6 es0_3_w6 es0_4_w6 es0_5_w6 Ls0_w6
      have es1_0_w7 := (hb.cell (p := ⟨w3.heap.size + 1, 0, none⟩) Ls1_w6).trans es1_0_w6
      have es1_1_w7 := (hb.cell (p := ⟨w3.heap.size + 1, 1, none⟩) Ls1_w6).trans es1_1_w6
      have es1_2_w7 := (hb.cell (p := ⟨w3.heap.size + 1, 2, none⟩) Ls1_w6).trans es1_2_w6
      have es1_3_w7 := (hb.cell (p := ⟨w3.heap.size + 1, 3, none⟩) Ls1_w6).trans es1_3_w6
      have es1_4_w7 := (hb.cell (p := ⟨w3.heap.size + 1, 4, none⟩) Ls1_w6).trans es1_4_w6
      have Ls1_w7 : w3.heap.size + 1 < w7.heap.size := by have h := hb.size; omega
      clear es1_0_w6 es1_1_w6 es1_2_w6 es1_3_w6 es1_4_w6 Ls1_w6
      have ex0_0_w7 := (hb.cell (p := ⟨w4.heap.size, 0, none⟩) Lx0_w6).trans ex0_0_w6
      have ex0_1_w7 := (hb.cell (p := ⟨w4.heap.size, 1, none⟩) Lx0_w6).trans ex0_1_w6
      have ex0_2_w7 := (hb.cell (p := ⟨w4.heap.size, 2, none⟩) Lx0_w6).trans ex0_2_w6
      have ex0_3_w7 := (hb.cell (p := ⟨w4.heap.size, 3, none⟩) Lx0_w6).trans ex0_3_w6
      have ex0_4_w7 := (hb.cell (p := ⟨w4.heap.size, 4, none⟩) Lx0_w6).trans ex0_4_w6
      have ex0_5_w7 := (hb.cell (p := ⟨w4.heap.size, 5, none⟩) Lx0_w6).trans ex0_5_w6
      have Lx0_w7 : w4.heap.size < w7.heap.size := by have h := hb.size; omega
      clear ex0_0_w6 ex0_1_w6 ex0_2_w6 ex0_3_w6 ex0_4_w6 ex0_5_w6 Lx0_w6
      have eg0_0_w7 := (hb.cell (p := ⟨w5.heap.size, 0, none⟩) Lg0_w6).trans eg0_0_w6
      have eg0_1_w7 := (hb.cell (p := ⟨w5.heap.size, 1, none⟩) Lg0_w6).trans eg0_1_w6
      have eg0_2_w7 := (hb.cell (p := ⟨w5.heap.size, 2, none⟩) Lg0_w6).trans eg0_2_w6
      have eg0_3_w7 := (hb.cell (p := ⟨w5.heap.size, 3, none⟩) Lg0_w6).trans eg0_3_w6
      have eg0_4_w7 := (hb.cell (p := ⟨w5.heap.size, 4, none⟩) Lg0_w6).trans eg0_4_w6
      have eg0_5_w7 := (hb.cell (p := ⟨w5.heap.size, 5, none⟩) Lg0_w6).trans eg0_5_w6
      have Lg0_w7 : w5.heap.size < w7.heap.size := by have h := hb.size; omega
      clear eg0_0_w6 eg0_1_w6 eg0_2_w6 eg0_3_w6 eg0_4_w6 eg0_5_w6 Lg0_w6
      have eg1_0_w7 := (hb.cell (p := ⟨w5.heap.size + 1, 0, none⟩) Lg1_w6).trans eg1_0_w6
      have eg1_1_w7 := (hb.cell (p := ⟨w5.heap.size + 1, 1, none⟩) Lg1_w6).trans eg1_1_w6
      have eg1_2_w7 := (hb.cell (p := ⟨w5.heap.size + 1, 2, none⟩) Lg1_w6).trans eg1_2_w6
      have eg1_3_w7 := (hb.cell (p := ⟨w5.heap.size + 1, 3, none⟩) Lg1_w6).trans eg1_3_w6
      have eg1_4_w7 := (hb.cell (p := ⟨w5.heap.size + 1, 4, none⟩) Lg1_w6).trans eg1_4_w6
      have Lg1_w7 : w5.heap.size + 1 < w7.heap.size := by have h := hb.size; omega
      clear eg1_0_w6 eg1_1_w6 eg1_2_w6 eg1_3_w6 eg1_4_w6 Lg1_w6
      rw [show decide ((⟨m0, m1, m2, m3, m4⟩ : ReplyD) = (⟨m0, m1, m2, m3, m4⟩ : ReplyD)) = true by simp]
      clear hb hb0
      go_wp2_with fail
      go_region_held3 (fun w' => w'.cell? ⟨w4.heap.size, 0, none⟩ = some (.string ⟨n0_0_0.toArray⟩) ∧ w'.cell? ⟨w4.heap.size, 1, none⟩ = some (.bool n0_0_1) ∧ w'.cell? ⟨w4.heap.size, 2, none⟩ = some (.bool n0_0_2) ∧ w'.cell? ⟨w4.heap.size, 3, none⟩ = some (.slice pX2_3 n0_0_3.length qX2_3) ∧ w'.cell? ⟨w4.heap.size, 4, none⟩ = some (.int .i64 n0_0_4) ∧ w'.cell? ⟨w4.heap.size, 5, none⟩ = some (.slice pX2_5 n0_1.length qX2_5) ∧ w'.cell? ⟨w.heap.size, 0, none⟩ = some (.string ⟨n0_0_0.toArray⟩) ∧ w'.cell? ⟨w.heap.size, 1, none⟩ = some (.bool n0_0_1) ∧ w'.cell? ⟨w.heap.size, 2, none⟩ = some (.bool n0_0_2) ∧ w'.cell? ⟨w.heap.size, 3, none⟩ = some (.slice ca0_3 n0_0_3.length cc0_3) ∧ w'.cell? ⟨w.heap.size, 4, none⟩ = some (.int .i64 n0_0_4) ∧ w'.cell? ⟨w.heap.size, 5, none⟩ = some (.slice ca0_5 n0_1.length cc0_5))
        (first
          | exact ⟨(hbA.cell (p := ⟨w4.heap.size, 0, none⟩) (by simp; omega)).trans ex0_0_w7, (hbA.cell (p := ⟨w4.heap.size, 1, none⟩) (by simp; omega)).trans ex0_1_w7, (hbA.cell (p := ⟨w4.heap.size, 2, none⟩) (by simp; omega)).trans ex0_2_w7, (hbA.cell (p := ⟨w4.heap.size, 3, none⟩) (by simp; omega)).trans ex0_3_w7, (hbA.cell (p := ⟨w4.heap.size, 4, none⟩) (by simp; omega)).trans ex0_4_w7, (hbA.cell (p := ⟨w4.heap.size, 5, none⟩) (by simp; omega)).trans ex0_5_w7, (hbA.cell (p := ⟨w.heap.size, 0, none⟩) (by simp; omega)).trans ep0_0_w7, (hbA.cell (p := ⟨w.heap.size, 1, none⟩) (by simp; omega)).trans ep0_1_w7, (hbA.cell (p := ⟨w.heap.size, 2, none⟩) (by simp; omega)).trans ep0_2_w7, (hbA.cell (p := ⟨w.heap.size, 3, none⟩) (by simp; omega)).trans ep0_3_w7, (hbA.cell (p := ⟨w.heap.size, 4, none⟩) (by simp; omega)).trans ep0_4_w7, (hbA.cell (p := ⟨w.heap.size, 5, none⟩) (by simp; omega)).trans ep0_5_w7⟩
          | exact ⟨(hbB.cell (p := ⟨w4.heap.size, 0, none⟩) (by have h := hbA.size; simp at h; simp; omega)).trans ((hbA.cell (p := ⟨w4.heap.size, 0, none⟩) (by simp; omega)).trans ex0_0_w7), (hbB.cell (p := ⟨w4.heap.size, 1, none⟩) (by have h := hbA.size; simp at h; simp; omega)).trans ((hbA.cell (p := ⟨w4.heap.size, 1, none⟩) (by simp; omega)).trans ex0_1_w7), (hbB.cell (p := ⟨w4.heap.size, 2, none⟩) (by have h := hbA.size; simp at h; simp; omega)).trans ((hbA.cell (p := ⟨w4.heap.size, 2, none⟩) (by simp; omega)).trans ex0_2_w7), (hbB.cell (p := ⟨w4.heap.size, 3, none⟩) (by have h := hbA.size; simp at h; simp; omega)).trans ((hbA.cell (p := ⟨w4.heap.size, 3, none⟩) (by simp; omega)).trans ex0_3_w7), (hbB.cell (p := ⟨w4.heap.size, 4, none⟩) (by have h := hbA.size; simp at h; simp; omega)).trans ((hbA.cell (p := ⟨w4.heap.size, 4, none⟩) (by simp; omega)).trans ex0_4_w7), (hbB.cell (p := ⟨w4.heap.size, 5, none⟩) (by have h := hbA.size; simp at h; simp; omega)).trans ((hbA.cell (p := ⟨w4.heap.size, 5, none⟩) (by simp; omega)).trans ex0_5_w7), (hbB.cell (p := ⟨w.heap.size, 0, none⟩) (by have h := hbA.size; simp at h; simp; omega)).trans ((hbA.cell (p := ⟨w.heap.size, 0, none⟩) (by simp; omega)).trans ep0_0_w7), (hbB.cell (p := ⟨w.heap.size, 1, none⟩) (by have h := hbA.size; simp at h; simp; omega)).trans ((hbA.cell (p := ⟨w.heap.size, 1, none⟩) (by simp; omega)).trans ep0_1_w7), (hbB.cell (p := ⟨w.heap.size, 2, none⟩) (by have h := hbA.size; simp at h; simp; omega)).trans ((hbA.cell (p := ⟨w.heap.size, 2, none⟩) (by simp; omega)).trans ep0_2_w7), (hbB.cell (p := ⟨w.heap.size, 3, none⟩) (by have h := hbA.size; simp at h; simp; omega)).trans ((hbA.cell (p := ⟨w.heap.size, 3, none⟩) (by simp; omega)).trans ep0_3_w7), (hbB.cell (p := ⟨w.heap.size, 4, none⟩) (by have h := hbA.size; simp at h; simp; omega)).trans ((hbA.cell (p := ⟨w.heap.size, 4, none⟩) (by simp; omega)).trans ep0_4_w7), (hbB.cell (p := ⟨w.heap.size, 5, none⟩) (by have h := hbA.size; simp at h; simp; omega)).trans ((hbA.cell (p := ⟨w.heap.size, 5, none⟩) (by simp; omega)).trans ep0_5_w7)⟩
          | go_keep)
        (first
          | (go_at_call 10; refine (toPart_d _ (⟨⟨n0_0_0, n0_0_1, n0_0_2, n0_0_3, n0_0_4⟩, n0_1⟩ : PartD) _ ⟨_, rfl, (belPart A0_w7.out (by repeat (first | exact Below.refl _ _ | refine Below.alloc ?_ (by simp; try omega) _ | refine Below.setCell ?_ (by simp; try omega) _ | refine belN ?_ _ | refine belD ?_)) (Nat.le_refl _))⟩ (by have := HSZ.out; omega)).mono ?_; rintro e w8 ⟨_, rfl, hoZ, hbA⟩)
          | (go_at_call 12; refine (eqPart_d _ _ (⟨⟨n0_0_0, n0_0_1, n0_0_2, n0_0_3, n0_0_4⟩, n0_1⟩ : PartD) (⟨⟨n0_0_0, n0_0_1, n0_0_2, n0_0_3, n0_0_4⟩, n0_1⟩ : PartD) _ ⟨_, rfl, (belPart X2a_w7.out (below_step (w := w7) (by repeat (first | exact Below.refl _ _ | refine Below.alloc ?_ (by simp; try omega) _ | refine Below.setCell ?_ (by simp; try omega) _ | refine belN ?_ _ | refine belD ?_)) hbA) (Nat.le_refl _))⟩ ⟨_, rfl, (goodPart.mono hoZ (Nat.zero_le _))⟩).mono ?_; rintro e w9 ⟨rfl, hbB⟩))
      have hb1 := below_step (w := w7) (by repeat (first | exact Below.refl _ _ | refine Below.alloc ?_ (by simp; try omega) _ | refine Below.setCell ?_ (by simp; try omega) _ | refine belN ?_ _ | refine belD ?_)) hbA
      have hb := hb1.trans (hbB.mono hb1.size)
      rename_i hheld
      clear hheld hoZ
      have Cw_w9 := Lib.hid (Cw_w7.out.trans (hb.mono Cw_w7.out.size))
      have Cw3_w9 := Lib.hid (Cw3_w7.out.trans (hb.mono Cw3_w7.out.size))
      have Cw4_w9 := Lib.hid (Cw4_w7.out.trans (hb.mono Cw4_w7.out.size))
      have Cw5_w9 := Lib.hid (Cw5_w7.out.trans (hb.mono Cw5_w7.out.size))
      have A0_w9 := Lib.hid (belPart A0_w7.out hb (Nat.le_refl _))
      have Rs_w9 := Lib.hid (belPart Rs_w7.out hb (Nat.le_refl _))
      have X2a_w9 := Lib.hid (belPart X2a_w7.out hb (Nat.le_refl _))
      have X2_w9 := Lib.hid (ownP_below X2_w7.out hb (Nat.le_refl _))
      have Rga_w9 := Lib.hid (belPart Rga_w7.out hb (Nat.le_refl _))
      have Rg_w9 := Lib.hid (ownP_below Rg_w7.out hb (Nat.le_refl _))
      have ep0_0_w9 := (hb.cell (p := ⟨w.heap.size, 0, none⟩) Lp0_w7).trans ep0_0_w7
      have ep0_1_w9 := (hb.cell (p := ⟨w.heap.size, 1, none⟩) Lp0_w7).trans ep0_1_w7
      have ep0_2_w9 := (hb.cell (p := ⟨w.heap.size, 2, none⟩) Lp0_w7).trans ep0_2_w7
      have ep0_3_w9 := (hb.cell (p := ⟨w.heap.size, 3, none⟩) Lp0_w7).trans ep0_3_w7
      have ep0_4_w9 := (hb.cell (p := ⟨w.heap.size, 4, none⟩) Lp0_w7).trans ep0_4_w7
      have ep0_5_w9 := (hb.cell (p := ⟨w.heap.size, 5, none⟩) Lp0_w7).trans ep0_5_w7
      have Lp0_w9 : w.heap.size < w9.heap.size := by have h := hb.size; omega
      clear ep0_0_w7 ep0_1_w7 ep0_2_w7 ep0_3_w7 ep0_4_w7 ep0_5_w7 Lp0_w7
      have es0_0_w9 := (hb.cell (p := ⟨w3.heap.size, 0, none⟩) Ls0_w7).trans es0_0_w7
      have es0_1_w9 := (hb.cell (p := ⟨w3.heap.size, 1, none⟩) Ls0_w7).trans es0_1_w7
      have es0_2_w9 := (hb.cell (p := ⟨w3.heap.size, 2, none⟩) Ls0_w7).trans es0_2_w7
      have es0_3_w9 := (hb.cell (p := ⟨w3.heap.size, 3, none⟩) Ls0_w7).trans es0_3_w7
      have es0_4_w9 := (hb.cell (p := ⟨w3.heap.size, 4, none⟩) Ls0_w7).trans es0_4_w7
      have es0_5_w9 := (hb.cell (p := ⟨w3.heap.size, 5, none⟩) Ls0_w7).trans es0_5_w7
      have Ls0_w9 : w3.heap.size < w9.heap.size := by have h := hb.size; omega
      clear es0_0_w7 es0_1_w7 es0_2_w7 es0_3_w7 es0_4_w7 es0_5_w7 Ls0_w7
      have es1_0_w9 := (hb.cell (p := ⟨w3.heap.size + 1, 0, none⟩) Ls1_w7).trans es1_0_w7
      have es1_1_w9 := (hb.cell (p := ⟨w3.heap.size + 1, 1, none⟩) Ls1_w7).trans es1_1_w7
      have es1_2_w9 := (hb.cell (p := ⟨w3.heap.size + 1, 2, none⟩) Ls1_w7).trans es1_2_w7
      have es1_3_w9 := (hb.cell (p := ⟨w3.heap.size + 1, 3, none⟩) Ls1_w7).trans es1_3_w7
      have es1_4_w9 := (hb.cell (p := ⟨w3.heap.size + 1, 4, none⟩) Ls1_w7).trans es1_4_w7
      have Ls1_w9 : w3.heap.size + 1 < w9.heap.size := by have h := hb.size; omega
      clear es1_0_w7 es1_1_w7 es1_2_w7 es1_3_w7 es1_4_w7 Ls1_w7
      have ex0_0_w9 := (hb.cell (p := ⟨w4.heap.size, 0, none⟩) Lx0_w7).trans ex0_0_w7
      have ex0_1_w9 := (hb.cell (p := ⟨w4.heap.size, 1, none⟩) Lx0_w7).trans ex0_1_w7
      have ex0_2_w9 := (hb.cell (p := ⟨w4.heap.size, 2, none⟩) Lx0_w7).trans ex0_2_w7
      have ex0_3_w9 := (hb.cell (p := ⟨w4.heap.size, 3, none⟩) Lx0_w7).trans ex0_3_w7
      have ex0_4_w9 := (hb.cell (p := ⟨w4.heap.size, 4, none⟩) Lx0_w7).trans ex0_4_w7
      have ex0_5_w9 := (hb.cell (p := ⟨w4.heap.size, 5, none⟩) Lx0_w7).trans ex0_5_w7
      have Lx0_w9 : w4.heap.size < w9.heap.size := by have h := hb.size; omega
      clear ex0_0_w7 ex0_1_w7 ex0_2_w7 ex0_3_w7 ex0_4_w7 ex0_5_w7 Lx0_w7
      have eg0_0_w9 := (hb.cell (p := ⟨w5.heap.size, 0, none⟩) Lg0_w7).trans eg0_0_w7
      have eg0_1_w9 := (hb.cell (p := ⟨w5.heap.size, 1, none⟩) Lg0_w7).trans eg0_1_w7
      have eg0_2_w9 := (hb.cell (p := ⟨w5.heap.size, 2, none⟩) Lg0_w7).trans eg0_2_w7
      have eg0_3_w9 := (hb.cell (p := ⟨w5.heap.size, 3, none⟩) Lg0_w7).trans eg0_3_w7
      have eg0_4_w9 := (hb.cell (p := ⟨w5.heap.size, 4, none⟩) Lg0_w7).trans eg0_4_w7
      have eg0_5_w9 := (hb.cell (p := ⟨w5.heap.size, 5, none⟩) Lg0_w7).trans eg0_5_w7
      have Lg0_w9 : w5.heap.size < w9.heap.size := by have h := hb.size; omega
      clear eg0_0_w7 eg0_1_w7 eg0_2_w7 eg0_3_w7 eg0_4_w7 eg0_5_w7 Lg0_w7
      have eg1_0_w9 := (hb.cell (p := ⟨w5.heap.size + 1, 0, none⟩) Lg1_w7).trans eg1_0_w7
      have eg1_1_w9 := (hb.cell (p := ⟨w5.heap.size + 1, 1, none⟩) Lg1_w7).trans eg1_1_w7
      have eg1_2_w9 := (hb.cell (p := ⟨w5.heap.size + 1, 2, none⟩) Lg1_w7).trans eg1_2_w7
      have eg1_3_w9 := (hb.cell (p := ⟨w5.heap.size + 1, 3, none⟩) Lg1_w7).trans eg1_3_w7
      have eg1_4_w9 := (hb.cell (p := ⟨w5.heap.size + 1, 4, none⟩) Lg1_w7).trans eg1_4_w7
      have Lg1_w9 : w5.heap.size + 1 < w9.heap.size := by have h := hb.size; omega
      clear eg1_0_w7 eg1_1_w7 eg1_2_w7 eg1_3_w7 eg1_4_w7 Lg1_w7
      clear hb hb1 hbA hbB
      go_wp2_with fail
      refine (markPart_o LX2 _ _ (⟨⟨n0_0_0, n0_0_1, n0_0_2, n0_0_3, n0_0_4⟩, n0_1⟩ : PartD) 1 _ (ownP_below X2_w9.out (by repeat (first | exact Below.refl _ _ | refine Below.alloc ?_ (by simp; try omega) _ | refine Below.setCell ?_ (by simp; try omega) _ | refine belN ?_ _ | refine belD ?_)) (Nat.le_refl _)) (by have := HSM.out.z; simp only [zPart, zCore] at this; simp only; omega) (by have := HSM.out.z; simp only [zPart, zCore] at this; simp only; omega) (by omega) (by omega)).mono ?_
      rintro e w10 ⟨rfl, ho, hbt⟩
      have Cw_w10 := Lib.hid (betw_below Cw_w9.out hbt LCX2_w.out)
      have Cw3_w10 := Lib.hid (betw_below Cw3_w9.out hbt LCX2_w3.out)
      have A0_w10 := Lib.hid (belPart A0.out Cw_w10.out (Nat.le_refl _))
      have Rs_w10 := Lib.hid (belPart Rs.out Cw3_w10.out (Nat.le_refl _))
      have Rg_w10 := Lib.hid (ownP_betw Rg_w9.out hbt (Or.inr LCRg_w4.out))
      have Rga_w10 := Lib.hid (ownP_at Rg_w10.out (by have := HSR.out.cells; simp only at this ⊢; omega) (by have := HSR.out.lays; simp only at this ⊢; omega))
      have ep0_0_w10 := (betw_cell hbt (w.heap.size) 0 Lp0_w9 (Or.inl LBX2_p0.out)).trans ep0_0_w9
      have ep0_1_w10 := (betw_cell hbt (w.heap.size) 1 Lp0_w9 (Or.inl LBX2_p0.out)).trans ep0_1_w9
      have ep0_2_w10 := (betw_cell hbt (w.heap.size) 2 Lp0_w9 (Or.inl LBX2_p0.out)).trans ep0_2_w9
      have ep0_3_w10 := (betw_cell hbt (w.heap.size) 3 Lp0_w9 (Or.inl LBX2_p0.out)).trans ep0_3_w9
      have ep0_4_w10 := (betw_cell hbt (w.heap.size) 4 Lp0_w9 (Or.inl LBX2_p0.out)).trans ep0_4_w9
      have ep0_5_w10 := (betw_cell hbt (w.heap.size) 5 Lp0_w9 (Or.inl LBX2_p0.out)).trans ep0_5_w9
      have Lp0_w10 : w.heap.size < w10.heap.size := by have h := hbt.size; omega
      clear ep0_0_w9 ep0_1_w9 ep0_2_w9 ep0_3_w9 ep0_4_w9 ep0_5_w9 Lp0_w9
      have es0_0_w10 := (betw_cell hbt (w3.heap.size) 0 Ls0_w9 (Or.inl LBX2_s0.out)).trans es0_0_w9
      have es0_1_w10 := (betw_cell hbt (w3.heap.size) 1 Ls0_w9 (Or.inl LBX2_s0.out)).trans es0_1_w9
      have es0_2_w10 := (betw_cell hbt (w3.heap.size) 2 Ls0_w9 (Or.inl LBX2_s0.out)).trans es0_2_w9
      have es0_3_w10 := (betw_cell hbt (w3.heap.size) 3 Ls0_w9 (Or.inl LBX2_s0.out)).trans es0_3_w9
      have es0_4_w10 := (betw_cell hbt (w3.heap.size) 4 Ls0_w9 (Or.inl LBX2_s0.out)).trans es0_4_w9
      have es0_5_w10 := (betw_cell hbt (w3.heap.size) 5 Ls0_w9 (Or.inl LBX2_s0.out)).trans es0_5_w9
      have Ls0_w10 : w3.heap.size < w10.heap.size := by have h := hbt.size; omega
      clear es0_0_w9 es0_1_w9 es0_2_w9 es0_3_w9 es0_4_w9 es0_5_w9 Ls0_w9
      have es1_0_w10 := (betw_cell hbt (w3.heap.size + 1) 0 Ls1_w9 (Or.inl LBX2_s1.out)).trans es1_0_w9
      have es1_1_w10 := (betw_cell hbt (w3.heap.size + 1) 1 Ls1_w9 (Or.inl LBX2_s1.out)).trans es1_1_w9
      have es1_2_w10 := (betw_cell hbt (w3.heap.size + 1) 2 Ls1_w9 (Or.inl LBX2_s1.out)).trans es1_2_w9
      have es1_3_w10 := (betw_cell hbt (w3.heap.size + 1) 3 Ls1_w9 (Or.inl LBX2_s1.out)).trans es1_3_w9
      have es1_4_w10 := (betw_cell hbt (w3.heap.size + 1) 4 Ls1_w9 (Or.inl LBX2_s1.out)).trans es1_4_w9
      have Ls1_w10 : w3.heap.size + 1 < w10.heap.size := by have h := hbt.size; omega
      clear es1_0_w9 es1_1_w9 es1_2_w9 es1_3_w9 es1_4_w9 Ls1_w9
      have ex0_0_w10 := (betw_cell hbt (w4.heap.size) 0 Lx0_w9 (Or.inr GBX2_x0.out)).trans ex0_0_w9
      have ex0_1_w10 := (betw_cell hbt (w4.heap.size) 1 Lx0_w9 (Or.inr GBX2_x0.out)).trans ex0_1_w9
      have ex0_2_w10 := (betw_cell hbt (w4.heap.size) 2 Lx0_w9 (Or.inr GBX2_x0.out)).trans ex0_2_w9
      have ex0_3_w10 := (betw_cell hbt (w4.heap.size) 3 Lx0_w9 (Or.inr GBX2_x0.out)).trans ex0_3_w9
      have ex0_4_w10 := (betw_cell hbt (w4.heap.size) 4 Lx0_w9 (Or.inr GBX2_x0.out)).trans ex0_4_w9
      have ex0_5_w10 := (betw_cell hbt (w4.heap.size) 5 Lx0_w9 (Or.inr GBX2_x0.out)).trans ex0_5_w9
      have Lx0_w10 : w4.heap.size < w10.heap.size := by have h := hbt.size; omega
      clear ex0_0_w9 ex0_1_w9 ex0_2_w9 ex0_3_w9 ex0_4_w9 ex0_5_w9 Lx0_w9
      have eg0_0_w10 := (betw_cell hbt (w5.heap.size) 0 Lg0_w9 (Or.inr GBX2_g0.out)).trans eg0_0_w9
      have eg0_1_w10 := (betw_cell hbt (w5.heap.size) 1 Lg0_w9 (Or.inr GBX2_g0.out)).trans eg0_1_w9
      have eg0_2_w10 := (betw_cell hbt (w5.heap.size) 2 Lg0_w9 (Or.inr GBX2_g0.out)).trans eg0_2_w9
      have eg0_3_w10 := (betw_cell hbt (w5.heap.size) 3 Lg0_w9 (Or.inr GBX2_g0.out)).trans eg0_3_w9
      have eg0_4_w10 := (betw_cell hbt (w5.heap.size) 4 Lg0_w9 (Or.inr GBX2_g0.out)).trans eg0_4_w9
      have eg0_5_w10 := (betw_cell hbt (w5.heap.size) 5 Lg0_w9 (Or.inr GBX2_g0.out)).trans eg0_5_w9
      have Lg0_w10 : w5.heap.size < w10.heap.size := by have h := hbt.size; omega
      clear eg0_0_w9 eg0_1_w9 eg0_2_w9 eg0_3_w9 eg0_4_w9 eg0_5_w9 Lg0_w9
      have eg1_0_w10 := (betw_cell hbt (w5.heap.size + 1) 0 Lg1_w9 (Or.inr GBX2_g1.out)).trans eg1_0_w9
      have eg1_1_w10 := (betw_cell hbt (w5.heap.size + 1) 1 Lg1_w9 (Or.inr GBX2_g1.out)).trans eg1_1_w9
      have eg1_2_w10 := (betw_cell hbt (w5.heap.size + 1) 2 Lg1_w9 (Or.inr GBX2_g1.out)).trans eg1_2_w9
      have eg1_3_w10 := (betw_cell hbt (w5.heap.size + 1) 3 Lg1_w9 (Or.inr GBX2_g1.out)).trans eg1_3_w9
      have eg1_4_w10 := (betw_cell hbt (w5.heap.size + 1) 4 Lg1_w9 (Or.inr GBX2_g1.out)).trans eg1_4_w9
      have Lg1_w10 : w5.heap.size + 1 < w10.heap.size := by have h := hbt.size; omega
      clear eg1_0_w9 eg1_1_w9 eg1_2_w9 eg1_3_w9 eg1_4_w9 Lg1_w9
      clear ho hbt
      go_wp2_with fail
      refine (eqPart_d _ _ (⟨⟨n9_0_0, n9_0_1, n9_0_2, n9_0_3, n9_0_4⟩, n9_1⟩ : PartD) (⟨⟨n9_0_0, n9_0_1, n9_0_2, n9_0_3, n9_0_4⟩, n9_1⟩ : PartD) _ ⟨_, rfl, (belPart Rga_w10.out (by repeat (first | exact Below.refl _ _ | refine Below.alloc ?_ (by simp; try omega) _ | refine Below.setCell ?_ (by simp; try omega) _ | refine belN ?_ _ | refine belD ?_)) (Nat.le_refl _))⟩ ⟨_, rfl, (belPart Rs_w10.out (by repeat (first | exact Below.refl _ _ | refine Below.alloc ?_ (by simp; try omega) _ | refine Below.setCell ?_ (by simp; try omega) _ | refine belN ?_ _ | refine belD ?_)) (Nat.le_refl _))⟩).mono ?_
      rintro e w11 ⟨rfl, hb0⟩
      have hb := below_step (w := w10) (by repeat (first | exact Below.refl _ _ | refine Below.alloc ?_ (by simp; try omega) _ | refine Below.setCell ?_ (by simp; try omega) _ | refine belN ?_ _ | refine belD ?_)) hb0
      have Cw_w11 := Lib.hid (Cw_w10.out.trans (hb.mono Cw_w10.out.size))
      have Cw3_w11 := Lib.hid (Cw3_w10.out.trans (hb.mono Cw3_w10.out.size))
      have Cw10_w11 := Lib.hid hb
      have A0_w11 := Lib.hid (belPart A0_w10.out hb (Nat.le_refl _))
      have Rs_w11 := Lib.hid (belPart Rs_w10.out hb (Nat.le_refl _))
      have Rg_w11 := Lib.hid (ownP_below Rg_w10.out hb (Nat.le_refl _))
      have Rga_w11 := Lib.hid (belPart Rga_w10.out hb (Nat.le_refl _))
      have ep0_0_w11 := (hb.cell (p := ⟨w.heap.size, 0, none⟩) Lp0_w10).trans ep0_0_w10
      have ep0_1_w11 := (hb.cell (p := ⟨w.heap.size, 1, none⟩) Lp0_w10).trans ep0_1_w10
      have ep0_2_w11 := (hb.cell (p := ⟨w.heap.size, 2, none⟩) Lp0_w10).trans ep0_2_w10
      have ep0_3_w11 := (hb.cell (p := ⟨w.heap.size, 3, none⟩) Lp0_w10).trans ep0_3_w10
      have ep0_4_w11 := (hb.cell (p := ⟨w.heap.size, 4, none⟩) Lp0_w10).trans ep0_4_w10
      have ep0_5_w11 := (hb.cell (p := ⟨w.heap.size, 5, none⟩) Lp0_w10).trans ep0_5_w10
      have Lp0_w11 : w.heap.size < w11.heap.size := by have h := hb.size; omega
      clear ep0_0_w10 ep0_1_w10 ep0_2_w10 ep0_3_w10 ep0_4_w10 ep0_5_w10 Lp0_w10
      have es0_0_w11 := (hb.cell (p := ⟨w3.heap.size, 0, none⟩) Ls0_w10).trans es0_0_w10
      have es0_1_w11 := (hb.cell (p := ⟨w3.heap.size, 1, none⟩) Ls0_w10).trans es0_1_w10
      have es0_2_w11 := (hb.cell (p := ⟨w3.heap.size, 2, none⟩) Ls0_w10).trans es0_2_w10
      have es0_3_w11 := (hb.cell (p := ⟨w3.heap.size, 3, none⟩) Ls0_w10).trans es0_3_w10
      have es0_4_w11 := (hb.cell (p := ⟨w3.heap.size, 4, none⟩) Ls0_w10).trans es0_4_w10
      have es0_5_w11 := (hb.cell (p := ⟨w3.heap.size, 5, none⟩) Ls0_w10).trans es0_5_w10
      have Ls0_w11 : w3.heap.size < w11.heap.size := by have h := hb.size; omega
      clear es0_0_w10 es0_1_w10 es0_2_w10 es0_3_w10 es0_4_w10 es0_5_w10 Ls0_w10
      have es1_0_w11 := (hb.cell (p := ⟨w3.heap.size + 1, 0, none⟩) Ls1_w10).trans es1_0_w10
      have es1_1_w11 := (hb.cell (p := ⟨w3.heap.size + 1, 1, none⟩) Ls1_w10).trans es1_1_w10
      have es1_2_w11 := (hb.cell (p := ⟨w3.heap.size + 1, 2, none⟩) Ls1_w10).trans es1_2_w10
      have es1_3_w11 := (hb.cell (p := ⟨w3.heap.size + 1, 3, none⟩) Ls1_w10).trans es1_3_w10
      have es1_4_w11 := (hb.cell (p := ⟨w3.heap.size + 1, 4, none⟩) Ls1_w10).trans es1_4_w10
      have Ls1_w11 : w3.heap.size + 1 < w11.heap.size := by have h := hb.size; omega
      clear es1_0_w10 es1_1_w10 es1_2_w10 es1_3_w10 es1_4_w10 Ls1_w10
      have ex0_0_w11 := (hb.cell (p := ⟨w4.heap.size, 0, none⟩) Lx0_w10).trans ex0_0_w10
      have ex0_1_w11 := (hb.cell (p := ⟨w4.heap.size, 1, none⟩) Lx0_w10).trans ex0_1_w10
      have ex0_2_w11 := (hb.cell (p := ⟨w4.heap.size, 2, none⟩) Lx0_w10).trans ex0_2_w10
      have ex0_3_w11 := (hb.cell (p := ⟨w4.heap.size, 3, none⟩) Lx0_w10).trans ex0_3_w10
      have ex0_4_w11 := (hb.cell (p := ⟨w4.heap.size, 4, none⟩) Lx0_w10).trans ex0_4_w10
      have ex0_5_w11 := (hb.cell (p := ⟨w4.heap.size, 5, none⟩) Lx0_w10).trans ex0_5_w10
      have Lx0_w11 : w4.heap.size < w11.heap.size := by have h := hb.size; omega
      clear ex0_0_w10 ex0_1_w10 ex0_2_w10 ex0_3_w10 ex0_4_w10 ex0_5_w10 Lx0_w10
      have eg0_0_w11 := (hb.cell (p := ⟨w5.heap.size, 0, none⟩) Lg0_w10).trans eg0_0_w10
      have eg0_1_w11 := (hb.cell (p := ⟨w5.heap.size, 1, none⟩) Lg0_w10).trans eg0_1_w10
      have eg0_2_w11 := (hb.cell (p := ⟨w5.heap.size, 2, none⟩) Lg0_w10).trans eg0_2_w10
      have eg0_3_w11 := (hb.cell (p := ⟨w5.heap.size, 3, none⟩) Lg0_w10).trans eg0_3_w10
      have eg0_4_w11 := (hb.cell (p := ⟨w5.heap.size, 4, none⟩) Lg0_w10).trans eg0_4_w10
      have eg0_5_w11 := (hb.cell (p := ⟨w5.heap.size, 5, none⟩) Lg0_w10).trans eg0_5_w10
      have Lg0_w11 : w5.heap.size < w11.heap.size := by have h := hb.size; omega
      clear eg0_0_w10 eg0_1_w10 eg0_2_w10 eg0_3_w10 eg0_4_w10 eg0_5_w10 Lg0_w10
      have eg1_0_w11 := (hb.cell (p := ⟨w5.heap.size + 1, 0, none⟩) Lg1_w10).trans eg1_0_w10
      have eg1_1_w11 := (hb.cell (p := ⟨w5.heap.size + 1, 1, none⟩) Lg1_w10).trans eg1_1_w10
      have eg1_2_w11 := (hb.cell (p := ⟨w5.heap.size + 1, 2, none⟩) Lg1_w10).trans eg1_2_w10
      have eg1_3_w11 := (hb.cell (p := ⟨w5.heap.size + 1, 3, none⟩) Lg1_w10).trans eg1_3_w10
      have eg1_4_w11 := (hb.cell (p := ⟨w5.heap.size + 1, 4, none⟩) Lg1_w10).trans eg1_4_w10
      have Lg1_w11 : w5.heap.size + 1 < w11.heap.size := by have h := hb.size; omega
      clear eg1_0_w10 eg1_1_w10 eg1_2_w10 eg1_3_w10 eg1_4_w10 Lg1_w10
      rw [show decide ((⟨⟨n9_0_0, n9_0_1, n9_0_2, n9_0_3, n9_0_4⟩, n9_1⟩ : PartD) = (⟨⟨n9_0_0, n9_0_1, n9_0_2, n9_0_3, n9_0_4⟩, n9_1⟩ : PartD)) = true by simp]
      clear hb hb0
      go_wp2_with fail
      refine (eqReply_any (⟨m0, m1, m2, m3, m4⟩ : ReplyD) (⟨m0, m1, m2, m3, m4⟩ : ReplyD) _).mono ?_
      rintro e w12 ⟨rfl, hb0⟩
      have hb := below_step (w := w11) (by repeat (first | exact Below.refl _ _ | refine Below.alloc ?_ (by simp; try omega) _ | refine Below.setCell ?_ (by simp; try omega) _ | refine belN ?_ _ | refine belD ?_)) hb0
      have Cw_w12 := Lib.hid (Cw_w11.out.trans (hb.mono Cw_w11.out.size))
      have Cw3_w12 := Lib.hid (Cw3_w11.out.trans (hb.mono Cw3_w11.out.size))
      have Cw10_w12 := Lib.hid (Cw10_w11.out.trans (hb.mono Cw10_w11.out.size))
      have A0_w12 := Lib.hid (belPart A0_w11.out hb (Nat.le_refl _))
      have Rs_w12 := Lib.hid (belPart Rs_w11.out hb (Nat.le_refl _))
      have Rg_w12 := Lib.hid (ownP_below Rg_w11.out hb (Nat.le_refl _))
      have Rga_w12 := Lib.hid (belPart Rga_w11.out hb (Nat.le_refl _))
      have ep0_0_w12 := (hb.cell (p := ⟨w.heap.size, 0, none⟩) Lp0_w11).trans ep0_0_w11
      have ep0_1_w12 := (hb.cell (p := ⟨w.heap.size, 1, none⟩) Lp0_w11).trans ep0_1_w11
      have ep0_2_w12 := (hb.cell (p := ⟨w.heap.size, 2, none⟩) Lp0_w11).trans ep0_2_w11
      have ep0_3_w12 := (hb.cell (p := ⟨w.heap.size, 3, none⟩) Lp0_w11).trans ep0_3_w11
      have ep0_4_w12 := (hb.cell (p := ⟨w.heap.size, 4, none⟩) Lp0_w11).trans ep0_4_w11
      have ep0_5_w12 := (hb.cell (p := ⟨w.heap.size, 5, none⟩) Lp0_w11).trans ep0_5_w11
      have Lp0_w12 : w.heap.size < w12.heap.size := by have h := hb.size; omega
      clear ep0_0_w11 ep0_1_w11 ep0_2_w11 ep0_3_w11 ep0_4_w11 ep0_5_w11 Lp0_w11
      have es0_0_w12 := (hb.cell (p := ⟨w3.heap.size, 0, none⟩) Ls0_w11).trans es0_0_w11
      have es0_1_w12 := (hb.cell (p := ⟨w3.heap.size, 1, none⟩) Ls0_w11).trans es0_1_w11
      have es0_2_w12 := (hb.cell (p := ⟨w3.heap.size, 2, none⟩) Ls0_w11).trans es0_2_w11
      have es0_3_w12 := (hb.cell (p := ⟨w3.heap.size, 3, none⟩) Ls0_w11).trans es0_3_w11
      have es0_4_w12 := (hb.cell (p := ⟨w3.heap.size, 4, none⟩) Ls0_w11).trans es0_4_w11
      have es0_5_w12 := (hb.cell (p := ⟨w3.heap.size, 5, none⟩) Ls0_w11).trans es0_5_w11
      have Ls0_w12 : w3.heap.size < w12.heap.size := by have h := hb.size; omega
      clear es0_0_w11 es0_1_w11 es0_2_w11 es0_3_w11 es0_4_w11 es0_5_w11 Ls0_w11
      have es1_0_w12 := (hb.cell (p := ⟨w3.heap.size + 1, 0, none⟩) Ls1_w11).trans es1_0_w11
      have es1_1_w12 := (hb.cell (p := ⟨w3.heap.size + 1, 1, none⟩) Ls1_w11).trans es1_1_w11
      have es1_2_w12 := (hb.cell (p := ⟨w3.heap.size + 1, 2, none⟩) Ls1_w11).trans es1_2_w11
      have es1_3_w12 := (hb.cell (p := ⟨w3.heap.size + 1, 3, none⟩) Ls1_w11).trans es1_3_w11
      have es1_4_w12 := (hb.cell (p := ⟨w3.heap.size + 1, 4, none⟩) Ls1_w11).trans es1_4_w11
      have Ls1_w12 : w3.heap.size + 1 < w12.heap.size := by have h := hb.size; omega
      clear es1_0_w11 es1_1_w11 es1_2_w11 es1_3_w11 es1_4_w11 Ls1_w11
      have ex0_0_w12 := (hb.cell (p := ⟨w4.heap.size, 0, none⟩) Lx0_w11).trans ex0_0_w11
      have ex0_1_w12 := (hb.cell (p := ⟨w4.heap.size, 1, none⟩) Lx0_w11).trans ex0_1_w11
      have ex0_2_w12 := (hb.cell (p := ⟨w4.heap.size, 2, none⟩) Lx0_w11).trans ex0_2_w11
      have ex0_3_w12 := (hb.cell (p := ⟨w4.heap.size, 3, none⟩) Lx0_w11).trans ex0_3_w11
      have ex0_4_w12 := (hb.cell (p := ⟨w4.heap.size, 4, none⟩) Lx0_w11).trans ex0_4_w11
      have ex0_5_w12 := (hb.cell (p := ⟨w4.heap.size, 5, none⟩) Lx0_w11).trans ex0_5_w11
      have Lx0_w12 : w4.heap.size < w12.heap.size := by have h := hb.size; omega
      clear ex0_0_w11 ex0_1_w11 ex0_2_w11 ex0_3_w11 ex0_4_w11 ex0_5_w11 Lx0_w11
      have eg0_0_w12 := (hb.cell (p := ⟨w5.heap.size, 0, none⟩) Lg0_w11).trans eg0_0_w11
      have eg0_1_w12 := (hb.cell (p := ⟨w5.heap.size, 1, none⟩) Lg0_w11).trans eg0_1_w11
      have eg0_2_w12 := (hb.cell (p := ⟨w5.heap.size, 2, none⟩) Lg0_w11).trans eg0_2_w11
      have eg0_3_w12 := (hb.cell (p := ⟨w5.heap.size, 3, none⟩) Lg0_w11).trans eg0_3_w11
      have eg0_4_w12 := (hb.cell (p := ⟨w5.heap.size, 4, none⟩) Lg0_w11).trans eg0_4_w11
      have eg0_5_w12 := (hb.cell (p := ⟨w5.heap.size, 5, none⟩) Lg0_w11).trans eg0_5_w11
      have Lg0_w12 : w5.heap.size < w12.heap.size := by have h := hb.size; omega
      clear eg0_0_w11 eg0_1_w11 eg0_2_w11 eg0_3_w11 eg0_4_w11 eg0_5_w11 Lg0_w11
      have eg1_0_w12 := (hb.cell (p := ⟨w5.heap.size + 1, 0, none⟩) Lg1_w11).trans eg1_0_w11
      have eg1_1_w12 := (hb.cell (p := ⟨w5.heap.size + 1, 1, none⟩) Lg1_w11).trans eg1_1_w11
      have eg1_2_w12 := (hb.cell (p := ⟨w5.heap.size + 1, 2, none⟩) Lg1_w11).trans eg1_2_w11
      have eg1_3_w12 := (hb.cell (p := ⟨w5.heap.size + 1, 3, none⟩) Lg1_w11).trans eg1_3_w11
      have eg1_4_w12 := (hb.cell (p := ⟨w5.heap.size + 1, 4, none⟩) Lg1_w11).trans eg1_4_w11
      have Lg1_w12 : w5.heap.size + 1 < w12.heap.size := by have h := hb.size; omega
      clear eg1_0_w11 eg1_1_w11 eg1_2_w11 eg1_3_w11 eg1_4_w11 Lg1_w11
      rw [show decide ((⟨m0, m1, m2, m3, m4⟩ : ReplyD) = (⟨m0, m1, m2, m3, m4⟩ : ReplyD)) = true by simp]
      clear hb hb0
      go_wp2_with fail
      refine (markPart_o LRg _ _ (⟨⟨n9_0_0, n9_0_1, n9_0_2, n9_0_3, n9_0_4⟩, n9_1⟩ : PartD) 1 _ (ownP_below Rg_w12.out (by repeat (first | exact Below.refl _ _ | refine Below.alloc ?_ (by simp; try omega) _ | refine Below.setCell ?_ (by simp; try omega) _ | refine belN ?_ _ | refine belD ?_)) (Nat.le_refl _)) (by have := HSR.out.z; simp only [zPart, zCore] at this; simp only; omega) (by have := HSR.out.z; simp only [zPart, zCore] at this; simp only; omega) (by omega) (by omega)).mono ?_
      rintro e w13 ⟨rfl, ho, hbt⟩
      have Cw_w13 := Lib.hid (betw_below Cw_w12.out hbt LCRg_w.out)
      have Cw3_w13 := Lib.hid (betw_below Cw3_w12.out hbt LCRg_w3.out)
      have A0_w13 := Lib.hid (belPart A0.out Cw_w13.out (Nat.le_refl _))
      have Rs_w13 := Lib.hid (belPart Rs.out Cw3_w13.out (Nat.le_refl _))
      have ep0_0_w13 := (betw_cell hbt (w.heap.size) 0 Lp0_w12 (Or.inl LBRg_p0.out)).trans ep0_0_w12
      have ep0_1_w13 := (betw_cell hbt (w.heap.size) 1 Lp0_w12 (Or.inl LBRg_p0.out)).trans ep0_1_w12
      have ep0_2_w13 := (betw_cell hbt (w.heap.size) 2 Lp0_w12 (Or.inl LBRg_p0.out)).trans ep0_2_w12
      have ep0_3_w13 := (betw_cell hbt (w.heap.size) 3 Lp0_w12 (Or.inl LBRg_p0.out)).trans ep0_3_w12
      have ep0_4_w13 := (betw_cell hbt (w.heap.size) 4 Lp0_w12 (Or.inl LBRg_p0.out)).trans ep0_4_w12
      have ep0_5_w13 := (betw_cell hbt (w.heap.size) 5 Lp0_w12 (Or.inl LBRg_p0.out)).trans ep0_5_w12
      have Lp0_w13 : w.heap.size < w13.heap.size := by have h := hbt.size; omega
      clear ep0_0_w12 ep0_1_w12 ep0_2_w12 ep0_3_w12 ep0_4_w12 ep0_5_w12 Lp0_w12
      have es0_0_w13 := (betw_cell hbt (w3.heap.size) 0 Ls0_w12 (Or.inl LBRg_s0.out)).trans es0_0_w12
      have es0_1_w13 := (betw_cell hbt (w3.heap.size) 1 Ls0_w12 (Or.inl LBRg_s0.out)).trans es0_1_w12
      have es0_2_w13 := (betw_cell hbt (w3.heap.size) 2 Ls0_w12 (Or.inl LBRg_s0.out)).trans es0_2_w12
      have es0_3_w13 := (betw_cell hbt (w3.heap.size) 3 Ls0_w12 (Or.inl LBRg_s0.out)).trans es0_3_w12
      have es0_4_w13 := (betw_cell hbt (w3.heap.size) 4 Ls0_w12 (Or.inl LBRg_s0.out)).trans es0_4_w12
      have es0_5_w13 := (betw_cell hbt (w3.heap.size) 5 Ls0_w12 (Or.inl LBRg_s0.out)).trans es0_5_w12
      have Ls0_w13 : w3.heap.size < w13.heap.size := by have h := hbt.size; omega
      clear es0_0_w12 es0_1_w12 es0_2_w12 es0_3_w12 es0_4_w12 es0_5_w12 Ls0_w12
      have es1_0_w13 := (betw_cell hbt (w3.heap.size + 1) 0 Ls1_w12 (Or.inl LBRg_s1.out)).trans es1_0_w12
      have es1_1_w13 := (betw_cell hbt (w3.heap.size + 1) 1 Ls1_w12 (Or.inl LBRg_s1.out)).trans es1_1_w12
      have es1_2_w13 := (betw_cell hbt (w3.heap.size + 1) 2 Ls1_w12 (Or.inl LBRg_s1.out)).trans es1_2_w12
      have es1_3_w13 := (betw_cell hbt (w3.heap.size + 1) 3 Ls1_w12 (Or.inl LBRg_s1.out)).trans es1_3_w12
      have es1_4_w13 := (betw_cell hbt (w3.heap.size + 1) 4 Ls1_w12 (Or.inl LBRg_s1.out)).trans es1_4_w12
      have Ls1_w13 : w3.heap.size + 1 < w13.heap.size := by have h := hbt.size; omega
      clear es1_0_w12 es1_1_w12 es1_2_w12 es1_3_w12 es1_4_w12 Ls1_w12
      have ex0_0_w13 := (betw_cell hbt (w4.heap.size) 0 Lx0_w12 (Or.inl LBRg_x0.out)).trans ex0_0_w12
      have ex0_1_w13 := (betw_cell hbt (w4.heap.size) 1 Lx0_w12 (Or.inl LBRg_x0.out)).trans ex0_1_w12
      have ex0_2_w13 := (betw_cell hbt (w4.heap.size) 2 Lx0_w12 (Or.inl LBRg_x0.out)).trans ex0_2_w12
      have ex0_3_w13 := (betw_cell hbt (w4.heap.size) 3 Lx0_w12 (Or.inl LBRg_x0.out)).trans ex0_3_w12
      have ex0_4_w13 := (betw_cell hbt (w4.heap.size) 4 Lx0_w12 (Or.inl LBRg_x0.out)).trans ex0_4_w12
      have ex0_5_w13 := (betw_cell hbt (w4.heap.size) 5 Lx0_w12 (Or.inl LBRg_x0.out)).trans ex0_5_w12
      have Lx0_w13 : w4.heap.size < w13.heap.size := by have h := hbt.size; omega
      clear ex0_0_w12 ex0_1_w12 ex0_2_w12 ex0_3_w12 ex0_4_w12 ex0_5_w12 Lx0_w12
      have eg0_0_w13 := (betw_cell hbt (w5.heap.size) 0 Lg0_w12 (Or.inr GBRg_g0.out)).trans eg0_0_w12
      have eg0_1_w13 := (betw_cell hbt (w5.heap.size) 1 Lg0_w12 (Or.inr GBRg_g0.out)).trans eg0_1_w12
      have eg0_2_w13 := (betw_cell hbt (w5.heap.size) 2 Lg0_w12 (Or.inr GBRg_g0.out)).trans eg0_2_w12
      have eg0_3_w13 := (betw_cell hbt (w5.heap.size) 3 Lg0_w12 (Or.inr GBRg_g0.out)).trans eg0_3_w12
      have eg0_4_w13 := (betw_cell hbt (w5.heap.size) 4 Lg0_w12 (Or.inr GBRg_g0.out)).trans eg0_4_w12
      have eg0_5_w13 := (betw_cell hbt (w5.heap.size) 5 Lg0_w12 (Or.inr GBRg_g0.out)).trans eg0_5_w12
      have Lg0_w13 : w5.heap.size < w13.heap.size := by have h := hbt.size; omega
      clear eg0_0_w12 eg0_1_w12 eg0_2_w12 eg0_3_w12 eg0_4_w12 eg0_5_w12 Lg0_w12
      have eg1_0_w13 := (betw_cell hbt (w5.heap.size + 1) 0 Lg1_w12 (Or.inr GBRg_g1.out)).trans eg1_0_w12
      have eg1_1_w13 := (betw_cell hbt (w5.heap.size + 1) 1 Lg1_w12 (Or.inr GBRg_g1.out)).trans eg1_1_w12
      have eg1_2_w13 := (betw_cell hbt (w5.heap.size + 1) 2 Lg1_w12 (Or.inr GBRg_g1.out)).trans eg1_2_w12
      have eg1_3_w13 := (betw_cell hbt (w5.heap.size + 1) 3 Lg1_w12 (Or.inr GBRg_g1.out)).trans eg1_3_w12
      have eg1_4_w13 := (betw_cell hbt (w5.heap.size + 1) 4 Lg1_w12 (Or.inr GBRg_g1.out)).trans eg1_4_w12
      have Lg1_w13 : w5.heap.size + 1 < w13.heap.size := by have h := hbt.size; omega
      clear eg1_0_w12 eg1_1_w12 eg1_2_w12 eg1_3_w12 eg1_4_w12 Lg1_w12
      have MK := Lib.hid (ownP_at ho (by simp only [marksP, marksCell_len]; have := HSR.out.z; simp only [zPart, zCore] at this; omega) (by simp only [marksP, marksLayer_len]; have := HSR.out.z; simp only [zPart, zCore] at this; omega))
      clear ho hbt
      go_wp2_with fail
      refine (heldPart_o _ (⟨⟨n9_0_0, n9_0_1, n9_0_2, n9_0_3, n9_0_4⟩, n9_1⟩ : PartD) 1 _ (belPart MK.out (by repeat (first | exact Below.refl _ _ | refine Below.alloc ?_ (by simp; try omega) _ | refine Below.setCell ?_ (by simp; try omega) _ | refine belN ?_ _ | refine belD ?_)) (Nat.le_refl _)) (by have := HSR.out.z; simp only [zPart, zCore] at this; simp only; omega) (by have := HSR.out.z; simp only [zPart, zCore] at this; simp only; omega) (by omega) (by omega)).mono ?_
      rintro e w14 ⟨rfl, hb0⟩
      have hb := below_step (w := w13) (by repeat (first | exact Below.refl _ _ | refine Below.alloc ?_ (by simp; try omega) _ | refine Below.setCell ?_ (by simp; try omega) _ | refine belN ?_ _ | refine belD ?_)) hb0
      have Cw_w14 := Lib.hid (Cw_w13.out.trans (hb.mono Cw_w13.out.size))
      have Cw3_w14 := Lib.hid (Cw3_w13.out.trans (hb.mono Cw3_w13.out.size))
      have A0_w14 := Lib.hid (belPart A0_w13.out hb (Nat.le_refl _))
      have Rs_w14 := Lib.hid (belPart Rs_w13.out hb (Nat.le_refl _))
      have MK_w14 := Lib.hid (belPart MK.out hb (Nat.le_refl _))
      have ep0_0_w14 := (hb.cell (p := ⟨w.heap.size, 0, none⟩) Lp0_w13).trans ep0_0_w13
      have ep0_1_w14 := (hb.cell (p := ⟨w.heap.size, 1, none⟩) Lp0_w13).trans ep0_1_w13
      have ep0_2_w14 := (hb.cell (p := ⟨w.heap.size, 2, none⟩) Lp0_w13).trans ep0_2_w13
      have ep0_3_w14 := (hb.cell (p := ⟨w.heap.size, 3, none⟩) Lp0_w13).trans ep0_3_w13
      have ep0_4_w14 := (hb.cell (p := ⟨w.heap.size, 4, none⟩) Lp0_w13).trans ep0_4_w13
      have ep0_5_w14 := (hb.cell (p := ⟨w.heap.size, 5, none⟩) Lp0_w13).trans ep0_5_w13
      have Lp0_w14 : w.heap.size < w14.heap.size := by have h := hb.size; omega
      clear ep0_0_w13 ep0_1_w13 ep0_2_w13 ep0_3_w13 ep0_4_w13 ep0_5_w13 Lp0_w13
      have es0_0_w14 := (hb.cell (p := ⟨w3.heap.size, 0, none⟩) Ls0_w13).trans es0_0_w13
      have es0_1_w14 := (hb.cell (p := ⟨w3.heap.size, 1, none⟩) Ls0_w13).trans es0_1_w13
      have es0_2_w14 := (hb.cell (p := ⟨w3.heap.size, 2, none⟩) Ls0_w13).trans es0_2_w13
      have es0_3_w14 := (hb.cell (p := ⟨w3.heap.size, 3, none⟩) Ls0_w13).trans es0_3_w13
      have es0_4_w14 := (hb.cell (p := ⟨w3.heap.size, 4, none⟩) Ls0_w13).trans es0_4_w13
      have es0_5_w14 := (hb.cell (p := ⟨w3.heap.size, 5, none⟩) Ls0_w13).trans es0_5_w13
      have Ls0_w14 : w3.heap.size < w14.heap.size := by have h := hb.size; omega
      clear es0_0_w13 es0_1_w13 es0_2_w13 es0_3_w13 es0_4_w13 es0_5_w13 Ls0_w13
      have es1_0_w14 := (hb.cell (p := ⟨w3.heap.size + 1, 0, none⟩) Ls1_w13).trans es1_0_w13
      have es1_1_w14 := (hb.cell (p := ⟨w3.heap.size + 1, 1, none⟩) Ls1_w13).trans es1_1_w13
      have es1_2_w14 := (hb.cell (p := ⟨w3.heap.size + 1, 2, none⟩) Ls1_w13).trans es1_2_w13
      have es1_3_w14 := (hb.cell (p := ⟨w3.heap.size + 1, 3, none⟩) Ls1_w13).trans es1_3_w13
      have es1_4_w14 := (hb.cell (p := ⟨w3.heap.size + 1, 4, none⟩) Ls1_w13).trans es1_4_w13
      have Ls1_w14 : w3.heap.size + 1 < w14.heap.size := by have h := hb.size; omega
      clear es1_0_w13 es1_1_w13 es1_2_w13 es1_3_w13 es1_4_w13 Ls1_w13
      have ex0_0_w14 := (hb.cell (p := ⟨w4.heap.size, 0, none⟩) Lx0_w13).trans ex0_0_w13
      have ex0_1_w14 := (hb.cell (p := ⟨w4.heap.size, 1, none⟩) Lx0_w13).trans ex0_1_w13
      have ex0_2_w14 := (hb.cell (p := ⟨w4.heap.size, 2, none⟩) Lx0_w13).trans ex0_2_w13
      have ex0_3_w14 := (hb.cell (p := ⟨w4.heap.size, 3, none⟩) Lx0_w13).trans ex0_3_w13
      have ex0_4_w14 := (hb.cell (p := ⟨w4.heap.size, 4, none⟩) Lx0_w13).trans ex0_4_w13
      have ex0_5_w14 := (hb.cell (p := ⟨w4.heap.size, 5, none⟩) Lx0_w13).trans ex0_5_w13
      have Lx0_w14 : w4.heap.size < w14.heap.size := by have h := hb.size; omega
      clear ex0_0_w13 ex0_1_w13 ex0_2_w13 ex0_3_w13 ex0_4_w13 ex0_5_w13 Lx0_w13
      have eg0_0_w14 := (hb.cell (p := ⟨w5.heap.size, 0, none⟩) Lg0_w13).trans eg0_0_w13
      have eg0_1_w14 := (hb.cell (p := ⟨w5.heap.size, 1, none⟩) Lg0_w13).trans eg0_1_w13
      have eg0_2_w14 := (hb.cell (p := ⟨w5.heap.size, 2, none⟩) Lg0_w13).trans eg0_2_w13
      have eg0_3_w14 := (hb.cell (p := ⟨w5.heap.size, 3, none⟩) Lg0_w13).trans eg0_3_w13
      have eg0_4_w14 := (hb.cell (p := ⟨w5.heap.size, 4, none⟩) Lg0_w13).trans eg0_4_w13
      have eg0_5_w14 := (hb.cell (p := ⟨w5.heap.size, 5, none⟩) Lg0_w13).trans eg0_5_w13
      have Lg0_w14 : w5.heap.size < w14.heap.size := by have h := hb.size; omega
      clear eg0_0_w13 eg0_1_w13 eg0_2_w13 eg0_3_w13 eg0_4_w13 eg0_5_w13 Lg0_w13
      have eg1_0_w14 := (hb.cell (p := ⟨w5.heap.size + 1, 0, none⟩) Lg1_w13).trans eg1_0_w13
      have eg1_1_w14 := (hb.cell (p := ⟨w5.heap.size + 1, 1, none⟩) Lg1_w13).trans eg1_1_w13
      have eg1_2_w14 := (hb.cell (p := ⟨w5.heap.size + 1, 2, none⟩) Lg1_w13).trans eg1_2_w13
      have eg1_3_w14 := (hb.cell (p := ⟨w5.heap.size + 1, 3, none⟩) Lg1_w13).trans eg1_3_w13
      have eg1_4_w14 := (hb.cell (p := ⟨w5.heap.size + 1, 4, none⟩) Lg1_w13).trans eg1_4_w13
      have Lg1_w14 : w5.heap.size + 1 < w14.heap.size := by have h := hb.size; omega
      clear eg1_0_w13 eg1_1_w13 eg1_2_w13 eg1_3_w13 eg1_4_w13 Lg1_w13
      clear hb hb0
      have K_p0 := Lp0_w14
      have K_s0 := Ls0_w14
      have K_s1 := Ls1_w14
      have K_x0 := Lx0_w14
      have K_g0 := Lg0_w14
      have K_g1 := Lg1_w14
      go_wp2_with fail
      refine (toPart_d _ (⟨⟨n0_0_0, n0_0_1, n0_0_2, n0_0_3, n0_0_4⟩, n0_1⟩ : PartD) _ ⟨_, rfl, (belPart A0_w14.out (by repeat (first | exact Below.refl _ _ | refine Below.alloc ?_ (by simp; try omega) _ | refine Below.setCell ?_ (by simp; try omega) _ | refine belN ?_ _ | refine belD ?_)) (Nat.le_refl _))⟩ (by have := HSZ.out; omega)).mono ?_
      rintro e w15 ⟨_, rfl, ho, hb0⟩
      have hb := below_step (w := w14) (by repeat (first | exact Below.refl _ _ | refine Below.alloc ?_ (by simp; try omega) _ | refine Below.setCell ?_ (by simp; try omega) _ | refine belN ?_ _ | refine belD ?_)) hb0
      have Cw_w15 := Lib.hid (Cw_w14.out.trans (hb.mono Cw_w14.out.size))
      have Cw3_w15 := Lib.hid (Cw3_w14.out.trans (hb.mono Cw3_w14.out.size))
      have A0_w15 := Lib.hid (belPart A0_w14.out hb (Nat.le_refl _))
      have Rs_w15 := Lib.hid (belPart Rs_w14.out hb (Nat.le_refl _))
      have MK_w15 := Lib.hid (belPart MK_w14.out hb (Nat.le_refl _))
      have ep0_0_w15 := (hb.cell (p := ⟨w.heap.size, 0, none⟩) Lp0_w14).trans ep0_0_w14
      have ep0_1_w15 := (hb.cell (p := ⟨w.heap.size, 1, none⟩) Lp0_w14).trans ep0_1_w14
      have ep0_2_w15 := (hb.cell (p := ⟨w.heap.size, 2, none⟩) Lp0_w14).trans ep0_2_w14
      have ep0_3_w15 := (hb.cell (p := ⟨w.heap.size, 3, none⟩) Lp0_w14).trans ep0_3_w14
      have ep0_4_w15 := (hb.cell (p := ⟨w.heap.size, 4, none⟩) Lp0_w14).trans ep0_4_w14
      have ep0_5_w15 := (hb.cell (p := ⟨w.heap.size, 5, none⟩) Lp0_w14).trans ep0_5_w14
      have Lp0_w15 : w.heap.size < w15.heap.size := by have h := hb.size; omega
      clear ep0_0_w14 ep0_1_w14 ep0_2_w14 ep0_3_w14 ep0_4_w14 ep0_5_w14 Lp0_w14
      have es0_0_w15 := (hb.cell (p := ⟨w3.heap.size, 0, none⟩) Ls0_w14).trans es0_0_w14
      have es0_1_w15 := (hb.cell (p := ⟨w3.heap.size, 1, none⟩) Ls0_w14).trans es0_1_w14
      have es0_2_w15 := (hb.cell (p := ⟨w3.heap.size, 2, none⟩) Ls0_w14).trans es0_2_w14
      have es0_3_w15 := (hb.cell (p := ⟨w3.heap.size, 3, none⟩) Ls0_w14).trans es0_3_w14
      have es0_4_w15 := (hb.cell (p := ⟨w3.heap.size, 4, none⟩) Ls0_w14).trans es0_4_w14
      have es0_5_w15 := (hb.cell (p := ⟨w3.heap.size, 5, none⟩) Ls0_w14).trans es0_5_w14
      have Ls0_w15 : w3.heap.size < w15.heap.size := by have h := hb.size; omega
      clear es0_0_w14 es0_1_w14 es0_2_w14 es0_3_w14 es0_4_w14 es0_5_w14 Ls0_w14
      have es1_0_w15 := (hb.cell (p := ⟨w3.heap.size + 1, 0, none⟩) Ls1_w14).trans es1_0_w14
      have es1_1_w15 := (hb.cell (p := ⟨w3.heap.size + 1, 1, none⟩) Ls1_w14).trans es1_1_w14
      have es1_2_w15 := (hb.cell (p := ⟨w3.heap.size + 1, 2, none⟩) Ls1_w14).trans es1_2_w14
      have es1_3_w15 := (hb.cell (p := ⟨w3.heap.size + 1, 3, none⟩) Ls1_w14).trans es1_3_w14
      have es1_4_w15 := (hb.cell (p := ⟨w3.heap.size + 1, 4, none⟩) Ls1_w14).trans es1_4_w14
      have Ls1_w15 : w3.heap.size + 1 < w15.heap.size := by have h := hb.size; omega
      clear es1_0_w14 es1_1_w14 es1_2_w14 es1_3_w14 es1_4_w14 Ls1_w14
      have ex0_0_w15 := (hb.cell (p := ⟨w4.heap.size, 0, none⟩) Lx0_w14).trans ex0_0_w14
      have ex0_1_w15 := (hb.cell (p := ⟨w4.heap.size, 1, none⟩) Lx0_w14).trans ex0_1_w14
      have ex0_2_w15 := (hb.cell (p := ⟨w4.heap.size, 2, none⟩) Lx0_w14).trans ex0_2_w14
      have ex0_3_w15 := (hb.cell (p := ⟨w4.heap.size, 3, none⟩) Lx0_w14).trans ex0_3_w14
      have ex0_4_w15 := (hb.cell (p := ⟨w4.heap.size, 4, none⟩) Lx0_w14).trans ex0_4_w14
      have ex0_5_w15 := (hb.cell (p := ⟨w4.heap.size, 5, none⟩) Lx0_w14).trans ex0_5_w14
      have Lx0_w15 : w4.heap.size < w15.heap.size := by have h := hb.size; omega
      clear ex0_0_w14 ex0_1_w14 ex0_2_w14 ex0_3_w14 ex0_4_w14 ex0_5_w14 Lx0_w14
      have eg0_0_w15 := (hb.cell (p := ⟨w5.heap.size, 0, none⟩) Lg0_w14).trans eg0_0_w14
      have eg0_1_w15 := (hb.cell (p := ⟨w5.heap.size, 1, none⟩) Lg0_w14).trans eg0_1_w14
      have eg0_2_w15 := (hb.cell (p := ⟨w5.heap.size, 2, none⟩) Lg0_w14).trans eg0_2_w14
      have eg0_3_w15 := (hb.cell (p := ⟨w5.heap.size, 3, none⟩) Lg0_w14).trans eg0_3_w14
      have eg0_4_w15 := (hb.cell (p := ⟨w5.heap.size, 4, none⟩) Lg0_w14).trans eg0_4_w14
      have eg0_5_w15 := (hb.cell (p := ⟨w5.heap.size, 5, none⟩) Lg0_w14).trans eg0_5_w14
      have Lg0_w15 : w5.heap.size < w15.heap.size := by have h := hb.size; omega
      clear eg0_0_w14 eg0_1_w14 eg0_2_w14 eg0_3_w14 eg0_4_w14 eg0_5_w14 Lg0_w14
      have eg1_0_w15 := (hb.cell (p := ⟨w5.heap.size + 1, 0, none⟩) Lg1_w14).trans eg1_0_w14
      have eg1_1_w15 := (hb.cell (p := ⟨w5.heap.size + 1, 1, none⟩) Lg1_w14).trans eg1_1_w14
      have eg1_2_w15 := (hb.cell (p := ⟨w5.heap.size + 1, 2, none⟩) Lg1_w14).trans eg1_2_w14
      have eg1_3_w15 := (hb.cell (p := ⟨w5.heap.size + 1, 3, none⟩) Lg1_w14).trans eg1_3_w14
      have eg1_4_w15 := (hb.cell (p := ⟨w5.heap.size + 1, 4, none⟩) Lg1_w14).trans eg1_4_w14
      have Lg1_w15 : w5.heap.size + 1 < w15.heap.size := by have h := hb.size; omega
      clear eg1_0_w14 eg1_1_w14 eg1_2_w14 eg1_3_w14 eg1_4_w14 Lg1_w14
      obtain ⟨uH3_3, uH3_5, rfl, hruH3_3, hruH3_5⟩ := ho
      simp only at hruH3_3 hruH3_5
      obtain ⟨pH3_3, qH3_3, rfl, _⟩ := sliceAt_len hruH3_3
      obtain ⟨pH3_5, qH3_5, rfl, _⟩ := sliceAt_len hruH3_5
      have H3 := Lib.hid (show rPart 0 _ _ (⟨⟨n0_0_0, n0_0_1, n0_0_2, n0_0_3, n0_0_4⟩, n0_1⟩ : PartD) from ⟨_, _, rfl, hruH3_3.mono (good_flat cCell_len) (Nat.zero_le _), hruH3_5.mono (good_flat cLayer_len) (Nat.zero_le _)⟩)
      clear hruH3_3 hruH3_5
      clear hb hb0
      have K_p0 := Lp0_w15
      have K_s0 := Ls0_w15
      have K_s1 := Ls1_w15
      have K_x0 := Lx0_w15
      have K_g0 := Lg0_w15
      have K_g1 := Lg1_w15
      go_wp2_with fail
      refine (HIM.out _ _ (belPart H3.out (by repeat (first | exact Below.refl _ _ | refine Below.alloc ?_ (by simp; try omega) _ | refine Below.setCell ?_ (by simp; try omega) _ | refine belN ?_ _ | refine belD ?_)) (Nat.le_refl _))).mono ?_
      rintro e w16 ⟨_, rfl, ho, hb0⟩
      have hb := below_step (w := w15) (by repeat (first | exact Below.refl _ _ | refine Below.alloc ?_ (by simp; try omega) _ | refine Below.setCell ?_ (by simp; try omega) _ | refine belN ?_ _ | refine belD ?_)) hb0
      have Cw_w16 := Lib.hid (Cw_w15.out.trans (hb.mono Cw_w15.out.size))
      have Cw3_w16 := Lib.hid (Cw3_w15.out.trans (hb.mono Cw3_w15.out.size))
      have A0_w16 := Lib.hid (belPart A0_w15.out hb (Nat.le_refl _))
      have Rs_w16 := Lib.hid (belPart Rs_w15.out hb (Nat.le_refl _))
      have MK_w16 := Lib.hid (belPart MK_w15.out hb (Nat.le_refl _))
      have H3_w16 := Lib.hid (belPart H3.out hb (Nat.le_refl _))
      have ep0_0_w16 := (hb.cell (p := ⟨w.heap.size, 0, none⟩) Lp0_w15).trans ep0_0_w15
      have ep0_1_w16 := (hb.cell (p := ⟨w.heap.size, 1, none⟩) Lp0_w15).trans ep0_1_w15
      have ep0_2_w16 := (hb.cell (p := ⟨w.heap.size, 2, none⟩) Lp0_w15).trans ep0_2_w15
      have ep0_3_w16 := (hb.cell (p := ⟨w.heap.size, 3, none⟩) Lp0_w15).trans ep0_3_w15
      have ep0_4_w16 := (hb.cell (p := ⟨w.heap.size, 4, none⟩) Lp0_w15).trans ep0_4_w15
      have ep0_5_w16 := (hb.cell (p := ⟨w.heap.size, 5, none⟩) Lp0_w15).trans ep0_5_w15
      have Lp0_w16 : w.heap.size < w16.heap.size := by have h := hb.size; omega
      clear ep0_0_w15 ep0_1_w15 ep0_2_w15 ep0_3_w15 ep0_4_w15 ep0_5_w15 Lp0_w15
      have es0_0_w16 := (hb.cell (p := ⟨w3.heap.size, 0, none⟩) Ls0_w15).trans es0_0_w15
      have es0_1_w16 := (hb.cell (p := ⟨w3.heap.size, 1, none⟩) Ls0_w15).trans es0_1_w15
      have es0_2_w16 := (hb.cell (p := ⟨w3.heap.size, 2, none⟩) Ls0_w15).trans es0_2_w15
      have es0_3_w16 := (hb.cell (p := ⟨w3.heap.size, 3, none⟩) Ls0_w15).trans es0_3_w15
      have es0_4_w16 := (hb.cell (p := ⟨w3.heap.size, 4, none⟩) Ls0_w15).trans es0_4_w15
      have es0_5_w16 := (hb.cell (p := ⟨w3.heap.size, 5, none⟩) Ls0_w15).trans es0_5_w15
      have Ls0_w16 : w3.heap.size < w16.heap.size := by have h := hb.size; omega
      clear es0_0_w15 es0_1_w15 es0_2_w15 es0_3_w15 es0_4_w15 es0_5_w15 Ls0_w15
      have es1_0_w16 := (hb.cell (p := ⟨w3.heap.size + 1, 0, none⟩) Ls1_w15).trans es1_0_w15
      have es1_1_w16 := (hb.cell (p := ⟨w3.heap.size + 1, 1, none⟩) Ls1_w15).trans es1_1_w15
      have es1_2_w16 := (hb.cell (p := ⟨w3.heap.size + 1, 2, none⟩) Ls1_w15).trans es1_2_w15
      have es1_3_w16 := (hb.cell (p := ⟨w3.heap.size + 1, 3, none⟩) Ls1_w15).trans es1_3_w15
      have es1_4_w16 := (hb.cell (p := ⟨w3.heap.size + 1, 4, none⟩) Ls1_w15).trans es1_4_w15
      have Ls1_w16 : w3.heap.size + 1 < w16.heap.size := by have h := hb.size; omega
      clear es1_0_w15 es1_1_w15 es1_2_w15 es1_3_w15 es1_4_w15 Ls1_w15
      have ex0_0_w16 := (hb.cell (p := ⟨w4.heap.size, 0, none⟩) Lx0_w15).trans ex0_0_w15
      have ex0_1_w16 := (hb.cell (p := ⟨w4.heap.size, 1, none⟩) Lx0_w15).trans ex0_1_w15
      have ex0_2_w16 := (hb.cell (p := ⟨w4.heap.size, 2, none⟩) Lx0_w15).trans ex0_2_w15
      have ex0_3_w16 := (hb.cell (p := ⟨w4.heap.size, 3, none⟩) Lx0_w15).trans ex0_3_w15
      have ex0_4_w16 := (hb.cell (p := ⟨w4.heap.size, 4, none⟩) Lx0_w15).trans ex0_4_w15
      have ex0_5_w16 := (hb.cell (p := ⟨w4.heap.size, 5, none⟩) Lx0_w15).trans ex0_5_w15
      have Lx0_w16 : w4.heap.size < w16.heap.size := by have h := hb.size; omega
      clear ex0_0_w15 ex0_1_w15 ex0_2_w15 ex0_3_w15 ex0_4_w15 ex0_5_w15 Lx0_w15
      have eg0_0_w16 := (hb.cell (p := ⟨w5.heap.size, 0, none⟩) Lg0_w15).trans eg0_0_w15
      have eg0_1_w16 := (hb.cell (p := ⟨w5.heap.size, 1, none⟩) Lg0_w15).trans eg0_1_w15
      have eg0_2_w16 := (hb.cell (p := ⟨w5.heap.size, 2, none⟩) Lg0_w15).trans eg0_2_w15
      have eg0_3_w16 := (hb.cell (p := ⟨w5.heap.size, 3, none⟩) Lg0_w15).trans eg0_3_w15
      have eg0_4_w16 := (hb.cell (p := ⟨w5.heap.size, 4, none⟩) Lg0_w15).trans eg0_4_w15
      have eg0_5_w16 := (hb.cell (p := ⟨w5.heap.size, 5, none⟩) Lg0_w15).trans eg0_5_w15
      have Lg0_w16 : w5.heap.size < w16.heap.size := by have h := hb.size; omega
      clear eg0_0_w15 eg0_1_w15 eg0_2_w15 eg0_3_w15 eg0_4_w15 eg0_5_w15 Lg0_w15
      have eg1_0_w16 := (hb.cell (p := ⟨w5.heap.size + 1, 0, none⟩) Lg1_w15).trans eg1_0_w15
      have eg1_1_w16 := (hb.cell (p := ⟨w5.heap.size + 1, 1, none⟩) Lg1_w15).trans eg1_1_w15
      have eg1_2_w16 := (hb.cell (p := ⟨w5.heap.size + 1, 2, none⟩) Lg1_w15).trans eg1_2_w15
      have eg1_3_w16 := (hb.cell (p := ⟨w5.heap.size + 1, 3, none⟩) Lg1_w15).trans eg1_3_w15
      have eg1_4_w16 := (hb.cell (p := ⟨w5.heap.size + 1, 4, none⟩) Lg1_w15).trans eg1_4_w15
      have Lg1_w16 : w5.heap.size + 1 < w16.heap.size := by have h := hb.size; omega
      clear eg1_0_w15 eg1_1_w15 eg1_2_w15 eg1_3_w15 eg1_4_w15 Lg1_w15
      obtain ⟨uRh_3, uRh_5, rfl, hoRh_3, hoRh_5⟩ := ho
      obtain ⟨pRh_3, qRh_3, rfl⟩ := slice_of hoRh_3
      obtain ⟨pRh_5, qRh_5, rfl⟩ := slice_of hoRh_5
      simp only at hoRh_3 hoRh_5
      have ho := (show oPart _ _ _ (⟨⟨n9_0_0, n9_0_1, n9_0_2, n9_0_3, n9_0_4⟩, n9_1⟩ : PartD) from ⟨_, _, rfl, hoRh_3, hoRh_5⟩)
      clear hoRh_3 hoRh_5
      obtain ⟨LRh, hLRh, ho⟩ := own_loP ho
      try simp at hLRh
      have HLRh := Lib.hid hLRh
      clear hLRh
      have Rh := Lib.hid (ownP_of ho)
      have Rha := Lib.hid (oPart_0 ho HSR.out)
      clear ho
      clear hb hb0
      go_wp2_with fail
      refine (eqPart_d _ _ (⟨⟨n9_0_0, n9_0_1, n9_0_2, n9_0_3, n9_0_4⟩, n9_1⟩ : PartD) (⟨⟨n9_0_0, n9_0_1, n9_0_2, n9_0_3, n9_0_4⟩, n9_1⟩ : PartD) _ ⟨_, rfl, (belPart Rha.out (by repeat (first | exact Below.refl _ _ | refine Below.alloc ?_ (by simp; try omega) _ | refine Below.setCell ?_ (by simp; try omega) _ | refine belN ?_ _ | refine belD ?_)) (Nat.le_refl _))⟩ ⟨_, rfl, (belPart Rs_w16.out (by repeat (first | exact Below.refl _ _ | refine Below.alloc ?_ (by simp; try omega) _ | refine Below.setCell ?_ (by simp; try omega) _ | refine belN ?_ _ | refine belD ?_)) (Nat.le_refl _))⟩).mono ?_
      rintro e w17 ⟨rfl, hb0⟩
      have hb := below_step (w := w16) (by repeat (first | exact Below.refl _ _ | refine Below.alloc ?_ (by simp; try omega) _ | refine Below.setCell ?_ (by simp; try omega) _ | refine belN ?_ _ | refine belD ?_)) hb0
      have Cw_w17 := Lib.hid (Cw_w16.out.trans (hb.mono Cw_w16.out.size))
      have Cw3_w17 := Lib.hid (Cw3_w16.out.trans (hb.mono Cw3_w16.out.size))
      have A0_w17 := Lib.hid (belPart A0_w16.out hb (Nat.le_refl _))
      have Rs_w17 := Lib.hid (belPart Rs_w16.out hb (Nat.le_refl _))
      have MK_w17 := Lib.hid (belPart MK_w16.out hb (Nat.le_refl _))
      have H3_w17 := Lib.hid (belPart H3_w16.out hb (Nat.le_refl _))
      have Rha_w17 := Lib.hid (belPart Rha.out hb (Nat.le_refl _))
      have Rh_w17 := Lib.hid (ownP_below Rh.out hb (Nat.le_refl _))
      have ep0_0_w17 := (hb.cell (p := ⟨w.heap.size, 0, none⟩) Lp0_w16).trans ep0_0_w16
      have ep0_1_w17 := (hb.cell (p := ⟨w.heap.size, 1, none⟩) Lp0_w16).trans ep0_1_w16
      have ep0_2_w17 := (hb.cell (p := ⟨w.heap.size, 2, none⟩) Lp0_w16).trans ep0_2_w16
      have ep0_3_w17 := (hb.cell (p := ⟨w.heap.size, 3, none⟩) Lp0_w16).trans ep0_3_w16
      have ep0_4_w17 := (hb.cell (p := ⟨w.heap.size, 4, none⟩) Lp0_w16).trans ep0_4_w16
      have ep0_5_w17 := (hb.cell (p := ⟨w.heap.size, 5, none⟩) Lp0_w16).trans ep0_5_w16
      have Lp0_w17 : w.heap.size < w17.heap.size := by have h := hb.size; omega
      clear ep0_0_w16 ep0_1_w16 ep0_2_w16 ep0_3_w16 ep0_4_w16 ep0_5_w16 Lp0_w16
      have es0_0_w17 := (hb.cell (p := ⟨w3.heap.size, 0, none⟩) Ls0_w16).trans es0_0_w16
      have es0_1_w17 := (hb.cell (p := ⟨w3.heap.size, 1, none⟩) Ls0_w16).trans es0_1_w16
      have es0_2_w17 := (hb.cell (p := ⟨w3.heap.size, 2, none⟩) Ls0_w16).trans es0_2_w16
      have es0_3_w17 := (hb.cell (p := ⟨w3.heap.size, 3, none⟩) Ls0_w16).trans es0_3_w16
      have es0_4_w17 := (hb.cell (p := ⟨w3.heap.size, 4, none⟩) Ls0_w16).trans es0_4_w16
      have es0_5_w17 := (hb.cell (p := ⟨w3.heap.size, 5, none⟩) Ls0_w16).trans es0_5_w16
      have Ls0_w17 : w3.heap.size < w17.heap.size := by have h := hb.size; omega
      clear es0_0_w16 es0_1_w16 es0_2_w16 es0_3_w16 es0_4_w16 es0_5_w16 Ls0_w16
      have es1_0_w17 := (hb.cell (p := ⟨w3.heap.size + 1, 0, none⟩) Ls1_w16).trans es1_0_w16
      have es1_1_w17 := (hb.cell (p := ⟨w3.heap.size + 1, 1, none⟩) Ls1_w16).trans es1_1_w16
      have es1_2_w17 := (hb.cell (p := ⟨w3.heap.size + 1, 2, none⟩) Ls1_w16).trans es1_2_w16
      have es1_3_w17 := (hb.cell (p := ⟨w3.heap.size + 1, 3, none⟩) Ls1_w16).trans es1_3_w16
      have es1_4_w17 := (hb.cell (p := ⟨w3.heap.size + 1, 4, none⟩) Ls1_w16).trans es1_4_w16
      have Ls1_w17 : w3.heap.size + 1 < w17.heap.size := by have h := hb.size; omega
      clear es1_0_w16 es1_1_w16 es1_2_w16 es1_3_w16 es1_4_w16 Ls1_w16
      have ex0_0_w17 := (hb.cell (p := ⟨w4.heap.size, 0, none⟩) Lx0_w16).trans ex0_0_w16
      have ex0_1_w17 := (hb.cell (p := ⟨w4.heap.size, 1, none⟩) Lx0_w16).trans ex0_1_w16
      have ex0_2_w17 := (hb.cell (p := ⟨w4.heap.size, 2, none⟩) Lx0_w16).trans ex0_2_w16
      have ex0_3_w17 := (hb.cell (p := ⟨w4.heap.size, 3, none⟩) Lx0_w16).trans ex0_3_w16
      have ex0_4_w17 := (hb.cell (p := ⟨w4.heap.size, 4, none⟩) Lx0_w16).trans ex0_4_w16
      have ex0_5_w17 := (hb.cell (p := ⟨w4.heap.size, 5, none⟩) Lx0_w16).trans ex0_5_w16
      have Lx0_w17 : w4.heap.size < w17.heap.size := by have h := hb.size; omega
      clear ex0_0_w16 ex0_1_w16 ex0_2_w16 ex0_3_w16 ex0_4_w16 ex0_5_w16 Lx0_w16
      have eg0_0_w17 := (hb.cell (p := ⟨w5.heap.size, 0, none⟩) Lg0_w16).trans eg0_0_w16
      have eg0_1_w17 := (hb.cell (p := ⟨w5.heap.size, 1, none⟩) Lg0_w16).trans eg0_1_w16
      have eg0_2_w17 := (hb.cell (p := ⟨w5.heap.size, 2, none⟩) Lg0_w16).trans eg0_2_w16
      have eg0_3_w17 := (hb.cell (p := ⟨w5.heap.size, 3, none⟩) Lg0_w16).trans eg0_3_w16
      have eg0_4_w17 := (hb.cell (p := ⟨w5.heap.size, 4, none⟩) Lg0_w16).trans eg0_4_w16
      have eg0_5_w17 := (hb.cell (p := ⟨w5.heap.size, 5, none⟩) Lg0_w16).trans eg0_5_w16
      have Lg0_w17 : w5.heap.size < w17.heap.size := by have h := hb.size; omega
      clear eg0_0_w16 eg0_1_w16 eg0_2_w16 eg0_3_w16 eg0_4_w16 eg0_5_w16 Lg0_w16
      have eg1_0_w17 := (hb.cell (p := ⟨w5.heap.size + 1, 0, none⟩) Lg1_w16).trans eg1_0_w16
      have eg1_1_w17 := (hb.cell (p := ⟨w5.heap.size + 1, 1, none⟩) Lg1_w16).trans eg1_1_w16
      have eg1_2_w17 := (hb.cell (p := ⟨w5.heap.size + 1, 2, none⟩) Lg1_w16).trans eg1_2_w16
      have eg1_3_w17 := (hb.cell (p := ⟨w5.heap.size + 1, 3, none⟩) Lg1_w16).trans eg1_3_w16
      have eg1_4_w17 := (hb.cell (p := ⟨w5.heap.size + 1, 4, none⟩) Lg1_w16).trans eg1_4_w16
      have Lg1_w17 : w5.heap.size + 1 < w17.heap.size := by have h := hb.size; omega
      clear eg1_0_w16 eg1_1_w16 eg1_2_w16 eg1_3_w16 eg1_4_w16 Lg1_w16
      have eh0_0_w17 : w17.cell? ⟨w16.heap.size, 0, none⟩ = some (.string ⟨n9_0_0.toArray⟩) := by rw [hb0.cell (p := ⟨w16.heap.size, 0, none⟩) (by simp; try omega)]; simp
      have eh0_1_w17 : w17.cell? ⟨w16.heap.size, 1, none⟩ = some (.bool n9_0_1) := by rw [hb0.cell (p := ⟨w16.heap.size, 1, none⟩) (by simp; try omega)]; simp
      have eh0_2_w17 : w17.cell? ⟨w16.heap.size, 2, none⟩ = some (.bool n9_0_2) := by rw [hb0.cell (p := ⟨w16.heap.size, 2, none⟩) (by simp; try omega)]; simp
      have eh0_3_w17 : w17.cell? ⟨w16.heap.size, 3, none⟩ = some (.slice pRh_3 n9_0_3.length qRh_3) := by rw [hb0.cell (p := ⟨w16.heap.size, 3, none⟩) (by simp; try omega)]; simp
      have eh0_4_w17 : w17.cell? ⟨w16.heap.size, 4, none⟩ = some (.int .i64 n9_0_4) := by rw [hb0.cell (p := ⟨w16.heap.size, 4, none⟩) (by simp; try omega)]; simp
      have eh0_5_w17 : w17.cell? ⟨w16.heap.size, 5, none⟩ = some (.slice pRh_5 n9_1.length qRh_5) := by rw [hb0.cell (p := ⟨w16.heap.size, 5, none⟩) (by simp; try omega)]; simp
      have Lh0_w17 : w16.heap.size < w17.heap.size := by have h := hb0.size; simp at h; omega
      have eh1_0_w17 : w17.cell? ⟨w16.heap.size + 1, 0, none⟩ = some (.int .i64 m0) := by rw [hb0.cell (p := ⟨w16.heap.size + 1, 0, none⟩) (by simp; try omega)]; simp
      have eh1_1_w17 : w17.cell? ⟨w16.heap.size + 1, 1, none⟩ = some (.int .i64 m1) := by rw [hb0.cell (p := ⟨w16.heap.size + 1, 1, none⟩) (by simp; try omega)]; simp
      have eh1_2_w17 : w17.cell? ⟨w16.heap.size + 1, 2, none⟩ = some (.string ⟨m2.toArray⟩) := by rw [hb0.cell (p := ⟨w16.heap.size + 1, 2, none⟩) (by simp; try omega)]; simp
      have eh1_3_w17 : w17.cell? ⟨w16.heap.size + 1, 3, none⟩ = some (.int .i64 m3) := by rw [hb0.cell (p := ⟨w16.heap.size + 1, 3, none⟩) (by simp; try omega)]; simp
      have eh1_4_w17 : w17.cell? ⟨w16.heap.size + 1, 4, none⟩ = some (.int .i64 m4) := by rw [hb0.cell (p := ⟨w16.heap.size + 1, 4, none⟩) (by simp; try omega)]; simp
      have Lh1_w17 : w16.heap.size + 1 < w17.heap.size := by have h := hb0.size; simp at h; omega
      rw [show decide ((⟨⟨n9_0_0, n9_0_1, n9_0_2, n9_0_3, n9_0_4⟩, n9_1⟩ : PartD) = (⟨⟨n9_0_0, n9_0_1, n9_0_2, n9_0_3, n9_0_4⟩, n9_1⟩ : PartD)) = true by simp]
      clear hb hb0
      go_wp2_with fail
      refine (eqReply_any (⟨m0, m1, m2, m3, m4⟩ : ReplyD) (⟨m0, m1, m2, m3, m4⟩ : ReplyD) _).mono ?_
      rintro e w18 ⟨rfl, hb0⟩
      have hb := below_step (w := w17) (by repeat (first | exact Below.refl _ _ | refine Below.alloc ?_ (by simp; try omega) _ | refine Below.setCell ?_ (by simp; try omega) _ | refine belN ?_ _ | refine belD ?_)) hb0
      have Cw_w18 := Lib.hid (Cw_w17.out.trans (hb.mono Cw_w17.out.size))
      have Cw3_w18 := Lib.hid (Cw3_w17.out.trans (hb.mono Cw3_w17.out.size))
      have A0_w18 := Lib.hid (belPart A0_w17.out hb (Nat.le_refl _))
      have Rs_w18 := Lib.hid (belPart Rs_w17.out hb (Nat.le_refl _))
      have MK_w18 := Lib.hid (belPart MK_w17.out hb (Nat.le_refl _))
      have H3_w18 := Lib.hid (belPart H3_w17.out hb (Nat.le_refl _))
      have Rha_w18 := Lib.hid (belPart Rha_w17.out hb (Nat.le_refl _))
      have Rh_w18 := Lib.hid (ownP_below Rh_w17.out hb (Nat.le_refl _))
      have ep0_0_w18 := (hb.cell (p := ⟨w.heap.size, 0, none⟩) Lp0_w17).trans ep0_0_w17
      have ep0_1_w18 := (hb.cell (p := ⟨w.heap.size, 1, none⟩) Lp0_w17).trans ep0_1_w17
      have ep0_2_w18 := (hb.cell (p := ⟨w.heap.size, 2, none⟩) Lp0_w17).trans ep0_2_w17
      have ep0_3_w18 := (hb.cell (p := ⟨w.heap.size, 3, none⟩) Lp0_w17).trans ep0_3_w17
      have ep0_4_w18 := (hb.cell (p := ⟨w.heap.size, 4, none⟩) Lp0_w17).trans ep0_4_w17
      have ep0_5_w18 := (hb.cell (p := ⟨w.heap.size, 5, none⟩) Lp0_w17).trans ep0_5_w17
      have Lp0_w18 : w.heap.size < w18.heap.size := by have h := hb.size; omega
      clear ep0_0_w17 ep0_1_w17 ep0_2_w17 ep0_3_w17 ep0_4_w17 ep0_5_w17 Lp0_w17
      have es0_0_w18 := (hb.cell (p := ⟨w3.heap.size, 0, none⟩) Ls0_w17).trans es0_0_w17
      have es0_1_w18 := (hb.cell (p := ⟨w3.heap.size, 1, none⟩) Ls0_w17).trans es0_1_w17
      have es0_2_w18 := (hb.cell (p := ⟨w3.heap.size, 2, none⟩) Ls0_w17).trans es0_2_w17
      have es0_3_w18 := (hb.cell (p := ⟨w3.heap.size, 3, none⟩) Ls0_w17).trans es0_3_w17
      have es0_4_w18 := (hb.cell (p := ⟨w3.heap.size, 4, none⟩) Ls0_w17).trans es0_4_w17
      have es0_5_w18 := (hb.cell (p := ⟨w3.heap.size, 5, none⟩) Ls0_w17).trans es0_5_w17
      have Ls0_w18 : w3.heap.size < w18.heap.size := by have h := hb.size; omega
      clear es0_0_w17 es0_1_w17 es0_2_w17 es0_3_w17 es0_4_w17 es0_5_w17 Ls0_w17
      have es1_0_w18 := (hb.cell (p := ⟨w3.heap.size + 1, 0, none⟩) Ls1_w17).trans es1_0_w17
      have es1_1_w18 := (hb.cell (p := ⟨w3.heap.size + 1, 1, none⟩) Ls1_w17).trans es1_1_w17
      have es1_2_w18 := (hb.cell (p := ⟨w3.heap.size + 1, 2, none⟩) Ls1_w17).trans es1_2_w17
      have es1_3_w18 := (hb.cell (p := ⟨w3.heap.size + 1, 3, none⟩) Ls1_w17).trans es1_3_w17
      have es1_4_w18 := (hb.cell (p := ⟨w3.heap.size + 1, 4, none⟩) Ls1_w17).trans es1_4_w17
      have Ls1_w18 : w3.heap.size + 1 < w18.heap.size := by have h := hb.size; omega
      clear es1_0_w17 es1_1_w17 es1_2_w17 es1_3_w17 es1_4_w17 Ls1_w17
      have ex0_0_w18 := (hb.cell (p := ⟨w4.heap.size, 0, none⟩) Lx0_w17).trans ex0_0_w17
      have ex0_1_w18 := (hb.cell (p := ⟨w4.heap.size, 1, none⟩) Lx0_w17).trans ex0_1_w17
      have ex0_2_w18 := (hb.cell (p := ⟨w4.heap.size, 2, none⟩) Lx0_w17).trans ex0_2_w17
      have ex0_3_w18 := (hb.cell (p := ⟨w4.heap.size, 3, none⟩) Lx0_w17).trans ex0_3_w17
      have ex0_4_w18 := (hb.cell (p := ⟨w4.heap.size, 4, none⟩) Lx0_w17).trans ex0_4_w17
      have ex0_5_w18 := (hb.cell (p := ⟨w4.heap.size, 5, none⟩) Lx0_w17).trans ex0_5_w17
      have Lx0_w18 : w4.heap.size < w18.heap.size := by have h := hb.size; omega
      clear ex0_0_w17 ex0_1_w17 ex0_2_w17 ex0_3_w17 ex0_4_w17 ex0_5_w17 Lx0_w17
      have eg0_0_w18 := (hb.cell (p := ⟨w5.heap.size, 0, none⟩) Lg0_w17).trans eg0_0_w17
      have eg0_1_w18 := (hb.cell (p := ⟨w5.heap.size, 1, none⟩) Lg0_w17).trans eg0_1_w17
      have eg0_2_w18 := (hb.cell (p := ⟨w5.heap.size, 2, none⟩) Lg0_w17).trans eg0_2_w17
      have eg0_3_w18 := (hb.cell (p := ⟨w5.heap.size, 3, none⟩) Lg0_w17).trans eg0_3_w17
      have eg0_4_w18 := (hb.cell (p := ⟨w5.heap.size, 4, none⟩) Lg0_w17).trans eg0_4_w17
      have eg0_5_w18 := (hb.cell (p := ⟨w5.heap.size, 5, none⟩) Lg0_w17).trans eg0_5_w17
      have Lg0_w18 : w5.heap.size < w18.heap.size := by have h := hb.size; omega
      clear eg0_0_w17 eg0_1_w17 eg0_2_w17 eg0_3_w17 eg0_4_w17 eg0_5_w17 Lg0_w17
      have eg1_0_w18 := (hb.cell (p := ⟨w5.heap.size + 1, 0, none⟩) Lg1_w17).trans eg1_0_w17
      have eg1_1_w18 := (hb.cell (p := ⟨w5.heap.size + 1, 1, none⟩) Lg1_w17).trans eg1_1_w17
      have eg1_2_w18 := (hb.cell (p := ⟨w5.heap.size + 1, 2, none⟩) Lg1_w17).trans eg1_2_w17
      have eg1_3_w18 := (hb.cell (p := ⟨w5.heap.size + 1, 3, none⟩) Lg1_w17).trans eg1_3_w17
      have eg1_4_w18 := (hb.cell (p := ⟨w5.heap.size + 1, 4, none⟩) Lg1_w17).trans eg1_4_w17
      have Lg1_w18 : w5.heap.size + 1 < w18.heap.size := by have h := hb.size; omega
      clear eg1_0_w17 eg1_1_w17 eg1_2_w17 eg1_3_w17 eg1_4_w17 Lg1_w17
      have eh0_0_w18 := (hb.cell (p := ⟨w16.heap.size, 0, none⟩) Lh0_w17).trans eh0_0_w17
      have eh0_1_w18 := (hb.cell (p := ⟨w16.heap.size, 1, none⟩) Lh0_w17).trans eh0_1_w17
      have eh0_2_w18 := (hb.cell (p := ⟨w16.heap.size, 2, none⟩) Lh0_w17).trans eh0_2_w17
      have eh0_3_w18 := (hb.cell (p := ⟨w16.heap.size, 3, none⟩) Lh0_w17).trans eh0_3_w17
      have eh0_4_w18 := (hb.cell (p := ⟨w16.heap.size, 4, none⟩) Lh0_w17).trans eh0_4_w17
      have eh0_5_w18 := (hb.cell (p := ⟨w16.heap.size, 5, none⟩) Lh0_w17).trans eh0_5_w17
      have Lh0_w18 : w16.heap.size < w18.heap.size := by have h := hb.size; omega
      clear eh0_0_w17 eh0_1_w17 eh0_2_w17 eh0_3_w17 eh0_4_w17 eh0_5_w17 Lh0_w17
      have eh1_0_w18 := (hb.cell (p := ⟨w16.heap.size + 1, 0, none⟩) Lh1_w17).trans eh1_0_w17
      have eh1_1_w18 := (hb.cell (p := ⟨w16.heap.size + 1, 1, none⟩) Lh1_w17).trans eh1_1_w17
      have eh1_2_w18 := (hb.cell (p := ⟨w16.heap.size + 1, 2, none⟩) Lh1_w17).trans eh1_2_w17
      have eh1_3_w18 := (hb.cell (p := ⟨w16.heap.size + 1, 3, none⟩) Lh1_w17).trans eh1_3_w17
      have eh1_4_w18 := (hb.cell (p := ⟨w16.heap.size + 1, 4, none⟩) Lh1_w17).trans eh1_4_w17
      have Lh1_w18 : w16.heap.size + 1 < w18.heap.size := by have h := hb.size; omega
      clear eh1_0_w17 eh1_1_w17 eh1_2_w17 eh1_3_w17 eh1_4_w17 Lh1_w17
      rw [show decide ((⟨m0, m1, m2, m3, m4⟩ : ReplyD) = (⟨m0, m1, m2, m3, m4⟩ : ReplyD)) = true by simp]
      clear hb hb0
      go_wp2_with fail
      refine (heldPart_o _ (⟨⟨n9_0_0, n9_0_1, n9_0_2, n9_0_3, n9_0_4⟩, n9_1⟩ : PartD) 1 _ (belPart MK_w18.out (by repeat (first | exact Below.refl _ _ | refine Below.alloc ?_ (by simp; try omega) _ | refine Below.setCell ?_ (by simp; try omega) _ | refine belN ?_ _ | refine belD ?_)) (Nat.le_refl _)) (by have := HSR.out.z; simp only [zPart, zCore] at this; simp only; omega) (by have := HSR.out.z; simp only [zPart, zCore] at this; simp only; omega) (by omega) (by omega)).mono ?_
      rintro e w19 ⟨rfl, hb0⟩
      have hb := below_step (w := w18) (by repeat (first | exact Below.refl _ _ | refine Below.alloc ?_ (by simp; try omega) _ | refine Below.setCell ?_ (by simp; try omega) _ | refine belN ?_ _ | refine belD ?_)) hb0
      have Cw_w19 := Lib.hid (Cw_w18.out.trans (hb.mono Cw_w18.out.size))
      have Cw3_w19 := Lib.hid (Cw3_w18.out.trans (hb.mono Cw3_w18.out.size))
      have A0_w19 := Lib.hid (belPart A0_w18.out hb (Nat.le_refl _))
      have Rs_w19 := Lib.hid (belPart Rs_w18.out hb (Nat.le_refl _))
      have MK_w19 := Lib.hid (belPart MK_w18.out hb (Nat.le_refl _))
      have H3_w19 := Lib.hid (belPart H3_w18.out hb (Nat.le_refl _))
      have Rha_w19 := Lib.hid (belPart Rha_w18.out hb (Nat.le_refl _))
      have Rh_w19 := Lib.hid (ownP_below Rh_w18.out hb (Nat.le_refl _))
      have ep0_0_w19 := (hb.cell (p := ⟨w.heap.size, 0, none⟩) Lp0_w18).trans ep0_0_w18
      have ep0_1_w19 := (hb.cell (p := ⟨w.heap.size, 1, none⟩) Lp0_w18).trans ep0_1_w18
      have ep0_2_w19 := (hb.cell (p := ⟨w.heap.size, 2, none⟩) Lp0_w18).trans ep0_2_w18
      have ep0_3_w19 := (hb.cell (p := ⟨w.heap.size, 3, none⟩) Lp0_w18).trans ep0_3_w18
      have ep0_4_w19 := (hb.cell (p := ⟨w.heap.size, 4, none⟩) Lp0_w18).trans ep0_4_w18
      have ep0_5_w19 := (hb.cell (p := ⟨w.heap.size, 5, none⟩) Lp0_w18).trans ep0_5_w18
      have Lp0_w19 : w.heap.size < w19.heap.size := by have h := hb.size; omega
      clear ep0_0_w18 ep0_1_w18 ep0_2_w18 ep0_3_w18 ep0_4_w18 ep0_5_w18 Lp0_w18
      have es0_0_w19 := (hb.cell (p := ⟨w3.heap.size, 0, none⟩) Ls0_w18).trans es0_0_w18
      have es0_1_w19 := (hb.cell (p := ⟨w3.heap.size, 1, none⟩) Ls0_w18).trans es0_1_w18
      have es0_2_w19 := (hb.cell (p := ⟨w3.heap.size, 2, none⟩) Ls0_w18).trans es0_2_w18
      have es0_3_w19 := (hb.cell (p := ⟨w3.heap.size, 3, none⟩) Ls0_w18).trans es0_3_w18
      have es0_4_w19 := (hb.cell (p := ⟨w3.heap.size, 4, none⟩) Ls0_w18).trans es0_4_w18
      have es0_5_w19 := (hb.cell (p := ⟨w3.heap.size, 5, none⟩) Ls0_w18).trans es0_5_w18
      have Ls0_w19 : w3.heap.size < w19.heap.size := by have h := hb.size; omega
      clear es0_0_w18 es0_1_w18 es0_2_w18 es0_3_w18 es0_4_w18 es0_5_w18 Ls0_w18
      have es1_0_w19 := (hb.cell (p := ⟨w3.heap.size + 1, 0, none⟩) Ls1_w18).trans es1_0_w18
      have es1_1_w19 := (hb.cell (p := ⟨w3.heap.size + 1, 1, none⟩) Ls1_w18).trans es1_1_w18
      have es1_2_w19 := (hb.cell (p := ⟨w3.heap.size + 1, 2, none⟩) Ls1_w18).trans es1_2_w18
      have es1_3_w19 := (hb.cell (p := ⟨w3.heap.size + 1, 3, none⟩) Ls1_w18).trans es1_3_w18
      have es1_4_w19 := (hb.cell (p := ⟨w3.heap.size + 1, 4, none⟩) Ls1_w18).trans es1_4_w18
      have Ls1_w19 : w3.heap.size + 1 < w19.heap.size := by have h := hb.size; omega
      clear es1_0_w18 es1_1_w18 es1_2_w18 es1_3_w18 es1_4_w18 Ls1_w18
      have ex0_0_w19 := (hb.cell (p := ⟨w4.heap.size, 0, none⟩) Lx0_w18).trans ex0_0_w18
      have ex0_1_w19 := (hb.cell (p := ⟨w4.heap.size, 1, none⟩) Lx0_w18).trans ex0_1_w18
      have ex0_2_w19 := (hb.cell (p := ⟨w4.heap.size, 2, none⟩) Lx0_w18).trans ex0_2_w18
      have ex0_3_w19 := (hb.cell (p := ⟨w4.heap.size, 3, none⟩) Lx0_w18).trans ex0_3_w18
      have ex0_4_w19 := (hb.cell (p := ⟨w4.heap.size, 4, none⟩) Lx0_w18).trans ex0_4_w18
      have ex0_5_w19 := (hb.cell (p := ⟨w4.heap.size, 5, none⟩) Lx0_w18).trans ex0_5_w18
      have Lx0_w19 : w4.heap.size < w19.heap.size := by have h := hb.size; omega
      clear ex0_0_w18 ex0_1_w18 ex0_2_w18 ex0_3_w18 ex0_4_w18 ex0_5_w18 Lx0_w18
      have eg0_0_w19 := (hb.cell (p := ⟨w5.heap.size, 0, none⟩) Lg0_w18).trans eg0_0_w18
      have eg0_1_w19 := (hb.cell (p := ⟨w5.heap.size, 1, none⟩) Lg0_w18).trans eg0_1_w18
      have eg0_2_w19 := (hb.cell (p := ⟨w5.heap.size, 2, none⟩) Lg0_w18).trans eg0_2_w18
      have eg0_3_w19 := (hb.cell (p := ⟨w5.heap.size, 3, none⟩) Lg0_w18).trans eg0_3_w18
      have eg0_4_w19 := (hb.cell (p := ⟨w5.heap.size, 4, none⟩) Lg0_w18).trans eg0_4_w18
      have eg0_5_w19 := (hb.cell (p := ⟨w5.heap.size, 5, none⟩) Lg0_w18).trans eg0_5_w18
      have Lg0_w19 : w5.heap.size < w19.heap.size := by have h := hb.size; omega
      clear eg0_0_w18 eg0_1_w18 eg0_2_w18 eg0_3_w18 eg0_4_w18 eg0_5_w18 Lg0_w18
      have eg1_0_w19 := (hb.cell (p := ⟨w5.heap.size + 1, 0, none⟩) Lg1_w18).trans eg1_0_w18
      have eg1_1_w19 := (hb.cell (p := ⟨w5.heap.size + 1, 1, none⟩) Lg1_w18).trans eg1_1_w18
      have eg1_2_w19 := (hb.cell (p := ⟨w5.heap.size + 1, 2, none⟩) Lg1_w18).trans eg1_2_w18
      have eg1_3_w19 := (hb.cell (p := ⟨w5.heap.size + 1, 3, none⟩) Lg1_w18).trans eg1_3_w18
      have eg1_4_w19 := (hb.cell (p := ⟨w5.heap.size + 1, 4, none⟩) Lg1_w18).trans eg1_4_w18
      have Lg1_w19 : w5.heap.size + 1 < w19.heap.size := by have h := hb.size; omega
      clear eg1_0_w18 eg1_1_w18 eg1_2_w18 eg1_3_w18 eg1_4_w18 Lg1_w18
      have eh0_0_w19 := (hb.cell (p := ⟨w16.heap.size, 0, none⟩) Lh0_w18).trans eh0_0_w18
      have eh0_1_w19 := (hb.cell (p := ⟨w16.heap.size, 1, none⟩) Lh0_w18).trans eh0_1_w18
      have eh0_2_w19 := (hb.cell (p := ⟨w16.heap.size, 2, none⟩) Lh0_w18).trans eh0_2_w18
      have eh0_3_w19 := (hb.cell (p := ⟨w16.heap.size, 3, none⟩) Lh0_w18).trans eh0_3_w18
      have eh0_4_w19 := (hb.cell (p := ⟨w16.heap.size, 4, none⟩) Lh0_w18).trans eh0_4_w18
      have eh0_5_w19 := (hb.cell (p := ⟨w16.heap.size, 5, none⟩) Lh0_w18).trans eh0_5_w18
      have Lh0_w19 : w16.heap.size < w19.heap.size := by have h := hb.size; omega
      clear eh0_0_w18 eh0_1_w18 eh0_2_w18 eh0_3_w18 eh0_4_w18 eh0_5_w18 Lh0_w18
      have eh1_0_w19 := (hb.cell (p := ⟨w16.heap.size + 1, 0, none⟩) Lh1_w18).trans eh1_0_w18
      have eh1_1_w19 := (hb.cell (p := ⟨w16.heap.size + 1, 1, none⟩) Lh1_w18).trans eh1_1_w18
      have eh1_2_w19 := (hb.cell (p := ⟨w16.heap.size + 1, 2, none⟩) Lh1_w18).trans eh1_2_w18
      have eh1_3_w19 := (hb.cell (p := ⟨w16.heap.size + 1, 3, none⟩) Lh1_w18).trans eh1_3_w18
      have eh1_4_w19 := (hb.cell (p := ⟨w16.heap.size + 1, 4, none⟩) Lh1_w18).trans eh1_4_w18
      have Lh1_w19 : w16.heap.size + 1 < w19.heap.size := by have h := hb.size; omega
      clear eh1_0_w18 eh1_1_w18 eh1_2_w18 eh1_3_w18 eh1_4_w18 Lh1_w18
      clear hb hb0
      go_wp2_with fail
      go_ret
      exact ⟨rfl, below_to Cw_w19.out (by repeat (first | exact Below.refl _ _ | refine Below.alloc ?_ (by simp; try omega) _ | refine Below.setCell ?_ (by simp; try omega) _ | refine belN ?_ _ | refine belD ?_))⟩
set_option maxRecDepth 100000 in
theorem fnExactWrap_lifted (os : Os) (started : os.Started) (H : Type) (enc : TypeId × Value → H) :
    ReturnsInHanded {} Try.checked os 3 .any (Rows.fnExactWrapSpec.pre6 enc Try.prog Try.f3 Rows.fnExactWrapRow.domain false) (Rows.fnExactWrapSpec.post enc Try.prog Try.f3 false true false false) := by
  refine returnsInHanded_of_change (C := Try.checked) ownK started (by kernel_rfl) Try.func3
    (ChangeSpec.witness6 (enc := enc) (C := Try.checked) false ⟨#[], #[.agg #[.string ⟨#[]⟩, .bool false, .bool false, .slice none 0 0, .int .i64 0, .slice none 0 0], .string ⟨#[]⟩], []⟩ 8 (by kernel_rfl) (by kernel_rfl) (by kernel_rfl) (by kernel_rfl)) ?_
  intro W base args ds gs before hval0 hW _ _
  have hval : ∀ (j : Nat) t v, Try.f3.params[j]? = some t → args[j]? = some v → Value.okWide Try.prog W .any base t v := hval0
  have hW' := hW
  obtain ⟨p, q, hA0, _, rfl, _, _⟩ := hW
  have hA : DataW.TrodAll enc Try.prog W 0 (fun _ => true) true Try.f3.params.toList args.toList ds p := hA0
  rw [Try.params3] at hA hval
  obtain ⟨v0, vs0, d0, ds0, p0, q0, hargs, rfl, rfl, h0, r0⟩ := trodAll_cons hA
  obtain ⟨v1, vs1, d1, ds1, p1, q1, rfl, rfl, rfl, h1, r1⟩ := trodAll_cons r0
  obtain ⟨rfl, rfl, rfl⟩ := trodAll_nil r1
  obtain rfl : args = #[v0, v1] := by cases args; simp_all
  obtain ⟨x0, w0, z0⟩ := arg_Part (hval 0 27 v0 rfl rfl) h0
  obtain ⟨x1, rfl, rfl, rfl, w1⟩ := open_string Try.underlying9 (hval 1 9 v1 rfl rfl) h1
  clear hA0 hval0
  refine (exactWrap_any v0 x0 x1 W w0 z0 w1).mono fun e W1 ⟨he, hb⟩ => ?_
  subst he
  exact ⟨_, rfl, law_post laidK rfl (by kernel_rfl) Try.underlying4 (by kernel_rfl) (fun ds h => by match ds, h with | [_, _], _ => rfl) hW' hb⟩
theorem fnExactWrap_closed : joinedFacts Try.prog 3 Try.f3 Rows.fnExactWrapSpec Rows.fnExactWrapRow = true := by unfold joinedFacts; rw [mayEnter_k, liftsFinal_k, make_k]; kernel_rfl
theorem fnExactWrap_holds : Rows.FnExactWrapSaid :=
  OpenClaim.holds_of_wide 3 Try.f3 rfl rfl rfl rfl rfl rfl rfl ⟨rfl, rfl, rfl, rfl, rfl⟩ rfl rfl rfl rfl rfl (by kernel_rfl) Try.func3 fnExactWrap_closed
    (of_decide_eq_true (by kernel_rfl)) (by unfold Func.isWrapper; first | (rw [if_pos (by decide +kernel)]; kernel_rfl) | (rw [if_neg (by decide +kernel)]; exact ⟨rfl, rfl⟩))
    (fun os started H enc _ => fnExactWrap_lifted os started H enc)
end Go.Proofs.Ytlkpinlkbikokaa
