/- FnExactCallCore: at every core and call the program's CallCore answers as the model's, and its answer owns its memory (a core and a call of more than 2^20 cells and signs are not asked). No condition. -/
import Derived.Test.YtghebbndfpbkcaaGreatCallCoreLawM0
import Derived.Test.YtghebbndfpbkcaaGreatCallCoreLawM3
import Derived.Test.YtghebbndfpbkcaaGreatCallCoreLawM4
import Derived.Test.YtghebbndfpbkcaaGreatCallCoreLawM1
import Derived.HandedShaped
namespace Go.Proofs.YtghebbndfpbkcaaGreat
set_option linter.unusedVariables false
set_option linter.unusedSimpArgs false
open Go.ChangeShapes Go.WideShapes Go.ChangeAt Go.RowKit Go.WideMaps Go.WideElems
open Go.ChangeMaps (open_string shut_string)
set_option maxRecDepth 100000 in
set_option maxHeartbeats 3200000 in
theorem exactCallCore_any (v0 : Value) (x0 : CoreD) (x1 : CallD) (w : World) (a0 : CoreAt w v0 x0) (g0 : okCore x0) (g1 : okCall x1) (m : Int) (hm : w.cell? ⟨0, 0, none⟩ = some (.int .i64 m)) :
    Calls Tryz.prog 5 #[v0, (vCall x1)] w fun e w' => e = .returned (.bool true) ∧ Below w.heap.size w w' := by
  have HG := Lib.hid (World.block_lt_of_cell? w _ hm)
  have HM := Lib.hid hm
  clear hm
  obtain ⟨c0, rfl, a0⟩ := a0
  obtain ⟨n0_0, n0_1, n0_2, n0_3, n0_4⟩ := x0
  unfold vCore
  unfold okCore at g0
  obtain ⟨n1_0, n1_1, n1_2, n1_3⟩ := x1
  unfold vCall
  simp only at *
  obtain ⟨ca0, cc0, rfl, _⟩ := flatAt_len a0
  have A0 := Lib.hid a0
  have G0 := Lib.hid g0
  clear a0 g0
  have G1 := Lib.hid g1
  clear g1
  go_enter Tryz.func5, Tryz.ntmps5
  go_wp2_with fail
  refine (szCore_any (vCore (⟨n0_0, n0_1, n0_2, n0_3, n0_4⟩ : CoreD) (.slice ca0 n0_3.length cc0)) (⟨n0_0, n0_1, n0_2, n0_3, n0_4⟩ : CoreD) 1048576 _ ⟨(.slice ca0 n0_3.length cc0), rfl, (FlatAt.below A0.out (by repeat (first | exact Below.refl _ _ | refine Below.alloc ?_ (by simp; try omega) _ | refine Below.setCell ?_ (by simp; try omega) _ | refine belN ?_ _ | refine belD ?_)) (Nat.le_refl _))⟩ (by omega) (by omega) G0.out.1 G0.out.2.1).mono ?_
  rintro e w1 ⟨r0, rfl, hr0a, hr0b, hb0⟩
  have hb := below_step (w := w) (by repeat (first | exact Below.refl _ _ | refine Below.alloc ?_ (by simp; try omega) _ | refine Below.setCell ?_ (by simp; try omega) _ | refine belN ?_ _ | refine belD ?_)) hb0
  have Cw_w1 := Lib.hid hb
  have A0_w1 := Lib.hid (FlatAt.below A0.out hb (Nat.le_refl _))
  have ep0_0_w1 : w1.cell? ⟨w.heap.size, 0, none⟩ = some (.string ⟨n0_0.toArray⟩) := by rw [hb0.cell (p := ⟨w.heap.size, 0, none⟩) (by simp; try omega)]; simp
  have ep0_1_w1 : w1.cell? ⟨w.heap.size, 1, none⟩ = some (.bool n0_1) := by rw [hb0.cell (p := ⟨w.heap.size, 1, none⟩) (by simp; try omega)]; simp
  have ep0_2_w1 : w1.cell? ⟨w.heap.size, 2, none⟩ = some (.bool n0_2) := by rw [hb0.cell (p := ⟨w.heap.size, 2, none⟩) (by simp; try omega)]; simp
  have ep0_3_w1 : w1.cell? ⟨w.heap.size, 3, none⟩ = some ((.slice ca0 n0_3.length cc0)) := by rw [hb0.cell (p := ⟨w.heap.size, 3, none⟩) (by simp; try omega)]; simp
  have ep0_4_w1 : w1.cell? ⟨w.heap.size, 4, none⟩ = some (.int .i64 n0_4) := by rw [hb0.cell (p := ⟨w.heap.size, 4, none⟩) (by simp; try omega)]; simp
  have Lp0_w1 : w.heap.size < w1.heap.size := by have h := hb0.size; simp at h; omega
  have ep1_0_w1 : w1.cell? ⟨w.heap.size + 1, 0, none⟩ = some (.string ⟨n1_0.toArray⟩) := by rw [hb0.cell (p := ⟨w.heap.size + 1, 0, none⟩) (by simp; try omega)]; simp
  have ep1_1_w1 : w1.cell? ⟨w.heap.size + 1, 1, none⟩ = some (.string ⟨n1_1.toArray⟩) := by rw [hb0.cell (p := ⟨w.heap.size + 1, 1, none⟩) (by simp; try omega)]; simp
  have ep1_2_w1 : w1.cell? ⟨w.heap.size + 1, 2, none⟩ = some (.int .i64 n1_2) := by rw [hb0.cell (p := ⟨w.heap.size + 1, 2, none⟩) (by simp; try omega)]; simp
  have ep1_3_w1 : w1.cell? ⟨w.heap.size + 1, 3, none⟩ = some (.string ⟨n1_3.toArray⟩) := by rw [hb0.cell (p := ⟨w.heap.size + 1, 3, none⟩) (by simp; try omega)]; simp
  have Lp1_w1 : w.heap.size + 1 < w1.heap.size := by have h := hb0.size; simp at h; omega
  clear hb hb0
  by_cases hr0 : r0 < 0
  · clear hr0b
    go_wp2_with fail
    go_ret
    exact ⟨rfl, below_to Cw_w1.out (by repeat (first | exact Below.refl _ _ | refine Below.alloc ?_ (by simp; try omega) _ | refine Below.setCell ?_ (by simp; try omega) _ | refine belN ?_ _ | refine belD ?_))⟩
  · have hs0 := hr0b (by omega)
    clear hr0b
    go_wp2_with fail
    refine (szCall_any (⟨n1_0, n1_1, n1_2, n1_3⟩ : CallD) r0 _ (by omega) (by omega) G1.out).mono ?_
    rintro e w2 ⟨r1, rfl, hr1a, hr1b, hb0⟩
    have hb := below_step (w := w1) (by repeat (first | exact Below.refl _ _ | refine Below.alloc ?_ (by simp; try omega) _ | refine Below.setCell ?_ (by simp; try omega) _ | refine belN ?_ _ | refine belD ?_)) hb0
    have Cw_w2 := Lib.hid (Cw_w1.out.trans (hb.mono Cw_w1.out.size))
    have A0_w2 := Lib.hid (FlatAt.below A0_w1.out hb (Nat.le_refl _))
    have ep0_0_w2 := (hb.cell (p := ⟨w.heap.size, 0, none⟩) Lp0_w1).trans ep0_0_w1
    have ep0_1_w2 := (hb.cell (p := ⟨w.heap.size, 1, none⟩) Lp0_w1).trans ep0_1_w1
    have ep0_2_w2 := (hb.cell (p := ⟨w.heap.size, 2, none⟩) Lp0_w1).trans ep0_2_w1
    have ep0_3_w2 := (hb.cell (p := ⟨w.heap.size, 3, none⟩) Lp0_w1).trans ep0_3_w1
    have ep0_4_w2 := (hb.cell (p := ⟨w.heap.size, 4, none⟩) Lp0_w1).trans ep0_4_w1
    have Lp0_w2 : w.heap.size < w2.heap.size := by have h := hb.size; omega
    clear ep0_0_w1 ep0_1_w1 ep0_2_w1 ep0_3_w1 ep0_4_w1 Lp0_w1
    have ep1_0_w2 := (hb.cell (p := ⟨w.heap.size + 1, 0, none⟩) Lp1_w1).trans ep1_0_w1
    have ep1_1_w2 := (hb.cell (p := ⟨w.heap.size + 1, 1, none⟩) Lp1_w1).trans ep1_1_w1
    have ep1_2_w2 := (hb.cell (p := ⟨w.heap.size + 1, 2, none⟩) Lp1_w1).trans ep1_2_w1
    have ep1_3_w2 := (hb.cell (p := ⟨w.heap.size + 1, 3, none⟩) Lp1_w1).trans ep1_3_w1
    have Lp1_w2 : w.heap.size + 1 < w2.heap.size := by have h := hb.size; omega
    clear ep1_0_w1 ep1_1_w1 ep1_2_w1 ep1_3_w1 Lp1_w1
    clear hb hb0
    by_cases hr1 : r1 < 0
    · clear hr1b
      go_wp2_with fail
      go_ret
      exact ⟨rfl, below_to Cw_w2.out (by repeat (first | exact Below.refl _ _ | refine Below.alloc ?_ (by simp; try omega) _ | refine Below.setCell ?_ (by simp; try omega) _ | refine belN ?_ _ | refine belD ?_))⟩
    · have hs1 := hr1b (by omega)
      clear hr1b
      have HSZ := Lib.hid (show (zCore (⟨n0_0, n0_1, n0_2, n0_3, n0_4⟩ : CoreD)) + (zCall (⟨n1_0, n1_1, n1_2, n1_3⟩ : CallD)) ≤ 1048576 by push_cast; omega)
      clear hs0 hs1
      have HSM0 := Lib.hid (show n0_3.length ≤ 1048576 by have h := HSZ.out; simp only [zCore] at h; omega)
      have HK := Lib.hid (show ∀ y ∈ n0_3, y.fKey.length ≤ maxLen from fun y hy => (G0.out.2.1 y hy).1)
      have HK2 := Lib.hid (show ∀ y ∈ n0_3, y.fKey.length ≤ 1048576 from fun y hy => by have h := HSZ.out; simp only [zCore] at h; have h2 := sumF_mem zCell n0_3 y hy; simp only [zCell] at h2; omega)
      have HKD := Lib.hid (show n0_0.length ≤ 1048576 by have h := HSZ.out; simp only [zCore] at h; omega)
      have HKX := Lib.hid (show n1_1.length ≤ 1048576 by have h := HSZ.out; simp only [zCall] at h; omega)
      have HTX := Lib.hid (show n1_3.length ≤ 1048576 by have h := HSZ.out; simp only [zCall] at h; omega)
      have HCN := Lib.hid (show -9223372036854775808 ≤ n0_4 from G0.out.2.2.1)
      have HRL := Lib.hid (show (doD (⟨n0_0, n0_1, n0_2, n0_3, n0_4⟩ : CoreD) (⟨n1_0, n1_1, n1_2, n1_3⟩ : CallD)).1.fCells.length ≤ 2097152 from (smC_do (⟨n1_0, n1_1, n1_2, n1_3⟩ : CallD) (d := (⟨n0_0, n0_1, n0_2, n0_3, n0_4⟩ : CoreD)) ⟨by have := HSM0.out; simp only; omega, HK2.out, HKD.out, HCN.out⟩).1)
      have HSP := Lib.hid (fun cv w1 (h : FlatAt cCell 2 w1 cv n0_3) => specCallCore_c (vCore (⟨n0_0, n0_1, n0_2, n0_3, n0_4⟩ : CoreD) cv) (⟨n0_0, n0_1, n0_2, n0_3, n0_4⟩ : CoreD) (⟨n1_0, n1_1, n1_2, n1_3⟩ : CallD) w1 ⟨cv, rfl, h⟩ (by have h := HSM0.out; simp only; omega) HK.out (by unfold maxLen; have h := HKX.out; simp only; omega) HTX.out)
      have HIM := Lib.hid (fun cv w1 (h : FlatAt cCell 2 w1 cv n0_3) (hM : w1.cell? ⟨0, 0, none⟩ = some (.int .i64 m)) => implCallCore_c (vCore (⟨n0_0, n0_1, n0_2, n0_3, n0_4⟩ : CoreD) cv) (⟨n0_0, n0_1, n0_2, n0_3, n0_4⟩ : CoreD) (⟨n1_0, n1_1, n1_2, n1_3⟩ : CallD) m w1 ⟨cv, rfl, h⟩ (by have h := HSM0.out; simp only; omega) HK2.out HKD.out HCN.out HKX.out HTX.out hM)
      unfold GivesCR at HSP
      generalize doD (⟨n0_0, n0_1, n0_2, n0_3, n0_4⟩ : CoreD) (⟨n1_0, n1_1, n1_2, n1_3⟩ : CallD) = x at *
      obtain ⟨⟨a0, a1, a2, a3, a4⟩, m0, m1, m2, m3, m4⟩ := x
      simp only [vCore, vCall, vReply] at HSP HIM HRL
      have T0 := Lib.hid (fun w0 (h : FlatAt cCell 2 w0 (.slice ca0 n0_3.length cc0) n0_3) => toCore_any (vCore (⟨n0_0, n0_1, n0_2, n0_3, n0_4⟩ : CoreD) (.slice ca0 n0_3.length cc0)) (⟨n0_0, n0_1, n0_2, n0_3, n0_4⟩ : CoreD) w0 ⟨(.slice ca0 n0_3.length cc0), rfl, h⟩ (by show n0_3.length ≤ _; have := HSM0.out; omega))
      unfold GivesCore at T0
      simp only [vCore] at T0
      have T1 := Lib.hid (fun w0 => toCall_any (⟨n1_0, n1_1, n1_2, n1_3⟩ : CallD) w0)
      simp only [vCall] at T1
      go_upto_region 8 with fail
      have HLTs_p0 := Lib.hid Lp0_w2
      have HLTs_p1 := Lib.hid Lp1_w2
      have HSof := Lib.hid (fun W (h : Below w2.heap.size w2 W) => (show W.cell? ⟨w.heap.size, 0, none⟩ = some (.string ⟨n0_0.toArray⟩) ∧ W.cell? ⟨w.heap.size, 1, none⟩ = some (.bool n0_1) ∧ W.cell? ⟨w.heap.size, 2, none⟩ = some (.bool n0_2) ∧ W.cell? ⟨w.heap.size, 3, none⟩ = some ((.slice ca0 n0_3.length cc0)) ∧ W.cell? ⟨w.heap.size, 4, none⟩ = some (.int .i64 n0_4) ∧ W.cell? ⟨w.heap.size + 1, 0, none⟩ = some (.string ⟨n1_0.toArray⟩) ∧ W.cell? ⟨w.heap.size + 1, 1, none⟩ = some (.string ⟨n1_1.toArray⟩) ∧ W.cell? ⟨w.heap.size + 1, 2, none⟩ = some (.int .i64 n1_2) ∧ W.cell? ⟨w.heap.size + 1, 3, none⟩ = some (.string ⟨n1_3.toArray⟩) from ⟨(h.cell (p := ⟨w.heap.size, 0, none⟩) Lp0_w2).trans ep0_0_w2, (h.cell (p := ⟨w.heap.size, 1, none⟩) Lp0_w2).trans ep0_1_w2, (h.cell (p := ⟨w.heap.size, 2, none⟩) Lp0_w2).trans ep0_2_w2, (h.cell (p := ⟨w.heap.size, 3, none⟩) Lp0_w2).trans ep0_3_w2, (h.cell (p := ⟨w.heap.size, 4, none⟩) Lp0_w2).trans ep0_4_w2, (h.cell (p := ⟨w.heap.size + 1, 0, none⟩) Lp1_w2).trans ep1_0_w2, (h.cell (p := ⟨w.heap.size + 1, 1, none⟩) Lp1_w2).trans ep1_1_w2, (h.cell (p := ⟨w.heap.size + 1, 2, none⟩) Lp1_w2).trans ep1_2_w2, (h.cell (p := ⟨w.heap.size + 1, 3, none⟩) Lp1_w2).trans ep1_3_w2⟩))
      go_cut [6, 7] from 16 to 33 (fun s6 s7 wx => ∃ (bs_6 : Nat) (bs_7 : Nat) (pss : Option Addr) (qss los his : Nat), s6 = .pointer (some ⟨bs_6, 0, none⟩) ∧ s7 = .pointer (some ⟨bs_7, 0, none⟩) ∧ Bx wx bs_6 [.string ⟨a0.toArray⟩, .bool a1, .bool a2, (.slice pss a3.length qss), .int .i64 a4] ∧ Bx wx bs_7 [.int .i64 m0, .int .i64 m1, .string ⟨m2.toArray⟩, .int .i64 m3, .int .i64 m4] ∧ OwnR cCell 36 2 wx los his (.slice pss a3.length qss) a3 ∧ (w2.heap.size ≤ los ∧ his ≤ wx.heap.size ∧ (bs_6 < los ∨ his ≤ bs_6) ∧ w2.heap.size ≤ bs_6 ∧ (bs_7 < los ∨ his ≤ bs_7) ∧ w2.heap.size ≤ bs_7) ∧ Below w2.heap.size w2 wx)
      case first =>
        refine wp_region_held_drew (S := fun w' => w'.cell? ⟨w.heap.size, 0, none⟩ = some (.string ⟨n0_0.toArray⟩) ∧ w'.cell? ⟨w.heap.size, 1, none⟩ = some (.bool n0_1) ∧ w'.cell? ⟨w.heap.size, 2, none⟩ = some (.bool n0_2) ∧ w'.cell? ⟨w.heap.size, 3, none⟩ = some ((.slice ca0 n0_3.length cc0)) ∧ w'.cell? ⟨w.heap.size, 4, none⟩ = some (.int .i64 n0_4) ∧ w'.cell? ⟨w.heap.size + 1, 0, none⟩ = some (.string ⟨n1_0.toArray⟩) ∧ w'.cell? ⟨w.heap.size + 1, 1, none⟩ = some (.string ⟨n1_1.toArray⟩) ∧ w'.cell? ⟨w.heap.size + 1, 2, none⟩ = some (.int .i64 n1_2) ∧ w'.cell? ⟨w.heap.size + 1, 3, none⟩ = some (.string ⟨n1_3.toArray⟩)) (by kernel_rfl) ?_ (fun hHeld => ?_)
        · exact HSof.out _ (belD (Below.refl _ _))
        have hbd := belD (Below.refl w2.heap.size w2)
        have Z0 := Lib.hid (show w2.drew.heap.size = w2.heap.size from rfl)
        generalize w2.drew = vs0 at *
        have HBW := Lib.hid hbd
        clear hbd
        refine wpAnyH_take (i := 0) (v := ?_) rfl (by kernel_rfl) (by kernel_rfl) (by kernel_rfl) (fun _ _ _ h => h) (Or.inl ⟨by rfl, ?_⟩) (by assumption) ?_
        rotate_left
        · intro w hSw; (try dsimp only at hSw); go_simp; with_reducible rfl
        try simp only [Act.put, List.getElem_toArray, List.getElem_cons_zero, List.getElem_cons_succ, List.setIfInBounds_toArray, List.set_cons_zero, List.set_cons_succ]
        refine wpAnyH_take (i := 2) (v := ?_) rfl (by kernel_rfl) (by kernel_rfl) (by kernel_rfl) (fun _ _ _ h => h) (Or.inl ⟨by rfl, ?_⟩) (by assumption) ?_
        rotate_left
        · intro w hSw; (try dsimp only at hSw); go_simp; with_reducible rfl
        try simp only [Act.put, List.getElem_toArray, List.getElem_cons_zero, List.getElem_cons_succ, List.setIfInBounds_toArray, List.set_cons_zero, List.set_cons_succ]
        have HFS := Lib.hid (show ∀ W W' : World, (W.cell? ⟨w.heap.size, 0, none⟩ = some (.string ⟨n0_0.toArray⟩) ∧ W.cell? ⟨w.heap.size, 1, none⟩ = some (.bool n0_1) ∧ W.cell? ⟨w.heap.size, 2, none⟩ = some (.bool n0_2) ∧ W.cell? ⟨w.heap.size, 3, none⟩ = some ((.slice ca0 n0_3.length cc0)) ∧ W.cell? ⟨w.heap.size, 4, none⟩ = some (.int .i64 n0_4) ∧ W.cell? ⟨w.heap.size + 1, 0, none⟩ = some (.string ⟨n1_0.toArray⟩) ∧ W.cell? ⟨w.heap.size + 1, 1, none⟩ = some (.string ⟨n1_1.toArray⟩) ∧ W.cell? ⟨w.heap.size + 1, 2, none⟩ = some (.int .i64 n1_2) ∧ W.cell? ⟨w.heap.size + 1, 3, none⟩ = some (.string ⟨n1_3.toArray⟩)) → Below W.heap.size W W' → (W'.cell? ⟨w.heap.size, 0, none⟩ = some (.string ⟨n0_0.toArray⟩) ∧ W'.cell? ⟨w.heap.size, 1, none⟩ = some (.bool n0_1) ∧ W'.cell? ⟨w.heap.size, 2, none⟩ = some (.bool n0_2) ∧ W'.cell? ⟨w.heap.size, 3, none⟩ = some ((.slice ca0 n0_3.length cc0)) ∧ W'.cell? ⟨w.heap.size, 4, none⟩ = some (.int .i64 n0_4) ∧ W'.cell? ⟨w.heap.size + 1, 0, none⟩ = some (.string ⟨n1_0.toArray⟩) ∧ W'.cell? ⟨w.heap.size + 1, 1, none⟩ = some (.string ⟨n1_1.toArray⟩) ∧ W'.cell? ⟨w.heap.size + 1, 2, none⟩ = some (.int .i64 n1_2) ∧ W'.cell? ⟨w.heap.size + 1, 3, none⟩ = some (.string ⟨n1_3.toArray⟩)) from fun W W' hh hb => by obtain ⟨q0, q1, q2, q3, q4, q5, q6, q7, q8⟩ := hh; exact ⟨(hb.cell (p := ⟨w.heap.size, 0, none⟩) (World.block_lt_of_cell? _ _ q0)).trans q0, (hb.cell (p := ⟨w.heap.size, 1, none⟩) (World.block_lt_of_cell? _ _ q1)).trans q1, (hb.cell (p := ⟨w.heap.size, 2, none⟩) (World.block_lt_of_cell? _ _ q2)).trans q2, (hb.cell (p := ⟨w.heap.size, 3, none⟩) (World.block_lt_of_cell? _ _ q3)).trans q3, (hb.cell (p := ⟨w.heap.size, 4, none⟩) (World.block_lt_of_cell? _ _ q4)).trans q4, (hb.cell (p := ⟨w.heap.size + 1, 0, none⟩) (World.block_lt_of_cell? _ _ q5)).trans q5, (hb.cell (p := ⟨w.heap.size + 1, 1, none⟩) (World.block_lt_of_cell? _ _ q6)).trans q6, (hb.cell (p := ⟨w.heap.size + 1, 2, none⟩) (World.block_lt_of_cell? _ _ q7)).trans q7, (hb.cell (p := ⟨w.heap.size + 1, 3, none⟩) (World.block_lt_of_cell? _ _ q8)).trans q8⟩)
        refine wpAnyH_floatN (k1 := 8) (k2 := 9) (d1 := 6) (d2 := 7) (z1 := [.string ⟨#[]⟩, .bool false, .bool false, .slice none 0 0, .int .i64 0]) (z2 := [.int .i64 0, .int .i64 0, .string ⟨#[]⟩, .int .i64 0, .int .i64 0]) (T1 := 26) (T2 := 32) (js := [(1, false), (3, false), (4, false), (5, true), (6, true), (7, true)]) (fz := 2) rfl ⟨⟨_, rfl, rfl, rfl, fun a w => ?_⟩⟩ ⟨⟨_, rfl, rfl, rfl, fun a w => ?_⟩⟩ (by kernel_rfl) (by decide) (by decide) (by kernel_rfl) (fun _ _ _ _ _ => Iff.rfl) HFS.out (by assumption) ?_
        · rfl
        · rfl
        refine wpFl_step rfl (fun gs0 hbG hHeld K hK => ?_)
        have HBW := Lib.hid (HBW.out.trans (hbG.mono HBW.out.size))
        have ZG0 := Lib.hid hbG.size
        clear hbG
        go_simp
        go_at_call 19
        refine (T0.out _ (FlatAt.below A0_w2.out HBW.out (Nat.le_refl _))).mono ?_
        rintro e vs1 ⟨_, rfl, ⟨uT0, rfl, ho⟩, hb⟩
        have hbK := hb
        have HBW := Lib.hid (HBW.out.trans (hb.mono HBW.out.size))
        have HT0Z := Lib.hid ho
        clear ho
        have ZK0 := Lib.hid hb.size
        clear hb
        refine hK.out _ _ hbK (HSof.out _ HBW.out) ?_
        clear hK K hbK hHeld
        try simp only [Act.put, List.getElem_toArray, List.getElem_cons_zero, List.getElem_cons_succ, List.setIfInBounds_toArray, List.set_cons_zero, List.set_cons_succ]
        refine wpFl_step rfl (fun gs1 hbG hHeld K hK => ?_)
        have HBW := Lib.hid (HBW.out.trans (hbG.mono HBW.out.size))
        have HT0Z := Lib.hid (ownsF_below HT0Z.out hbG (Nat.le_refl _))
        have ZG1 := Lib.hid hbG.size
        clear hbG
        go_simp
        go_at_call 20
        refine (T1.out _).mono ?_
        rintro e vs2 ⟨rfl, hb⟩
        have hbK := hb
        have HBW := Lib.hid (HBW.out.trans (hb.mono HBW.out.size))
        have HT0Z := Lib.hid (ownsF_below HT0Z.out hb (Nat.le_refl _))
        have ZK1 := Lib.hid hb.size
        clear hb
        refine hK.out _ _ hbK (HSof.out _ HBW.out) ?_
        clear hK K hbK hHeld
        try simp only [Act.put, List.getElem_toArray, List.getElem_cons_zero, List.getElem_cons_succ, List.setIfInBounds_toArray, List.set_cons_zero, List.set_cons_succ]
        refine wpFl_step rfl (fun gs2 hbG hHeld K hK => ?_)
        have HBW := Lib.hid (HBW.out.trans (hbG.mono HBW.out.size))
        have HT0Z := Lib.hid (ownsF_below HT0Z.out hbG (Nat.le_refl _))
        have ZG2 := Lib.hid hbG.size
        clear hbG
        go_simp
        go_at_call 18
        refine (HSP.out uT0 _ (ownsF_at HT0Z.out (by show n0_3.length ≤ _; have := HSM0.out; omega))).mono ?_
        rintro e vs3 ⟨_, rfl, ho, hb⟩
        have hbK := hb
        have HBW := Lib.hid (HBW.out.trans (hb.mono HBW.out.size))
        have HT0Z := Lib.hid (ownsF_below HT0Z.out hb (Nat.le_refl _))
        obtain ⟨pR, qR, rfl⟩ := slice_of ho
        have HOR := Lib.hid (ownR_of ho)
        have ZK2 := Lib.hid hb.size
        clear ho hb
        refine hK.out _ _ hbK (HSof.out _ HBW.out) ?_
        clear hK K hbK hHeld
        try simp only [Act.put, List.getElem_toArray, List.getElem_cons_zero, List.getElem_cons_succ, List.setIfInBounds_toArray, List.set_cons_zero, List.set_cons_succ]
        refine wpFl_take (v := ?_) rfl (Or.inl ⟨by rfl, ?_⟩) ?_
        rotate_left
        · intro w hSw; (try dsimp only at hSw); go_simp; with_reducible rfl
        try simp only [Act.put, List.getElem_toArray, List.getElem_cons_zero, List.getElem_cons_succ, List.setIfInBounds_toArray, List.set_cons_zero, List.set_cons_succ]
        refine wpFl_take (v := ?_) rfl (Or.inl ⟨by rfl, ?_⟩) ?_
        rotate_left
        · intro w hSw; (try dsimp only at hSw); go_simp; with_reducible rfl
        try simp only [Act.put, List.getElem_toArray, List.getElem_cons_zero, List.getElem_cons_succ, List.setIfInBounds_toArray, List.set_cons_zero, List.set_cons_succ]
        refine wpFl_take (v := ?_) rfl (Or.inl ⟨by rfl, ?_⟩) ?_
        rotate_left
        · intro w hSw; (try dsimp only at hSw); go_simp; with_reducible rfl
        try simp only [Act.put, List.getElem_toArray, List.getElem_cons_zero, List.getElem_cons_succ, List.setIfInBounds_toArray, List.set_cons_zero, List.set_cons_succ]
        refine wpFl_end (fun gsE bx1 bx2 hbG hHeld hbx1 hbx2 hbne hbl1 hbl2 hgap => ?_)
        have HBW := Lib.hid (HBW.out.trans (hbG.mono HBW.out.size))
        have HT0Z := Lib.hid (ownsF_below HT0Z.out hbG (Nat.le_refl _))
        have HOR := Lib.hid (ownR_below HOR.out hbG (Nat.le_refl _))
        have ZGE := Lib.hid hbG.size
        clear hbG
        obtain ⟨hgp1, hgp2⟩ := hgap _ (List.mem_cons_self ..)
        simp only at hgp1 hgp2
        clear hgap
        have BX6 := Lib.hid hbx1
        have BX7 := Lib.hid hbx2
        clear hbx1 hbx2
        try simp only [Act.put, List.getElem_toArray, List.getElem_cons_zero, List.getElem_cons_succ, List.setIfInBounds_toArray, List.set_cons_zero, List.set_cons_succ]
        have r0_0 : gsE.cell? ⟨bx1, 0, none⟩ = some (.string ⟨#[]⟩) := BX6.out.cell 0 (by simp)
        have y0_0 : gsE.frozen? ⟨bx1, 0, none⟩ = false := BX6.out.froz 0 (by simp)
        have r0_1 : gsE.cell? ⟨bx1, 1, none⟩ = some (.bool false) := BX6.out.cell 1 (by simp)
        have y0_1 : gsE.frozen? ⟨bx1, 1, none⟩ = false := BX6.out.froz 1 (by simp)
        have r0_2 : gsE.cell? ⟨bx1, 2, none⟩ = some (.bool false) := BX6.out.cell 2 (by simp)
        have y0_2 : gsE.frozen? ⟨bx1, 2, none⟩ = false := BX6.out.froz 2 (by simp)
        have r0_3 : gsE.cell? ⟨bx1, 3, none⟩ = some (.slice none 0 0) := BX6.out.cell 3 (by simp)
        have y0_3 : gsE.frozen? ⟨bx1, 3, none⟩ = false := BX6.out.froz 3 (by simp)
        have r0_4 : gsE.cell? ⟨bx1, 4, none⟩ = some (.int .i64 0) := BX6.out.cell 4 (by simp)
        have y0_4 : gsE.frozen? ⟨bx1, 4, none⟩ = false := BX6.out.froz 4 (by simp)
        have r1_0 : gsE.cell? ⟨bx2, 0, none⟩ = some (.int .i64 0) := BX7.out.cell 0 (by simp)
        have y1_0 : gsE.frozen? ⟨bx2, 0, none⟩ = false := BX7.out.froz 0 (by simp)
        have r1_1 : gsE.cell? ⟨bx2, 1, none⟩ = some (.int .i64 0) := BX7.out.cell 1 (by simp)
        have y1_1 : gsE.frozen? ⟨bx2, 1, none⟩ = false := BX7.out.froz 1 (by simp)
        have r1_2 : gsE.cell? ⟨bx2, 2, none⟩ = some (.string ⟨#[]⟩) := BX7.out.cell 2 (by simp)
        have y1_2 : gsE.frozen? ⟨bx2, 2, none⟩ = false := BX7.out.froz 2 (by simp)
        have r1_3 : gsE.cell? ⟨bx2, 3, none⟩ = some (.int .i64 0) := BX7.out.cell 3 (by simp)
        have y1_3 : gsE.frozen? ⟨bx2, 3, none⟩ = false := BX7.out.froz 3 (by simp)
        have r1_4 : gsE.cell? ⟨bx2, 4, none⟩ = some (.int .i64 0) := BX7.out.cell 4 (by simp)
        have y1_4 : gsE.frozen? ⟨bx2, 4, none⟩ = false := BX7.out.froz 4 (by simp)
        have l0 := BX6.out.lt
        have g0 : w2.heap.size ≤ bx1 := by have z0 := Z0.out; have zG0 := ZG0.out; have zK0 := ZK0.out; have zG1 := ZG1.out; have zK1 := ZK1.out; have zG2 := ZG2.out; have zK2 := ZK2.out; have zGE := ZGE.out; omega
        have l1 := BX7.out.lt
        have g1 : w2.heap.size ≤ bx2 := by have z0 := Z0.out; have zG0 := ZG0.out; have zK0 := ZK0.out; have zG1 := ZG1.out; have zK1 := ZK1.out; have zG2 := ZG2.out; have zK2 := ZK2.out; have zGE := ZGE.out; omega
        have ne0_1 : ¬ bx1 = bx2 := by have z0 := Z0.out; have zG0 := ZG0.out; have zK0 := ZK0.out; have zG1 := ZG1.out; have zK1 := ZK1.out; have zG2 := ZG2.out; have zK2 := ZK2.out; have zGE := ZGE.out; omega
        have ne1_0 : ¬ bx2 = bx1 := by have z0 := Z0.out; have zG0 := ZG0.out; have zK0 := ZK0.out; have zG1 := ZG1.out; have zK1 := ZK1.out; have zG2 := ZG2.out; have zK2 := ZK2.out; have zGE := ZGE.out; omega
        refine wpAnyH_ready (rs := [10]) (by kernel_rfl) (by simp) ?_
        refine AllReadyH.cons rfl (fun K hK => ?_) AllReadyH.nil
        go_simp
        refine hK.out _ _ ?_ (fun hHeld => ?_)
        · exact HSof.out _ (belQ5 HBW.out g0 _ _ _ _ _)
        clear hK K
        try simp only [Act.put, List.getElem_toArray, List.getElem_cons_zero, List.getElem_cons_succ, List.setIfInBounds_toArray, List.set_cons_zero, List.set_cons_succ]
        refine wpAnyH_ready (rs := [11]) (by kernel_rfl) (by simp) ?_
        refine AllReadyH.cons rfl (fun K hK => ?_) AllReadyH.nil
        go_simp
        refine hK.out _ _ ?_ (fun hHeld => ?_)
        · exact HSof.out _ (belQ5 (belQ5 HBW.out g0 _ _ _ _ _) g1 _ _ _ _ _)
        clear hK K
        try simp only [Act.put, List.getElem_toArray, List.getElem_cons_zero, List.getElem_cons_succ, List.setIfInBounds_toArray, List.set_cons_zero, List.set_cons_succ]
        refine wpAnyH_done (by kernel_rfl) ?_ _
        go_wp2_with fail
        go_meet
        exact ⟨_, _, pR, qR, _, _, rfl, rfl, (bxP5o (bxP5 BX6.out _ _ _ _ _) ne0_1 _ _ _ _ _), (bxP5 (bxP5o BX7.out ne1_0 _ _ _ _ _) _ _ _ _ _), (ownR_p5 (ownR_p5 HOR.out (by have z0 := Z0.out; have zG0 := ZG0.out; have zK0 := ZK0.out; have zG1 := ZG1.out; have zK1 := ZK1.out; have zG2 := ZG2.out; have zK2 := ZK2.out; have zGE := ZGE.out; omega) _ _ _ _ _) (by have z0 := Z0.out; have zG0 := ZG0.out; have zK0 := ZK0.out; have zG1 := ZG1.out; have zK1 := ZK1.out; have zG2 := ZG2.out; have zK2 := ZK2.out; have zGE := ZGE.out; omega) _ _ _ _ _), ⟨by have z0 := Z0.out; have zG0 := ZG0.out; have zK0 := ZK0.out; have zG1 := ZG1.out; have zK1 := ZK1.out; have zG2 := ZG2.out; have zK2 := ZK2.out; have zGE := ZGE.out; omega, by have z0 := Z0.out; have zG0 := ZG0.out; have zK0 := ZK0.out; have zG1 := ZG1.out; have zK1 := ZK1.out; have zG2 := ZG2.out; have zK2 := ZK2.out; have zGE := ZGE.out; (try simp); omega, (by have z0 := Z0.out; have zG0 := ZG0.out; have zK0 := ZK0.out; have zG1 := ZG1.out; have zK1 := ZK1.out; have zG2 := ZG2.out; have zK2 := ZK2.out; have zGE := ZGE.out; omega), g0, (by have z0 := Z0.out; have zG0 := ZG0.out; have zK0 := ZK0.out; have zG1 := ZG1.out; have zK1 := ZK1.out; have zG2 := ZG2.out; have zK2 := ZK2.out; have zGE := ZGE.out; omega), g1⟩, (belQ5 (belQ5 HBW.out g0 _ _ _ _ _) g1 _ _ _ _ _)⟩
      case rest =>
        obtain ⟨bs_6, bs_7, pss, qss, los, his, rfl, rfl, hx0, hx1, hor, ⟨hlos, hhis, hds0, hgs0, hds1, hgs1⟩, hb⟩ := hcut
        obtain ⟨w3, rfl⟩ : ∃ u, u = wc := ⟨_, rfl⟩
        have Cw_w3 := Lib.hid (Cw_w2.out.trans (hb.mono Cw_w2.out.size))
        have A0_w3 := Lib.hid (FlatAt.below A0_w2.out hb (Nat.le_refl _))
        have ep0_0_w3 := (hb.cell (p := ⟨w.heap.size, 0, none⟩) Lp0_w2).trans ep0_0_w2
        have ep0_1_w3 := (hb.cell (p := ⟨w.heap.size, 1, none⟩) Lp0_w2).trans ep0_1_w2
        have ep0_2_w3 := (hb.cell (p := ⟨w.heap.size, 2, none⟩) Lp0_w2).trans ep0_2_w2
        have ep0_3_w3 := (hb.cell (p := ⟨w.heap.size, 3, none⟩) Lp0_w2).trans ep0_3_w2
        have ep0_4_w3 := (hb.cell (p := ⟨w.heap.size, 4, none⟩) Lp0_w2).trans ep0_4_w2
        have Lp0_w3 : w.heap.size < w3.heap.size := by have h := hb.size; omega
        clear ep0_0_w2 ep0_1_w2 ep0_2_w2 ep0_3_w2 ep0_4_w2 Lp0_w2
        have ep1_0_w3 := (hb.cell (p := ⟨w.heap.size + 1, 0, none⟩) Lp1_w2).trans ep1_0_w2
        have ep1_1_w3 := (hb.cell (p := ⟨w.heap.size + 1, 1, none⟩) Lp1_w2).trans ep1_1_w2
        have ep1_2_w3 := (hb.cell (p := ⟨w.heap.size + 1, 2, none⟩) Lp1_w2).trans ep1_2_w2
        have ep1_3_w3 := (hb.cell (p := ⟨w.heap.size + 1, 3, none⟩) Lp1_w2).trans ep1_3_w2
        have Lp1_w3 : w.heap.size + 1 < w3.heap.size := by have h := hb.size; omega
        clear ep1_0_w2 ep1_1_w2 ep1_2_w2 ep1_3_w2 Lp1_w2
        have Rs := Lib.hid hor
        have Rsa := Lib.hid (ownR_at hor (by have := HRL.out; omega))
        clear hor
        have LCRs_w := Lib.hid (Nat.le_trans Cw_w2.out.size hlos)
        have LBRs_p0 := Lib.hid (Nat.lt_of_lt_of_le HLTs_p0.out hlos)
        have LBRs_p1 := Lib.hid (Nat.lt_of_lt_of_le HLTs_p1.out hlos)
        have es0_0_w3 : w3.cell? ⟨bs_6, 0, none⟩ = some (.string ⟨a0.toArray⟩) := hx0.cell 0 (by simp)
        have es0_1_w3 : w3.cell? ⟨bs_6, 1, none⟩ = some (.bool a1) := hx0.cell 1 (by simp)
        have es0_2_w3 : w3.cell? ⟨bs_6, 2, none⟩ = some (.bool a2) := hx0.cell 2 (by simp)
        have es0_3_w3 : w3.cell? ⟨bs_6, 3, none⟩ = some ((.slice pss a3.length qss)) := hx0.cell 3 (by simp)
        have es0_4_w3 : w3.cell? ⟨bs_6, 4, none⟩ = some (.int .i64 a4) := hx0.cell 4 (by simp)
        have Ls0_w3 := hx0.lt
        clear hx0
        have DBRs_s0 := Lib.hid hds0
        have es1_0_w3 : w3.cell? ⟨bs_7, 0, none⟩ = some (.int .i64 m0) := hx1.cell 0 (by simp)
        have es1_1_w3 : w3.cell? ⟨bs_7, 1, none⟩ = some (.int .i64 m1) := hx1.cell 1 (by simp)
        have es1_2_w3 : w3.cell? ⟨bs_7, 2, none⟩ = some (.string ⟨m2.toArray⟩) := hx1.cell 2 (by simp)
        have es1_3_w3 : w3.cell? ⟨bs_7, 3, none⟩ = some (.int .i64 m3) := hx1.cell 3 (by simp)
        have es1_4_w3 : w3.cell? ⟨bs_7, 4, none⟩ = some (.int .i64 m4) := hx1.cell 4 (by simp)
        have Ls1_w3 := hx1.lt
        clear hx1
        have DBRs_s1 := Lib.hid hds1
        clear hb HSof
        have K_p0 := Lp0_w3
        have K_p1 := Lp1_w3
        have K_s0 := Ls0_w3
        have K_s1 := Ls1_w3
        go_wp2_with fail
        refine (toCore_any (vCore (⟨n0_0, n0_1, n0_2, n0_3, n0_4⟩ : CoreD) (.slice ca0 n0_3.length cc0)) (⟨n0_0, n0_1, n0_2, n0_3, n0_4⟩ : CoreD) _ ⟨(.slice ca0 n0_3.length cc0), rfl, (FlatAt.below A0_w3.out (by repeat (first | exact Below.refl _ _ | refine Below.alloc ?_ (by simp; try omega) _ | refine Below.setCell ?_ (by simp; try omega) _ | refine belN ?_ _ | refine belD ?_)) (Nat.le_refl _))⟩ (by show n0_3.length ≤ _; have := HSM0.out; omega)).mono ?_
        rintro e w4 ⟨_, rfl, ⟨u1, rfl, ho⟩, hb0⟩
        have hb := below_step (w := w3) (by repeat (first | exact Below.refl _ _ | refine Below.alloc ?_ (by simp; try omega) _ | refine Below.setCell ?_ (by simp; try omega) _ | refine belN ?_ _ | refine belD ?_)) hb0
        have Cw_w4 := Lib.hid (Cw_w3.out.trans (hb.mono Cw_w3.out.size))
        have Cw3_w4 := Lib.hid hb
        have A0_w4 := Lib.hid (FlatAt.below A0_w3.out hb (Nat.le_refl _))
        have Rsa_w4 := Lib.hid (FlatAt.below Rsa.out hb (Nat.le_refl _))
        have ep0_0_w4 := (hb.cell (p := ⟨w.heap.size, 0, none⟩) Lp0_w3).trans ep0_0_w3
        have ep0_1_w4 := (hb.cell (p := ⟨w.heap.size, 1, none⟩) Lp0_w3).trans ep0_1_w3
        have ep0_2_w4 := (hb.cell (p := ⟨w.heap.size, 2, none⟩) Lp0_w3).trans ep0_2_w3
        have ep0_3_w4 := (hb.cell (p := ⟨w.heap.size, 3, none⟩) Lp0_w3).trans ep0_3_w3
        have ep0_4_w4 := (hb.cell (p := ⟨w.heap.size, 4, none⟩) Lp0_w3).trans ep0_4_w3
        have Lp0_w4 : w.heap.size < w4.heap.size := by have h := hb.size; omega
        clear ep0_0_w3 ep0_1_w3 ep0_2_w3 ep0_3_w3 ep0_4_w3 Lp0_w3
        have ep1_0_w4 := (hb.cell (p := ⟨w.heap.size + 1, 0, none⟩) Lp1_w3).trans ep1_0_w3
        have ep1_1_w4 := (hb.cell (p := ⟨w.heap.size + 1, 1, none⟩) Lp1_w3).trans ep1_1_w3
        have ep1_2_w4 := (hb.cell (p := ⟨w.heap.size + 1, 2, none⟩) Lp1_w3).trans ep1_2_w3
        have ep1_3_w4 := (hb.cell (p := ⟨w.heap.size + 1, 3, none⟩) Lp1_w3).trans ep1_3_w3
        have Lp1_w4 : w.heap.size + 1 < w4.heap.size := by have h := hb.size; omega
        clear ep1_0_w3 ep1_1_w3 ep1_2_w3 ep1_3_w3 Lp1_w3
        have es0_0_w4 := (hb.cell (p := ⟨bs_6, 0, none⟩) Ls0_w3).trans es0_0_w3
        have es0_1_w4 := (hb.cell (p := ⟨bs_6, 1, none⟩) Ls0_w3).trans es0_1_w3
        have es0_2_w4 := (hb.cell (p := ⟨bs_6, 2, none⟩) Ls0_w3).trans es0_2_w3
        have es0_3_w4 := (hb.cell (p := ⟨bs_6, 3, none⟩) Ls0_w3).trans es0_3_w3
        have es0_4_w4 := (hb.cell (p := ⟨bs_6, 4, none⟩) Ls0_w3).trans es0_4_w3
        have Ls0_w4 : bs_6 < w4.heap.size := by have h := hb.size; omega
        clear es0_0_w3 es0_1_w3 es0_2_w3 es0_3_w3 es0_4_w3 Ls0_w3
        have es1_0_w4 := (hb.cell (p := ⟨bs_7, 0, none⟩) Ls1_w3).trans es1_0_w3
        have es1_1_w4 := (hb.cell (p := ⟨bs_7, 1, none⟩) Ls1_w3).trans es1_1_w3
        have es1_2_w4 := (hb.cell (p := ⟨bs_7, 2, none⟩) Ls1_w3).trans es1_2_w3
        have es1_3_w4 := (hb.cell (p := ⟨bs_7, 3, none⟩) Ls1_w3).trans es1_3_w3
        have es1_4_w4 := (hb.cell (p := ⟨bs_7, 4, none⟩) Ls1_w3).trans es1_4_w3
        have Ls1_w4 : bs_7 < w4.heap.size := by have h := hb.size; omega
        clear es1_0_w3 es1_1_w3 es1_2_w3 es1_3_w3 es1_4_w3 Ls1_w3
        simp only [vCore]
        have ho := (show OwnsF cCell 36 2 _ _ _ n0_3 from ho)
        obtain ⟨p1, q1, rfl, _⟩ := flatAt_len (ownsF_at ho (by show n0_3.length ≤ _; have := HSM0.out; omega))
        obtain ⟨LX1, hLX1, ho⟩ := own_lo ho
        try simp at hLX1
        have HLX1 := Lib.hid hLX1
        clear hLX1
        have X1 := Lib.hid (ownR_of ho)
        have X1a := Lib.hid (ownsF_at ho (by show n0_3.length ≤ _; have := HSM0.out; omega))
        clear ho
        have LCX1_w := Lib.hid (show w.heap.size ≤ LX1 by have h := Cw_w3.out.size; have h2 := HLX1.out; omega)
        have LCX1_w3 := Lib.hid (show w3.heap.size ≤ LX1 by have h := (Below.refl w3.heap.size w3).size; have h2 := HLX1.out; omega)
        have LBX1_p0 := Lib.hid (show w.heap.size < LX1 by have h2 := HLX1.out; have h := K_p0; omega)
        have LBX1_p1 := Lib.hid (show w.heap.size + 1 < LX1 by have h2 := HLX1.out; have h := K_p1; omega)
        have LBX1_s0 := Lib.hid (show bs_6 < LX1 by have h2 := HLX1.out; have h := K_s0; omega)
        have LBX1_s1 := Lib.hid (show bs_7 < LX1 by have h2 := HLX1.out; have h := K_s1; omega)
        clear hb hb0
        have GBRs_x0 := Lib.hid (show his ≤ w4.heap.size by have h := Cw3_w4.out.size; omega)
        have GBX1_x0 := Lib.hid (show w4.heap.size ≤ w4.heap.size by have h := (Below.refl w4.heap.size w4).size; omega)
        have T1 := Lib.hid (fun w0 => toCall_any (⟨n1_0, n1_1, n1_2, n1_3⟩ : CallD) w0)
        simp only [vCall] at T1
        go_upto_region 10 with fail
        have hb := bx_box w4 (.cells #[.string ⟨n0_0.toArray⟩, .bool n0_1, .bool n0_2, (.slice p1 n0_3.length q1), .int .i64 n0_4] 26)
        have hbx := Bx.new w4 [.string ⟨n0_0.toArray⟩, .bool n0_1, .bool n0_2, (.slice p1 n0_3.length q1), .int .i64 n0_4] 26
        generalize w4.alloc (.cells #[.string ⟨n0_0.toArray⟩, .bool n0_1, .bool n0_2, (.slice p1 n0_3.length q1), .int .i64 n0_4] 26) = w5 at *
        have Cw_w5 := Lib.hid (Cw_w4.out.trans (hb.mono Cw_w4.out.size))
        have Cw3_w5 := Lib.hid (Cw3_w4.out.trans (hb.mono Cw3_w4.out.size))
        have Cw4_w5 := Lib.hid hb
        have A0_w5 := Lib.hid (FlatAt.below A0_w4.out hb (Nat.le_refl _))
        have Rsa_w5 := Lib.hid (FlatAt.below Rsa_w4.out hb (Nat.le_refl _))
        have X1a_w5 := Lib.hid (FlatAt.below X1a.out hb (Nat.le_refl _))
        have X1_w5 := Lib.hid (ownR_below X1.out hb (Nat.le_refl _))
        have ep0_0_w5 := (hb.cell (p := ⟨w.heap.size, 0, none⟩) Lp0_w4).trans ep0_0_w4
        have ep0_1_w5 := (hb.cell (p := ⟨w.heap.size, 1, none⟩) Lp0_w4).trans ep0_1_w4
        have ep0_2_w5 := (hb.cell (p := ⟨w.heap.size, 2, none⟩) Lp0_w4).trans ep0_2_w4
        have ep0_3_w5 := (hb.cell (p := ⟨w.heap.size, 3, none⟩) Lp0_w4).trans ep0_3_w4
        have ep0_4_w5 := (hb.cell (p := ⟨w.heap.size, 4, none⟩) Lp0_w4).trans ep0_4_w4
        have Lp0_w5 : w.heap.size < w5.heap.size := by have h := hb.size; omega
        clear ep0_0_w4 ep0_1_w4 ep0_2_w4 ep0_3_w4 ep0_4_w4 Lp0_w4
        have ep1_0_w5 := (hb.cell (p := ⟨w.heap.size + 1, 0, none⟩) Lp1_w4).trans ep1_0_w4
        have ep1_1_w5 := (hb.cell (p := ⟨w.heap.size + 1, 1, none⟩) Lp1_w4).trans ep1_1_w4
        have ep1_2_w5 := (hb.cell (p := ⟨w.heap.size + 1, 2, none⟩) Lp1_w4).trans ep1_2_w4
        have ep1_3_w5 := (hb.cell (p := ⟨w.heap.size + 1, 3, none⟩) Lp1_w4).trans ep1_3_w4
        have Lp1_w5 : w.heap.size + 1 < w5.heap.size := by have h := hb.size; omega
        clear ep1_0_w4 ep1_1_w4 ep1_2_w4 ep1_3_w4 Lp1_w4
        have es0_0_w5 := (hb.cell (p := ⟨bs_6, 0, none⟩) Ls0_w4).trans es0_0_w4
        have es0_1_w5 := (hb.cell (p := ⟨bs_6, 1, none⟩) Ls0_w4).trans es0_1_w4
        have es0_2_w5 := (hb.cell (p := ⟨bs_6, 2, none⟩) Ls0_w4).trans es0_2_w4
        have es0_3_w5 := (hb.cell (p := ⟨bs_6, 3, none⟩) Ls0_w4).trans es0_3_w4
        have es0_4_w5 := (hb.cell (p := ⟨bs_6, 4, none⟩) Ls0_w4).trans es0_4_w4
        have Ls0_w5 : bs_6 < w5.heap.size := by have h := hb.size; omega
        clear es0_0_w4 es0_1_w4 es0_2_w4 es0_3_w4 es0_4_w4 Ls0_w4
        have es1_0_w5 := (hb.cell (p := ⟨bs_7, 0, none⟩) Ls1_w4).trans es1_0_w4
        have es1_1_w5 := (hb.cell (p := ⟨bs_7, 1, none⟩) Ls1_w4).trans es1_1_w4
        have es1_2_w5 := (hb.cell (p := ⟨bs_7, 2, none⟩) Ls1_w4).trans es1_2_w4
        have es1_3_w5 := (hb.cell (p := ⟨bs_7, 3, none⟩) Ls1_w4).trans es1_3_w4
        have es1_4_w5 := (hb.cell (p := ⟨bs_7, 4, none⟩) Ls1_w4).trans es1_4_w4
        have Ls1_w5 : bs_7 < w5.heap.size := by have h := hb.size; omega
        clear es1_0_w4 es1_1_w4 es1_2_w4 es1_3_w4 es1_4_w4 Ls1_w4
        have ex0_0_w5 : w5.cell? ⟨w4.heap.size, 0, none⟩ = some (.string ⟨n0_0.toArray⟩) := hbx.cell 0 (by simp)
        have ex0_1_w5 : w5.cell? ⟨w4.heap.size, 1, none⟩ = some (.bool n0_1) := hbx.cell 1 (by simp)
        have ex0_2_w5 : w5.cell? ⟨w4.heap.size, 2, none⟩ = some (.bool n0_2) := hbx.cell 2 (by simp)
        have ex0_3_w5 : w5.cell? ⟨w4.heap.size, 3, none⟩ = some ((.slice p1 n0_3.length q1)) := hbx.cell 3 (by simp)
        have ex0_4_w5 : w5.cell? ⟨w4.heap.size, 4, none⟩ = some (.int .i64 n0_4) := hbx.cell 4 (by simp)
        have Lx0_w5 : w4.heap.size < w5.heap.size := hbx.lt
        clear hb hbx
        have HLTg_p0 := Lib.hid Lp0_w5
        have HLTg_p1 := Lib.hid Lp1_w5
        have HLTg_s0 := Lib.hid Ls0_w5
        have HLTg_s1 := Lib.hid Ls1_w5
        have HLTg_x0 := Lib.hid Lx0_w5
        have HSof := Lib.hid (fun W (h : Below w5.heap.size w5 W) => (show W.cell? ⟨w.heap.size + 1, 0, none⟩ = some (.string ⟨n1_0.toArray⟩) ∧ W.cell? ⟨w.heap.size + 1, 1, none⟩ = some (.string ⟨n1_1.toArray⟩) ∧ W.cell? ⟨w.heap.size + 1, 2, none⟩ = some (.int .i64 n1_2) ∧ W.cell? ⟨w.heap.size + 1, 3, none⟩ = some (.string ⟨n1_3.toArray⟩) ∧ W.cell? ⟨w4.heap.size, 0, none⟩ = some (.string ⟨n0_0.toArray⟩) ∧ W.cell? ⟨w4.heap.size, 1, none⟩ = some (.bool n0_1) ∧ W.cell? ⟨w4.heap.size, 2, none⟩ = some (.bool n0_2) ∧ W.cell? ⟨w4.heap.size, 3, none⟩ = some ((.slice p1 n0_3.length q1)) ∧ W.cell? ⟨w4.heap.size, 4, none⟩ = some (.int .i64 n0_4) from ⟨(h.cell (p := ⟨w.heap.size + 1, 0, none⟩) Lp1_w5).trans ep1_0_w5, (h.cell (p := ⟨w.heap.size + 1, 1, none⟩) Lp1_w5).trans ep1_1_w5, (h.cell (p := ⟨w.heap.size + 1, 2, none⟩) Lp1_w5).trans ep1_2_w5, (h.cell (p := ⟨w.heap.size + 1, 3, none⟩) Lp1_w5).trans ep1_3_w5, (h.cell (p := ⟨w4.heap.size, 0, none⟩) Lx0_w5).trans ex0_0_w5, (h.cell (p := ⟨w4.heap.size, 1, none⟩) Lx0_w5).trans ex0_1_w5, (h.cell (p := ⟨w4.heap.size, 2, none⟩) Lx0_w5).trans ex0_2_w5, (h.cell (p := ⟨w4.heap.size, 3, none⟩) Lx0_w5).trans ex0_3_w5, (h.cell (p := ⟨w4.heap.size, 4, none⟩) Lx0_w5).trans ex0_4_w5⟩))
        go_cut [9, 10] from 34 to 42 (fun s9 s10 wx => ∃ (bg_9 : Nat) (bg_10 : Nat) (psg : Option Addr) (qsg log hig : Nat), s9 = .pointer (some ⟨bg_9, 0, none⟩) ∧ s10 = .pointer (some ⟨bg_10, 0, none⟩) ∧ Bx wx bg_9 [.string ⟨a0.toArray⟩, .bool a1, .bool a2, (.slice psg a3.length qsg), .int .i64 a4] ∧ Bx wx bg_10 [.int .i64 m0, .int .i64 m1, .string ⟨m2.toArray⟩, .int .i64 m3, .int .i64 m4] ∧ OwnR cCell 36 2 wx log hig (.slice psg a3.length qsg) a3 ∧ (w5.heap.size ≤ log ∧ hig ≤ wx.heap.size ∧ (bg_9 < log ∨ hig ≤ bg_9) ∧ w5.heap.size ≤ bg_9 ∧ (bg_10 < log ∨ hig ≤ bg_10) ∧ w5.heap.size ≤ bg_10) ∧ Below w5.heap.size w5 wx)
        case first =>
          refine wp_region_held_drew (S := fun w' => w'.cell? ⟨w.heap.size + 1, 0, none⟩ = some (.string ⟨n1_0.toArray⟩) ∧ w'.cell? ⟨w.heap.size + 1, 1, none⟩ = some (.string ⟨n1_1.toArray⟩) ∧ w'.cell? ⟨w.heap.size + 1, 2, none⟩ = some (.int .i64 n1_2) ∧ w'.cell? ⟨w.heap.size + 1, 3, none⟩ = some (.string ⟨n1_3.toArray⟩) ∧ w'.cell? ⟨w4.heap.size, 0, none⟩ = some (.string ⟨n0_0.toArray⟩) ∧ w'.cell? ⟨w4.heap.size, 1, none⟩ = some (.bool n0_1) ∧ w'.cell? ⟨w4.heap.size, 2, none⟩ = some (.bool n0_2) ∧ w'.cell? ⟨w4.heap.size, 3, none⟩ = some ((.slice p1 n0_3.length q1)) ∧ w'.cell? ⟨w4.heap.size, 4, none⟩ = some (.int .i64 n0_4)) (by kernel_rfl) ?_ (fun hHeld => ?_)
          · exact HSof.out _ (belD (Below.refl _ _))
          have hbd := belD (Below.refl w5.heap.size w5)
          have Z0 := Lib.hid (show w5.drew.heap.size = w5.heap.size from rfl)
          generalize w5.drew = vg0 at *
          have HBW := Lib.hid hbd
          clear hbd
          refine wpAnyH_take (i := 0) (v := ?_) rfl (by kernel_rfl) (by kernel_rfl) (by kernel_rfl) (fun _ _ _ h => h) (Or.inl ⟨by rfl, ?_⟩) (by assumption) ?_
          rotate_left
          · intro w hSw; (try dsimp only at hSw); go_simp; with_reducible rfl
          try simp only [Act.put, List.getElem_toArray, List.getElem_cons_zero, List.getElem_cons_succ, List.setIfInBounds_toArray, List.set_cons_zero, List.set_cons_succ]
          refine wpAnyH_take (i := 1) (v := ?_) rfl (by kernel_rfl) (by kernel_rfl) (by kernel_rfl) (fun _ _ _ h => h) (Or.inl ⟨by rfl, ?_⟩) (by assumption) ?_
          rotate_left
          · intro w hSw; (try dsimp only at hSw); go_simp; with_reducible rfl
          try simp only [Act.put, List.getElem_toArray, List.getElem_cons_zero, List.getElem_cons_succ, List.setIfInBounds_toArray, List.set_cons_zero, List.set_cons_succ]
          have HFS := Lib.hid (show ∀ W W' : World, (W.cell? ⟨w.heap.size + 1, 0, none⟩ = some (.string ⟨n1_0.toArray⟩) ∧ W.cell? ⟨w.heap.size + 1, 1, none⟩ = some (.string ⟨n1_1.toArray⟩) ∧ W.cell? ⟨w.heap.size + 1, 2, none⟩ = some (.int .i64 n1_2) ∧ W.cell? ⟨w.heap.size + 1, 3, none⟩ = some (.string ⟨n1_3.toArray⟩) ∧ W.cell? ⟨w4.heap.size, 0, none⟩ = some (.string ⟨n0_0.toArray⟩) ∧ W.cell? ⟨w4.heap.size, 1, none⟩ = some (.bool n0_1) ∧ W.cell? ⟨w4.heap.size, 2, none⟩ = some (.bool n0_2) ∧ W.cell? ⟨w4.heap.size, 3, none⟩ = some ((.slice p1 n0_3.length q1)) ∧ W.cell? ⟨w4.heap.size, 4, none⟩ = some (.int .i64 n0_4)) → Below W.heap.size W W' → (W'.cell? ⟨w.heap.size + 1, 0, none⟩ = some (.string ⟨n1_0.toArray⟩) ∧ W'.cell? ⟨w.heap.size + 1, 1, none⟩ = some (.string ⟨n1_1.toArray⟩) ∧ W'.cell? ⟨w.heap.size + 1, 2, none⟩ = some (.int .i64 n1_2) ∧ W'.cell? ⟨w.heap.size + 1, 3, none⟩ = some (.string ⟨n1_3.toArray⟩) ∧ W'.cell? ⟨w4.heap.size, 0, none⟩ = some (.string ⟨n0_0.toArray⟩) ∧ W'.cell? ⟨w4.heap.size, 1, none⟩ = some (.bool n0_1) ∧ W'.cell? ⟨w4.heap.size, 2, none⟩ = some (.bool n0_2) ∧ W'.cell? ⟨w4.heap.size, 3, none⟩ = some ((.slice p1 n0_3.length q1)) ∧ W'.cell? ⟨w4.heap.size, 4, none⟩ = some (.int .i64 n0_4)) from fun W W' hh hb => by obtain ⟨q0, q1, q2, q3, q4, q5, q6, q7, q8⟩ := hh; exact ⟨(hb.cell (p := ⟨w.heap.size + 1, 0, none⟩) (World.block_lt_of_cell? _ _ q0)).trans q0, (hb.cell (p := ⟨w.heap.size + 1, 1, none⟩) (World.block_lt_of_cell? _ _ q1)).trans q1, (hb.cell (p := ⟨w.heap.size + 1, 2, none⟩) (World.block_lt_of_cell? _ _ q2)).trans q2, (hb.cell (p := ⟨w.heap.size + 1, 3, none⟩) (World.block_lt_of_cell? _ _ q3)).trans q3, (hb.cell (p := ⟨w4.heap.size, 0, none⟩) (World.block_lt_of_cell? _ _ q4)).trans q4, (hb.cell (p := ⟨w4.heap.size, 1, none⟩) (World.block_lt_of_cell? _ _ q5)).trans q5, (hb.cell (p := ⟨w4.heap.size, 2, none⟩) (World.block_lt_of_cell? _ _ q6)).trans q6, (hb.cell (p := ⟨w4.heap.size, 3, none⟩) (World.block_lt_of_cell? _ _ q7)).trans q7, (hb.cell (p := ⟨w4.heap.size, 4, none⟩) (World.block_lt_of_cell? _ _ q8)).trans q8⟩)
          refine wpAnyH_floatN (k1 := 7) (k2 := 8) (d1 := 9) (d2 := 10) (z1 := [.string ⟨#[]⟩, .bool false, .bool false, .slice none 0 0, .int .i64 0]) (z2 := [.int .i64 0, .int .i64 0, .string ⟨#[]⟩, .int .i64 0, .int .i64 0]) (T1 := 26) (T2 := 32) (js := [(2, false), (3, false), (4, true), (5, true), (6, true)]) (fz := 2) rfl ⟨⟨_, rfl, rfl, rfl, fun a w => ?_⟩⟩ ⟨⟨_, rfl, rfl, rfl, fun a w => ?_⟩⟩ (by kernel_rfl) (by decide) (by decide) (by kernel_rfl) (fun _ _ _ _ _ => Iff.rfl) HFS.out (by assumption) ?_
          · rfl
          · rfl
          refine wpFl_step rfl (fun gg0 hbG hHeld K hK => ?_)
          have HBW := Lib.hid (HBW.out.trans (hbG.mono HBW.out.size))
          have ZG0 := Lib.hid hbG.size
          clear hbG
          go_simp
          go_at_call 20
          refine (T1.out _).mono ?_
          rintro e vg1 ⟨rfl, hb⟩
          have hbK := hb
          have HBW := Lib.hid (HBW.out.trans (hb.mono HBW.out.size))
          have ZK0 := Lib.hid hb.size
          clear hb
          refine hK.out _ _ hbK (HSof.out _ HBW.out) ?_
          clear hK K hbK hHeld
          try simp only [Act.put, List.getElem_toArray, List.getElem_cons_zero, List.getElem_cons_succ, List.setIfInBounds_toArray, List.set_cons_zero, List.set_cons_succ]
          refine wpFl_step rfl (fun gg1 hbG hHeld K hK => ?_)
          have HBW := Lib.hid (HBW.out.trans (hbG.mono HBW.out.size))
          have ZG1 := Lib.hid hbG.size
          clear hbG
          go_simp
          go_at_call 9
          refine (HIM.out (.slice p1 n0_3.length q1) _ (FlatAt.below X1a_w5.out HBW.out (Nat.le_refl _)) (maxlen_at Cw_w5.out HG.out HM.out HBW.out)).mono ?_
          rintro e vg2 ⟨_, rfl, ho, hb⟩
          have hbK := hb
          have HBW := Lib.hid (HBW.out.trans (hb.mono HBW.out.size))
          obtain ⟨pR, qR, rfl⟩ := slice_of ho
          have HOR := Lib.hid (ownR_of ho)
          have ZK1 := Lib.hid hb.size
          clear ho hb
          refine hK.out _ _ hbK (HSof.out _ HBW.out) ?_
          clear hK K hbK hHeld
          try simp only [Act.put, List.getElem_toArray, List.getElem_cons_zero, List.getElem_cons_succ, List.setIfInBounds_toArray, List.set_cons_zero, List.set_cons_succ]
          refine wpFl_take (v := ?_) rfl (Or.inl ⟨by rfl, ?_⟩) ?_
          rotate_left
          · intro w hSw; (try dsimp only at hSw); go_simp; with_reducible rfl
          try simp only [Act.put, List.getElem_toArray, List.getElem_cons_zero, List.getElem_cons_succ, List.setIfInBounds_toArray, List.set_cons_zero, List.set_cons_succ]
          refine wpFl_take (v := ?_) rfl (Or.inl ⟨by rfl, ?_⟩) ?_
          rotate_left
          · intro w hSw; (try dsimp only at hSw); go_simp; with_reducible rfl
          try simp only [Act.put, List.getElem_toArray, List.getElem_cons_zero, List.getElem_cons_succ, List.setIfInBounds_toArray, List.set_cons_zero, List.set_cons_succ]
          refine wpFl_take (v := ?_) rfl (Or.inl ⟨by rfl, ?_⟩) ?_
          rotate_left
          · intro w hSw; (try dsimp only at hSw); go_simp; with_reducible rfl
          try simp only [Act.put, List.getElem_toArray, List.getElem_cons_zero, List.getElem_cons_succ, List.setIfInBounds_toArray, List.set_cons_zero, List.set_cons_succ]
          refine wpFl_end (fun ggE bx1 bx2 hbG hHeld hbx1 hbx2 hbne hbl1 hbl2 hgap => ?_)
          have HBW := Lib.hid (HBW.out.trans (hbG.mono HBW.out.size))
          have HOR := Lib.hid (ownR_below HOR.out hbG (Nat.le_refl _))
          have ZGE := Lib.hid hbG.size
          clear hbG
          obtain ⟨hgp1, hgp2⟩ := hgap _ (List.mem_cons_self ..)
          simp only at hgp1 hgp2
          clear hgap
          have BX9 := Lib.hid hbx1
          have BX10 := Lib.hid hbx2
          clear hbx1 hbx2
          try simp only [Act.put, List.getElem_toArray, List.getElem_cons_zero, List.getElem_cons_succ, List.setIfInBounds_toArray, List.set_cons_zero, List.set_cons_succ]
          have r0_0 : ggE.cell? ⟨bx1, 0, none⟩ = some (.string ⟨#[]⟩) := BX9.out.cell 0 (by simp)
          have y0_0 : ggE.frozen? ⟨bx1, 0, none⟩ = false := BX9.out.froz 0 (by simp)
          have r0_1 : ggE.cell? ⟨bx1, 1, none⟩ = some (.bool false) := BX9.out.cell 1 (by simp)
          have y0_1 : ggE.frozen? ⟨bx1, 1, none⟩ = false := BX9.out.froz 1 (by simp)
          have r0_2 : ggE.cell? ⟨bx1, 2, none⟩ = some (.bool false) := BX9.out.cell 2 (by simp)
          have y0_2 : ggE.frozen? ⟨bx1, 2, none⟩ = false := BX9.out.froz 2 (by simp)
          have r0_3 : ggE.cell? ⟨bx1, 3, none⟩ = some (.slice none 0 0) := BX9.out.cell 3 (by simp)
          have y0_3 : ggE.frozen? ⟨bx1, 3, none⟩ = false := BX9.out.froz 3 (by simp)
          have r0_4 : ggE.cell? ⟨bx1, 4, none⟩ = some (.int .i64 0) := BX9.out.cell 4 (by simp)
          have y0_4 : ggE.frozen? ⟨bx1, 4, none⟩ = false := BX9.out.froz 4 (by simp)
          have r1_0 : ggE.cell? ⟨bx2, 0, none⟩ = some (.int .i64 0) := BX10.out.cell 0 (by simp)
          have y1_0 : ggE.frozen? ⟨bx2, 0, none⟩ = false := BX10.out.froz 0 (by simp)
          have r1_1 : ggE.cell? ⟨bx2, 1, none⟩ = some (.int .i64 0) := BX10.out.cell 1 (by simp)
          have y1_1 : ggE.frozen? ⟨bx2, 1, none⟩ = false := BX10.out.froz 1 (by simp)
          have r1_2 : ggE.cell? ⟨bx2, 2, none⟩ = some (.string ⟨#[]⟩) := BX10.out.cell 2 (by simp)
          have y1_2 : ggE.frozen? ⟨bx2, 2, none⟩ = false := BX10.out.froz 2 (by simp)
          have r1_3 : ggE.cell? ⟨bx2, 3, none⟩ = some (.int .i64 0) := BX10.out.cell 3 (by simp)
          have y1_3 : ggE.frozen? ⟨bx2, 3, none⟩ = false := BX10.out.froz 3 (by simp)
          have r1_4 : ggE.cell? ⟨bx2, 4, none⟩ = some (.int .i64 0) := BX10.out.cell 4 (by simp)
          have y1_4 : ggE.frozen? ⟨bx2, 4, none⟩ = false := BX10.out.froz 4 (by simp)
          have l0 := BX9.out.lt
          have g0 : w5.heap.size ≤ bx1 := by have z0 := Z0.out; have zG0 := ZG0.out; have zK0 := ZK0.out; have zG1 := ZG1.out; have zK1 := ZK1.out; have zGE := ZGE.out; omega
          have l1 := BX10.out.lt
          have g1 : w5.heap.size ≤ bx2 := by have z0 := Z0.out; have zG0 := ZG0.out; have zK0 := ZK0.out; have zG1 := ZG1.out; have zK1 := ZK1.out; have zGE := ZGE.out; omega
          have ne0_1 : ¬ bx1 = bx2 := by have z0 := Z0.out; have zG0 := ZG0.out; have zK0 := ZK0.out; have zG1 := ZG1.out; have zK1 := ZK1.out; have zGE := ZGE.out; omega
          have ne1_0 : ¬ bx2 = bx1 := by have z0 := Z0.out; have zG0 := ZG0.out; have zK0 := ZK0.out; have zG1 := ZG1.out; have zK1 := ZK1.out; have zGE := ZGE.out; omega
          refine wpAnyH_ready (rs := [9]) (by kernel_rfl) (by simp) ?_
          refine AllReadyH.cons rfl (fun K hK => ?_) AllReadyH.nil
          go_simp
          refine hK.out _ _ ?_ (fun hHeld => ?_)
          · exact HSof.out _ (belQ5 HBW.out g0 _ _ _ _ _)
          clear hK K
          try simp only [Act.put, List.getElem_toArray, List.getElem_cons_zero, List.getElem_cons_succ, List.setIfInBounds_toArray, List.set_cons_zero, List.set_cons_succ]
          refine wpAnyH_ready (rs := [10]) (by kernel_rfl) (by simp) ?_
          refine AllReadyH.cons rfl (fun K hK => ?_) AllReadyH.nil
          go_simp
          refine hK.out _ _ ?_ (fun hHeld => ?_)
          · exact HSof.out _ (belQ5 (belQ5 HBW.out g0 _ _ _ _ _) g1 _ _ _ _ _)
          clear hK K
          try simp only [Act.put, List.getElem_toArray, List.getElem_cons_zero, List.getElem_cons_succ, List.setIfInBounds_toArray, List.set_cons_zero, List.set_cons_succ]
          refine wpAnyH_done (by kernel_rfl) ?_ _
          go_wp2_with fail
          go_meet
          exact ⟨_, _, pR, qR, _, _, rfl, rfl, (bxP5o (bxP5 BX9.out _ _ _ _ _) ne0_1 _ _ _ _ _), (bxP5 (bxP5o BX10.out ne1_0 _ _ _ _ _) _ _ _ _ _), (ownR_p5 (ownR_p5 HOR.out (by have z0 := Z0.out; have zG0 := ZG0.out; have zK0 := ZK0.out; have zG1 := ZG1.out; have zK1 := ZK1.out; have zGE := ZGE.out; omega) _ _ _ _ _) (by have z0 := Z0.out; have zG0 := ZG0.out; have zK0 := ZK0.out; have zG1 := ZG1.out; have zK1 := ZK1.out; have zGE := ZGE.out; omega) _ _ _ _ _), ⟨by have z0 := Z0.out; have zG0 := ZG0.out; have zK0 := ZK0.out; have zG1 := ZG1.out; have zK1 := ZK1.out; have zGE := ZGE.out; omega, by have z0 := Z0.out; have zG0 := ZG0.out; have zK0 := ZK0.out; have zG1 := ZG1.out; have zK1 := ZK1.out; have zGE := ZGE.out; (try simp); omega, (by have z0 := Z0.out; have zG0 := ZG0.out; have zK0 := ZK0.out; have zG1 := ZG1.out; have zK1 := ZK1.out; have zGE := ZGE.out; omega), g0, (by have z0 := Z0.out; have zG0 := ZG0.out; have zK0 := ZK0.out; have zG1 := ZG1.out; have zK1 := ZK1.out; have zGE := ZGE.out; omega), g1⟩, (belQ5 (belQ5 HBW.out g0 _ _ _ _ _) g1 _ _ _ _ _)⟩
        case rest =>
          obtain ⟨bg_9, bg_10, psg, qsg, log, hig, rfl, rfl, hx0, hx1, hor, ⟨hlog, hhig, hdg0, hgg0, hdg1, hgg1⟩, hb⟩ := hcut
          obtain ⟨w6, rfl⟩ : ∃ u, u = wc := ⟨_, rfl⟩
          have Cw_w6 := Lib.hid (Cw_w5.out.trans (hb.mono Cw_w5.out.size))
          have Cw3_w6 := Lib.hid (Cw3_w5.out.trans (hb.mono Cw3_w5.out.size))
          have Cw4_w6 := Lib.hid (Cw4_w5.out.trans (hb.mono Cw4_w5.out.size))
          have A0_w6 := Lib.hid (FlatAt.below A0_w5.out hb (Nat.le_refl _))
          have Rsa_w6 := Lib.hid (FlatAt.below Rsa_w5.out hb (Nat.le_refl _))
          have X1a_w6 := Lib.hid (FlatAt.below X1a_w5.out hb (Nat.le_refl _))
          have X1_w6 := Lib.hid (ownR_below X1_w5.out hb (Nat.le_refl _))
          have ep0_0_w6 := (hb.cell (p := ⟨w.heap.size, 0, none⟩) Lp0_w5).trans ep0_0_w5
          have ep0_1_w6 := (hb.cell (p := ⟨w.heap.size, 1, none⟩) Lp0_w5).trans ep0_1_w5
          have ep0_2_w6 := (hb.cell (p := ⟨w.heap.size, 2, none⟩) Lp0_w5).trans ep0_2_w5
          have ep0_3_w6 := (hb.cell (p := ⟨w.heap.size, 3, none⟩) Lp0_w5).trans ep0_3_w5
          have ep0_4_w6 := (hb.cell (p := ⟨w.heap.size, 4, none⟩) Lp0_w5).trans ep0_4_w5
          have Lp0_w6 : w.heap.size < w6.heap.size := by have h := hb.size; omega
          clear ep0_0_w5 ep0_1_w5 ep0_2_w5 ep0_3_w5 ep0_4_w5 Lp0_w5
          have ep1_0_w6 := (hb.cell (p := ⟨w.heap.size + 1, 0, none⟩) Lp1_w5).trans ep1_0_w5
          have ep1_1_w6 := (hb.cell (p := ⟨w.heap.size + 1, 1, none⟩) Lp1_w5).trans ep1_1_w5
          have ep1_2_w6 := (hb.cell (p := ⟨w.heap.size + 1, 2, none⟩) Lp1_w5).trans ep1_2_w5
          have ep1_3_w6 := (hb.cell (p := ⟨w.heap.size + 1, 3, none⟩) Lp1_w5).trans ep1_3_w5
          have Lp1_w6 : w.heap.size + 1 < w6.heap.size := by have h := hb.size; omega
          clear ep1_0_w5 ep1_1_w5 ep1_2_w5 ep1_3_w5 Lp1_w5
          have es0_0_w6 := (hb.cell (p := ⟨bs_6, 0, none⟩) Ls0_w5).trans es0_0_w5
          have es0_1_w6 := (hb.cell (p := ⟨bs_6, 1, none⟩) Ls0_w5).trans es0_1_w5
          have es0_2_w6 := (hb.cell (p := ⟨bs_6, 2, none⟩) Ls0_w5).trans es0_2_w5
          have es0_3_w6 := (hb.cell (p := ⟨bs_6, 3, none⟩) Ls0_w5).trans es0_3_w5
          have es0_4_w6 := (hb.cell (p := ⟨bs_6, 4, none⟩) Ls0_w5).trans es0_4_w5
          have Ls0_w6 : bs_6 < w6.heap.size := by have h := hb.size; omega
          clear es0_0_w5 es0_1_w5 es0_2_w5 es0_3_w5 es0_4_w5 Ls0_w5
          have es1_0_w6 := (hb.cell (p := ⟨bs_7, 0, none⟩) Ls1_w5).trans es1_0_w5
          have es1_1_w6 := (hb.cell (p := ⟨bs_7, 1, none⟩) Ls1_w5).trans es1_1_w5
          have es1_2_w6 := (hb.cell (p := ⟨bs_7, 2, none⟩) Ls1_w5).trans es1_2_w5
          have es1_3_w6 := (hb.cell (p := ⟨bs_7, 3, none⟩) Ls1_w5).trans es1_3_w5
          have es1_4_w6 := (hb.cell (p := ⟨bs_7, 4, none⟩) Ls1_w5).trans es1_4_w5
          have Ls1_w6 : bs_7 < w6.heap.size := by have h := hb.size; omega
          clear es1_0_w5 es1_1_w5 es1_2_w5 es1_3_w5 es1_4_w5 Ls1_w5
          have ex0_0_w6 := (hb.cell (p := ⟨w4.heap.size, 0, none⟩) Lx0_w5).trans ex0_0_w5
          have ex0_1_w6 := (hb.cell (p := ⟨w4.heap.size, 1, none⟩) Lx0_w5).trans ex0_1_w5
          have ex0_2_w6 := (hb.cell (p := ⟨w4.heap.size, 2, none⟩) Lx0_w5).trans ex0_2_w5
          have ex0_3_w6 := (hb.cell (p := ⟨w4.heap.size, 3, none⟩) Lx0_w5).trans ex0_3_w5
          have ex0_4_w6 := (hb.cell (p := ⟨w4.heap.size, 4, none⟩) Lx0_w5).trans ex0_4_w5
          have Lx0_w6 : w4.heap.size < w6.heap.size := by have h := hb.size; omega
          clear ex0_0_w5 ex0_1_w5 ex0_2_w5 ex0_3_w5 ex0_4_w5 Lx0_w5
          have Rg := Lib.hid hor
          have Rga := Lib.hid (ownR_at hor (by have := HRL.out; omega))
          clear hor
          have LCRg_w := Lib.hid (Nat.le_trans Cw_w5.out.size hlog)
          have LCRg_w3 := Lib.hid (Nat.le_trans Cw3_w5.out.size hlog)
          have LCRg_w4 := Lib.hid (Nat.le_trans Cw4_w5.out.size hlog)
          have LBRg_p0 := Lib.hid (Nat.lt_of_lt_of_le HLTg_p0.out hlog)
          have LBRg_p1 := Lib.hid (Nat.lt_of_lt_of_le HLTg_p1.out hlog)
          have LBRg_s0 := Lib.hid (Nat.lt_of_lt_of_le HLTg_s0.out hlog)
          have LBRg_s1 := Lib.hid (Nat.lt_of_lt_of_le HLTg_s1.out hlog)
          have LBRg_x0 := Lib.hid (Nat.lt_of_lt_of_le HLTg_x0.out hlog)
          have eg0_0_w6 : w6.cell? ⟨bg_9, 0, none⟩ = some (.string ⟨a0.toArray⟩) := hx0.cell 0 (by simp)
          have eg0_1_w6 : w6.cell? ⟨bg_9, 1, none⟩ = some (.bool a1) := hx0.cell 1 (by simp)
          have eg0_2_w6 : w6.cell? ⟨bg_9, 2, none⟩ = some (.bool a2) := hx0.cell 2 (by simp)
          have eg0_3_w6 : w6.cell? ⟨bg_9, 3, none⟩ = some ((.slice psg a3.length qsg)) := hx0.cell 3 (by simp)
          have eg0_4_w6 : w6.cell? ⟨bg_9, 4, none⟩ = some (.int .i64 a4) := hx0.cell 4 (by simp)
          have Lg0_w6 := hx0.lt
          clear hx0
          have DBRg_g0 := Lib.hid hdg0
          have GBRs_g0 := Lib.hid (show his ≤ bg_9 by have h := Cw3_w5.out.size; omega)
          have GBX1_g0 := Lib.hid (show w4.heap.size ≤ bg_9 by have h := Cw4_w5.out.size; omega)
          have eg1_0_w6 : w6.cell? ⟨bg_10, 0, none⟩ = some (.int .i64 m0) := hx1.cell 0 (by simp)
          have eg1_1_w6 : w6.cell? ⟨bg_10, 1, none⟩ = some (.int .i64 m1) := hx1.cell 1 (by simp)
          have eg1_2_w6 : w6.cell? ⟨bg_10, 2, none⟩ = some (.string ⟨m2.toArray⟩) := hx1.cell 2 (by simp)
          have eg1_3_w6 : w6.cell? ⟨bg_10, 3, none⟩ = some (.int .i64 m3) := hx1.cell 3 (by simp)
          have eg1_4_w6 : w6.cell? ⟨bg_10, 4, none⟩ = some (.int .i64 m4) := hx1.cell 4 (by simp)
          have Lg1_w6 := hx1.lt
          clear hx1
          have DBRg_g1 := Lib.hid hdg1
          have GBRs_g1 := Lib.hid (show his ≤ bg_10 by have h := Cw3_w5.out.size; omega)
          have GBX1_g1 := Lib.hid (show w4.heap.size ≤ bg_10 by have h := Cw4_w5.out.size; omega)
          clear hb HSof
          go_wp2_with fail
          refine (eqCore_any (vCore (⟨a0, a1, a2, a3, a4⟩ : CoreD) (.slice psg a3.length qsg)) (vCore (⟨a0, a1, a2, a3, a4⟩ : CoreD) (.slice pss a3.length qss)) (⟨a0, a1, a2, a3, a4⟩ : CoreD) (⟨a0, a1, a2, a3, a4⟩ : CoreD) _ ⟨(.slice psg a3.length qsg), rfl, (FlatAt.below Rga.out (by repeat (first | exact Below.refl _ _ | refine Below.alloc ?_ (by simp; try omega) _ | refine Below.setCell ?_ (by simp; try omega) _ | refine belN ?_ _ | refine belD ?_)) (Nat.le_refl _))⟩ ⟨(.slice pss a3.length qss), rfl, (FlatAt.below Rsa_w6.out (by repeat (first | exact Below.refl _ _ | refine Below.alloc ?_ (by simp; try omega) _ | refine Below.setCell ?_ (by simp; try omega) _ | refine belN ?_ _ | refine belD ?_)) (Nat.le_refl _))⟩).mono ?_
          rintro e w7 ⟨rfl, hb0⟩
          have hb := below_step (w := w6) (by repeat (first | exact Below.refl _ _ | refine Below.alloc ?_ (by simp; try omega) _ | refine Below.setCell ?_ (by simp; try omega) _ | refine belN ?_ _ | refine belD ?_)) hb0
          have Cw_w7 := Lib.hid (Cw_w6.out.trans (hb.mono Cw_w6.out.size))
          have Cw3_w7 := Lib.hid (Cw3_w6.out.trans (hb.mono Cw3_w6.out.size))
          have Cw4_w7 := Lib.hid (Cw4_w6.out.trans (hb.mono Cw4_w6.out.size))
          have Cw6_w7 := Lib.hid hb
          have A0_w7 := Lib.hid (FlatAt.below A0_w6.out hb (Nat.le_refl _))
          have Rsa_w7 := Lib.hid (FlatAt.below Rsa_w6.out hb (Nat.le_refl _))
          have X1a_w7 := Lib.hid (FlatAt.below X1a_w6.out hb (Nat.le_refl _))
          have X1_w7 := Lib.hid (ownR_below X1_w6.out hb (Nat.le_refl _))
          have Rga_w7 := Lib.hid (FlatAt.below Rga.out hb (Nat.le_refl _))
          have Rg_w7 := Lib.hid (ownR_below Rg.out hb (Nat.le_refl _))
          have ep0_0_w7 := (hb.cell (p := ⟨w.heap.size, 0, none⟩) Lp0_w6).trans ep0_0_w6
          have ep0_1_w7 := (hb.cell (p := ⟨w.heap.size, 1, none⟩) Lp0_w6).trans ep0_1_w6
          have ep0_2_w7 := (hb.cell (p := ⟨w.heap.size, 2, none⟩) Lp0_w6).trans ep0_2_w6
          have ep0_3_w7 := (hb.cell (p := ⟨w.heap.size, 3, none⟩) Lp0_w6).trans ep0_3_w6
          have ep0_4_w7 := (hb.cell (p := ⟨w.heap.size, 4, none⟩) Lp0_w6).trans ep0_4_w6
          have Lp0_w7 : w.heap.size < w7.heap.size := by have h := hb.size; omega
          clear ep0_0_w6 ep0_1_w6 ep0_2_w6 ep0_3_w6 ep0_4_w6 Lp0_w6
          have ep1_0_w7 := (hb.cell (p := ⟨w.heap.size + 1, 0, none⟩) Lp1_w6).trans ep1_0_w6
          have ep1_1_w7 := (hb.cell (p := ⟨w.heap.size + 1, 1, none⟩) Lp1_w6).trans ep1_1_w6
          have ep1_2_w7 := (hb.cell (p := ⟨w.heap.size + 1, 2, none⟩) Lp1_w6).trans ep1_2_w6
          have ep1_3_w7 := (hb.cell (p := ⟨w.heap.size + 1, 3, none⟩) Lp1_w6).trans ep1_3_w6
          have Lp1_w7 : w.heap.size + 1 < w7.heap.size := by have h := hb.size; omega
          clear ep1_0_w6 ep1_1_w6 ep1_2_w6 ep1_3_w6 Lp1_w6
          have es0_0_w7 := (hb.cell (p := ⟨bs_6, 0, none⟩) Ls0_w6).trans es0_0_w6
          have es0_1_w7 := (hb.cell (p := ⟨bs_6, 1, none⟩) Ls0_w6).trans es0_1_w6
          have es0_2_w7 := (hb.cell (p := ⟨bs_6, 2, none⟩) Ls0_w6).trans es0_2_w6
          have es0_3_w7 := (hb.cell (p := ⟨bs_6, 3, none⟩) Ls0_w6).trans es0_3_w6
          have es0_4_w7 := (hb.cell (p := ⟨bs_6, 4, none⟩) Ls0_w6).trans es0_4_w6
          have Ls0_w7 : bs_6 < w7.heap.size := by have h := hb.size; omega
          clear es0_0_w6 es0_1_w6 es0_2_w6 es0_3_w6 es0_4_w6 Ls0_w6
          have es1_0_w7 := (hb.cell (p := ⟨bs_7, 0, none⟩) Ls1_w6).trans es1_0_w6
          have es1_1_w7 := (hb.cell (p := ⟨bs_7, 1, none⟩) Ls1_w6).trans es1_1_w6
          have es1_2_w7 := (hb.cell (p := ⟨bs_7, 2, none⟩) Ls1_w6).trans es1_2_w6
          have es1_3_w7 := (hb.cell (p := ⟨bs_7, 3, none⟩) Ls1_w6).trans es1_3_w6
          have es1_4_w7 := (hb.cell (p := ⟨bs_7, 4, none⟩) Ls1_w6).trans es1_4_w6
          have Ls1_w7 : bs_7 < w7.heap.size := by have h := hb.size; omega
          clear es1_0_w6 es1_1_w6 es1_2_w6 es1_3_w6 es1_4_w6 Ls1_w6
          have ex0_0_w7 := (hb.cell (p := ⟨w4.heap.size, 0, none⟩) Lx0_w6).trans ex0_0_w6
          have ex0_1_w7 := (hb.cell (p := ⟨w4.heap.size, 1, none⟩) Lx0_w6).trans ex0_1_w6
          have ex0_2_w7 := (hb.cell (p := ⟨w4.heap.size, 2, none⟩) Lx0_w6).trans ex0_2_w6
          have ex0_3_w7 := (hb.cell (p := ⟨w4.heap.size, 3, none⟩) Lx0_w6).trans ex0_3_w6
          have ex0_4_w7 := (hb.cell (p := ⟨w4.heap.size, 4, none⟩) Lx0_w6).trans ex0_4_w6
          have Lx0_w7 : w4.heap.size < w7.heap.size := by have h := hb.size; omega
          clear ex0_0_w6 ex0_1_w6 ex0_2_w6 ex0_3_w6 ex0_4_w6 Lx0_w6
          have eg0_0_w7 := (hb.cell (p := ⟨bg_9, 0, none⟩) Lg0_w6).trans eg0_0_w6
          have eg0_1_w7 := (hb.cell (p := ⟨bg_9, 1, none⟩) Lg0_w6).trans eg0_1_w6
          have eg0_2_w7 := (hb.cell (p := ⟨bg_9, 2, none⟩) Lg0_w6).trans eg0_2_w6
          have eg0_3_w7 := (hb.cell (p := ⟨bg_9, 3, none⟩) Lg0_w6).trans eg0_3_w6
          have eg0_4_w7 := (hb.cell (p := ⟨bg_9, 4, none⟩) Lg0_w6).trans eg0_4_w6
          have Lg0_w7 : bg_9 < w7.heap.size := by have h := hb.size; omega
          clear eg0_0_w6 eg0_1_w6 eg0_2_w6 eg0_3_w6 eg0_4_w6 Lg0_w6
          have eg1_0_w7 := (hb.cell (p := ⟨bg_10, 0, none⟩) Lg1_w6).trans eg1_0_w6
          have eg1_1_w7 := (hb.cell (p := ⟨bg_10, 1, none⟩) Lg1_w6).trans eg1_1_w6
          have eg1_2_w7 := (hb.cell (p := ⟨bg_10, 2, none⟩) Lg1_w6).trans eg1_2_w6
          have eg1_3_w7 := (hb.cell (p := ⟨bg_10, 3, none⟩) Lg1_w6).trans eg1_3_w6
          have eg1_4_w7 := (hb.cell (p := ⟨bg_10, 4, none⟩) Lg1_w6).trans eg1_4_w6
          have Lg1_w7 : bg_10 < w7.heap.size := by have h := hb.size; omega
          clear eg1_0_w6 eg1_1_w6 eg1_2_w6 eg1_3_w6 eg1_4_w6 Lg1_w6
          rw [show decide ((⟨a0, a1, a2, a3, a4⟩ : CoreD) = (⟨a0, a1, a2, a3, a4⟩ : CoreD)) = true by simp]
          clear hb hb0
          go_wp2_with fail
          refine (eqReply_any (⟨m0, m1, m2, m3, m4⟩ : ReplyD) (⟨m0, m1, m2, m3, m4⟩ : ReplyD) _).mono ?_
          rintro e w8 ⟨rfl, hb0⟩
          have hb := below_step (w := w7) (by repeat (first | exact Below.refl _ _ | refine Below.alloc ?_ (by simp; try omega) _ | refine Below.setCell ?_ (by simp; try omega) _ | refine belN ?_ _ | refine belD ?_)) hb0
          have Cw_w8 := Lib.hid (Cw_w7.out.trans (hb.mono Cw_w7.out.size))
          have Cw3_w8 := Lib.hid (Cw3_w7.out.trans (hb.mono Cw3_w7.out.size))
          have Cw4_w8 := Lib.hid (Cw4_w7.out.trans (hb.mono Cw4_w7.out.size))
          have Cw6_w8 := Lib.hid (Cw6_w7.out.trans (hb.mono Cw6_w7.out.size))
          have A0_w8 := Lib.hid (FlatAt.below A0_w7.out hb (Nat.le_refl _))
          have Rsa_w8 := Lib.hid (FlatAt.below Rsa_w7.out hb (Nat.le_refl _))
          have X1a_w8 := Lib.hid (FlatAt.below X1a_w7.out hb (Nat.le_refl _))
          have X1_w8 := Lib.hid (ownR_below X1_w7.out hb (Nat.le_refl _))
          have Rga_w8 := Lib.hid (FlatAt.below Rga_w7.out hb (Nat.le_refl _))
          have Rg_w8 := Lib.hid (ownR_below Rg_w7.out hb (Nat.le_refl _))
          have ep0_0_w8 := (hb.cell (p := ⟨w.heap.size, 0, none⟩) Lp0_w7).trans ep0_0_w7
          have ep0_1_w8 := (hb.cell (p := ⟨w.heap.size, 1, none⟩) Lp0_w7).trans ep0_1_w7
          have ep0_2_w8 := (hb.cell (p := ⟨w.heap.size, 2, none⟩) Lp0_w7).trans ep0_2_w7
          have ep0_3_w8 := (hb.cell (p := ⟨w.heap.size, 3, none⟩) Lp0_w7).trans ep0_3_w7
          have ep0_4_w8 := (hb.cell (p := ⟨w.heap.size, 4, none⟩) Lp0_w7).trans ep0_4_w7
          have Lp0_w8 : w.heap.size < w8.heap.size := by have h := hb.size; omega
          clear ep0_0_w7 ep0_1_w7 ep0_2_w7 ep0_3_w7 ep0_4_w7 Lp0_w7
          have ep1_0_w8 := (hb.cell (p := ⟨w.heap.size + 1, 0, none⟩) Lp1_w7).trans ep1_0_w7
          have ep1_1_w8 := (hb.cell (p := ⟨w.heap.size + 1, 1, none⟩) Lp1_w7).trans ep1_1_w7
          have ep1_2_w8 := (hb.cell (p := ⟨w.heap.size + 1, 2, none⟩) Lp1_w7).trans ep1_2_w7
          have ep1_3_w8 := (hb.cell (p := ⟨w.heap.size + 1, 3, none⟩) Lp1_w7).trans ep1_3_w7
          have Lp1_w8 : w.heap.size + 1 < w8.heap.size := by have h := hb.size; omega
          clear ep1_0_w7 ep1_1_w7 ep1_2_w7 ep1_3_w7 Lp1_w7
          have es0_0_w8 := (hb.cell (p := ⟨bs_6, 0, none⟩) Ls0_w7).trans es0_0_w7
          have es0_1_w8 := (hb.cell (p := ⟨bs_6, 1, none⟩) Ls0_w7).trans es0_1_w7
          have es0_2_w8 := (hb.cell (p := ⟨bs_6, 2, none⟩) Ls0_w7).trans es0_2_w7
          have es0_3_w8 := (hb.cell (p := ⟨bs_6, 3, none⟩) Ls0_w7).trans es0_3_w7
          have es0_4_w8 := (hb.cell (p := ⟨bs_6, 4, none⟩) Ls0_w7).trans es0_4_w7
          have Ls0_w8 : bs_6 < w8.heap.size := by have h := hb.size; omega
          clear es0_0_w7 es0_1_w7 es0_2_w7 es0_3_w7 es0_4_w7 Ls0_w7
          have es1_0_w8 := (hb.cell (p := ⟨bs_7, 0, none⟩) Ls1_w7).trans es1_0_w7
          have es1_1_w8 := (hb.cell (p := ⟨bs_7, 1, none⟩) Ls1_w7).trans es1_1_w7
          have es1_2_w8 := (hb.cell (p := ⟨bs_7, 2, none⟩) Ls1_w7).trans es1_2_w7
          have es1_3_w8 := (hb.cell (p := ⟨bs_7, 3, none⟩) Ls1_w7).trans es1_3_w7
          have es1_4_w8 := (hb.cell (p := ⟨bs_7, 4, none⟩) Ls1_w7).trans es1_4_w7
          have Ls1_w8 : bs_7 < w8.heap.size := by have h := hb.size; omega
          clear es1_0_w7 es1_1_w7 es1_2_w7 es1_3_w7 es1_4_w7 Ls1_w7
          have ex0_0_w8 := (hb.cell (p := ⟨w4.heap.size, 0, none⟩) Lx0_w7).trans ex0_0_w7
          have ex0_1_w8 := (hb.cell (p := ⟨w4.heap.size, 1, none⟩) Lx0_w7).trans ex0_1_w7
          have ex0_2_w8 := (hb.cell (p := ⟨w4.heap.size, 2, none⟩) Lx0_w7).trans ex0_2_w7
          have ex0_3_w8 := (hb.cell (p := ⟨w4.heap.size, 3, none⟩) Lx0_w7).trans ex0_3_w7
          have ex0_4_w8 := (hb.cell (p := ⟨w4.heap.size, 4, none⟩) Lx0_w7).trans ex0_4_w7
          have Lx0_w8 : w4.heap.size < w8.heap.size := by have h := hb.size; omega
          clear ex0_0_w7 ex0_1_w7 ex0_2_w7 ex0_3_w7 ex0_4_w7 Lx0_w7
          have eg0_0_w8 := (hb.cell (p := ⟨bg_9, 0, none⟩) Lg0_w7).trans eg0_0_w7
          have eg0_1_w8 := (hb.cell (p := ⟨bg_9, 1, none⟩) Lg0_w7).trans eg0_1_w7
          have eg0_2_w8 := (hb.cell (p := ⟨bg_9, 2, none⟩) Lg0_w7).trans eg0_2_w7
          have eg0_3_w8 := (hb.cell (p := ⟨bg_9, 3, none⟩) Lg0_w7).trans eg0_3_w7
          have eg0_4_w8 := (hb.cell (p := ⟨bg_9, 4, none⟩) Lg0_w7).trans eg0_4_w7
          have Lg0_w8 : bg_9 < w8.heap.size := by have h := hb.size; omega
          clear eg0_0_w7 eg0_1_w7 eg0_2_w7 eg0_3_w7 eg0_4_w7 Lg0_w7
          have eg1_0_w8 := (hb.cell (p := ⟨bg_10, 0, none⟩) Lg1_w7).trans eg1_0_w7
          have eg1_1_w8 := (hb.cell (p := ⟨bg_10, 1, none⟩) Lg1_w7).trans eg1_1_w7
          have eg1_2_w8 := (hb.cell (p := ⟨bg_10, 2, none⟩) Lg1_w7).trans eg1_2_w7
          have eg1_3_w8 := (hb.cell (p := ⟨bg_10, 3, none⟩) Lg1_w7).trans eg1_3_w7
          have eg1_4_w8 := (hb.cell (p := ⟨bg_10, 4, none⟩) Lg1_w7).trans eg1_4_w7
          have Lg1_w8 : bg_10 < w8.heap.size := by have h := hb.size; omega
          clear eg1_0_w7 eg1_1_w7 eg1_2_w7 eg1_3_w7 eg1_4_w7 Lg1_w7
          rw [show decide ((⟨m0, m1, m2, m3, m4⟩ : ReplyD) = (⟨m0, m1, m2, m3, m4⟩ : ReplyD)) = true by simp]
          clear hb hb0
          go_wp2_with fail
          go_region_held3 (fun w' => w'.cell? ⟨w4.heap.size, 0, none⟩ = some (.string ⟨n0_0.toArray⟩) ∧ w'.cell? ⟨w4.heap.size, 1, none⟩ = some (.bool n0_1) ∧ w'.cell? ⟨w4.heap.size, 2, none⟩ = some (.bool n0_2) ∧ w'.cell? ⟨w4.heap.size, 3, none⟩ = some ((.slice p1 n0_3.length q1)) ∧ w'.cell? ⟨w4.heap.size, 4, none⟩ = some (.int .i64 n0_4) ∧ w'.cell? ⟨w.heap.size, 0, none⟩ = some (.string ⟨n0_0.toArray⟩) ∧ w'.cell? ⟨w.heap.size, 1, none⟩ = some (.bool n0_1) ∧ w'.cell? ⟨w.heap.size, 2, none⟩ = some (.bool n0_2) ∧ w'.cell? ⟨w.heap.size, 3, none⟩ = some ((.slice ca0 n0_3.length cc0)) ∧ w'.cell? ⟨w.heap.size, 4, none⟩ = some (.int .i64 n0_4))
            (first
              | exact ⟨(hbA.cell (p := ⟨w4.heap.size, 0, none⟩) (by simp; omega)).trans ex0_0_w8, (hbA.cell (p := ⟨w4.heap.size, 1, none⟩) (by simp; omega)).trans ex0_1_w8, (hbA.cell (p := ⟨w4.heap.size, 2, none⟩) (by simp; omega)).trans ex0_2_w8, (hbA.cell (p := ⟨w4.heap.size, 3, none⟩) (by simp; omega)).trans ex0_3_w8, (hbA.cell (p := ⟨w4.heap.size, 4, none⟩) (by simp; omega)).trans ex0_4_w8, (hbA.cell (p := ⟨w.heap.size, 0, none⟩) (by simp; omega)).trans ep0_0_w8, (hbA.cell (p := ⟨w.heap.size, 1, none⟩) (by simp; omega)).trans ep0_1_w8, (hbA.cell (p := ⟨w.heap.size, 2, none⟩) (by simp; omega)).trans ep0_2_w8, (hbA.cell (p := ⟨w.heap.size, 3, none⟩) (by simp; omega)).trans ep0_3_w8, (hbA.cell (p := ⟨w.heap.size, 4, none⟩) (by simp; omega)).trans ep0_4_w8⟩
              | exact ⟨(hbB.cell (p := ⟨w4.heap.size, 0, none⟩) (by have h := hbA.size; simp at h; simp; omega)).trans ((hbA.cell (p := ⟨w4.heap.size, 0, none⟩) (by simp; omega)).trans ex0_0_w8), (hbB.cell (p := ⟨w4.heap.size, 1, none⟩) (by have h := hbA.size; simp at h; simp; omega)).trans ((hbA.cell (p := ⟨w4.heap.size, 1, none⟩) (by simp; omega)).trans ex0_1_w8), (hbB.cell (p := ⟨w4.heap.size, 2, none⟩) (by have h := hbA.size; simp at h; simp; omega)).trans ((hbA.cell (p := ⟨w4.heap.size, 2, none⟩) (by simp; omega)).trans ex0_2_w8), (hbB.cell (p := ⟨w4.heap.size, 3, none⟩) (by have h := hbA.size; simp at h; simp; omega)).trans ((hbA.cell (p := ⟨w4.heap.size, 3, none⟩) (by simp; omega)).trans ex0_3_w8), (hbB.cell (p := ⟨w4.heap.size, 4, none⟩) (by have h := hbA.size; simp at h; simp; omega)).trans ((hbA.cell (p := ⟨w4.heap.size, 4, none⟩) (by simp; omega)).trans ex0_4_w8), (hbB.cell (p := ⟨w.heap.size, 0, none⟩) (by have h := hbA.size; simp at h; simp; omega)).trans ((hbA.cell (p := ⟨w.heap.size, 0, none⟩) (by simp; omega)).trans ep0_0_w8), (hbB.cell (p := ⟨w.heap.size, 1, none⟩) (by have h := hbA.size; simp at h; simp; omega)).trans ((hbA.cell (p := ⟨w.heap.size, 1, none⟩) (by simp; omega)).trans ep0_1_w8), (hbB.cell (p := ⟨w.heap.size, 2, none⟩) (by have h := hbA.size; simp at h; simp; omega)).trans ((hbA.cell (p := ⟨w.heap.size, 2, none⟩) (by simp; omega)).trans ep0_2_w8), (hbB.cell (p := ⟨w.heap.size, 3, none⟩) (by have h := hbA.size; simp at h; simp; omega)).trans ((hbA.cell (p := ⟨w.heap.size, 3, none⟩) (by simp; omega)).trans ep0_3_w8), (hbB.cell (p := ⟨w.heap.size, 4, none⟩) (by have h := hbA.size; simp at h; simp; omega)).trans ((hbA.cell (p := ⟨w.heap.size, 4, none⟩) (by simp; omega)).trans ep0_4_w8)⟩
              | go_keep)
            (first
              | (go_at_call 19; refine (toCore_any (vCore (⟨n0_0, n0_1, n0_2, n0_3, n0_4⟩ : CoreD) (.slice ca0 n0_3.length cc0)) (⟨n0_0, n0_1, n0_2, n0_3, n0_4⟩ : CoreD) _ ⟨(.slice ca0 n0_3.length cc0), rfl, (FlatAt.below A0_w8.out (by repeat (first | exact Below.refl _ _ | refine Below.alloc ?_ (by simp; try omega) _ | refine Below.setCell ?_ (by simp; try omega) _ | refine belN ?_ _ | refine belD ?_)) (Nat.le_refl _))⟩ (by show n0_3.length ≤ _; have := HSM0.out; omega)).mono ?_; rintro e w9 ⟨_, rfl, ⟨uZ, rfl, hoZ⟩, hbA⟩)
              | (go_at_call 21; refine (eqCore_any (vCore (⟨n0_0, n0_1, n0_2, n0_3, n0_4⟩ : CoreD) (.slice p1 n0_3.length q1)) (vCore (⟨n0_0, n0_1, n0_2, n0_3, n0_4⟩ : CoreD) uZ) (⟨n0_0, n0_1, n0_2, n0_3, n0_4⟩ : CoreD) (⟨n0_0, n0_1, n0_2, n0_3, n0_4⟩ : CoreD) _ ⟨(.slice p1 n0_3.length q1), rfl, (FlatAt.below X1a_w8.out (below_step (w := w8) (by repeat (first | exact Below.refl _ _ | refine Below.alloc ?_ (by simp; try omega) _ | refine Below.setCell ?_ (by simp; try omega) _ | refine belN ?_ _ | refine belD ?_)) hbA) (Nat.le_refl _))⟩ ⟨uZ, rfl, (ownsF_at hoZ (by show n0_3.length ≤ _; have := HSM0.out; omega))⟩).mono ?_; rintro e w10 ⟨rfl, hbB⟩))
          have hb1 := below_step (w := w8) (by repeat (first | exact Below.refl _ _ | refine Below.alloc ?_ (by simp; try omega) _ | refine Below.setCell ?_ (by simp; try omega) _ | refine belN ?_ _ | refine belD ?_)) hbA
          have hb := hb1.trans (hbB.mono hb1.size)
          rename_i hheld
          clear hheld hoZ
          have Cw_w10 := Lib.hid (Cw_w8.out.trans (hb.mono Cw_w8.out.size))
          have Cw3_w10 := Lib.hid (Cw3_w8.out.trans (hb.mono Cw3_w8.out.size))
          have Cw4_w10 := Lib.hid (Cw4_w8.out.trans (hb.mono Cw4_w8.out.size))
          have Cw6_w10 := Lib.hid (Cw6_w8.out.trans (hb.mono Cw6_w8.out.size))
          have A0_w10 := Lib.hid (FlatAt.below A0_w8.out hb (Nat.le_refl _))
          have Rsa_w10 := Lib.hid (FlatAt.below Rsa_w8.out hb (Nat.le_refl _))
          have X1a_w10 := Lib.hid (FlatAt.below X1a_w8.out hb (Nat.le_refl _))
          have X1_w10 := Lib.hid (ownR_below X1_w8.out hb (Nat.le_refl _))
          have Rga_w10 := Lib.hid (FlatAt.below Rga_w8.out hb (Nat.le_refl _))
          have Rg_w10 := Lib.hid (ownR_below Rg_w8.out hb (Nat.le_refl _))
          have ep0_0_w10 := (hb.cell (p := ⟨w.heap.size, 0, none⟩) Lp0_w8).trans ep0_0_w8
          have ep0_1_w10 := (hb.cell (p := ⟨w.heap.size, 1, none⟩) Lp0_w8).trans ep0_1_w8
          have ep0_2_w10 := (hb.cell (p := ⟨w.heap.size, 2, none⟩) Lp0_w8).trans ep0_2_w8
          have ep0_3_w10 := (hb.cell (p := ⟨w.heap.size, 3, none⟩) Lp0_w8).trans ep0_3_w8
          have ep0_4_w10 := (hb.cell (p := ⟨w.heap.size, 4, none⟩) Lp0_w8).trans ep0_4_w8
          have Lp0_w10 : w.heap.size < w10.heap.size := by have h := hb.size; omega
          clear ep0_0_w8 ep0_1_w8 ep0_2_w8 ep0_3_w8 ep0_4_w8 Lp0_w8
          have ep1_0_w10 := (hb.cell (p := ⟨w.heap.size + 1, 0, none⟩) Lp1_w8).trans ep1_0_w8
          have ep1_1_w10 := (hb.cell (p := ⟨w.heap.size + 1, 1, none⟩) Lp1_w8).trans ep1_1_w8
          have ep1_2_w10 := (hb.cell (p := ⟨w.heap.size + 1, 2, none⟩) Lp1_w8).trans ep1_2_w8
          have ep1_3_w10 := (hb.cell (p := ⟨w.heap.size + 1, 3, none⟩) Lp1_w8).trans ep1_3_w8
          have Lp1_w10 : w.heap.size + 1 < w10.heap.size := by have h := hb.size; omega
          clear ep1_0_w8 ep1_1_w8 ep1_2_w8 ep1_3_w8 Lp1_w8
          have es0_0_w10 := (hb.cell (p := ⟨bs_6, 0, none⟩) Ls0_w8).trans es0_0_w8
          have es0_1_w10 := (hb.cell (p := ⟨bs_6, 1, none⟩) Ls0_w8).trans es0_1_w8
          have es0_2_w10 := (hb.cell (p := ⟨bs_6, 2, none⟩) Ls0_w8).trans es0_2_w8
          have es0_3_w10 := (hb.cell (p := ⟨bs_6, 3, none⟩) Ls0_w8).trans es0_3_w8
          have es0_4_w10 := (hb.cell (p := ⟨bs_6, 4, none⟩) Ls0_w8).trans es0_4_w8
          have Ls0_w10 : bs_6 < w10.heap.size := by have h := hb.size; omega
          clear es0_0_w8 es0_1_w8 es0_2_w8 es0_3_w8 es0_4_w8 Ls0_w8
          have es1_0_w10 := (hb.cell (p := ⟨bs_7, 0, none⟩) Ls1_w8).trans es1_0_w8
          have es1_1_w10 := (hb.cell (p := ⟨bs_7, 1, none⟩) Ls1_w8).trans es1_1_w8
          have es1_2_w10 := (hb.cell (p := ⟨bs_7, 2, none⟩) Ls1_w8).trans es1_2_w8
          have es1_3_w10 := (hb.cell (p := ⟨bs_7, 3, none⟩) Ls1_w8).trans es1_3_w8
          have es1_4_w10 := (hb.cell (p := ⟨bs_7, 4, none⟩) Ls1_w8).trans es1_4_w8
          have Ls1_w10 : bs_7 < w10.heap.size := by have h := hb.size; omega
          clear es1_0_w8 es1_1_w8 es1_2_w8 es1_3_w8 es1_4_w8 Ls1_w8
          have ex0_0_w10 := (hb.cell (p := ⟨w4.heap.size, 0, none⟩) Lx0_w8).trans ex0_0_w8
          have ex0_1_w10 := (hb.cell (p := ⟨w4.heap.size, 1, none⟩) Lx0_w8).trans ex0_1_w8
          have ex0_2_w10 := (hb.cell (p := ⟨w4.heap.size, 2, none⟩) Lx0_w8).trans ex0_2_w8
          have ex0_3_w10 := (hb.cell (p := ⟨w4.heap.size, 3, none⟩) Lx0_w8).trans ex0_3_w8
          have ex0_4_w10 := (hb.cell (p := ⟨w4.heap.size, 4, none⟩) Lx0_w8).trans ex0_4_w8
          have Lx0_w10 : w4.heap.size < w10.heap.size := by have h := hb.size; omega
          clear ex0_0_w8 ex0_1_w8 ex0_2_w8 ex0_3_w8 ex0_4_w8 Lx0_w8
          have eg0_0_w10 := (hb.cell (p := ⟨bg_9, 0, none⟩) Lg0_w8).trans eg0_0_w8
          have eg0_1_w10 := (hb.cell (p := ⟨bg_9, 1, none⟩) Lg0_w8).trans eg0_1_w8
          have eg0_2_w10 := (hb.cell (p := ⟨bg_9, 2, none⟩) Lg0_w8).trans eg0_2_w8
          have eg0_3_w10 := (hb.cell (p := ⟨bg_9, 3, none⟩) Lg0_w8).trans eg0_3_w8
          have eg0_4_w10 := (hb.cell (p := ⟨bg_9, 4, none⟩) Lg0_w8).trans eg0_4_w8
          have Lg0_w10 : bg_9 < w10.heap.size := by have h := hb.size; omega
          clear eg0_0_w8 eg0_1_w8 eg0_2_w8 eg0_3_w8 eg0_4_w8 Lg0_w8
          have eg1_0_w10 := (hb.cell (p := ⟨bg_10, 0, none⟩) Lg1_w8).trans eg1_0_w8
          have eg1_1_w10 := (hb.cell (p := ⟨bg_10, 1, none⟩) Lg1_w8).trans eg1_1_w8
          have eg1_2_w10 := (hb.cell (p := ⟨bg_10, 2, none⟩) Lg1_w8).trans eg1_2_w8
          have eg1_3_w10 := (hb.cell (p := ⟨bg_10, 3, none⟩) Lg1_w8).trans eg1_3_w8
          have eg1_4_w10 := (hb.cell (p := ⟨bg_10, 4, none⟩) Lg1_w8).trans eg1_4_w8
          have Lg1_w10 : bg_10 < w10.heap.size := by have h := hb.size; omega
          clear eg1_0_w8 eg1_1_w8 eg1_2_w8 eg1_3_w8 eg1_4_w8 Lg1_w8
          clear hb hb1 hbA hbB
          go_wp2_with fail
          refine (mark_range (ownR_below X1_w10.out (by repeat (first | exact Below.refl _ _ | refine Below.alloc ?_ (by simp; try omega) _ | refine Below.setCell ?_ (by simp; try omega) _ | refine belN ?_ _ | refine belD ?_)) (Nat.le_refl _)) (markCore_c LX1 (.slice p1 n0_3.length q1) (⟨n0_0, n0_1, n0_2, n0_3, n0_4⟩ : CoreD) 1 _ (ownR_below X1_w10.out (by repeat (first | exact Below.refl _ _ | refine Below.alloc ?_ (by simp; try omega) _ | refine Below.setCell ?_ (by simp; try omega) _ | refine belN ?_ _ | refine belD ?_)) (Nat.le_refl _)).1 (by show n0_3.length ≤ _; show n0_3.length ≤ _; have := HSM0.out; omega) (by omega) (by omega))).mono ?_
          rintro e w11 ⟨rfl, ho, hbt⟩
          have Cw_w11 := Lib.hid (betw_below Cw_w10.out hbt LCX1_w.out)
          have Cw3_w11 := Lib.hid (betw_below Cw3_w10.out hbt LCX1_w3.out)
          have A0_w11 := Lib.hid (FlatAt.below A0.out Cw_w11.out (Nat.le_refl _))
          have Rsa_w11 := Lib.hid (FlatAt.below Rsa.out Cw3_w11.out (Nat.le_refl _))
          have Rg_w11 := Lib.hid (ownR_betw Rg_w10.out hbt (Or.inr LCRg_w4.out))
          have Rga_w11 := Lib.hid (ownR_at Rg_w11.out (by have := HRL.out; omega))
          have ep0_0_w11 := (betw_cell hbt (w.heap.size) 0 Lp0_w10 (Or.inl LBX1_p0.out)).trans ep0_0_w10
          have ep0_1_w11 := (betw_cell hbt (w.heap.size) 1 Lp0_w10 (Or.inl LBX1_p0.out)).trans ep0_1_w10
          have ep0_2_w11 := (betw_cell hbt (w.heap.size) 2 Lp0_w10 (Or.inl LBX1_p0.out)).trans ep0_2_w10
          have ep0_3_w11 := (betw_cell hbt (w.heap.size) 3 Lp0_w10 (Or.inl LBX1_p0.out)).trans ep0_3_w10
          have ep0_4_w11 := (betw_cell hbt (w.heap.size) 4 Lp0_w10 (Or.inl LBX1_p0.out)).trans ep0_4_w10
          have Lp0_w11 : w.heap.size < w11.heap.size := by have h := hbt.size; omega
          clear ep0_0_w10 ep0_1_w10 ep0_2_w10 ep0_3_w10 ep0_4_w10 Lp0_w10
          have ep1_0_w11 := (betw_cell hbt (w.heap.size + 1) 0 Lp1_w10 (Or.inl LBX1_p1.out)).trans ep1_0_w10
          have ep1_1_w11 := (betw_cell hbt (w.heap.size + 1) 1 Lp1_w10 (Or.inl LBX1_p1.out)).trans ep1_1_w10
          have ep1_2_w11 := (betw_cell hbt (w.heap.size + 1) 2 Lp1_w10 (Or.inl LBX1_p1.out)).trans ep1_2_w10
          have ep1_3_w11 := (betw_cell hbt (w.heap.size + 1) 3 Lp1_w10 (Or.inl LBX1_p1.out)).trans ep1_3_w10
          have Lp1_w11 : w.heap.size + 1 < w11.heap.size := by have h := hbt.size; omega
          clear ep1_0_w10 ep1_1_w10 ep1_2_w10 ep1_3_w10 Lp1_w10
          have es0_0_w11 := (betw_cell hbt (bs_6) 0 Ls0_w10 (Or.inl LBX1_s0.out)).trans es0_0_w10
          have es0_1_w11 := (betw_cell hbt (bs_6) 1 Ls0_w10 (Or.inl LBX1_s0.out)).trans es0_1_w10
          have es0_2_w11 := (betw_cell hbt (bs_6) 2 Ls0_w10 (Or.inl LBX1_s0.out)).trans es0_2_w10
          have es0_3_w11 := (betw_cell hbt (bs_6) 3 Ls0_w10 (Or.inl LBX1_s0.out)).trans es0_3_w10
          have es0_4_w11 := (betw_cell hbt (bs_6) 4 Ls0_w10 (Or.inl LBX1_s0.out)).trans es0_4_w10
          have Ls0_w11 : bs_6 < w11.heap.size := by have h := hbt.size; omega
          clear es0_0_w10 es0_1_w10 es0_2_w10 es0_3_w10 es0_4_w10 Ls0_w10
          have es1_0_w11 := (betw_cell hbt (bs_7) 0 Ls1_w10 (Or.inl LBX1_s1.out)).trans es1_0_w10
          have es1_1_w11 := (betw_cell hbt (bs_7) 1 Ls1_w10 (Or.inl LBX1_s1.out)).trans es1_1_w10
          have es1_2_w11 := (betw_cell hbt (bs_7) 2 Ls1_w10 (Or.inl LBX1_s1.out)).trans es1_2_w10
          have es1_3_w11 := (betw_cell hbt (bs_7) 3 Ls1_w10 (Or.inl LBX1_s1.out)).trans es1_3_w10
          have es1_4_w11 := (betw_cell hbt (bs_7) 4 Ls1_w10 (Or.inl LBX1_s1.out)).trans es1_4_w10
          have Ls1_w11 : bs_7 < w11.heap.size := by have h := hbt.size; omega
          clear es1_0_w10 es1_1_w10 es1_2_w10 es1_3_w10 es1_4_w10 Ls1_w10
          have ex0_0_w11 := (betw_cell hbt (w4.heap.size) 0 Lx0_w10 (Or.inr GBX1_x0.out)).trans ex0_0_w10
          have ex0_1_w11 := (betw_cell hbt (w4.heap.size) 1 Lx0_w10 (Or.inr GBX1_x0.out)).trans ex0_1_w10
          have ex0_2_w11 := (betw_cell hbt (w4.heap.size) 2 Lx0_w10 (Or.inr GBX1_x0.out)).trans ex0_2_w10
          have ex0_3_w11 := (betw_cell hbt (w4.heap.size) 3 Lx0_w10 (Or.inr GBX1_x0.out)).trans ex0_3_w10
          have ex0_4_w11 := (betw_cell hbt (w4.heap.size) 4 Lx0_w10 (Or.inr GBX1_x0.out)).trans ex0_4_w10
          have Lx0_w11 : w4.heap.size < w11.heap.size := by have h := hbt.size; omega
          clear ex0_0_w10 ex0_1_w10 ex0_2_w10 ex0_3_w10 ex0_4_w10 Lx0_w10
          have eg0_0_w11 := (betw_cell hbt (bg_9) 0 Lg0_w10 (Or.inr GBX1_g0.out)).trans eg0_0_w10
          have eg0_1_w11 := (betw_cell hbt (bg_9) 1 Lg0_w10 (Or.inr GBX1_g0.out)).trans eg0_1_w10
          have eg0_2_w11 := (betw_cell hbt (bg_9) 2 Lg0_w10 (Or.inr GBX1_g0.out)).trans eg0_2_w10
          have eg0_3_w11 := (betw_cell hbt (bg_9) 3 Lg0_w10 (Or.inr GBX1_g0.out)).trans eg0_3_w10
          have eg0_4_w11 := (betw_cell hbt (bg_9) 4 Lg0_w10 (Or.inr GBX1_g0.out)).trans eg0_4_w10
          have Lg0_w11 : bg_9 < w11.heap.size := by have h := hbt.size; omega
          clear eg0_0_w10 eg0_1_w10 eg0_2_w10 eg0_3_w10 eg0_4_w10 Lg0_w10
          have eg1_0_w11 := (betw_cell hbt (bg_10) 0 Lg1_w10 (Or.inr GBX1_g1.out)).trans eg1_0_w10
          have eg1_1_w11 := (betw_cell hbt (bg_10) 1 Lg1_w10 (Or.inr GBX1_g1.out)).trans eg1_1_w10
          have eg1_2_w11 := (betw_cell hbt (bg_10) 2 Lg1_w10 (Or.inr GBX1_g1.out)).trans eg1_2_w10
          have eg1_3_w11 := (betw_cell hbt (bg_10) 3 Lg1_w10 (Or.inr GBX1_g1.out)).trans eg1_3_w10
          have eg1_4_w11 := (betw_cell hbt (bg_10) 4 Lg1_w10 (Or.inr GBX1_g1.out)).trans eg1_4_w10
          have Lg1_w11 : bg_10 < w11.heap.size := by have h := hbt.size; omega
          clear eg1_0_w10 eg1_1_w10 eg1_2_w10 eg1_3_w10 eg1_4_w10 Lg1_w10
          clear ho hbt
          go_wp2_with fail
          refine (eqCore_any (vCore (⟨a0, a1, a2, a3, a4⟩ : CoreD) (.slice psg a3.length qsg)) (vCore (⟨a0, a1, a2, a3, a4⟩ : CoreD) (.slice pss a3.length qss)) (⟨a0, a1, a2, a3, a4⟩ : CoreD) (⟨a0, a1, a2, a3, a4⟩ : CoreD) _ ⟨(.slice psg a3.length qsg), rfl, (FlatAt.below Rga_w11.out (by repeat (first | exact Below.refl _ _ | refine Below.alloc ?_ (by simp; try omega) _ | refine Below.setCell ?_ (by simp; try omega) _ | refine belN ?_ _ | refine belD ?_)) (Nat.le_refl _))⟩ ⟨(.slice pss a3.length qss), rfl, (FlatAt.below Rsa_w11.out (by repeat (first | exact Below.refl _ _ | refine Below.alloc ?_ (by simp; try omega) _ | refine Below.setCell ?_ (by simp; try omega) _ | refine belN ?_ _ | refine belD ?_)) (Nat.le_refl _))⟩).mono ?_
          rintro e w12 ⟨rfl, hb0⟩
          have hb := below_step (w := w11) (by repeat (first | exact Below.refl _ _ | refine Below.alloc ?_ (by simp; try omega) _ | refine Below.setCell ?_ (by simp; try omega) _ | refine belN ?_ _ | refine belD ?_)) hb0
          have Cw_w12 := Lib.hid (Cw_w11.out.trans (hb.mono Cw_w11.out.size))
          have Cw3_w12 := Lib.hid (Cw3_w11.out.trans (hb.mono Cw3_w11.out.size))
          have Cw11_w12 := Lib.hid hb
          have A0_w12 := Lib.hid (FlatAt.below A0_w11.out hb (Nat.le_refl _))
          have Rsa_w12 := Lib.hid (FlatAt.below Rsa_w11.out hb (Nat.le_refl _))
          have Rg_w12 := Lib.hid (ownR_below Rg_w11.out hb (Nat.le_refl _))
          have Rga_w12 := Lib.hid (FlatAt.below Rga_w11.out hb (Nat.le_refl _))
          have ep0_0_w12 := (hb.cell (p := ⟨w.heap.size, 0, none⟩) Lp0_w11).trans ep0_0_w11
          have ep0_1_w12 := (hb.cell (p := ⟨w.heap.size, 1, none⟩) Lp0_w11).trans ep0_1_w11
          have ep0_2_w12 := (hb.cell (p := ⟨w.heap.size, 2, none⟩) Lp0_w11).trans ep0_2_w11
          have ep0_3_w12 := (hb.cell (p := ⟨w.heap.size, 3, none⟩) Lp0_w11).trans ep0_3_w11
          have ep0_4_w12 := (hb.cell (p := ⟨w.heap.size, 4, none⟩) Lp0_w11).trans ep0_4_w11
          have Lp0_w12 : w.heap.size < w12.heap.size := by have h := hb.size; omega
          clear ep0_0_w11 ep0_1_w11 ep0_2_w11 ep0_3_w11 ep0_4_w11 Lp0_w11
          have ep1_0_w12 := (hb.cell (p := ⟨w.heap.size + 1, 0, none⟩) Lp1_w11).trans ep1_0_w11
          have ep1_1_w12 := (hb.cell (p := ⟨w.heap.size + 1, 1, none⟩) Lp1_w11).trans ep1_1_w11
          have ep1_2_w12 := (hb.cell (p := ⟨w.heap.size + 1, 2, none⟩) Lp1_w11).trans ep1_2_w11
          have ep1_3_w12 := (hb.cell (p := ⟨w.heap.size + 1, 3, none⟩) Lp1_w11).trans ep1_3_w11
          have Lp1_w12 : w.heap.size + 1 < w12.heap.size := by have h := hb.size; omega
          clear ep1_0_w11 ep1_1_w11 ep1_2_w11 ep1_3_w11 Lp1_w11
          have es0_0_w12 := (hb.cell (p := ⟨bs_6, 0, none⟩) Ls0_w11).trans es0_0_w11
          have es0_1_w12 := (hb.cell (p := ⟨bs_6, 1, none⟩) Ls0_w11).trans es0_1_w11
          have es0_2_w12 := (hb.cell (p := ⟨bs_6, 2, none⟩) Ls0_w11).trans es0_2_w11
          have es0_3_w12 := (hb.cell (p := ⟨bs_6, 3, none⟩) Ls0_w11).trans es0_3_w11
          have es0_4_w12 := (hb.cell (p := ⟨bs_6, 4, none⟩) Ls0_w11).trans es0_4_w11
          have Ls0_w12 : bs_6 < w12.heap.size := by have h := hb.size; omega
          clear es0_0_w11 es0_1_w11 es0_2_w11 es0_3_w11 es0_4_w11 Ls0_w11
          have es1_0_w12 := (hb.cell (p := ⟨bs_7, 0, none⟩) Ls1_w11).trans es1_0_w11
          have es1_1_w12 := (hb.cell (p := ⟨bs_7, 1, none⟩) Ls1_w11).trans es1_1_w11
          have es1_2_w12 := (hb.cell (p := ⟨bs_7, 2, none⟩) Ls1_w11).trans es1_2_w11
          have es1_3_w12 := (hb.cell (p := ⟨bs_7, 3, none⟩) Ls1_w11).trans es1_3_w11
          have es1_4_w12 := (hb.cell (p := ⟨bs_7, 4, none⟩) Ls1_w11).trans es1_4_w11
          have Ls1_w12 : bs_7 < w12.heap.size := by have h := hb.size; omega
          clear es1_0_w11 es1_1_w11 es1_2_w11 es1_3_w11 es1_4_w11 Ls1_w11
          have ex0_0_w12 := (hb.cell (p := ⟨w4.heap.size, 0, none⟩) Lx0_w11).trans ex0_0_w11
          have ex0_1_w12 := (hb.cell (p := ⟨w4.heap.size, 1, none⟩) Lx0_w11).trans ex0_1_w11
          have ex0_2_w12 := (hb.cell (p := ⟨w4.heap.size, 2, none⟩) Lx0_w11).trans ex0_2_w11
          have ex0_3_w12 := (hb.cell (p := ⟨w4.heap.size, 3, none⟩) Lx0_w11).trans ex0_3_w11
          have ex0_4_w12 := (hb.cell (p := ⟨w4.heap.size, 4, none⟩) Lx0_w11).trans ex0_4_w11
          have Lx0_w12 : w4.heap.size < w12.heap.size := by have h := hb.size; omega
          clear ex0_0_w11 ex0_1_w11 ex0_2_w11 ex0_3_w11 ex0_4_w11 Lx0_w11
          have eg0_0_w12 := (hb.cell (p := ⟨bg_9, 0, none⟩) Lg0_w11).trans eg0_0_w11
          have eg0_1_w12 := (hb.cell (p := ⟨bg_9, 1, none⟩) Lg0_w11).trans eg0_1_w11
          have eg0_2_w12 := (hb.cell (p := ⟨bg_9, 2, none⟩) Lg0_w11).trans eg0_2_w11
          have eg0_3_w12 := (hb.cell (p := ⟨bg_9, 3, none⟩) Lg0_w11).trans eg0_3_w11
          have eg0_4_w12 := (hb.cell (p := ⟨bg_9, 4, none⟩) Lg0_w11).trans eg0_4_w11
          have Lg0_w12 : bg_9 < w12.heap.size := by have h := hb.size; omega
          clear eg0_0_w11 eg0_1_w11 eg0_2_w11 eg0_3_w11 eg0_4_w11 Lg0_w11
          have eg1_0_w12 := (hb.cell (p := ⟨bg_10, 0, none⟩) Lg1_w11).trans eg1_0_w11
          have eg1_1_w12 := (hb.cell (p := ⟨bg_10, 1, none⟩) Lg1_w11).trans eg1_1_w11
          have eg1_2_w12 := (hb.cell (p := ⟨bg_10, 2, none⟩) Lg1_w11).trans eg1_2_w11
          have eg1_3_w12 := (hb.cell (p := ⟨bg_10, 3, none⟩) Lg1_w11).trans eg1_3_w11
          have eg1_4_w12 := (hb.cell (p := ⟨bg_10, 4, none⟩) Lg1_w11).trans eg1_4_w11
          have Lg1_w12 : bg_10 < w12.heap.size := by have h := hb.size; omega
          clear eg1_0_w11 eg1_1_w11 eg1_2_w11 eg1_3_w11 eg1_4_w11 Lg1_w11
          rw [show decide ((⟨a0, a1, a2, a3, a4⟩ : CoreD) = (⟨a0, a1, a2, a3, a4⟩ : CoreD)) = true by simp]
          clear hb hb0
          go_wp2_with fail
          refine (eqReply_any (⟨m0, m1, m2, m3, m4⟩ : ReplyD) (⟨m0, m1, m2, m3, m4⟩ : ReplyD) _).mono ?_
          rintro e w13 ⟨rfl, hb0⟩
          have hb := below_step (w := w12) (by repeat (first | exact Below.refl _ _ | refine Below.alloc ?_ (by simp; try omega) _ | refine Below.setCell ?_ (by simp; try omega) _ | refine belN ?_ _ | refine belD ?_)) hb0
          have Cw_w13 := Lib.hid (Cw_w12.out.trans (hb.mono Cw_w12.out.size))
          have Cw3_w13 := Lib.hid (Cw3_w12.out.trans (hb.mono Cw3_w12.out.size))
          have Cw11_w13 := Lib.hid (Cw11_w12.out.trans (hb.mono Cw11_w12.out.size))
          have A0_w13 := Lib.hid (FlatAt.below A0_w12.out hb (Nat.le_refl _))
          have Rsa_w13 := Lib.hid (FlatAt.below Rsa_w12.out hb (Nat.le_refl _))
          have Rg_w13 := Lib.hid (ownR_below Rg_w12.out hb (Nat.le_refl _))
          have Rga_w13 := Lib.hid (FlatAt.below Rga_w12.out hb (Nat.le_refl _))
          have ep0_0_w13 := (hb.cell (p := ⟨w.heap.size, 0, none⟩) Lp0_w12).trans ep0_0_w12
          have ep0_1_w13 := (hb.cell (p := ⟨w.heap.size, 1, none⟩) Lp0_w12).trans ep0_1_w12
          have ep0_2_w13 := (hb.cell (p := ⟨w.heap.size, 2, none⟩) Lp0_w12).trans ep0_2_w12
          have ep0_3_w13 := (hb.cell (p := ⟨w.heap.size, 3, none⟩) Lp0_w12).trans ep0_3_w12
          have ep0_4_w13 := (hb.cell (p := ⟨w.heap.size, 4, none⟩) Lp0_w12).trans ep0_4_w12
          have Lp0_w13 : w.heap.size < w13.heap.size := by have h := hb.size; omega
          clear ep0_0_w12 ep0_1_w12 ep0_2_w12 ep0_3_w12 ep0_4_w12 Lp0_w12
          have ep1_0_w13 := (hb.cell (p := ⟨w.heap.size + 1, 0, none⟩) Lp1_w12).trans ep1_0_w12
          have ep1_1_w13 := (hb.cell (p := ⟨w.heap.size + 1, 1, none⟩) Lp1_w12).trans ep1_1_w12
          have ep1_2_w13 := (hb.cell (p := ⟨w.heap.size + 1, 2, none⟩) Lp1_w12).trans ep1_2_w12
          have ep1_3_w13 := (hb.cell (p := ⟨w.heap.size + 1, 3, none⟩) Lp1_w12).trans ep1_3_w12
          have Lp1_w13 : w.heap.size + 1 < w13.heap.size := by have h := hb.size; omega
          clear ep1_0_w12 ep1_1_w12 ep1_2_w12 ep1_3_w12 Lp1_w12
          have es0_0_w13 := (hb.cell (p := ⟨bs_6, 0, none⟩) Ls0_w12).trans es0_0_w12
          have es0_1_w13 := (hb.cell (p := ⟨bs_6, 1, none⟩) Ls0_w12).trans es0_1_w12
          have es0_2_w13 := (hb.cell (p := ⟨bs_6, 2, none⟩) Ls0_w12).trans es0_2_w12
          have es0_3_w13 := (hb.cell (p := ⟨bs_6, 3, none⟩) Ls0_w12).trans es0_3_w12
          have es0_4_w13 := (hb.cell (p := ⟨bs_6, 4, none⟩) Ls0_w12).trans es0_4_w12
          have Ls0_w13 : bs_6 < w13.heap.size := by have h := hb.size; omega
          clear es0_0_w12 es0_1_w12 es0_2_w12 es0_3_w12 es0_4_w12 Ls0_w12
          have es1_0_w13 := (hb.cell (p := ⟨bs_7, 0, none⟩) Ls1_w12).trans es1_0_w12
          have es1_1_w13 := (hb.cell (p := ⟨bs_7, 1, none⟩) Ls1_w12).trans es1_1_w12
          have es1_2_w13 := (hb.cell (p := ⟨bs_7, 2, none⟩) Ls1_w12).trans es1_2_w12
          have es1_3_w13 := (hb.cell (p := ⟨bs_7, 3, none⟩) Ls1_w12).trans es1_3_w12
          have es1_4_w13 := (hb.cell (p := ⟨bs_7, 4, none⟩) Ls1_w12).trans es1_4_w12
          have Ls1_w13 : bs_7 < w13.heap.size := by have h := hb.size; omega
          clear es1_0_w12 es1_1_w12 es1_2_w12 es1_3_w12 es1_4_w12 Ls1_w12
          have ex0_0_w13 := (hb.cell (p := ⟨w4.heap.size, 0, none⟩) Lx0_w12).trans ex0_0_w12
          have ex0_1_w13 := (hb.cell (p := ⟨w4.heap.size, 1, none⟩) Lx0_w12).trans ex0_1_w12
          have ex0_2_w13 := (hb.cell (p := ⟨w4.heap.size, 2, none⟩) Lx0_w12).trans ex0_2_w12
          have ex0_3_w13 := (hb.cell (p := ⟨w4.heap.size, 3, none⟩) Lx0_w12).trans ex0_3_w12
          have ex0_4_w13 := (hb.cell (p := ⟨w4.heap.size, 4, none⟩) Lx0_w12).trans ex0_4_w12
          have Lx0_w13 : w4.heap.size < w13.heap.size := by have h := hb.size; omega
          clear ex0_0_w12 ex0_1_w12 ex0_2_w12 ex0_3_w12 ex0_4_w12 Lx0_w12
          have eg0_0_w13 := (hb.cell (p := ⟨bg_9, 0, none⟩) Lg0_w12).trans eg0_0_w12
          have eg0_1_w13 := (hb.cell (p := ⟨bg_9, 1, none⟩) Lg0_w12).trans eg0_1_w12
          have eg0_2_w13 := (hb.cell (p := ⟨bg_9, 2, none⟩) Lg0_w12).trans eg0_2_w12
          have eg0_3_w13 := (hb.cell (p := ⟨bg_9, 3, none⟩) Lg0_w12).trans eg0_3_w12
          have eg0_4_w13 := (hb.cell (p := ⟨bg_9, 4, none⟩) Lg0_w12).trans eg0_4_w12
          have Lg0_w13 : bg_9 < w13.heap.size := by have h := hb.size; omega
          clear eg0_0_w12 eg0_1_w12 eg0_2_w12 eg0_3_w12 eg0_4_w12 Lg0_w12
          have eg1_0_w13 := (hb.cell (p := ⟨bg_10, 0, none⟩) Lg1_w12).trans eg1_0_w12
          have eg1_1_w13 := (hb.cell (p := ⟨bg_10, 1, none⟩) Lg1_w12).trans eg1_1_w12
          have eg1_2_w13 := (hb.cell (p := ⟨bg_10, 2, none⟩) Lg1_w12).trans eg1_2_w12
          have eg1_3_w13 := (hb.cell (p := ⟨bg_10, 3, none⟩) Lg1_w12).trans eg1_3_w12
          have eg1_4_w13 := (hb.cell (p := ⟨bg_10, 4, none⟩) Lg1_w12).trans eg1_4_w12
          have Lg1_w13 : bg_10 < w13.heap.size := by have h := hb.size; omega
          clear eg1_0_w12 eg1_1_w12 eg1_2_w12 eg1_3_w12 eg1_4_w12 Lg1_w12
          rw [show decide ((⟨m0, m1, m2, m3, m4⟩ : ReplyD) = (⟨m0, m1, m2, m3, m4⟩ : ReplyD)) = true by simp]
          clear hb hb0
          go_wp2_with fail
          refine (mark_range (ownR_below Rg_w13.out (by repeat (first | exact Below.refl _ _ | refine Below.alloc ?_ (by simp; try omega) _ | refine Below.setCell ?_ (by simp; try omega) _ | refine belN ?_ _ | refine belD ?_)) (Nat.le_refl _)) (markCore_c log (.slice psg a3.length qsg) (⟨a0, a1, a2, a3, a4⟩ : CoreD) 1 _ (ownR_below Rg_w13.out (by repeat (first | exact Below.refl _ _ | refine Below.alloc ?_ (by simp; try omega) _ | refine Below.setCell ?_ (by simp; try omega) _ | refine belN ?_ _ | refine belD ?_)) (Nat.le_refl _)).1 (by show a3.length ≤ _; have := HRL.out; omega) (by omega) (by omega))).mono ?_
          rintro e w14 ⟨rfl, ho, hbt⟩
          have Cw_w14 := Lib.hid (betw_below Cw_w13.out hbt LCRg_w.out)
          have Cw3_w14 := Lib.hid (betw_below Cw3_w13.out hbt LCRg_w3.out)
          have A0_w14 := Lib.hid (FlatAt.below A0.out Cw_w14.out (Nat.le_refl _))
          have Rsa_w14 := Lib.hid (FlatAt.below Rsa.out Cw3_w14.out (Nat.le_refl _))
          have ep0_0_w14 := (betw_cell hbt (w.heap.size) 0 Lp0_w13 (Or.inl LBRg_p0.out)).trans ep0_0_w13
          have ep0_1_w14 := (betw_cell hbt (w.heap.size) 1 Lp0_w13 (Or.inl LBRg_p0.out)).trans ep0_1_w13
          have ep0_2_w14 := (betw_cell hbt (w.heap.size) 2 Lp0_w13 (Or.inl LBRg_p0.out)).trans ep0_2_w13
          have ep0_3_w14 := (betw_cell hbt (w.heap.size) 3 Lp0_w13 (Or.inl LBRg_p0.out)).trans ep0_3_w13
          have ep0_4_w14 := (betw_cell hbt (w.heap.size) 4 Lp0_w13 (Or.inl LBRg_p0.out)).trans ep0_4_w13
          have Lp0_w14 : w.heap.size < w14.heap.size := by have h := hbt.size; omega
          clear ep0_0_w13 ep0_1_w13 ep0_2_w13 ep0_3_w13 ep0_4_w13 Lp0_w13
          have ep1_0_w14 := (betw_cell hbt (w.heap.size + 1) 0 Lp1_w13 (Or.inl LBRg_p1.out)).trans ep1_0_w13
          have ep1_1_w14 := (betw_cell hbt (w.heap.size + 1) 1 Lp1_w13 (Or.inl LBRg_p1.out)).trans ep1_1_w13
          have ep1_2_w14 := (betw_cell hbt (w.heap.size + 1) 2 Lp1_w13 (Or.inl LBRg_p1.out)).trans ep1_2_w13
          have ep1_3_w14 := (betw_cell hbt (w.heap.size + 1) 3 Lp1_w13 (Or.inl LBRg_p1.out)).trans ep1_3_w13
          have Lp1_w14 : w.heap.size + 1 < w14.heap.size := by have h := hbt.size; omega
          clear ep1_0_w13 ep1_1_w13 ep1_2_w13 ep1_3_w13 Lp1_w13
          have es0_0_w14 := (betw_cell hbt (bs_6) 0 Ls0_w13 (Or.inl LBRg_s0.out)).trans es0_0_w13
          have es0_1_w14 := (betw_cell hbt (bs_6) 1 Ls0_w13 (Or.inl LBRg_s0.out)).trans es0_1_w13
          have es0_2_w14 := (betw_cell hbt (bs_6) 2 Ls0_w13 (Or.inl LBRg_s0.out)).trans es0_2_w13
          have es0_3_w14 := (betw_cell hbt (bs_6) 3 Ls0_w13 (Or.inl LBRg_s0.out)).trans es0_3_w13
          have es0_4_w14 := (betw_cell hbt (bs_6) 4 Ls0_w13 (Or.inl LBRg_s0.out)).trans es0_4_w13
          have Ls0_w14 : bs_6 < w14.heap.size := by have h := hbt.size; omega
          clear es0_0_w13 es0_1_w13 es0_2_w13 es0_3_w13 es0_4_w13 Ls0_w13
          have es1_0_w14 := (betw_cell hbt (bs_7) 0 Ls1_w13 (Or.inl LBRg_s1.out)).trans es1_0_w13
          have es1_1_w14 := (betw_cell hbt (bs_7) 1 Ls1_w13 (Or.inl LBRg_s1.out)).trans es1_1_w13
          have es1_2_w14 := (betw_cell hbt (bs_7) 2 Ls1_w13 (Or.inl LBRg_s1.out)).trans es1_2_w13
          have es1_3_w14 := (betw_cell hbt (bs_7) 3 Ls1_w13 (Or.inl LBRg_s1.out)).trans es1_3_w13
          have es1_4_w14 := (betw_cell hbt (bs_7) 4 Ls1_w13 (Or.inl LBRg_s1.out)).trans es1_4_w13
          have Ls1_w14 : bs_7 < w14.heap.size := by have h := hbt.size; omega
          clear es1_0_w13 es1_1_w13 es1_2_w13 es1_3_w13 es1_4_w13 Ls1_w13
          have ex0_0_w14 := (betw_cell hbt (w4.heap.size) 0 Lx0_w13 (Or.inl LBRg_x0.out)).trans ex0_0_w13
          have ex0_1_w14 := (betw_cell hbt (w4.heap.size) 1 Lx0_w13 (Or.inl LBRg_x0.out)).trans ex0_1_w13
          have ex0_2_w14 := (betw_cell hbt (w4.heap.size) 2 Lx0_w13 (Or.inl LBRg_x0.out)).trans ex0_2_w13
          have ex0_3_w14 := (betw_cell hbt (w4.heap.size) 3 Lx0_w13 (Or.inl LBRg_x0.out)).trans ex0_3_w13
          have ex0_4_w14 := (betw_cell hbt (w4.heap.size) 4 Lx0_w13 (Or.inl LBRg_x0.out)).trans ex0_4_w13
          have Lx0_w14 : w4.heap.size < w14.heap.size := by have h := hbt.size; omega
          clear ex0_0_w13 ex0_1_w13 ex0_2_w13 ex0_3_w13 ex0_4_w13 Lx0_w13
          have eg0_0_w14 := (betw_cell hbt (bg_9) 0 Lg0_w13 (DBRg_g0.out)).trans eg0_0_w13
          have eg0_1_w14 := (betw_cell hbt (bg_9) 1 Lg0_w13 (DBRg_g0.out)).trans eg0_1_w13
          have eg0_2_w14 := (betw_cell hbt (bg_9) 2 Lg0_w13 (DBRg_g0.out)).trans eg0_2_w13
          have eg0_3_w14 := (betw_cell hbt (bg_9) 3 Lg0_w13 (DBRg_g0.out)).trans eg0_3_w13
          have eg0_4_w14 := (betw_cell hbt (bg_9) 4 Lg0_w13 (DBRg_g0.out)).trans eg0_4_w13
          have Lg0_w14 : bg_9 < w14.heap.size := by have h := hbt.size; omega
          clear eg0_0_w13 eg0_1_w13 eg0_2_w13 eg0_3_w13 eg0_4_w13 Lg0_w13
          have eg1_0_w14 := (betw_cell hbt (bg_10) 0 Lg1_w13 (DBRg_g1.out)).trans eg1_0_w13
          have eg1_1_w14 := (betw_cell hbt (bg_10) 1 Lg1_w13 (DBRg_g1.out)).trans eg1_1_w13
          have eg1_2_w14 := (betw_cell hbt (bg_10) 2 Lg1_w13 (DBRg_g1.out)).trans eg1_2_w13
          have eg1_3_w14 := (betw_cell hbt (bg_10) 3 Lg1_w13 (DBRg_g1.out)).trans eg1_3_w13
          have eg1_4_w14 := (betw_cell hbt (bg_10) 4 Lg1_w13 (DBRg_g1.out)).trans eg1_4_w13
          have Lg1_w14 : bg_10 < w14.heap.size := by have h := hbt.size; omega
          clear eg1_0_w13 eg1_1_w13 eg1_2_w13 eg1_3_w13 eg1_4_w13 Lg1_w13
          have MK := Lib.hid (ownR_at ho (by simp only [marksCell_len]; have := HRL.out; omega))
          clear ho hbt
          go_wp2_with fail
          refine (heldCore_any (vCore (⟨a0, a1, a2, a3, a4⟩ : CoreD) (.slice psg a3.length qsg)) (⟨a0, a1, a2, a3, a4⟩ : CoreD) a3.length 1 _ ⟨(.slice psg a3.length qsg), rfl, (FlatAt.below MK.out (by repeat (first | exact Below.refl _ _ | refine Below.alloc ?_ (by simp; try omega) _ | refine Below.setCell ?_ (by simp; try omega) _ | refine belN ?_ _ | refine belD ?_)) (Nat.le_refl _))⟩ (by have := HRL.out; omega) (by omega) (by omega)).mono ?_
          rintro e w15 ⟨rfl, hb0⟩
          have hb := below_step (w := w14) (by repeat (first | exact Below.refl _ _ | refine Below.alloc ?_ (by simp; try omega) _ | refine Below.setCell ?_ (by simp; try omega) _ | refine belN ?_ _ | refine belD ?_)) hb0
          have Cw_w15 := Lib.hid (Cw_w14.out.trans (hb.mono Cw_w14.out.size))
          have Cw3_w15 := Lib.hid (Cw3_w14.out.trans (hb.mono Cw3_w14.out.size))
          have A0_w15 := Lib.hid (FlatAt.below A0_w14.out hb (Nat.le_refl _))
          have Rsa_w15 := Lib.hid (FlatAt.below Rsa_w14.out hb (Nat.le_refl _))
          have MK_w15 := Lib.hid (FlatAt.below MK.out hb (Nat.le_refl _))
          have ep0_0_w15 := (hb.cell (p := ⟨w.heap.size, 0, none⟩) Lp0_w14).trans ep0_0_w14
          have ep0_1_w15 := (hb.cell (p := ⟨w.heap.size, 1, none⟩) Lp0_w14).trans ep0_1_w14
          have ep0_2_w15 := (hb.cell (p := ⟨w.heap.size, 2, none⟩) Lp0_w14).trans ep0_2_w14
          have ep0_3_w15 := (hb.cell (p := ⟨w.heap.size, 3, none⟩) Lp0_w14).trans ep0_3_w14
          have ep0_4_w15 := (hb.cell (p := ⟨w.heap.size, 4, none⟩) Lp0_w14).trans ep0_4_w14
          have Lp0_w15 : w.heap.size < w15.heap.size := by have h := hb.size; omega
          clear ep0_0_w14 ep0_1_w14 ep0_2_w14 ep0_3_w14 ep0_4_w14 Lp0_w14
          have ep1_0_w15 := (hb.cell (p := ⟨w.heap.size + 1, 0, none⟩) Lp1_w14).trans ep1_0_w14
          have ep1_1_w15 := (hb.cell (p := ⟨w.heap.size + 1, 1, none⟩) Lp1_w14).trans ep1_1_w14
          have ep1_2_w15 := (hb.cell (p := ⟨w.heap.size + 1, 2, none⟩) Lp1_w14).trans ep1_2_w14
          have ep1_3_w15 := (hb.cell (p := ⟨w.heap.size + 1, 3, none⟩) Lp1_w14).trans ep1_3_w14
          have Lp1_w15 : w.heap.size + 1 < w15.heap.size := by have h := hb.size; omega
          clear ep1_0_w14 ep1_1_w14 ep1_2_w14 ep1_3_w14 Lp1_w14
          have es0_0_w15 := (hb.cell (p := ⟨bs_6, 0, none⟩) Ls0_w14).trans es0_0_w14
          have es0_1_w15 := (hb.cell (p := ⟨bs_6, 1, none⟩) Ls0_w14).trans es0_1_w14
          have es0_2_w15 := (hb.cell (p := ⟨bs_6, 2, none⟩) Ls0_w14).trans es0_2_w14
          have es0_3_w15 := (hb.cell (p := ⟨bs_6, 3, none⟩) Ls0_w14).trans es0_3_w14
          have es0_4_w15 := (hb.cell (p := ⟨bs_6, 4, none⟩) Ls0_w14).trans es0_4_w14
          have Ls0_w15 : bs_6 < w15.heap.size := by have h := hb.size; omega
          clear es0_0_w14 es0_1_w14 es0_2_w14 es0_3_w14 es0_4_w14 Ls0_w14
          have es1_0_w15 := (hb.cell (p := ⟨bs_7, 0, none⟩) Ls1_w14).trans es1_0_w14
          have es1_1_w15 := (hb.cell (p := ⟨bs_7, 1, none⟩) Ls1_w14).trans es1_1_w14
          have es1_2_w15 := (hb.cell (p := ⟨bs_7, 2, none⟩) Ls1_w14).trans es1_2_w14
          have es1_3_w15 := (hb.cell (p := ⟨bs_7, 3, none⟩) Ls1_w14).trans es1_3_w14
          have es1_4_w15 := (hb.cell (p := ⟨bs_7, 4, none⟩) Ls1_w14).trans es1_4_w14
          have Ls1_w15 : bs_7 < w15.heap.size := by have h := hb.size; omega
          clear es1_0_w14 es1_1_w14 es1_2_w14 es1_3_w14 es1_4_w14 Ls1_w14
          have ex0_0_w15 := (hb.cell (p := ⟨w4.heap.size, 0, none⟩) Lx0_w14).trans ex0_0_w14
          have ex0_1_w15 := (hb.cell (p := ⟨w4.heap.size, 1, none⟩) Lx0_w14).trans ex0_1_w14
          have ex0_2_w15 := (hb.cell (p := ⟨w4.heap.size, 2, none⟩) Lx0_w14).trans ex0_2_w14
          have ex0_3_w15 := (hb.cell (p := ⟨w4.heap.size, 3, none⟩) Lx0_w14).trans ex0_3_w14
          have ex0_4_w15 := (hb.cell (p := ⟨w4.heap.size, 4, none⟩) Lx0_w14).trans ex0_4_w14
          have Lx0_w15 : w4.heap.size < w15.heap.size := by have h := hb.size; omega
          clear ex0_0_w14 ex0_1_w14 ex0_2_w14 ex0_3_w14 ex0_4_w14 Lx0_w14
          have eg0_0_w15 := (hb.cell (p := ⟨bg_9, 0, none⟩) Lg0_w14).trans eg0_0_w14
          have eg0_1_w15 := (hb.cell (p := ⟨bg_9, 1, none⟩) Lg0_w14).trans eg0_1_w14
          have eg0_2_w15 := (hb.cell (p := ⟨bg_9, 2, none⟩) Lg0_w14).trans eg0_2_w14
          have eg0_3_w15 := (hb.cell (p := ⟨bg_9, 3, none⟩) Lg0_w14).trans eg0_3_w14
          have eg0_4_w15 := (hb.cell (p := ⟨bg_9, 4, none⟩) Lg0_w14).trans eg0_4_w14
          have Lg0_w15 : bg_9 < w15.heap.size := by have h := hb.size; omega
          clear eg0_0_w14 eg0_1_w14 eg0_2_w14 eg0_3_w14 eg0_4_w14 Lg0_w14
          have eg1_0_w15 := (hb.cell (p := ⟨bg_10, 0, none⟩) Lg1_w14).trans eg1_0_w14
          have eg1_1_w15 := (hb.cell (p := ⟨bg_10, 1, none⟩) Lg1_w14).trans eg1_1_w14
          have eg1_2_w15 := (hb.cell (p := ⟨bg_10, 2, none⟩) Lg1_w14).trans eg1_2_w14
          have eg1_3_w15 := (hb.cell (p := ⟨bg_10, 3, none⟩) Lg1_w14).trans eg1_3_w14
          have eg1_4_w15 := (hb.cell (p := ⟨bg_10, 4, none⟩) Lg1_w14).trans eg1_4_w14
          have Lg1_w15 : bg_10 < w15.heap.size := by have h := hb.size; omega
          clear eg1_0_w14 eg1_1_w14 eg1_2_w14 eg1_3_w14 eg1_4_w14 Lg1_w14
          clear hb hb0
          have T0 := Lib.hid (fun w0 (h : FlatAt cCell 2 w0 (.slice ca0 n0_3.length cc0) n0_3) => toCore_any (vCore (⟨n0_0, n0_1, n0_2, n0_3, n0_4⟩ : CoreD) (.slice ca0 n0_3.length cc0)) (⟨n0_0, n0_1, n0_2, n0_3, n0_4⟩ : CoreD) w0 ⟨(.slice ca0 n0_3.length cc0), rfl, h⟩ (by show n0_3.length ≤ _; have := HSM0.out; omega))
          unfold GivesCore at T0
          simp only [vCore] at T0
          have T1 := Lib.hid (fun w0 => toCall_any (⟨n1_0, n1_1, n1_2, n1_3⟩ : CallD) w0)
          simp only [vCall] at T1
          go_upto_region 27 with fail
          have HLTh_p0 := Lib.hid Lp0_w15
          have HLTh_p1 := Lib.hid Lp1_w15
          have HLTh_s0 := Lib.hid Ls0_w15
          have HLTh_s1 := Lib.hid Ls1_w15
          have HLTh_x0 := Lib.hid Lx0_w15
          have HLTh_g0 := Lib.hid Lg0_w15
          have HLTh_g1 := Lib.hid Lg1_w15
          have HSof := Lib.hid (fun W (h : Below w15.heap.size w15 W) => (show W.cell? ⟨w.heap.size, 0, none⟩ = some (.string ⟨n0_0.toArray⟩) ∧ W.cell? ⟨w.heap.size, 1, none⟩ = some (.bool n0_1) ∧ W.cell? ⟨w.heap.size, 2, none⟩ = some (.bool n0_2) ∧ W.cell? ⟨w.heap.size, 3, none⟩ = some ((.slice ca0 n0_3.length cc0)) ∧ W.cell? ⟨w.heap.size, 4, none⟩ = some (.int .i64 n0_4) ∧ W.cell? ⟨w.heap.size + 1, 0, none⟩ = some (.string ⟨n1_0.toArray⟩) ∧ W.cell? ⟨w.heap.size + 1, 1, none⟩ = some (.string ⟨n1_1.toArray⟩) ∧ W.cell? ⟨w.heap.size + 1, 2, none⟩ = some (.int .i64 n1_2) ∧ W.cell? ⟨w.heap.size + 1, 3, none⟩ = some (.string ⟨n1_3.toArray⟩) from ⟨(h.cell (p := ⟨w.heap.size, 0, none⟩) Lp0_w15).trans ep0_0_w15, (h.cell (p := ⟨w.heap.size, 1, none⟩) Lp0_w15).trans ep0_1_w15, (h.cell (p := ⟨w.heap.size, 2, none⟩) Lp0_w15).trans ep0_2_w15, (h.cell (p := ⟨w.heap.size, 3, none⟩) Lp0_w15).trans ep0_3_w15, (h.cell (p := ⟨w.heap.size, 4, none⟩) Lp0_w15).trans ep0_4_w15, (h.cell (p := ⟨w.heap.size + 1, 0, none⟩) Lp1_w15).trans ep1_0_w15, (h.cell (p := ⟨w.heap.size + 1, 1, none⟩) Lp1_w15).trans ep1_1_w15, (h.cell (p := ⟨w.heap.size + 1, 2, none⟩) Lp1_w15).trans ep1_2_w15, (h.cell (p := ⟨w.heap.size + 1, 3, none⟩) Lp1_w15).trans ep1_3_w15⟩))
          go_cut [14, 15] from 43 to 93 (fun s14 s15 wx => ∃ (bh_14 : Nat) (bh_15 : Nat) (psh : Option Addr) (qsh loh hih : Nat), s14 = .pointer (some ⟨bh_14, 0, none⟩) ∧ s15 = .pointer (some ⟨bh_15, 0, none⟩) ∧ Bx wx bh_14 [.string ⟨a0.toArray⟩, .bool a1, .bool a2, (.slice psh a3.length qsh), .int .i64 a4] ∧ Bx wx bh_15 [.int .i64 m0, .int .i64 m1, .string ⟨m2.toArray⟩, .int .i64 m3, .int .i64 m4] ∧ OwnR cCell 36 2 wx loh hih (.slice psh a3.length qsh) a3 ∧ (w15.heap.size ≤ loh ∧ hih ≤ wx.heap.size ∧ (bh_14 < loh ∨ hih ≤ bh_14) ∧ w15.heap.size ≤ bh_14 ∧ (bh_15 < loh ∨ hih ≤ bh_15) ∧ w15.heap.size ≤ bh_15) ∧ Below w15.heap.size w15 wx)
          case first =>
            refine wp_region_held_drew (S := fun w' => w'.cell? ⟨w.heap.size, 0, none⟩ = some (.string ⟨n0_0.toArray⟩) ∧ w'.cell? ⟨w.heap.size, 1, none⟩ = some (.bool n0_1) ∧ w'.cell? ⟨w.heap.size, 2, none⟩ = some (.bool n0_2) ∧ w'.cell? ⟨w.heap.size, 3, none⟩ = some ((.slice ca0 n0_3.length cc0)) ∧ w'.cell? ⟨w.heap.size, 4, none⟩ = some (.int .i64 n0_4) ∧ w'.cell? ⟨w.heap.size + 1, 0, none⟩ = some (.string ⟨n1_0.toArray⟩) ∧ w'.cell? ⟨w.heap.size + 1, 1, none⟩ = some (.string ⟨n1_1.toArray⟩) ∧ w'.cell? ⟨w.heap.size + 1, 2, none⟩ = some (.int .i64 n1_2) ∧ w'.cell? ⟨w.heap.size + 1, 3, none⟩ = some (.string ⟨n1_3.toArray⟩)) (by kernel_rfl) ?_ (fun hHeld => ?_)
            · exact HSof.out _ (belD (Below.refl _ _))
            have hbd := belD (Below.refl w15.heap.size w15)
            have Z0 := Lib.hid (show w15.drew.heap.size = w15.heap.size from rfl)
            generalize w15.drew = vh0 at *
            have HBW := Lib.hid hbd
            clear hbd
            refine wpAnyH_take (i := 0) (v := ?_) rfl (by kernel_rfl) (by kernel_rfl) (by kernel_rfl) (fun _ _ _ h => h) (Or.inl ⟨by rfl, ?_⟩) (by assumption) ?_
            rotate_left
            · intro w hSw; (try dsimp only at hSw); go_simp; with_reducible rfl
            try simp only [Act.put, List.getElem_toArray, List.getElem_cons_zero, List.getElem_cons_succ, List.setIfInBounds_toArray, List.set_cons_zero, List.set_cons_succ]
            refine wpAnyH_take (i := 2) (v := ?_) rfl (by kernel_rfl) (by kernel_rfl) (by kernel_rfl) (fun _ _ _ h => h) (Or.inl ⟨by rfl, ?_⟩) (by assumption) ?_
            rotate_left
            · intro w hSw; (try dsimp only at hSw); go_simp; with_reducible rfl
            try simp only [Act.put, List.getElem_toArray, List.getElem_cons_zero, List.getElem_cons_succ, List.setIfInBounds_toArray, List.set_cons_zero, List.set_cons_succ]
            have HFS := Lib.hid (show ∀ W W' : World, (W.cell? ⟨w.heap.size, 0, none⟩ = some (.string ⟨n0_0.toArray⟩) ∧ W.cell? ⟨w.heap.size, 1, none⟩ = some (.bool n0_1) ∧ W.cell? ⟨w.heap.size, 2, none⟩ = some (.bool n0_2) ∧ W.cell? ⟨w.heap.size, 3, none⟩ = some ((.slice ca0 n0_3.length cc0)) ∧ W.cell? ⟨w.heap.size, 4, none⟩ = some (.int .i64 n0_4) ∧ W.cell? ⟨w.heap.size + 1, 0, none⟩ = some (.string ⟨n1_0.toArray⟩) ∧ W.cell? ⟨w.heap.size + 1, 1, none⟩ = some (.string ⟨n1_1.toArray⟩) ∧ W.cell? ⟨w.heap.size + 1, 2, none⟩ = some (.int .i64 n1_2) ∧ W.cell? ⟨w.heap.size + 1, 3, none⟩ = some (.string ⟨n1_3.toArray⟩)) → Below W.heap.size W W' → (W'.cell? ⟨w.heap.size, 0, none⟩ = some (.string ⟨n0_0.toArray⟩) ∧ W'.cell? ⟨w.heap.size, 1, none⟩ = some (.bool n0_1) ∧ W'.cell? ⟨w.heap.size, 2, none⟩ = some (.bool n0_2) ∧ W'.cell? ⟨w.heap.size, 3, none⟩ = some ((.slice ca0 n0_3.length cc0)) ∧ W'.cell? ⟨w.heap.size, 4, none⟩ = some (.int .i64 n0_4) ∧ W'.cell? ⟨w.heap.size + 1, 0, none⟩ = some (.string ⟨n1_0.toArray⟩) ∧ W'.cell? ⟨w.heap.size + 1, 1, none⟩ = some (.string ⟨n1_1.toArray⟩) ∧ W'.cell? ⟨w.heap.size + 1, 2, none⟩ = some (.int .i64 n1_2) ∧ W'.cell? ⟨w.heap.size + 1, 3, none⟩ = some (.string ⟨n1_3.toArray⟩)) from fun W W' hh hb => by obtain ⟨q0, q1, q2, q3, q4, q5, q6, q7, q8⟩ := hh; exact ⟨(hb.cell (p := ⟨w.heap.size, 0, none⟩) (World.block_lt_of_cell? _ _ q0)).trans q0, (hb.cell (p := ⟨w.heap.size, 1, none⟩) (World.block_lt_of_cell? _ _ q1)).trans q1, (hb.cell (p := ⟨w.heap.size, 2, none⟩) (World.block_lt_of_cell? _ _ q2)).trans q2, (hb.cell (p := ⟨w.heap.size, 3, none⟩) (World.block_lt_of_cell? _ _ q3)).trans q3, (hb.cell (p := ⟨w.heap.size, 4, none⟩) (World.block_lt_of_cell? _ _ q4)).trans q4, (hb.cell (p := ⟨w.heap.size + 1, 0, none⟩) (World.block_lt_of_cell? _ _ q5)).trans q5, (hb.cell (p := ⟨w.heap.size + 1, 1, none⟩) (World.block_lt_of_cell? _ _ q6)).trans q6, (hb.cell (p := ⟨w.heap.size + 1, 2, none⟩) (World.block_lt_of_cell? _ _ q7)).trans q7, (hb.cell (p := ⟨w.heap.size + 1, 3, none⟩) (World.block_lt_of_cell? _ _ q8)).trans q8⟩)
            refine wpAnyH_floatN (k1 := 8) (k2 := 9) (d1 := 14) (d2 := 15) (z1 := [.string ⟨#[]⟩, .bool false, .bool false, .slice none 0 0, .int .i64 0]) (z2 := [.int .i64 0, .int .i64 0, .string ⟨#[]⟩, .int .i64 0, .int .i64 0]) (T1 := 26) (T2 := 32) (js := [(1, false), (3, false), (4, false), (5, true), (6, true), (7, true)]) (fz := 2) rfl ⟨⟨_, rfl, rfl, rfl, fun a w => ?_⟩⟩ ⟨⟨_, rfl, rfl, rfl, fun a w => ?_⟩⟩ (by kernel_rfl) (by decide) (by decide) (by kernel_rfl) (fun _ _ _ _ _ => Iff.rfl) HFS.out (by assumption) ?_
            · rfl
            · rfl
            refine wpFl_step rfl (fun gh0 hbG hHeld K hK => ?_)
            have HBW := Lib.hid (HBW.out.trans (hbG.mono HBW.out.size))
            have ZG0 := Lib.hid hbG.size
            clear hbG
            go_simp
            go_at_call 19
            refine (T0.out _ (FlatAt.below A0_w15.out HBW.out (Nat.le_refl _))).mono ?_
            rintro e vh1 ⟨_, rfl, ⟨uT0, rfl, ho⟩, hb⟩
            have hbK := hb
            have HBW := Lib.hid (HBW.out.trans (hb.mono HBW.out.size))
            have HT0Z := Lib.hid ho
            clear ho
            have ZK0 := Lib.hid hb.size
            clear hb
            refine hK.out _ _ hbK (HSof.out _ HBW.out) ?_
            clear hK K hbK hHeld
            try simp only [Act.put, List.getElem_toArray, List.getElem_cons_zero, List.getElem_cons_succ, List.setIfInBounds_toArray, List.set_cons_zero, List.set_cons_succ]
            refine wpFl_step rfl (fun gh1 hbG hHeld K hK => ?_)
            have HBW := Lib.hid (HBW.out.trans (hbG.mono HBW.out.size))
            have HT0Z := Lib.hid (ownsF_below HT0Z.out hbG (Nat.le_refl _))
            have ZG1 := Lib.hid hbG.size
            clear hbG
            go_simp
            go_at_call 20
            refine (T1.out _).mono ?_
            rintro e vh2 ⟨rfl, hb⟩
            have hbK := hb
            have HBW := Lib.hid (HBW.out.trans (hb.mono HBW.out.size))
            have HT0Z := Lib.hid (ownsF_below HT0Z.out hb (Nat.le_refl _))
            have ZK1 := Lib.hid hb.size
            clear hb
            refine hK.out _ _ hbK (HSof.out _ HBW.out) ?_
            clear hK K hbK hHeld
            try simp only [Act.put, List.getElem_toArray, List.getElem_cons_zero, List.getElem_cons_succ, List.setIfInBounds_toArray, List.set_cons_zero, List.set_cons_succ]
            refine wpFl_step rfl (fun gh2 hbG hHeld K hK => ?_)
            have HBW := Lib.hid (HBW.out.trans (hbG.mono HBW.out.size))
            have HT0Z := Lib.hid (ownsF_below HT0Z.out hbG (Nat.le_refl _))
            have ZG2 := Lib.hid hbG.size
            clear hbG
            go_simp
            go_at_call 9
            refine (HIM.out uT0 _ (ownsF_at HT0Z.out (by show n0_3.length ≤ _; have := HSM0.out; omega)) (maxlen_at Cw_w15.out HG.out HM.out HBW.out)).mono ?_
            rintro e vh3 ⟨_, rfl, ho, hb⟩
            have hbK := hb
            have HBW := Lib.hid (HBW.out.trans (hb.mono HBW.out.size))
            have HT0Z := Lib.hid (ownsF_below HT0Z.out hb (Nat.le_refl _))
            obtain ⟨pR, qR, rfl⟩ := slice_of ho
            have HOR := Lib.hid (ownR_of ho)
            have ZK2 := Lib.hid hb.size
            clear ho hb
            refine hK.out _ _ hbK (HSof.out _ HBW.out) ?_
            clear hK K hbK hHeld
            try simp only [Act.put, List.getElem_toArray, List.getElem_cons_zero, List.getElem_cons_succ, List.setIfInBounds_toArray, List.set_cons_zero, List.set_cons_succ]
            refine wpFl_take (v := ?_) rfl (Or.inl ⟨by rfl, ?_⟩) ?_
            rotate_left
            · intro w hSw; (try dsimp only at hSw); go_simp; with_reducible rfl
            try simp only [Act.put, List.getElem_toArray, List.getElem_cons_zero, List.getElem_cons_succ, List.setIfInBounds_toArray, List.set_cons_zero, List.set_cons_succ]
            refine wpFl_take (v := ?_) rfl (Or.inl ⟨by rfl, ?_⟩) ?_
            rotate_left
            · intro w hSw; (try dsimp only at hSw); go_simp; with_reducible rfl
            try simp only [Act.put, List.getElem_toArray, List.getElem_cons_zero, List.getElem_cons_succ, List.setIfInBounds_toArray, List.set_cons_zero, List.set_cons_succ]
            refine wpFl_take (v := ?_) rfl (Or.inl ⟨by rfl, ?_⟩) ?_
            rotate_left
            · intro w hSw; (try dsimp only at hSw); go_simp; with_reducible rfl
            try simp only [Act.put, List.getElem_toArray, List.getElem_cons_zero, List.getElem_cons_succ, List.setIfInBounds_toArray, List.set_cons_zero, List.set_cons_succ]
            refine wpFl_end (fun ghE bx1 bx2 hbG hHeld hbx1 hbx2 hbne hbl1 hbl2 hgap => ?_)
            have HBW := Lib.hid (HBW.out.trans (hbG.mono HBW.out.size))
            have HT0Z := Lib.hid (ownsF_below HT0Z.out hbG (Nat.le_refl _))
            have HOR := Lib.hid (ownR_below HOR.out hbG (Nat.le_refl _))
            have ZGE := Lib.hid hbG.size
            clear hbG
            obtain ⟨hgp1, hgp2⟩ := hgap _ (List.mem_cons_self ..)
            simp only at hgp1 hgp2
            clear hgap
            have BX14 := Lib.hid hbx1
            have BX15 := Lib.hid hbx2
            clear hbx1 hbx2
            try simp only [Act.put, List.getElem_toArray, List.getElem_cons_zero, List.getElem_cons_succ, List.setIfInBounds_toArray, List.set_cons_zero, List.set_cons_succ]
            have r0_0 : ghE.cell? ⟨bx1, 0, none⟩ = some (.string ⟨#[]⟩) := BX14.out.cell 0 (by simp)
            have y0_0 : ghE.frozen? ⟨bx1, 0, none⟩ = false := BX14.out.froz 0 (by simp)
            have r0_1 : ghE.cell? ⟨bx1, 1, none⟩ = some (.bool false) := BX14.out.cell 1 (by simp)
            have y0_1 : ghE.frozen? ⟨bx1, 1, none⟩ = false := BX14.out.froz 1 (by simp)
            have r0_2 : ghE.cell? ⟨bx1, 2, none⟩ = some (.bool false) := BX14.out.cell 2 (by simp)
            have y0_2 : ghE.frozen? ⟨bx1, 2, none⟩ = false := BX14.out.froz 2 (by simp)
            have r0_3 : ghE.cell? ⟨bx1, 3, none⟩ = some (.slice none 0 0) := BX14.out.cell 3 (by simp)
            have y0_3 : ghE.frozen? ⟨bx1, 3, none⟩ = false := BX14.out.froz 3 (by simp)
            have r0_4 : ghE.cell? ⟨bx1, 4, none⟩ = some (.int .i64 0) := BX14.out.cell 4 (by simp)
            have y0_4 : ghE.frozen? ⟨bx1, 4, none⟩ = false := BX14.out.froz 4 (by simp)
            have r1_0 : ghE.cell? ⟨bx2, 0, none⟩ = some (.int .i64 0) := BX15.out.cell 0 (by simp)
            have y1_0 : ghE.frozen? ⟨bx2, 0, none⟩ = false := BX15.out.froz 0 (by simp)
            have r1_1 : ghE.cell? ⟨bx2, 1, none⟩ = some (.int .i64 0) := BX15.out.cell 1 (by simp)
            have y1_1 : ghE.frozen? ⟨bx2, 1, none⟩ = false := BX15.out.froz 1 (by simp)
            have r1_2 : ghE.cell? ⟨bx2, 2, none⟩ = some (.string ⟨#[]⟩) := BX15.out.cell 2 (by simp)
            have y1_2 : ghE.frozen? ⟨bx2, 2, none⟩ = false := BX15.out.froz 2 (by simp)
            have r1_3 : ghE.cell? ⟨bx2, 3, none⟩ = some (.int .i64 0) := BX15.out.cell 3 (by simp)
            have y1_3 : ghE.frozen? ⟨bx2, 3, none⟩ = false := BX15.out.froz 3 (by simp)
            have r1_4 : ghE.cell? ⟨bx2, 4, none⟩ = some (.int .i64 0) := BX15.out.cell 4 (by simp)
            have y1_4 : ghE.frozen? ⟨bx2, 4, none⟩ = false := BX15.out.froz 4 (by simp)
            have l0 := BX14.out.lt
            have g0 : w15.heap.size ≤ bx1 := by have z0 := Z0.out; have zG0 := ZG0.out; have zK0 := ZK0.out; have zG1 := ZG1.out; have zK1 := ZK1.out; have zG2 := ZG2.out; have zK2 := ZK2.out; have zGE := ZGE.out; omega
            have l1 := BX15.out.lt
            have g1 : w15.heap.size ≤ bx2 := by have z0 := Z0.out; have zG0 := ZG0.out; have zK0 := ZK0.out; have zG1 := ZG1.out; have zK1 := ZK1.out; have zG2 := ZG2.out; have zK2 := ZK2.out; have zGE := ZGE.out; omega
            have ne0_1 : ¬ bx1 = bx2 := by have z0 := Z0.out; have zG0 := ZG0.out; have zK0 := ZK0.out; have zG1 := ZG1.out; have zK1 := ZK1.out; have zG2 := ZG2.out; have zK2 := ZK2.out; have zGE := ZGE.out; omega
            have ne1_0 : ¬ bx2 = bx1 := by have z0 := Z0.out; have zG0 := ZG0.out; have zK0 := ZK0.out; have zG1 := ZG1.out; have zK1 := ZK1.out; have zG2 := ZG2.out; have zK2 := ZK2.out; have zGE := ZGE.out; omega
            refine wpAnyH_ready (rs := [10]) (by kernel_rfl) (by simp) ?_
            refine AllReadyH.cons rfl (fun K hK => ?_) AllReadyH.nil
            go_simp
            refine hK.out _ _ ?_ (fun hHeld => ?_)
            · exact HSof.out _ (belQ5 HBW.out g0 _ _ _ _ _)
            clear hK K
            try simp only [Act.put, List.getElem_toArray, List.getElem_cons_zero, List.getElem_cons_succ, List.setIfInBounds_toArray, List.set_cons_zero, List.set_cons_succ]
            refine wpAnyH_ready (rs := [11]) (by kernel_rfl) (by simp) ?_
            refine AllReadyH.cons rfl (fun K hK => ?_) AllReadyH.nil
            go_simp
            refine hK.out _ _ ?_ (fun hHeld => ?_)
            · exact HSof.out _ (belQ5 (belQ5 HBW.out g0 _ _ _ _ _) g1 _ _ _ _ _)
            clear hK K
            try simp only [Act.put, List.getElem_toArray, List.getElem_cons_zero, List.getElem_cons_succ, List.setIfInBounds_toArray, List.set_cons_zero, List.set_cons_succ]
            refine wpAnyH_done (by kernel_rfl) ?_ _
            go_wp2_with fail
            go_meet
            exact ⟨_, _, pR, qR, _, _, rfl, rfl, (bxP5o (bxP5 BX14.out _ _ _ _ _) ne0_1 _ _ _ _ _), (bxP5 (bxP5o BX15.out ne1_0 _ _ _ _ _) _ _ _ _ _), (ownR_p5 (ownR_p5 HOR.out (by have z0 := Z0.out; have zG0 := ZG0.out; have zK0 := ZK0.out; have zG1 := ZG1.out; have zK1 := ZK1.out; have zG2 := ZG2.out; have zK2 := ZK2.out; have zGE := ZGE.out; omega) _ _ _ _ _) (by have z0 := Z0.out; have zG0 := ZG0.out; have zK0 := ZK0.out; have zG1 := ZG1.out; have zK1 := ZK1.out; have zG2 := ZG2.out; have zK2 := ZK2.out; have zGE := ZGE.out; omega) _ _ _ _ _), ⟨by have z0 := Z0.out; have zG0 := ZG0.out; have zK0 := ZK0.out; have zG1 := ZG1.out; have zK1 := ZK1.out; have zG2 := ZG2.out; have zK2 := ZK2.out; have zGE := ZGE.out; omega, by have z0 := Z0.out; have zG0 := ZG0.out; have zK0 := ZK0.out; have zG1 := ZG1.out; have zK1 := ZK1.out; have zG2 := ZG2.out; have zK2 := ZK2.out; have zGE := ZGE.out; (try simp); omega, (by have z0 := Z0.out; have zG0 := ZG0.out; have zK0 := ZK0.out; have zG1 := ZG1.out; have zK1 := ZK1.out; have zG2 := ZG2.out; have zK2 := ZK2.out; have zGE := ZGE.out; omega), g0, (by have z0 := Z0.out; have zG0 := ZG0.out; have zK0 := ZK0.out; have zG1 := ZG1.out; have zK1 := ZK1.out; have zG2 := ZG2.out; have zK2 := ZK2.out; have zGE := ZGE.out; omega), g1⟩, (belQ5 (belQ5 HBW.out g0 _ _ _ _ _) g1 _ _ _ _ _)⟩
          case rest =>
            obtain ⟨bh_14, bh_15, psh, qsh, loh, hih, rfl, rfl, hx0, hx1, hor, ⟨hloh, hhih, hdh0, hgh0, hdh1, hgh1⟩, hb⟩ := hcut
            obtain ⟨w16, rfl⟩ : ∃ u, u = wc := ⟨_, rfl⟩
            have Cw_w16 := Lib.hid (Cw_w15.out.trans (hb.mono Cw_w15.out.size))
            have Cw3_w16 := Lib.hid (Cw3_w15.out.trans (hb.mono Cw3_w15.out.size))
            have A0_w16 := Lib.hid (FlatAt.below A0_w15.out hb (Nat.le_refl _))
            have Rsa_w16 := Lib.hid (FlatAt.below Rsa_w15.out hb (Nat.le_refl _))
            have MK_w16 := Lib.hid (FlatAt.below MK_w15.out hb (Nat.le_refl _))
            have ep0_0_w16 := (hb.cell (p := ⟨w.heap.size, 0, none⟩) Lp0_w15).trans ep0_0_w15
            have ep0_1_w16 := (hb.cell (p := ⟨w.heap.size, 1, none⟩) Lp0_w15).trans ep0_1_w15
            have ep0_2_w16 := (hb.cell (p := ⟨w.heap.size, 2, none⟩) Lp0_w15).trans ep0_2_w15
            have ep0_3_w16 := (hb.cell (p := ⟨w.heap.size, 3, none⟩) Lp0_w15).trans ep0_3_w15
            have ep0_4_w16 := (hb.cell (p := ⟨w.heap.size, 4, none⟩) Lp0_w15).trans ep0_4_w15
            have Lp0_w16 : w.heap.size < w16.heap.size := by have h := hb.size; omega
            clear ep0_0_w15 ep0_1_w15 ep0_2_w15 ep0_3_w15 ep0_4_w15 Lp0_w15
            have ep1_0_w16 := (hb.cell (p := ⟨w.heap.size + 1, 0, none⟩) Lp1_w15).trans ep1_0_w15
            have ep1_1_w16 := (hb.cell (p := ⟨w.heap.size + 1, 1, none⟩) Lp1_w15).trans ep1_1_w15
            have ep1_2_w16 := (hb.cell (p := ⟨w.heap.size + 1, 2, none⟩) Lp1_w15).trans ep1_2_w15
            have ep1_3_w16 := (hb.cell (p := ⟨w.heap.size + 1, 3, none⟩) Lp1_w15).trans ep1_3_w15
            have Lp1_w16 : w.heap.size + 1 < w16.heap.size := by have h := hb.size; omega
            clear ep1_0_w15 ep1_1_w15 ep1_2_w15 ep1_3_w15 Lp1_w15
            have es0_0_w16 := (hb.cell (p := ⟨bs_6, 0, none⟩) Ls0_w15).trans es0_0_w15
            have es0_1_w16 := (hb.cell (p := ⟨bs_6, 1, none⟩) Ls0_w15).trans es0_1_w15
            have es0_2_w16 := (hb.cell (p := ⟨bs_6, 2, none⟩) Ls0_w15).trans es0_2_w15
            have es0_3_w16 := (hb.cell (p := ⟨bs_6, 3, none⟩) Ls0_w15).trans es0_3_w15
            have es0_4_w16 := (hb.cell (p := ⟨bs_6, 4, none⟩) Ls0_w15).trans es0_4_w15
            have Ls0_w16 : bs_6 < w16.heap.size := by have h := hb.size; omega
            clear es0_0_w15 es0_1_w15 es0_2_w15 es0_3_w15 es0_4_w15 Ls0_w15
            have es1_0_w16 := (hb.cell (p := ⟨bs_7, 0, none⟩) Ls1_w15).trans es1_0_w15
            have es1_1_w16 := (hb.cell (p := ⟨bs_7, 1, none⟩) Ls1_w15).trans es1_1_w15
            have es1_2_w16 := (hb.cell (p := ⟨bs_7, 2, none⟩) Ls1_w15).trans es1_2_w15
            have es1_3_w16 := (hb.cell (p := ⟨bs_7, 3, none⟩) Ls1_w15).trans es1_3_w15
            have es1_4_w16 := (hb.cell (p := ⟨bs_7, 4, none⟩) Ls1_w15).trans es1_4_w15
            have Ls1_w16 : bs_7 < w16.heap.size := by have h := hb.size; omega
            clear es1_0_w15 es1_1_w15 es1_2_w15 es1_3_w15 es1_4_w15 Ls1_w15
            have ex0_0_w16 := (hb.cell (p := ⟨w4.heap.size, 0, none⟩) Lx0_w15).trans ex0_0_w15
            have ex0_1_w16 := (hb.cell (p := ⟨w4.heap.size, 1, none⟩) Lx0_w15).trans ex0_1_w15
            have ex0_2_w16 := (hb.cell (p := ⟨w4.heap.size, 2, none⟩) Lx0_w15).trans ex0_2_w15
            have ex0_3_w16 := (hb.cell (p := ⟨w4.heap.size, 3, none⟩) Lx0_w15).trans ex0_3_w15
            have ex0_4_w16 := (hb.cell (p := ⟨w4.heap.size, 4, none⟩) Lx0_w15).trans ex0_4_w15
            have Lx0_w16 : w4.heap.size < w16.heap.size := by have h := hb.size; omega
            clear ex0_0_w15 ex0_1_w15 ex0_2_w15 ex0_3_w15 ex0_4_w15 Lx0_w15
            have eg0_0_w16 := (hb.cell (p := ⟨bg_9, 0, none⟩) Lg0_w15).trans eg0_0_w15
            have eg0_1_w16 := (hb.cell (p := ⟨bg_9, 1, none⟩) Lg0_w15).trans eg0_1_w15
            have eg0_2_w16 := (hb.cell (p := ⟨bg_9, 2, none⟩) Lg0_w15).trans eg0_2_w15
            have eg0_3_w16 := (hb.cell (p := ⟨bg_9, 3, none⟩) Lg0_w15).trans eg0_3_w15
            have eg0_4_w16 := (hb.cell (p := ⟨bg_9, 4, none⟩) Lg0_w15).trans eg0_4_w15
            have Lg0_w16 : bg_9 < w16.heap.size := by have h := hb.size; omega
            clear eg0_0_w15 eg0_1_w15 eg0_2_w15 eg0_3_w15 eg0_4_w15 Lg0_w15
            have eg1_0_w16 := (hb.cell (p := ⟨bg_10, 0, none⟩) Lg1_w15).trans eg1_0_w15
            have eg1_1_w16 := (hb.cell (p := ⟨bg_10, 1, none⟩) Lg1_w15).trans eg1_1_w15
            have eg1_2_w16 := (hb.cell (p := ⟨bg_10, 2, none⟩) Lg1_w15).trans eg1_2_w15
            have eg1_3_w16 := (hb.cell (p := ⟨bg_10, 3, none⟩) Lg1_w15).trans eg1_3_w15
            have eg1_4_w16 := (hb.cell (p := ⟨bg_10, 4, none⟩) Lg1_w15).trans eg1_4_w15
            have Lg1_w16 : bg_10 < w16.heap.size := by have h := hb.size; omega
            clear eg1_0_w15 eg1_1_w15 eg1_2_w15 eg1_3_w15 eg1_4_w15 Lg1_w15
            have Rh := Lib.hid hor
            have Rha := Lib.hid (ownR_at hor (by have := HRL.out; omega))
            clear hor
            have LCRh_w := Lib.hid (Nat.le_trans Cw_w15.out.size hloh)
            have LCRh_w3 := Lib.hid (Nat.le_trans Cw3_w15.out.size hloh)
            have LBRh_p0 := Lib.hid (Nat.lt_of_lt_of_le HLTh_p0.out hloh)
            have LBRh_p1 := Lib.hid (Nat.lt_of_lt_of_le HLTh_p1.out hloh)
            have LBRh_s0 := Lib.hid (Nat.lt_of_lt_of_le HLTh_s0.out hloh)
            have LBRh_s1 := Lib.hid (Nat.lt_of_lt_of_le HLTh_s1.out hloh)
            have LBRh_x0 := Lib.hid (Nat.lt_of_lt_of_le HLTh_x0.out hloh)
            have LBRh_g0 := Lib.hid (Nat.lt_of_lt_of_le HLTh_g0.out hloh)
            have LBRh_g1 := Lib.hid (Nat.lt_of_lt_of_le HLTh_g1.out hloh)
            have eh0_0_w16 : w16.cell? ⟨bh_14, 0, none⟩ = some (.string ⟨a0.toArray⟩) := hx0.cell 0 (by simp)
            have eh0_1_w16 : w16.cell? ⟨bh_14, 1, none⟩ = some (.bool a1) := hx0.cell 1 (by simp)
            have eh0_2_w16 : w16.cell? ⟨bh_14, 2, none⟩ = some (.bool a2) := hx0.cell 2 (by simp)
            have eh0_3_w16 : w16.cell? ⟨bh_14, 3, none⟩ = some ((.slice psh a3.length qsh)) := hx0.cell 3 (by simp)
            have eh0_4_w16 : w16.cell? ⟨bh_14, 4, none⟩ = some (.int .i64 a4) := hx0.cell 4 (by simp)
            have Lh0_w16 := hx0.lt
            clear hx0
            have DBRh_h0 := Lib.hid hdh0
            have GBRs_h0 := Lib.hid (show his ≤ bh_14 by have h := Cw3_w15.out.size; omega)
            have eh1_0_w16 : w16.cell? ⟨bh_15, 0, none⟩ = some (.int .i64 m0) := hx1.cell 0 (by simp)
            have eh1_1_w16 : w16.cell? ⟨bh_15, 1, none⟩ = some (.int .i64 m1) := hx1.cell 1 (by simp)
            have eh1_2_w16 : w16.cell? ⟨bh_15, 2, none⟩ = some (.string ⟨m2.toArray⟩) := hx1.cell 2 (by simp)
            have eh1_3_w16 : w16.cell? ⟨bh_15, 3, none⟩ = some (.int .i64 m3) := hx1.cell 3 (by simp)
            have eh1_4_w16 : w16.cell? ⟨bh_15, 4, none⟩ = some (.int .i64 m4) := hx1.cell 4 (by simp)
            have Lh1_w16 := hx1.lt
            clear hx1
            have DBRh_h1 := Lib.hid hdh1
            have GBRs_h1 := Lib.hid (show his ≤ bh_15 by have h := Cw3_w15.out.size; omega)
            clear hb HSof
            go_wp2_with fail
            refine (eqCore_any (vCore (⟨a0, a1, a2, a3, a4⟩ : CoreD) (.slice psh a3.length qsh)) (vCore (⟨a0, a1, a2, a3, a4⟩ : CoreD) (.slice pss a3.length qss)) (⟨a0, a1, a2, a3, a4⟩ : CoreD) (⟨a0, a1, a2, a3, a4⟩ : CoreD) _ ⟨(.slice psh a3.length qsh), rfl, (FlatAt.below Rha.out (by repeat (first | exact Below.refl _ _ | refine Below.alloc ?_ (by simp; try omega) _ | refine Below.setCell ?_ (by simp; try omega) _ | refine belN ?_ _ | refine belD ?_)) (Nat.le_refl _))⟩ ⟨(.slice pss a3.length qss), rfl, (FlatAt.below Rsa_w16.out (by repeat (first | exact Below.refl _ _ | refine Below.alloc ?_ (by simp; try omega) _ | refine Below.setCell ?_ (by simp; try omega) _ | refine belN ?_ _ | refine belD ?_)) (Nat.le_refl _))⟩).mono ?_
            rintro e w17 ⟨rfl, hb0⟩
            have hb := below_step (w := w16) (by repeat (first | exact Below.refl _ _ | refine Below.alloc ?_ (by simp; try omega) _ | refine Below.setCell ?_ (by simp; try omega) _ | refine belN ?_ _ | refine belD ?_)) hb0
            have Cw_w17 := Lib.hid (Cw_w16.out.trans (hb.mono Cw_w16.out.size))
            have Cw3_w17 := Lib.hid (Cw3_w16.out.trans (hb.mono Cw3_w16.out.size))
            have Cw16_w17 := Lib.hid hb
            have A0_w17 := Lib.hid (FlatAt.below A0_w16.out hb (Nat.le_refl _))
            have Rsa_w17 := Lib.hid (FlatAt.below Rsa_w16.out hb (Nat.le_refl _))
            have MK_w17 := Lib.hid (FlatAt.below MK_w16.out hb (Nat.le_refl _))
            have Rha_w17 := Lib.hid (FlatAt.below Rha.out hb (Nat.le_refl _))
            have Rh_w17 := Lib.hid (ownR_below Rh.out hb (Nat.le_refl _))
            have ep0_0_w17 := (hb.cell (p := ⟨w.heap.size, 0, none⟩) Lp0_w16).trans ep0_0_w16
            have ep0_1_w17 := (hb.cell (p := ⟨w.heap.size, 1, none⟩) Lp0_w16).trans ep0_1_w16
            have ep0_2_w17 := (hb.cell (p := ⟨w.heap.size, 2, none⟩) Lp0_w16).trans ep0_2_w16
            have ep0_3_w17 := (hb.cell (p := ⟨w.heap.size, 3, none⟩) Lp0_w16).trans ep0_3_w16
            have ep0_4_w17 := (hb.cell (p := ⟨w.heap.size, 4, none⟩) Lp0_w16).trans ep0_4_w16
            have Lp0_w17 : w.heap.size < w17.heap.size := by have h := hb.size; omega
            clear ep0_0_w16 ep0_1_w16 ep0_2_w16 ep0_3_w16 ep0_4_w16 Lp0_w16
            have ep1_0_w17 := (hb.cell (p := ⟨w.heap.size + 1, 0, none⟩) Lp1_w16).trans ep1_0_w16
            have ep1_1_w17 := (hb.cell (p := ⟨w.heap.size + 1, 1, none⟩) Lp1_w16).trans ep1_1_w16
            have ep1_2_w17 := (hb.cell (p := ⟨w.heap.size + 1, 2, none⟩) Lp1_w16).trans ep1_2_w16
            have ep1_3_w17 := (hb.cell (p := ⟨w.heap.size + 1, 3, none⟩) Lp1_w16).trans ep1_3_w16
            have Lp1_w17 : w.heap.size + 1 < w17.heap.size := by have h := hb.size; omega
            clear ep1_0_w16 ep1_1_w16 ep1_2_w16 ep1_3_w16 Lp1_w16
            have es0_0_w17 := (hb.cell (p := ⟨bs_6, 0, none⟩) Ls0_w16).trans es0_0_w16
            have es0_1_w17 := (hb.cell (p := ⟨bs_6, 1, none⟩) Ls0_w16).trans es0_1_w16
            have es0_2_w17 := (hb.cell (p := ⟨bs_6, 2, none⟩) Ls0_w16).trans es0_2_w16
            have es0_3_w17 := (hb.cell (p := ⟨bs_6, 3, none⟩) Ls0_w16).trans es0_3_w16
            have es0_4_w17 := (hb.cell (p := ⟨bs_6, 4, none⟩) Ls0_w16).trans es0_4_w16
            have Ls0_w17 : bs_6 < w17.heap.size := by have h := hb.size; omega
            clear es0_0_w16 es0_1_w16 es0_2_w16 es0_3_w16 es0_4_w16 Ls0_w16
            have es1_0_w17 := (hb.cell (p := ⟨bs_7, 0, none⟩) Ls1_w16).trans es1_0_w16
            have es1_1_w17 := (hb.cell (p := ⟨bs_7, 1, none⟩) Ls1_w16).trans es1_1_w16
            have es1_2_w17 := (hb.cell (p := ⟨bs_7, 2, none⟩) Ls1_w16).trans es1_2_w16
            have es1_3_w17 := (hb.cell (p := ⟨bs_7, 3, none⟩) Ls1_w16).trans es1_3_w16
            have es1_4_w17 := (hb.cell (p := ⟨bs_7, 4, none⟩) Ls1_w16).trans es1_4_w16
            have Ls1_w17 : bs_7 < w17.heap.size := by have h := hb.size; omega
            clear es1_0_w16 es1_1_w16 es1_2_w16 es1_3_w16 es1_4_w16 Ls1_w16
            have ex0_0_w17 := (hb.cell (p := ⟨w4.heap.size, 0, none⟩) Lx0_w16).trans ex0_0_w16
            have ex0_1_w17 := (hb.cell (p := ⟨w4.heap.size, 1, none⟩) Lx0_w16).trans ex0_1_w16
            have ex0_2_w17 := (hb.cell (p := ⟨w4.heap.size, 2, none⟩) Lx0_w16).trans ex0_2_w16
            have ex0_3_w17 := (hb.cell (p := ⟨w4.heap.size, 3, none⟩) Lx0_w16).trans ex0_3_w16
            have ex0_4_w17 := (hb.cell (p := ⟨w4.heap.size, 4, none⟩) Lx0_w16).trans ex0_4_w16
            have Lx0_w17 : w4.heap.size < w17.heap.size := by have h := hb.size; omega
            clear ex0_0_w16 ex0_1_w16 ex0_2_w16 ex0_3_w16 ex0_4_w16 Lx0_w16
            have eg0_0_w17 := (hb.cell (p := ⟨bg_9, 0, none⟩) Lg0_w16).trans eg0_0_w16
            have eg0_1_w17 := (hb.cell (p := ⟨bg_9, 1, none⟩) Lg0_w16).trans eg0_1_w16
            have eg0_2_w17 := (hb.cell (p := ⟨bg_9, 2, none⟩) Lg0_w16).trans eg0_2_w16
            have eg0_3_w17 := (hb.cell (p := ⟨bg_9, 3, none⟩) Lg0_w16).trans eg0_3_w16
            have eg0_4_w17 := (hb.cell (p := ⟨bg_9, 4, none⟩) Lg0_w16).trans eg0_4_w16
            have Lg0_w17 : bg_9 < w17.heap.size := by have h := hb.size; omega
            clear eg0_0_w16 eg0_1_w16 eg0_2_w16 eg0_3_w16 eg0_4_w16 Lg0_w16
            have eg1_0_w17 := (hb.cell (p := ⟨bg_10, 0, none⟩) Lg1_w16).trans eg1_0_w16
            have eg1_1_w17 := (hb.cell (p := ⟨bg_10, 1, none⟩) Lg1_w16).trans eg1_1_w16
            have eg1_2_w17 := (hb.cell (p := ⟨bg_10, 2, none⟩) Lg1_w16).trans eg1_2_w16
            have eg1_3_w17 := (hb.cell (p := ⟨bg_10, 3, none⟩) Lg1_w16).trans eg1_3_w16
            have eg1_4_w17 := (hb.cell (p := ⟨bg_10, 4, none⟩) Lg1_w16).trans eg1_4_w16
            have Lg1_w17 : bg_10 < w17.heap.size := by have h := hb.size; omega
            clear eg1_0_w16 eg1_1_w16 eg1_2_w16 eg1_3_w16 eg1_4_w16 Lg1_w16
            have eh0_0_w17 := (hb.cell (p := ⟨bh_14, 0, none⟩) Lh0_w16).trans eh0_0_w16
            have eh0_1_w17 := (hb.cell (p := ⟨bh_14, 1, none⟩) Lh0_w16).trans eh0_1_w16
            have eh0_2_w17 := (hb.cell (p := ⟨bh_14, 2, none⟩) Lh0_w16).trans eh0_2_w16
            have eh0_3_w17 := (hb.cell (p := ⟨bh_14, 3, none⟩) Lh0_w16).trans eh0_3_w16
            have eh0_4_w17 := (hb.cell (p := ⟨bh_14, 4, none⟩) Lh0_w16).trans eh0_4_w16
            have Lh0_w17 : bh_14 < w17.heap.size := by have h := hb.size; omega
            clear eh0_0_w16 eh0_1_w16 eh0_2_w16 eh0_3_w16 eh0_4_w16 Lh0_w16
            have eh1_0_w17 := (hb.cell (p := ⟨bh_15, 0, none⟩) Lh1_w16).trans eh1_0_w16
            have eh1_1_w17 := (hb.cell (p := ⟨bh_15, 1, none⟩) Lh1_w16).trans eh1_1_w16
            have eh1_2_w17 := (hb.cell (p := ⟨bh_15, 2, none⟩) Lh1_w16).trans eh1_2_w16
            have eh1_3_w17 := (hb.cell (p := ⟨bh_15, 3, none⟩) Lh1_w16).trans eh1_3_w16
            have eh1_4_w17 := (hb.cell (p := ⟨bh_15, 4, none⟩) Lh1_w16).trans eh1_4_w16
            have Lh1_w17 : bh_15 < w17.heap.size := by have h := hb.size; omega
            clear eh1_0_w16 eh1_1_w16 eh1_2_w16 eh1_3_w16 eh1_4_w16 Lh1_w16
            rw [show decide ((⟨a0, a1, a2, a3, a4⟩ : CoreD) = (⟨a0, a1, a2, a3, a4⟩ : CoreD)) = true by simp]
            clear hb hb0
            go_wp2_with fail
            refine (eqReply_any (⟨m0, m1, m2, m3, m4⟩ : ReplyD) (⟨m0, m1, m2, m3, m4⟩ : ReplyD) _).mono ?_
            rintro e w18 ⟨rfl, hb0⟩
            have hb := below_step (w := w17) (by repeat (first | exact Below.refl _ _ | refine Below.alloc ?_ (by simp; try omega) _ | refine Below.setCell ?_ (by simp; try omega) _ | refine belN ?_ _ | refine belD ?_)) hb0
            have Cw_w18 := Lib.hid (Cw_w17.out.trans (hb.mono Cw_w17.out.size))
            have Cw3_w18 := Lib.hid (Cw3_w17.out.trans (hb.mono Cw3_w17.out.size))
            have Cw16_w18 := Lib.hid (Cw16_w17.out.trans (hb.mono Cw16_w17.out.size))
            have A0_w18 := Lib.hid (FlatAt.below A0_w17.out hb (Nat.le_refl _))
            have Rsa_w18 := Lib.hid (FlatAt.below Rsa_w17.out hb (Nat.le_refl _))
            have MK_w18 := Lib.hid (FlatAt.below MK_w17.out hb (Nat.le_refl _))
            have Rha_w18 := Lib.hid (FlatAt.below Rha_w17.out hb (Nat.le_refl _))
            have Rh_w18 := Lib.hid (ownR_below Rh_w17.out hb (Nat.le_refl _))
            have ep0_0_w18 := (hb.cell (p := ⟨w.heap.size, 0, none⟩) Lp0_w17).trans ep0_0_w17
            have ep0_1_w18 := (hb.cell (p := ⟨w.heap.size, 1, none⟩) Lp0_w17).trans ep0_1_w17
            have ep0_2_w18 := (hb.cell (p := ⟨w.heap.size, 2, none⟩) Lp0_w17).trans ep0_2_w17
            have ep0_3_w18 := (hb.cell (p := ⟨w.heap.size, 3, none⟩) Lp0_w17).trans ep0_3_w17
            have ep0_4_w18 := (hb.cell (p := ⟨w.heap.size, 4, none⟩) Lp0_w17).trans ep0_4_w17
            have Lp0_w18 : w.heap.size < w18.heap.size := by have h := hb.size; omega
            clear ep0_0_w17 ep0_1_w17 ep0_2_w17 ep0_3_w17 ep0_4_w17 Lp0_w17
            have ep1_0_w18 := (hb.cell (p := ⟨w.heap.size + 1, 0, none⟩) Lp1_w17).trans ep1_0_w17
            have ep1_1_w18 := (hb.cell (p := ⟨w.heap.size + 1, 1, none⟩) Lp1_w17).trans ep1_1_w17
            have ep1_2_w18 := (hb.cell (p := ⟨w.heap.size + 1, 2, none⟩) Lp1_w17).trans ep1_2_w17
            have ep1_3_w18 := (hb.cell (p := ⟨w.heap.size + 1, 3, none⟩) Lp1_w17).trans ep1_3_w17
            have Lp1_w18 : w.heap.size + 1 < w18.heap.size := by have h := hb.size; omega
            clear ep1_0_w17 ep1_1_w17 ep1_2_w17 ep1_3_w17 Lp1_w17
            have es0_0_w18 := (hb.cell (p := ⟨bs_6, 0, none⟩) Ls0_w17).trans es0_0_w17
            have es0_1_w18 := (hb.cell (p := ⟨bs_6, 1, none⟩) Ls0_w17).trans es0_1_w17
            have es0_2_w18 := (hb.cell (p := ⟨bs_6, 2, none⟩) Ls0_w17).trans es0_2_w17
            have es0_3_w18 := (hb.cell (p := ⟨bs_6, 3, none⟩) Ls0_w17).trans es0_3_w17
            have es0_4_w18 := (hb.cell (p := ⟨bs_6, 4, none⟩) Ls0_w17).trans es0_4_w17
            have Ls0_w18 : bs_6 < w18.heap.size := by have h := hb.size; omega
            clear es0_0_w17 es0_1_w17 es0_2_w17 es0_3_w17 es0_4_w17 Ls0_w17
            have es1_0_w18 := (hb.cell (p := ⟨bs_7, 0, none⟩) Ls1_w17).trans es1_0_w17
            have es1_1_w18 := (hb.cell (p := ⟨bs_7, 1, none⟩) Ls1_w17).trans es1_1_w17
            have es1_2_w18 := (hb.cell (p := ⟨bs_7, 2, none⟩) Ls1_w17).trans es1_2_w17
            have es1_3_w18 := (hb.cell (p := ⟨bs_7, 3, none⟩) Ls1_w17).trans es1_3_w17
            have es1_4_w18 := (hb.cell (p := ⟨bs_7, 4, none⟩) Ls1_w17).trans es1_4_w17
            have Ls1_w18 : bs_7 < w18.heap.size := by have h := hb.size; omega
            clear es1_0_w17 es1_1_w17 es1_2_w17 es1_3_w17 es1_4_w17 Ls1_w17
            have ex0_0_w18 := (hb.cell (p := ⟨w4.heap.size, 0, none⟩) Lx0_w17).trans ex0_0_w17
            have ex0_1_w18 := (hb.cell (p := ⟨w4.heap.size, 1, none⟩) Lx0_w17).trans ex0_1_w17
            have ex0_2_w18 := (hb.cell (p := ⟨w4.heap.size, 2, none⟩) Lx0_w17).trans ex0_2_w17
            have ex0_3_w18 := (hb.cell (p := ⟨w4.heap.size, 3, none⟩) Lx0_w17).trans ex0_3_w17
            have ex0_4_w18 := (hb.cell (p := ⟨w4.heap.size, 4, none⟩) Lx0_w17).trans ex0_4_w17
            have Lx0_w18 : w4.heap.size < w18.heap.size := by have h := hb.size; omega
            clear ex0_0_w17 ex0_1_w17 ex0_2_w17 ex0_3_w17 ex0_4_w17 Lx0_w17
            have eg0_0_w18 := (hb.cell (p := ⟨bg_9, 0, none⟩) Lg0_w17).trans eg0_0_w17
            have eg0_1_w18 := (hb.cell (p := ⟨bg_9, 1, none⟩) Lg0_w17).trans eg0_1_w17
            have eg0_2_w18 := (hb.cell (p := ⟨bg_9, 2, none⟩) Lg0_w17).trans eg0_2_w17
            have eg0_3_w18 := (hb.cell (p := ⟨bg_9, 3, none⟩) Lg0_w17).trans eg0_3_w17
            have eg0_4_w18 := (hb.cell (p := ⟨bg_9, 4, none⟩) Lg0_w17).trans eg0_4_w17
            have Lg0_w18 : bg_9 < w18.heap.size := by have h := hb.size; omega
            clear eg0_0_w17 eg0_1_w17 eg0_2_w17 eg0_3_w17 eg0_4_w17 Lg0_w17
            have eg1_0_w18 := (hb.cell (p := ⟨bg_10, 0, none⟩) Lg1_w17).trans eg1_0_w17
            have eg1_1_w18 := (hb.cell (p := ⟨bg_10, 1, none⟩) Lg1_w17).trans eg1_1_w17
            have eg1_2_w18 := (hb.cell (p := ⟨bg_10, 2, none⟩) Lg1_w17).trans eg1_2_w17
            have eg1_3_w18 := (hb.cell (p := ⟨bg_10, 3, none⟩) Lg1_w17).trans eg1_3_w17
            have eg1_4_w18 := (hb.cell (p := ⟨bg_10, 4, none⟩) Lg1_w17).trans eg1_4_w17
            have Lg1_w18 : bg_10 < w18.heap.size := by have h := hb.size; omega
            clear eg1_0_w17 eg1_1_w17 eg1_2_w17 eg1_3_w17 eg1_4_w17 Lg1_w17
            have eh0_0_w18 := (hb.cell (p := ⟨bh_14, 0, none⟩) Lh0_w17).trans eh0_0_w17
            have eh0_1_w18 := (hb.cell (p := ⟨bh_14, 1, none⟩) Lh0_w17).trans eh0_1_w17
            have eh0_2_w18 := (hb.cell (p := ⟨bh_14, 2, none⟩) Lh0_w17).trans eh0_2_w17
            have eh0_3_w18 := (hb.cell (p := ⟨bh_14, 3, none⟩) Lh0_w17).trans eh0_3_w17
            have eh0_4_w18 := (hb.cell (p := ⟨bh_14, 4, none⟩) Lh0_w17).trans eh0_4_w17
            have Lh0_w18 : bh_14 < w18.heap.size := by have h := hb.size; omega
            clear eh0_0_w17 eh0_1_w17 eh0_2_w17 eh0_3_w17 eh0_4_w17 Lh0_w17
            have eh1_0_w18 := (hb.cell (p := ⟨bh_15, 0, none⟩) Lh1_w17).trans eh1_0_w17
            have eh1_1_w18 := (hb.cell (p := ⟨bh_15, 1, none⟩) Lh1_w17).trans eh1_1_w17
            have eh1_2_w18 := (hb.cell (p := ⟨bh_15, 2, none⟩) Lh1_w17).trans eh1_2_w17
            have eh1_3_w18 := (hb.cell (p := ⟨bh_15, 3, none⟩) Lh1_w17).trans eh1_3_w17
            have eh1_4_w18 := (hb.cell (p := ⟨bh_15, 4, none⟩) Lh1_w17).trans eh1_4_w17
            have Lh1_w18 : bh_15 < w18.heap.size := by have h := hb.size; omega
            clear eh1_0_w17 eh1_1_w17 eh1_2_w17 eh1_3_w17 eh1_4_w17 Lh1_w17
            rw [show decide ((⟨m0, m1, m2, m3, m4⟩ : ReplyD) = (⟨m0, m1, m2, m3, m4⟩ : ReplyD)) = true by simp]
            clear hb hb0
            go_wp2_with fail
            refine (heldCore_any (vCore (⟨a0, a1, a2, a3, a4⟩ : CoreD) (.slice psg a3.length qsg)) (⟨a0, a1, a2, a3, a4⟩ : CoreD) a3.length 1 _ ⟨(.slice psg a3.length qsg), rfl, (FlatAt.below MK_w18.out (by repeat (first | exact Below.refl _ _ | refine Below.alloc ?_ (by simp; try omega) _ | refine Below.setCell ?_ (by simp; try omega) _ | refine belN ?_ _ | refine belD ?_)) (Nat.le_refl _))⟩ (by have := HRL.out; omega) (by omega) (by omega)).mono ?_
            rintro e w19 ⟨rfl, hb0⟩
            have hb := below_step (w := w18) (by repeat (first | exact Below.refl _ _ | refine Below.alloc ?_ (by simp; try omega) _ | refine Below.setCell ?_ (by simp; try omega) _ | refine belN ?_ _ | refine belD ?_)) hb0
            have Cw_w19 := Lib.hid (Cw_w18.out.trans (hb.mono Cw_w18.out.size))
            have Cw3_w19 := Lib.hid (Cw3_w18.out.trans (hb.mono Cw3_w18.out.size))
            have Cw16_w19 := Lib.hid (Cw16_w18.out.trans (hb.mono Cw16_w18.out.size))
            have A0_w19 := Lib.hid (FlatAt.below A0_w18.out hb (Nat.le_refl _))
            have Rsa_w19 := Lib.hid (FlatAt.below Rsa_w18.out hb (Nat.le_refl _))
            have MK_w19 := Lib.hid (FlatAt.below MK_w18.out hb (Nat.le_refl _))
            have Rha_w19 := Lib.hid (FlatAt.below Rha_w18.out hb (Nat.le_refl _))
            have Rh_w19 := Lib.hid (ownR_below Rh_w18.out hb (Nat.le_refl _))
            have ep0_0_w19 := (hb.cell (p := ⟨w.heap.size, 0, none⟩) Lp0_w18).trans ep0_0_w18
            have ep0_1_w19 := (hb.cell (p := ⟨w.heap.size, 1, none⟩) Lp0_w18).trans ep0_1_w18
            have ep0_2_w19 := (hb.cell (p := ⟨w.heap.size, 2, none⟩) Lp0_w18).trans ep0_2_w18
            have ep0_3_w19 := (hb.cell (p := ⟨w.heap.size, 3, none⟩) Lp0_w18).trans ep0_3_w18
            have ep0_4_w19 := (hb.cell (p := ⟨w.heap.size, 4, none⟩) Lp0_w18).trans ep0_4_w18
            have Lp0_w19 : w.heap.size < w19.heap.size := by have h := hb.size; omega
            clear ep0_0_w18 ep0_1_w18 ep0_2_w18 ep0_3_w18 ep0_4_w18 Lp0_w18
            have ep1_0_w19 := (hb.cell (p := ⟨w.heap.size + 1, 0, none⟩) Lp1_w18).trans ep1_0_w18
            have ep1_1_w19 := (hb.cell (p := ⟨w.heap.size + 1, 1, none⟩) Lp1_w18).trans ep1_1_w18
            have ep1_2_w19 := (hb.cell (p := ⟨w.heap.size + 1, 2, none⟩) Lp1_w18).trans ep1_2_w18
            have ep1_3_w19 := (hb.cell (p := ⟨w.heap.size + 1, 3, none⟩) Lp1_w18).trans ep1_3_w18
            have Lp1_w19 : w.heap.size + 1 < w19.heap.size := by have h := hb.size; omega
            clear ep1_0_w18 ep1_1_w18 ep1_2_w18 ep1_3_w18 Lp1_w18
            have es0_0_w19 := (hb.cell (p := ⟨bs_6, 0, none⟩) Ls0_w18).trans es0_0_w18
            have es0_1_w19 := (hb.cell (p := ⟨bs_6, 1, none⟩) Ls0_w18).trans es0_1_w18
            have es0_2_w19 := (hb.cell (p := ⟨bs_6, 2, none⟩) Ls0_w18).trans es0_2_w18
            have es0_3_w19 := (hb.cell (p := ⟨bs_6, 3, none⟩) Ls0_w18).trans es0_3_w18
            have es0_4_w19 := (hb.cell (p := ⟨bs_6, 4, none⟩) Ls0_w18).trans es0_4_w18
            have Ls0_w19 : bs_6 < w19.heap.size := by have h := hb.size; omega
            clear es0_0_w18 es0_1_w18 es0_2_w18 es0_3_w18 es0_4_w18 Ls0_w18
            have es1_0_w19 := (hb.cell (p := ⟨bs_7, 0, none⟩) Ls1_w18).trans es1_0_w18
            have es1_1_w19 := (hb.cell (p := ⟨bs_7, 1, none⟩) Ls1_w18).trans es1_1_w18
            have es1_2_w19 := (hb.cell (p := ⟨bs_7, 2, none⟩) Ls1_w18).trans es1_2_w18
            have es1_3_w19 := (hb.cell (p := ⟨bs_7, 3, none⟩) Ls1_w18).trans es1_3_w18
            have es1_4_w19 := (hb.cell (p := ⟨bs_7, 4, none⟩) Ls1_w18).trans es1_4_w18
            have Ls1_w19 : bs_7 < w19.heap.size := by have h := hb.size; omega
            clear es1_0_w18 es1_1_w18 es1_2_w18 es1_3_w18 es1_4_w18 Ls1_w18
            have ex0_0_w19 := (hb.cell (p := ⟨w4.heap.size, 0, none⟩) Lx0_w18).trans ex0_0_w18
            have ex0_1_w19 := (hb.cell (p := ⟨w4.heap.size, 1, none⟩) Lx0_w18).trans ex0_1_w18
            have ex0_2_w19 := (hb.cell (p := ⟨w4.heap.size, 2, none⟩) Lx0_w18).trans ex0_2_w18
            have ex0_3_w19 := (hb.cell (p := ⟨w4.heap.size, 3, none⟩) Lx0_w18).trans ex0_3_w18
            have ex0_4_w19 := (hb.cell (p := ⟨w4.heap.size, 4, none⟩) Lx0_w18).trans ex0_4_w18
            have Lx0_w19 : w4.heap.size < w19.heap.size := by have h := hb.size; omega
            clear ex0_0_w18 ex0_1_w18 ex0_2_w18 ex0_3_w18 ex0_4_w18 Lx0_w18
            have eg0_0_w19 := (hb.cell (p := ⟨bg_9, 0, none⟩) Lg0_w18).trans eg0_0_w18
            have eg0_1_w19 := (hb.cell (p := ⟨bg_9, 1, none⟩) Lg0_w18).trans eg0_1_w18
            have eg0_2_w19 := (hb.cell (p := ⟨bg_9, 2, none⟩) Lg0_w18).trans eg0_2_w18
            have eg0_3_w19 := (hb.cell (p := ⟨bg_9, 3, none⟩) Lg0_w18).trans eg0_3_w18
            have eg0_4_w19 := (hb.cell (p := ⟨bg_9, 4, none⟩) Lg0_w18).trans eg0_4_w18
            have Lg0_w19 : bg_9 < w19.heap.size := by have h := hb.size; omega
            clear eg0_0_w18 eg0_1_w18 eg0_2_w18 eg0_3_w18 eg0_4_w18 Lg0_w18
            have eg1_0_w19 := (hb.cell (p := ⟨bg_10, 0, none⟩) Lg1_w18).trans eg1_0_w18
            have eg1_1_w19 := (hb.cell (p := ⟨bg_10, 1, none⟩) Lg1_w18).trans eg1_1_w18
            have eg1_2_w19 := (hb.cell (p := ⟨bg_10, 2, none⟩) Lg1_w18).trans eg1_2_w18
            have eg1_3_w19 := (hb.cell (p := ⟨bg_10, 3, none⟩) Lg1_w18).trans eg1_3_w18
            have eg1_4_w19 := (hb.cell (p := ⟨bg_10, 4, none⟩) Lg1_w18).trans eg1_4_w18
            have Lg1_w19 : bg_10 < w19.heap.size := by have h := hb.size; omega
            clear eg1_0_w18 eg1_1_w18 eg1_2_w18 eg1_3_w18 eg1_4_w18 Lg1_w18
            have eh0_0_w19 := (hb.cell (p := ⟨bh_14, 0, none⟩) Lh0_w18).trans eh0_0_w18
            have eh0_1_w19 := (hb.cell (p := ⟨bh_14, 1, none⟩) Lh0_w18).trans eh0_1_w18
            have eh0_2_w19 := (hb.cell (p := ⟨bh_14, 2, none⟩) Lh0_w18).trans eh0_2_w18
            have eh0_3_w19 := (hb.cell (p := ⟨bh_14, 3, none⟩) Lh0_w18).trans eh0_3_w18
            have eh0_4_w19 := (hb.cell (p := ⟨bh_14, 4, none⟩) Lh0_w18).trans eh0_4_w18
            have Lh0_w19 : bh_14 < w19.heap.size := by have h := hb.size; omega
            clear eh0_0_w18 eh0_1_w18 eh0_2_w18 eh0_3_w18 eh0_4_w18 Lh0_w18
            have eh1_0_w19 := (hb.cell (p := ⟨bh_15, 0, none⟩) Lh1_w18).trans eh1_0_w18
            have eh1_1_w19 := (hb.cell (p := ⟨bh_15, 1, none⟩) Lh1_w18).trans eh1_1_w18
            have eh1_2_w19 := (hb.cell (p := ⟨bh_15, 2, none⟩) Lh1_w18).trans eh1_2_w18
            have eh1_3_w19 := (hb.cell (p := ⟨bh_15, 3, none⟩) Lh1_w18).trans eh1_3_w18
            have eh1_4_w19 := (hb.cell (p := ⟨bh_15, 4, none⟩) Lh1_w18).trans eh1_4_w18
            have Lh1_w19 : bh_15 < w19.heap.size := by have h := hb.size; omega
            clear eh1_0_w18 eh1_1_w18 eh1_2_w18 eh1_3_w18 eh1_4_w18 Lh1_w18
            clear hb hb0
            go_wp2_with fail
            go_ret
            exact ⟨rfl, below_to Cw_w19.out (by repeat (first | exact Below.refl _ _ | refine Below.alloc ?_ (by simp; try omega) _ | refine Below.setCell ?_ (by simp; try omega) _ | refine belN ?_ _ | refine belD ?_))⟩
set_option maxRecDepth 100000 in
theorem fnExactCallCore_lifted (os : Os) (started : os.Started) (H : Type) (enc : TypeId × Value → H) :
    ReturnsInHanded {} Tryz.checked os 5 .any (Rows.fnExactCallCoreSpec.pre6 enc Tryz.prog Tryz.f5 Rows.fnExactCallCoreRow.domain false) (Rows.fnExactCallCoreSpec.post enc Tryz.prog Tryz.f5 false true false false) := by
  refine returnsInHanded_of_change_shaped (C := Tryz.checked) ownK started (by kernel_rfl) Tryz.func5
    (ChangeSpec.witness6 (enc := enc) (C := Tryz.checked) false ⟨#[], #[.agg #[.string ⟨#[]⟩, .bool false, .bool false, .slice none 0 0, .int .i64 0], .agg #[.string ⟨#[]⟩, .string ⟨#[]⟩, .int .i64 0, .string ⟨#[]⟩]], []⟩ 8 (by kernel_rfl) (by kernel_rfl) (by kernel_rfl) (by kernel_rfl)) ?_
  intro W base args ds gs before hval0 hW _ _ hsh _
  have hval : ∀ (j : Nat) t v, Tryz.f5.params[j]? = some t → args[j]? = some v → Value.okWide Tryz.prog W .any base t v := hval0
  have hW' := hW
  obtain ⟨p, q, hA0, _, rfl, _, _⟩ := hW
  have hA : DataW.TrodAll enc Tryz.prog W 0 (fun _ => true) true Tryz.f5.params.toList args.toList ds p := hA0
  rw [Tryz.params5] at hA hval
  obtain ⟨v0, vs0, d0, ds0, p0, q0, hargs, rfl, rfl, h0, r0⟩ := trodAll_cons hA
  obtain ⟨v1, vs1, d1, ds1, p1, q1, rfl, rfl, rfl, h1, r1⟩ := trodAll_cons r0
  obtain ⟨rfl, rfl, rfl⟩ := trodAll_nil r1
  obtain rfl : args = #[v0, v1] := by cases args; simp_all
  obtain ⟨x0, w0, z0⟩ := arg_Core (hval 0 48 v0 rfl rfl) h0
  obtain ⟨x1, rfl, w1⟩ := arg_Call (hval 1 49 v1 rfl rfl) h1
  clear hA0 hval0
  obtain ⟨m, hm⟩ := Tryz.laysM143.s1_3 W hsh
  refine (exactCallCore_any v0 x0 x1 W w0 z0 w1 m hm).mono fun e W1 ⟨he, hb⟩ => ?_
  subst he
  exact ⟨_, rfl, law_post laidK rfl (by kernel_rfl) Tryz.underlying4 (by kernel_rfl) (fun ds h => by match ds, h with | [_, _], _ => rfl) hW' hb⟩
theorem fnExactCallCore_closed : joinedFacts Tryz.prog 5 Tryz.f5 Rows.fnExactCallCoreSpec Rows.fnExactCallCoreRow = true := by unfold joinedFacts; rw [mayEnter_k, liftsFinal_k, make_k]; kernel_rfl
theorem fnExactCallCore_holds : Rows.FnExactCallCoreSaid :=
  OpenClaim.holds_of_wide 5 Tryz.f5 rfl rfl rfl rfl rfl rfl rfl ⟨rfl, rfl, rfl, rfl, rfl⟩ rfl rfl rfl rfl rfl (by kernel_rfl) Tryz.func5 fnExactCallCore_closed
    (of_decide_eq_true (by kernel_rfl)) (by unfold Func.isWrapper; first | (rw [if_pos (by decide +kernel)]; kernel_rfl) | (rw [if_neg (by decide +kernel)]; exact ⟨rfl, rfl⟩))
    (fun os started H enc _ => fnExactCallCore_lifted os started H enc)
end Go.Proofs.YtghebbndfpbkcaaGreat
