/- FnExactStartOrder: at every list of entries the program's StartOrder answers as the model's, writes into nothing that came in, and its answer owns its memory (lists of more than 2^20 entries, texts, needs and signs are not asked). No condition. -/
import Derived.Test.YteeopjcbpngofaaGreatLinksOfLawM0
import Derived.Test.YteeopjcbpngofaaGreatStartOrderLawM0
namespace Go.Proofs.YteeopjcbpngofaaGreat
set_option linter.unusedVariables false
set_option linter.unusedSimpArgs false
open Go.ChangeShapes Go.WideShapes Go.ChangeAt Go.RowKit Go.WideMaps Go.WideElems
open Go.ChangeMaps (open_string shut_string)
set_option maxRecDepth 100000 in
set_option maxHeartbeats 3200000 in
theorem exactStartOrder_any (v0 : Value) (x0 : List EntryD) (w : World) (a0 : SliceAt rEntry 5 0 w v0 x0) (g0 : ∀ d ∈ x0, okEntry d) :
    Calls Tryz.prog 10 #[v0] w fun e w' => e = .returned (.bool true) ∧ Below w.heap.size w w' := by
  have A0 := Lib.hid a0
  have G0 := Lib.hid g0
  clear a0 g0
  go_enter Tryz.func10, Tryz.ntmps10
  go_wp2_with fail
  refine (szEntryS_d v0 x0 1048576 _ (belEntryS A0.out (by repeat (first | exact Below.refl _ _ | refine Below.alloc ?_ (by simp; try omega) _ | refine Below.setCell ?_ (by simp; try omega) _ | refine belN ?_ _ | refine belD ?_)) (Nat.le_refl _)) G0.out (by omega) (by omega)).mono ?_
  rintro e w1 ⟨r0, rfl, hr0a, hr0b, hb0⟩
  have hb := below_step (w := w) (by repeat (first | exact Below.refl _ _ | refine Below.alloc ?_ (by simp; try omega) _ | refine Below.setCell ?_ (by simp; try omega) _ | refine belN ?_ _ | refine belD ?_)) hb0
  have Cw_w1 := Lib.hid hb
  have A0_w1 := Lib.hid (belEntryS A0.out hb (Nat.le_refl _))
  clear hb hb0
  by_cases hr0 : r0 < 0
  · clear hr0b
    go_wp2_with fail
    go_ret
    exact ⟨rfl, below_to Cw_w1.out (by repeat (first | exact Below.refl _ _ | refine Below.alloc ?_ (by simp; try omega) _ | refine Below.setCell ?_ (by simp; try omega) _ | refine belN ?_ _ | refine belD ?_))⟩
  · have hs0 := hr0b (by omega)
    clear hr0b
    have HSZ := Lib.hid (show (x0.length + sumF zEntry x0) ≤ 1048576 by push_cast; omega)
    clear hs0
    have HSM0 := Lib.hid (show x0.length ≤ 1048576 by have h := HSZ.out; omega)
    have HGG := Lib.hid (show RegOk x0 from ⟨fun e he => by
      have h := HSZ.out
      have h2 := sumF_mem zEntry x0 e he
      have h3 : e.fName.length + (e.fRecipe.length + sumF List.length e.fRecipe) ≤ zEntry e := by unfold zEntry; omega
      refine ⟨by omega, fun d hd => ((G0.out e he).2.2.2 d hd).2.1, fun s hs => ?_⟩
      have h4 := sumF_mem List.length e.fRecipe s hs
      omega, by have h := HSZ.out; have h2 := needs_sum x0; omega⟩)
    have HRL := Lib.hid (show (ordL x0).length ≤ 2097152 from Nat.le_trans (ordL_len x0) (by decide))
    have HSP := Lib.hid (fun v w1 (h : SliceAt rEntry 5 0 w1 v x0) => (specOrder_any v x0 w1 h HGG.out).mono (fun e w2 h2 => givesF_str h2))
    have HIM := Lib.hid (fun v w1 (h : SliceAt rEntry 5 0 w1 v x0) => (implOrder_any v x0 w1 h HGG.out).mono (fun e w2 h2 => givesF_str h2))
    unfold GivesF at HSP HIM
    generalize ordL x0 = x at *
    go_wp2_with fail
    refine (toEntryS_d v0 x0 _ (belEntryS A0_w1.out (by repeat (first | exact Below.refl _ _ | refine Below.alloc ?_ (by simp; try omega) _ | refine Below.setCell ?_ (by simp; try omega) _ | refine belN ?_ _ | refine belD ?_)) (Nat.le_refl _)) (by have := HSZ.out; omega)).mono ?_
    rintro e w2 ⟨u1, rfl, ho, hb0⟩
    have hb := below_step (w := w1) (by repeat (first | exact Below.refl _ _ | refine Below.alloc ?_ (by simp; try omega) _ | refine Below.setCell ?_ (by simp; try omega) _ | refine belN ?_ _ | refine belD ?_)) hb0
    have Cw_w2 := Lib.hid (Cw_w1.out.trans (hb.mono Cw_w1.out.size))
    have A0_w2 := Lib.hid (belEntryS A0_w1.out hb (Nat.le_refl _))
    have S1 := Lib.hid (zeroEntryS ho)
    clear ho
    clear hb hb0
    go_wp2_with fail
    refine (HSP.out u1 _ (belEntryS S1.out (by repeat (first | exact Below.refl _ _ | refine Below.alloc ?_ (by simp; try omega) _ | refine Below.setCell ?_ (by simp; try omega) _ | refine belN ?_ _ | refine belD ?_)) (Nat.le_refl _))).mono ?_
    rintro e w3 ⟨vs, rfl, ho, hb0⟩
    have hb := below_step (w := w2) (by repeat (first | exact Below.refl _ _ | refine Below.alloc ?_ (by simp; try omega) _ | refine Below.setCell ?_ (by simp; try omega) _ | refine belN ?_ _ | refine belD ?_)) hb0
    have Cw_w3 := Lib.hid (Cw_w2.out.trans (hb.mono Cw_w2.out.size))
    have A0_w3 := Lib.hid (belEntryS A0_w2.out hb (Nat.le_refl _))
    have S1_w3 := Lib.hid (belEntryS S1.out hb (Nat.le_refl _))
    have ho := (show OwnsF cStr 9 1 _ _ _ x from ho)
    obtain ⟨LRs, hLRs, ho⟩ := own_lo ho
    try simp at hLRs
    have HLRs := Lib.hid hLRs
    clear hLRs
    have Rs := Lib.hid (ownR_of ho)
    have Rsa := Lib.hid (ownsF_at ho (by have := HRL.out; omega))
    clear ho
    clear hb hb0
    go_wp2_with fail
    refine (toEntryS_o v0 x0 _ (belEntryS A0_w3.out (by repeat (first | exact Below.refl _ _ | refine Below.alloc ?_ (by simp; try omega) _ | refine Below.setCell ?_ (by simp; try omega) _ | refine belN ?_ _ | refine belD ?_)) (Nat.le_refl _)) (by have := HSZ.out; omega)).mono ?_
    rintro e w4 ⟨u2, rfl, ho, hb0⟩
    have hb := below_step (w := w3) (by repeat (first | exact Below.refl _ _ | refine Below.alloc ?_ (by simp; try omega) _ | refine Below.setCell ?_ (by simp; try omega) _ | refine belN ?_ _ | refine belD ?_)) hb0
    have Cw_w4 := Lib.hid (Cw_w3.out.trans (hb.mono Cw_w3.out.size))
    have Cw3_w4 := Lib.hid hb
    have A0_w4 := Lib.hid (belEntryS A0_w3.out hb (Nat.le_refl _))
    have Rsa_w4 := Lib.hid (FlatAt.below Rsa.out hb (Nat.le_refl _))
    obtain ⟨LX2, hLX2, ho⟩ := own_loE ho
    try simp at hLX2
    have HLX2 := Lib.hid hLX2
    clear hLX2
    have X2 := Lib.hid ho
    have X2a := Lib.hid (ownE_at ho (by have := HSZ.out; omega))
    clear ho
    have LCX2_w := Lib.hid (show w.heap.size ≤ LX2 by have h := Cw_w3.out.size; have h2 := HLX2.out; omega)
    have LCX2_w3 := Lib.hid (show w3.heap.size ≤ LX2 by have h := (Below.refl w3.heap.size w3).size; have h2 := HLX2.out; omega)
    clear hb hb0
    go_wp2_with fail
    refine (HIM.out u2 _ (belEntryS X2a.out (by repeat (first | exact Below.refl _ _ | refine Below.alloc ?_ (by simp; try omega) _ | refine Below.setCell ?_ (by simp; try omega) _ | refine belN ?_ _ | refine belD ?_)) (Nat.le_refl _))).mono ?_
    rintro e w5 ⟨vg, rfl, ho, hb0⟩
    have hb := below_step (w := w4) (by repeat (first | exact Below.refl _ _ | refine Below.alloc ?_ (by simp; try omega) _ | refine Below.setCell ?_ (by simp; try omega) _ | refine belN ?_ _ | refine belD ?_)) hb0
    have Cw_w5 := Lib.hid (Cw_w4.out.trans (hb.mono Cw_w4.out.size))
    have Cw3_w5 := Lib.hid (Cw3_w4.out.trans (hb.mono Cw3_w4.out.size))
    have Cw4_w5 := Lib.hid hb
    have A0_w5 := Lib.hid (belEntryS A0_w4.out hb (Nat.le_refl _))
    have Rsa_w5 := Lib.hid (FlatAt.below Rsa_w4.out hb (Nat.le_refl _))
    have X2a_w5 := Lib.hid (belEntryS X2a.out hb (Nat.le_refl _))
    have X2_w5 := Lib.hid (ownE_below X2.out hb (Nat.le_refl _))
    have ho := (show OwnsF cStr 9 1 _ _ _ x from ho)
    obtain ⟨LRg, hLRg, ho⟩ := own_lo ho
    try simp at hLRg
    have HLRg := Lib.hid hLRg
    clear hLRg
    have Rg := Lib.hid (ownR_of ho)
    have Rga := Lib.hid (ownsF_at ho (by have := HRL.out; omega))
    clear ho
    have LCRg_w := Lib.hid (show w.heap.size ≤ LRg by have h := Cw_w4.out.size; have h2 := HLRg.out; omega)
    have LCRg_w3 := Lib.hid (show w3.heap.size ≤ LRg by have h := Cw3_w4.out.size; have h2 := HLRg.out; omega)
    have LCRg_w4 := Lib.hid (show w4.heap.size ≤ LRg by have h := (Below.refl w4.heap.size w4).size; have h2 := HLRg.out; omega)
    clear hb hb0
    go_wp2_with fail
    refine (eqStringS_f vg vs x x _ (FlatAt.below Rga.out (by repeat (first | exact Below.refl _ _ | refine Below.alloc ?_ (by simp; try omega) _ | refine Below.setCell ?_ (by simp; try omega) _ | refine belN ?_ _ | refine belD ?_)) (Nat.le_refl _)) (FlatAt.below Rsa_w5.out (by repeat (first | exact Below.refl _ _ | refine Below.alloc ?_ (by simp; try omega) _ | refine Below.setCell ?_ (by simp; try omega) _ | refine belN ?_ _ | refine belD ?_)) (Nat.le_refl _))).mono ?_
    rintro e w6 ⟨rfl, hb0⟩
    have hb := below_step (w := w5) (by repeat (first | exact Below.refl _ _ | refine Below.alloc ?_ (by simp; try omega) _ | refine Below.setCell ?_ (by simp; try omega) _ | refine belN ?_ _ | refine belD ?_)) hb0
    have Cw_w6 := Lib.hid (Cw_w5.out.trans (hb.mono Cw_w5.out.size))
    have Cw3_w6 := Lib.hid (Cw3_w5.out.trans (hb.mono Cw3_w5.out.size))
    have Cw4_w6 := Lib.hid (Cw4_w5.out.trans (hb.mono Cw4_w5.out.size))
    have Cw5_w6 := Lib.hid hb
    have A0_w6 := Lib.hid (belEntryS A0_w5.out hb (Nat.le_refl _))
    have Rsa_w6 := Lib.hid (FlatAt.below Rsa_w5.out hb (Nat.le_refl _))
    have X2a_w6 := Lib.hid (belEntryS X2a_w5.out hb (Nat.le_refl _))
    have X2_w6 := Lib.hid (ownE_below X2_w5.out hb (Nat.le_refl _))
    have Rga_w6 := Lib.hid (FlatAt.below Rga.out hb (Nat.le_refl _))
    have Rg_w6 := Lib.hid (ownR_below Rg.out hb (Nat.le_refl _))
    rw [show decide (x = x) = true by simp]
    clear hb hb0
    go_wp2_with fail
    refine (toEntryS_d v0 x0 _ (belEntryS A0_w6.out (by repeat (first | exact Below.refl _ _ | refine Below.alloc ?_ (by simp; try omega) _ | refine Below.setCell ?_ (by simp; try omega) _ | refine belN ?_ _ | refine belD ?_)) (Nat.le_refl _)) (by have := HSZ.out; omega)).mono ?_
    rintro e w7 ⟨u3, rfl, ho, hb0⟩
    have hb := below_step (w := w6) (by repeat (first | exact Below.refl _ _ | refine Below.alloc ?_ (by simp; try omega) _ | refine Below.setCell ?_ (by simp; try omega) _ | refine belN ?_ _ | refine belD ?_)) hb0
    have Cw_w7 := Lib.hid (Cw_w6.out.trans (hb.mono Cw_w6.out.size))
    have Cw3_w7 := Lib.hid (Cw3_w6.out.trans (hb.mono Cw3_w6.out.size))
    have Cw4_w7 := Lib.hid (Cw4_w6.out.trans (hb.mono Cw4_w6.out.size))
    have Cw5_w7 := Lib.hid (Cw5_w6.out.trans (hb.mono Cw5_w6.out.size))
    have A0_w7 := Lib.hid (belEntryS A0_w6.out hb (Nat.le_refl _))
    have Rsa_w7 := Lib.hid (FlatAt.below Rsa_w6.out hb (Nat.le_refl _))
    have X2a_w7 := Lib.hid (belEntryS X2a_w6.out hb (Nat.le_refl _))
    have X2_w7 := Lib.hid (ownE_below X2_w6.out hb (Nat.le_refl _))
    have Rga_w7 := Lib.hid (FlatAt.below Rga_w6.out hb (Nat.le_refl _))
    have Rg_w7 := Lib.hid (ownR_below Rg_w6.out hb (Nat.le_refl _))
    have Z3 := Lib.hid (zeroEntryS ho)
    clear ho
    clear hb hb0
    go_wp2_with fail
    refine (eqEntryS_d u2 u3 x0 x0 _ (belEntryS X2a_w7.out (by repeat (first | exact Below.refl _ _ | refine Below.alloc ?_ (by simp; try omega) _ | refine Below.setCell ?_ (by simp; try omega) _ | refine belN ?_ _ | refine belD ?_)) (Nat.le_refl _)) (belEntryS Z3.out (by repeat (first | exact Below.refl _ _ | refine Below.alloc ?_ (by simp; try omega) _ | refine Below.setCell ?_ (by simp; try omega) _ | refine belN ?_ _ | refine belD ?_)) (Nat.le_refl _))).mono ?_
    rintro e w8 ⟨rfl, hb0⟩
    have hb := below_step (w := w7) (by repeat (first | exact Below.refl _ _ | refine Below.alloc ?_ (by simp; try omega) _ | refine Below.setCell ?_ (by simp; try omega) _ | refine belN ?_ _ | refine belD ?_)) hb0
    have Cw_w8 := Lib.hid (Cw_w7.out.trans (hb.mono Cw_w7.out.size))
    have Cw3_w8 := Lib.hid (Cw3_w7.out.trans (hb.mono Cw3_w7.out.size))
    have Cw4_w8 := Lib.hid (Cw4_w7.out.trans (hb.mono Cw4_w7.out.size))
    have Cw5_w8 := Lib.hid (Cw5_w7.out.trans (hb.mono Cw5_w7.out.size))
    have A0_w8 := Lib.hid (belEntryS A0_w7.out hb (Nat.le_refl _))
    have Rsa_w8 := Lib.hid (FlatAt.below Rsa_w7.out hb (Nat.le_refl _))
    have X2a_w8 := Lib.hid (belEntryS X2a_w7.out hb (Nat.le_refl _))
    have X2_w8 := Lib.hid (ownE_below X2_w7.out hb (Nat.le_refl _))
    have Rga_w8 := Lib.hid (FlatAt.below Rga_w7.out hb (Nat.le_refl _))
    have Rg_w8 := Lib.hid (ownR_below Rg_w7.out hb (Nat.le_refl _))
    have Z3_w8 := Lib.hid (belEntryS Z3.out hb (Nat.le_refl _))
    rw [show decide (x0 = x0) = true by simp]
    clear hb hb0
    go_wp2_with fail
    refine (markEntryS_w LX2 _ u2 x0 1 _ (ownE_below X2_w8.out (by repeat (first | exact Below.refl _ _ | refine Below.alloc ?_ (by simp; try omega) _ | refine Below.setCell ?_ (by simp; try omega) _ | refine belN ?_ _ | refine belD ?_)) (Nat.le_refl _)) (by have := HSZ.out; omega) (by omega) (by omega)).mono ?_
    rintro e w9 ⟨rfl, ho, hbt⟩
    have Cw_w9 := Lib.hid (betw_below Cw_w8.out hbt LCX2_w.out)
    have Cw3_w9 := Lib.hid (betw_below Cw3_w8.out hbt LCX2_w3.out)
    have A0_w9 := Lib.hid (belEntryS A0.out Cw_w9.out (Nat.le_refl _))
    have Rsa_w9 := Lib.hid (FlatAt.below Rsa.out Cw3_w9.out (Nat.le_refl _))
    have Rg_w9 := Lib.hid (ownR_betw Rg_w8.out hbt (Or.inr LCRg_w4.out))
    have Rga_w9 := Lib.hid (ownR_at Rg_w9.out (by have := HRL.out; omega))
    clear ho hbt
    go_wp2_with fail
    refine (eqStringS_f vg vs x x _ (FlatAt.below Rga_w9.out (by repeat (first | exact Below.refl _ _ | refine Below.alloc ?_ (by simp; try omega) _ | refine Below.setCell ?_ (by simp; try omega) _ | refine belN ?_ _ | refine belD ?_)) (Nat.le_refl _)) (FlatAt.below Rsa_w9.out (by repeat (first | exact Below.refl _ _ | refine Below.alloc ?_ (by simp; try omega) _ | refine Below.setCell ?_ (by simp; try omega) _ | refine belN ?_ _ | refine belD ?_)) (Nat.le_refl _))).mono ?_
    rintro e w10 ⟨rfl, hb0⟩
    have hb := below_step (w := w9) (by repeat (first | exact Below.refl _ _ | refine Below.alloc ?_ (by simp; try omega) _ | refine Below.setCell ?_ (by simp; try omega) _ | refine belN ?_ _ | refine belD ?_)) hb0
    have Cw_w10 := Lib.hid (Cw_w9.out.trans (hb.mono Cw_w9.out.size))
    have Cw3_w10 := Lib.hid (Cw3_w9.out.trans (hb.mono Cw3_w9.out.size))
    have Cw9_w10 := Lib.hid hb
    have A0_w10 := Lib.hid (belEntryS A0_w9.out hb (Nat.le_refl _))
    have Rsa_w10 := Lib.hid (FlatAt.below Rsa_w9.out hb (Nat.le_refl _))
    have Rg_w10 := Lib.hid (ownR_below Rg_w9.out hb (Nat.le_refl _))
    have Rga_w10 := Lib.hid (FlatAt.below Rga_w9.out hb (Nat.le_refl _))
    rw [show decide (x = x) = true by simp]
    clear hb hb0
    go_wp2_with fail
    refine (mark_range (ownR_below Rg_w10.out (by repeat (first | exact Below.refl _ _ | refine Below.alloc ?_ (by simp; try omega) _ | refine Below.setCell ?_ (by simp; try omega) _ | refine belN ?_ _ | refine belD ?_)) (Nat.le_refl _)) (markStringS_f LRg vg x 1 _ (ownR_below Rg_w10.out (by repeat (first | exact Below.refl _ _ | refine Below.alloc ?_ (by simp; try omega) _ | refine Below.setCell ?_ (by simp; try omega) _ | refine belN ?_ _ | refine belD ?_)) (Nat.le_refl _)).1 (by have := HRL.out; omega) (by omega) (by omega))).mono ?_
    rintro e w11 ⟨rfl, ho, hbt⟩
    have Cw_w11 := Lib.hid (betw_below Cw_w10.out hbt LCRg_w.out)
    have Cw3_w11 := Lib.hid (betw_below Cw3_w10.out hbt LCRg_w3.out)
    have A0_w11 := Lib.hid (belEntryS A0.out Cw_w11.out (Nat.le_refl _))
    have Rsa_w11 := Lib.hid (FlatAt.below Rsa.out Cw3_w11.out (Nat.le_refl _))
    have MK := Lib.hid (ownR_at ho (by simp only [marksString_len]; have := HRL.out; omega))
    clear ho hbt
    go_wp2_with fail
    refine (heldStringS_f vg x.length 1 _ (FlatAt.below MK.out (by repeat (first | exact Below.refl _ _ | refine Below.alloc ?_ (by simp; try omega) _ | refine Below.setCell ?_ (by simp; try omega) _ | refine belN ?_ _ | refine belD ?_)) (Nat.le_refl _)) (by have := HRL.out; omega) (by omega) (by omega)).mono ?_
    rintro e w12 ⟨rfl, hb0⟩
    have hb := below_step (w := w11) (by repeat (first | exact Below.refl _ _ | refine Below.alloc ?_ (by simp; try omega) _ | refine Below.setCell ?_ (by simp; try omega) _ | refine belN ?_ _ | refine belD ?_)) hb0
    have Cw_w12 := Lib.hid (Cw_w11.out.trans (hb.mono Cw_w11.out.size))
    have Cw3_w12 := Lib.hid (Cw3_w11.out.trans (hb.mono Cw3_w11.out.size))
    have A0_w12 := Lib.hid (belEntryS A0_w11.out hb (Nat.le_refl _))
    have Rsa_w12 := Lib.hid (FlatAt.below Rsa_w11.out hb (Nat.le_refl _))
    have MK_w12 := Lib.hid (FlatAt.below MK.out hb (Nat.le_refl _))
    clear hb hb0
    go_wp2_with fail
    refine (toEntryS_d v0 x0 _ (belEntryS A0_w12.out (by repeat (first | exact Below.refl _ _ | refine Below.alloc ?_ (by simp; try omega) _ | refine Below.setCell ?_ (by simp; try omega) _ | refine belN ?_ _ | refine belD ?_)) (Nat.le_refl _)) (by have := HSZ.out; omega)).mono ?_
    rintro e w13 ⟨u4, rfl, ho, hb0⟩
    have hb := below_step (w := w12) (by repeat (first | exact Below.refl _ _ | refine Below.alloc ?_ (by simp; try omega) _ | refine Below.setCell ?_ (by simp; try omega) _ | refine belN ?_ _ | refine belD ?_)) hb0
    have Cw_w13 := Lib.hid (Cw_w12.out.trans (hb.mono Cw_w12.out.size))
    have Cw3_w13 := Lib.hid (Cw3_w12.out.trans (hb.mono Cw3_w12.out.size))
    have A0_w13 := Lib.hid (belEntryS A0_w12.out hb (Nat.le_refl _))
    have Rsa_w13 := Lib.hid (FlatAt.below Rsa_w12.out hb (Nat.le_refl _))
    have MK_w13 := Lib.hid (FlatAt.below MK_w12.out hb (Nat.le_refl _))
    have H4 := Lib.hid (zeroEntryS ho)
    clear ho
    clear hb hb0
    go_wp2_with fail
    refine (HIM.out u4 _ (belEntryS H4.out (by repeat (first | exact Below.refl _ _ | refine Below.alloc ?_ (by simp; try omega) _ | refine Below.setCell ?_ (by simp; try omega) _ | refine belN ?_ _ | refine belD ?_)) (Nat.le_refl _))).mono ?_
    rintro e w14 ⟨vh, rfl, ho, hb0⟩
    have hb := below_step (w := w13) (by repeat (first | exact Below.refl _ _ | refine Below.alloc ?_ (by simp; try omega) _ | refine Below.setCell ?_ (by simp; try omega) _ | refine belN ?_ _ | refine belD ?_)) hb0
    have Cw_w14 := Lib.hid (Cw_w13.out.trans (hb.mono Cw_w13.out.size))
    have Cw3_w14 := Lib.hid (Cw3_w13.out.trans (hb.mono Cw3_w13.out.size))
    have A0_w14 := Lib.hid (belEntryS A0_w13.out hb (Nat.le_refl _))
    have Rsa_w14 := Lib.hid (FlatAt.below Rsa_w13.out hb (Nat.le_refl _))
    have MK_w14 := Lib.hid (FlatAt.below MK_w13.out hb (Nat.le_refl _))
    have H4_w14 := Lib.hid (belEntryS H4.out hb (Nat.le_refl _))
    have ho := (show OwnsF cStr 9 1 _ _ _ x from ho)
    obtain ⟨LRh, hLRh, ho⟩ := own_lo ho
    try simp at hLRh
    have HLRh := Lib.hid hLRh
    clear hLRh
    have Rh := Lib.hid (ownR_of ho)
    have Rha := Lib.hid (ownsF_at ho (by have := HRL.out; omega))
    clear ho
    clear hb hb0
    go_wp2_with fail
    refine (eqStringS_f vh vs x x _ (FlatAt.below Rha.out (by repeat (first | exact Below.refl _ _ | refine Below.alloc ?_ (by simp; try omega) _ | refine Below.setCell ?_ (by simp; try omega) _ | refine belN ?_ _ | refine belD ?_)) (Nat.le_refl _)) (FlatAt.below Rsa_w14.out (by repeat (first | exact Below.refl _ _ | refine Below.alloc ?_ (by simp; try omega) _ | refine Below.setCell ?_ (by simp; try omega) _ | refine belN ?_ _ | refine belD ?_)) (Nat.le_refl _))).mono ?_
    rintro e w15 ⟨rfl, hb0⟩
    have hb := below_step (w := w14) (by repeat (first | exact Below.refl _ _ | refine Below.alloc ?_ (by simp; try omega) _ | refine Below.setCell ?_ (by simp; try omega) _ | refine belN ?_ _ | refine belD ?_)) hb0
    have Cw_w15 := Lib.hid (Cw_w14.out.trans (hb.mono Cw_w14.out.size))
    have Cw3_w15 := Lib.hid (Cw3_w14.out.trans (hb.mono Cw3_w14.out.size))
    have A0_w15 := Lib.hid (belEntryS A0_w14.out hb (Nat.le_refl _))
    have Rsa_w15 := Lib.hid (FlatAt.below Rsa_w14.out hb (Nat.le_refl _))
    have MK_w15 := Lib.hid (FlatAt.below MK_w14.out hb (Nat.le_refl _))
    have H4_w15 := Lib.hid (belEntryS H4_w14.out hb (Nat.le_refl _))
    have Rha_w15 := Lib.hid (FlatAt.below Rha.out hb (Nat.le_refl _))
    have Rh_w15 := Lib.hid (ownR_below Rh.out hb (Nat.le_refl _))
    rw [show decide (x = x) = true by simp]
    clear hb hb0
    go_wp2_with fail
    refine (heldStringS_f vg x.length 1 _ (FlatAt.below MK_w15.out (by repeat (first | exact Below.refl _ _ | refine Below.alloc ?_ (by simp; try omega) _ | refine Below.setCell ?_ (by simp; try omega) _ | refine belN ?_ _ | refine belD ?_)) (Nat.le_refl _)) (by have := HRL.out; omega) (by omega) (by omega)).mono ?_
    rintro e w16 ⟨rfl, hb0⟩
    have hb := below_step (w := w15) (by repeat (first | exact Below.refl _ _ | refine Below.alloc ?_ (by simp; try omega) _ | refine Below.setCell ?_ (by simp; try omega) _ | refine belN ?_ _ | refine belD ?_)) hb0
    have Cw_w16 := Lib.hid (Cw_w15.out.trans (hb.mono Cw_w15.out.size))
    have Cw3_w16 := Lib.hid (Cw3_w15.out.trans (hb.mono Cw3_w15.out.size))
    have A0_w16 := Lib.hid (belEntryS A0_w15.out hb (Nat.le_refl _))
    have Rsa_w16 := Lib.hid (FlatAt.below Rsa_w15.out hb (Nat.le_refl _))
    have MK_w16 := Lib.hid (FlatAt.below MK_w15.out hb (Nat.le_refl _))
    have H4_w16 := Lib.hid (belEntryS H4_w15.out hb (Nat.le_refl _))
    have Rha_w16 := Lib.hid (FlatAt.below Rha_w15.out hb (Nat.le_refl _))
    have Rh_w16 := Lib.hid (ownR_below Rh_w15.out hb (Nat.le_refl _))
    clear hb hb0
    go_wp2_with fail
    go_ret
    exact ⟨rfl, below_to Cw_w16.out (by repeat (first | exact Below.refl _ _ | refine Below.alloc ?_ (by simp; try omega) _ | refine Below.setCell ?_ (by simp; try omega) _ | refine belN ?_ _ | refine belD ?_))⟩
set_option maxRecDepth 100000 in
theorem fnExactStartOrder_lifted (os : Os) (started : os.Started) (H : Type) (enc : TypeId × Value → H) :
    ReturnsInHanded {} Tryz.checked os 10 .any (Rows.fnExactStartOrderSpec.pre6 enc Tryz.prog Tryz.f10 Rows.fnExactStartOrderRow.domain false) (Rows.fnExactStartOrderSpec.post enc Tryz.prog Tryz.f10 false true false false) := by
  refine returnsInHanded_of_change (C := Tryz.checked) ownK started (by kernel_rfl) Tryz.func10
    (ChangeSpec.witness6 (enc := enc) (C := Tryz.checked) false ⟨#[], #[.slice none 0 0], []⟩ 8 (by kernel_rfl) (by kernel_rfl) (by kernel_rfl) (by kernel_rfl)) ?_
  intro W base args ds gs before hval0 hW _ _
  have hval : ∀ (j : Nat) t v, Tryz.f10.params[j]? = some t → args[j]? = some v → Value.okWide Tryz.prog W .any base t v := hval0
  have hW' := hW
  obtain ⟨p, q, hA0, _, rfl, _, _⟩ := hW
  have hA : DataW.TrodAll enc Tryz.prog W 0 (fun _ => true) true Tryz.f10.params.toList args.toList ds p := hA0
  rw [Tryz.params10] at hA hval
  obtain ⟨v0, vs0, d0, ds0, p0, q0, hargs, rfl, rfl, h0, r0⟩ := trodAll_cons hA
  obtain ⟨rfl, rfl, rfl⟩ := trodAll_nil r0
  obtain rfl : args = #[v0] := by cases args; simp_all
  obtain ⟨l0, w0, z0⟩ := argS_Entry (hval 0 45 v0 rfl rfl) h0
  clear hA0 hval0
  refine (exactStartOrder_any v0 l0 W w0 z0).mono fun e W1 ⟨he, hb⟩ => ?_
  subst he
  exact ⟨_, rfl, law_post laidK rfl (by kernel_rfl) Tryz.underlying4 (by kernel_rfl) (fun ds h => by match ds, h with | [_], _ => rfl) hW' hb⟩
theorem fnExactStartOrder_closed : joinedFacts Tryz.prog 10 Tryz.f10 Rows.fnExactStartOrderSpec Rows.fnExactStartOrderRow = true := by unfold joinedFacts; rw [mayEnter_k, liftsFinal_k, make_k]; kernel_rfl
theorem fnExactStartOrder_holds : Rows.FnExactStartOrderSaid :=
  OpenClaim.holds_of_wide 10 Tryz.f10 rfl rfl rfl rfl rfl rfl rfl ⟨rfl, rfl, rfl, rfl, rfl⟩ rfl rfl rfl rfl rfl (by kernel_rfl) Tryz.func10 fnExactStartOrder_closed
    (of_decide_eq_true (by kernel_rfl)) (by unfold Func.isWrapper; first | (rw [if_pos (by decide +kernel)]; kernel_rfl) | (rw [if_neg (by decide +kernel)]; exact ⟨rfl, rfl⟩))
    (fun os started H enc _ => fnExactStartOrder_lifted os started H enc)
end Go.Proofs.YteeopjcbpngofaaGreat
