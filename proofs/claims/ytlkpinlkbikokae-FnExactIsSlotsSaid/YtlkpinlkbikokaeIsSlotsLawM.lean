/- FnExactIsSlots: at every list of slots the program's IsSlots answers as the model's (lists of more than 2^20 slots, cells, layers and signs are not asked). No condition. -/
import Derived.Test.YtlkpinlkbikokaeIsSlotsLawM2
import Derived.Test.YtlkpinlkbikokaeIsSlotsLawM1
import Derived.Test.YtlkpinlkbikokaeIsSlotsLawM0
/- Arguments opened: parts. -/
namespace Go.Proofs.Ytlkpinlkbikokae
set_option linter.unusedVariables false
open Go.ChangeShapes Go.WideShapes Go.ChangeAt Go.RowKit Go.WideMaps Go.WideElems
open Go.Deep
theorem belPart {w w' : World} {cs : List Value} {x : PartD} {F B : Nat} (h : rPart F w cs x) (hb : Below B w w') (hB : w.heap.size ≤ B) : rPart F w' cs x := goodPart.keep h (kept_below hb hB)
theorem six_of {α : Type} {l : List α} (h : l.length = 6) : ∃ a b c d e f, l = [a, b, c, d, e, f] := by match l, h with | [a, b, c, d, e, f], _ => exact ⟨a, b, c, d, e, f, rfl⟩
section
variable {H : Type} {enc : TypeId × Value → H} {W : World}
set_option maxRecDepth 100000 in
theorem openR_Part {n : Nat} {cs : List Value} {x : DataW H × List MemPlace} (h : DataW.trod enc Try.prog W 0 (fun _ => true) true n 36 cs = some x) : ∃ d : PartD, rPart 0 W cs d ∧ okPart d := by
  obtain ⟨xs, m, rfl, _, hl, hn, hf⟩ := DataW.trod_struct Try.underlying36 h
  rw [show Try.prog.cellsOf 36 = 6 by kernel_rfl] at hl
  obtain ⟨c0, c1, c2, c3, c4, c5, rfl⟩ := six_of hl
  obtain ⟨y0, k0⟩ := field_at hn hf 0 _ rfl
  have k0 : DataW.trod enc Try.prog W 0 (fun _ => true) true m 33 [c0, c1, c2, c3, c4] = some y0 := by
    have e : Try.prog.cellsOf 33 = 5 := by kernel_rfl
    simpa [e] using k0
  obtain ⟨y1, k1⟩ := field_one hn hf 1 _ 34 5 _ _ rfl rfl rfl (by kernel_rfl) rfl
  obtain ⟨d, cv, e0, b0, g0⟩ := open_Core k0
  obtain ⟨l1, b1, g1⟩ := openS_Layer k1
  injection e0 with e0 e1
  injection e1 with e1 e2
  injection e2 with e2 e3
  injection e3 with e3 e4
  injection e4 with e4 _
  subst e0 e1 e2 e3 e4
  exact ⟨⟨d, l1⟩, ⟨c3, c5, rfl, sliceAt_of_flat cCell_len b0, sliceAt_of_flat cLayer_len b1⟩, g0, g1⟩
set_option maxRecDepth 100000 in
theorem arg_Part {base : Nat} {v : Value} {d : DataW H} {p : List MemPlace} (hval : Value.okWide Try.prog W .any base 36 v) (h : DataW.Trod enc Try.prog W 0 (fun _ => true) true 36 v d p) : ∃ d : PartD, ValAt rPart 0 W v d ∧ okPart d := by
  obtain ⟨cs, rfl, _⟩ := okWide_struct Try.underlying36 hval
  obtain ⟨fuel, hf⟩ := h
  obtain ⟨d, h1, h2⟩ := openR_Part hf
  exact ⟨d, ⟨cs.toList, by simp, h1⟩, h2⟩
end
end Go.Proofs.Ytlkpinlkbikokae
/- Arguments opened: slices of slots. -/
namespace Go.Proofs.Ytlkpinlkbikokae
set_option linter.unusedVariables false
open Go.ChangeShapes Go.WideShapes Go.ChangeAt Go.RowKit Go.WideMaps Go.WideElems
open Go.Deep
theorem belSlot {w w' : World} {cs : List Value} {x : SlotD} {F B : Nat} (h : rSlot F w cs x) (hb : Below B w w') (hB : w.heap.size ≤ B) : rSlot F w' cs x := goodSlot.keep h (kept_below hb hB)
theorem belSlotS {w w' : World} {v : Value} {l : List SlotD} {F B : Nat} (h : SliceAt rSlot 7 F w v l) (hb : Below B w w') (hB : w.heap.size ≤ B) : SliceAt rSlot 7 F w' v l := h.below goodSlot hb hB
theorem zeroSlotS {w : World} {v : Value} {l : List SlotD} {F : Nat} (h : SliceAt rSlot 7 F w v l) : SliceAt rSlot 7 0 w v l := h.mono goodSlot (Nat.zero_le _)
theorem slot_seven {α : Type} {l : List α} (h : l.length = 7) : ∃ a b c d e f g, l = [a, b, c, d, e, f, g] := by match l, h with | [a, b, c, d, e, f, g], _ => exact ⟨a, b, c, d, e, f, g, rfl⟩
section
variable {H : Type} {enc : TypeId × Value → H} {W : World}
set_option maxRecDepth 100000 in
theorem openR_Slot {n : Nat} {cs : List Value} {x : DataW H × List MemPlace} (h : DataW.trod enc Try.prog W 0 (fun _ => true) true n 38 cs = some x) : ∃ d : SlotD, rSlot 0 W cs d ∧ okSlot d := by
  obtain ⟨xs, m, rfl, _, hl, hn, hf⟩ := DataW.trod_struct Try.underlying38 h
  rw [show Try.prog.cellsOf 38 = 7 by kernel_rfl] at hl
  obtain ⟨c0, c1, c2, c3, c4, c5, c6, rfl⟩ := slot_seven hl
  obtain ⟨y0, k0⟩ := field_one hn hf 0 _ 4 0 _ _ rfl rfl rfl (by kernel_rfl) rfl
  obtain ⟨y1, k1⟩ := field_at hn hf 1 _ rfl
  have k1 : DataW.trod enc Try.prog W 0 (fun _ => true) true m 36 [c1, c2, c3, c4, c5, c6] = some y1 := by
    have e : Try.prog.cellsOf 36 = 6 := by kernel_rfl
    simpa [e] using k1
  obtain ⟨b, rfl⟩ := leaf_bool Try.underlying4 k0
  obtain ⟨p, ⟨v3, v5, e1, b3, b5⟩, g1⟩ := openR_Part k1
  injection e1 with e1 e2
  injection e2 with e2 e3
  injection e3 with e3 e4
  injection e4 with e4 e5
  injection e5 with e5 e6
  injection e6 with e6 _
  subst e1 e2 e3 e4 e5 e6
  exact ⟨⟨b, p⟩, ⟨_, _, rfl, b3, b5⟩, trivial, g1⟩
set_option maxRecDepth 100000 in
theorem argS_Slot {base : Nat} {v : Value} {d : DataW H} {p : List MemPlace} (hval : Value.okWide Try.prog W .any base 22 v) (h : DataW.Trod enc Try.prog W 0 (fun _ => true) true 22 v d p) : ∃ l : List SlotD, SliceAt rSlot 7 0 W v l ∧ ∀ d ∈ l, okSlot d := by
  obtain ⟨a1, len, cap, rfl⟩ := okWide_slice Try.underlying22 hval
  obtain ⟨fuel, hf⟩ := h
  haveI : Inhabited SlotD := ⟨⟨false, ⟨⟨[], false, false, [], 0⟩, []⟩⟩⟩
  exact open_deep goodSlot (by decide) Try.underlying22 (by kernel_rfl) (fun _ _ _ h => openR_Slot h) hf
end
end Go.Proofs.Ytlkpinlkbikokae
namespace Go.Proofs.Ytlkpinlkbikokae
set_option linter.unusedVariables false
open Go.ChangeShapes Go.WideShapes Go.ChangeAt Go.RowKit Go.WideMaps Go.WideElems
open Go.ChangeMaps (open_string shut_string)
set_option maxRecDepth 100000 in
set_option maxHeartbeats 3200000 in
theorem exactIsSlots_any (v0 : Value) (x0 : List SlotD) (w : World) (a0 : SliceAt rSlot 7 0 w v0 x0) (g0 : ∀ d ∈ x0, okSlot d) :
    Calls Try.prog 3 #[v0] w fun e w' => e = .returned (.bool true) ∧ Below w.heap.size w w' := by
  have A0 := Lib.hid a0
  have G0 := Lib.hid g0
  clear a0 g0
  go_enter Try.func3, Try.ntmps3
  go_wp2_with fail
  refine (szSlotS_d v0 x0 1048576 _ (belSlotS A0.out (by repeat (first | exact Below.refl _ _ | refine Below.alloc ?_ (by simp; try omega) _ | refine Below.setCell ?_ (by simp; try omega) _ | refine belN ?_ _ | refine belD ?_)) (Nat.le_refl _)) G0.out (by omega) (by omega)).mono ?_
  rintro e w1 ⟨r0, rfl, hr0a, hr0b, hb0⟩
  have hb := below_step (w := w) (by repeat (first | exact Below.refl _ _ | refine Below.alloc ?_ (by simp; try omega) _ | refine Below.setCell ?_ (by simp; try omega) _ | refine belN ?_ _ | refine belD ?_)) hb0
  have Cw_w1 := Lib.hid hb
  have A0_w1 := Lib.hid (belSlotS A0.out hb (Nat.le_refl _))
  clear hb hb0
  by_cases hr0 : r0 < 0
  · clear hr0b
    go_wp2_with fail
    go_ret
    exact ⟨rfl, below_to Cw_w1.out (by repeat (first | exact Below.refl _ _ | refine Below.alloc ?_ (by simp; try omega) _ | refine Below.setCell ?_ (by simp; try omega) _ | refine belN ?_ _ | refine belD ?_))⟩
  · have hs0 := hr0b (by omega)
    clear hr0b
    have HSZ := Lib.hid (show (x0.length + sumF zSlot x0) ≤ 1048576 by push_cast; omega)
    clear hs0
    have HSM0 := Lib.hid (show x0.length ≤ 1048576 by have h := HSZ.out; omega)
    have HGG := Lib.hid (show ∀ e ∈ x0, ∀ c ∈ e.fPart.fCore.fCells, c.fKey.length ≤ maxLen from fun e he c hc => ((G0.out e he).2.1.2.1 c hc).1)
    have HSP := Lib.hid (fun v w1 (h : SliceAt rSlot 7 0 w1 v x0) => specIsSlots_any v x0 w1 h HGG.out)
    have HIM := Lib.hid (fun v w1 (h : SliceAt rSlot 7 0 w1 v x0) => implIsSlots_any v x0 w1 h HGG.out)
    generalize (decide (x0.length = 3) && x0.all slotOk) = f at *
    go_wp2_with fail
    refine (toSlotS_d v0 x0 _ (belSlotS A0_w1.out (by repeat (first | exact Below.refl _ _ | refine Below.alloc ?_ (by simp; try omega) _ | refine Below.setCell ?_ (by simp; try omega) _ | refine belN ?_ _ | refine belD ?_)) (Nat.le_refl _)) (by have := HSZ.out; omega)).mono ?_
    rintro e w2 ⟨u1, rfl, ho, hb0⟩
    have hb := below_step (w := w1) (by repeat (first | exact Below.refl _ _ | refine Below.alloc ?_ (by simp; try omega) _ | refine Below.setCell ?_ (by simp; try omega) _ | refine belN ?_ _ | refine belD ?_)) hb0
    have Cw_w2 := Lib.hid (Cw_w1.out.trans (hb.mono Cw_w1.out.size))
    have A0_w2 := Lib.hid (belSlotS A0_w1.out hb (Nat.le_refl _))
    have S1 := Lib.hid (zeroSlotS ho)
    clear ho
    clear hb hb0
    go_wp2_with fail
    refine (HSP.out u1 _ (belSlotS S1.out (by repeat (first | exact Below.refl _ _ | refine Below.alloc ?_ (by simp; try omega) _ | refine Below.setCell ?_ (by simp; try omega) _ | refine belN ?_ _ | refine belD ?_)) (Nat.le_refl _))).mono ?_
    rintro e w3 ⟨rfl, hb0⟩
    have hb := below_step (w := w2) (by repeat (first | exact Below.refl _ _ | refine Below.alloc ?_ (by simp; try omega) _ | refine Below.setCell ?_ (by simp; try omega) _ | refine belN ?_ _ | refine belD ?_)) hb0
    have Cw_w3 := Lib.hid (Cw_w2.out.trans (hb.mono Cw_w2.out.size))
    have A0_w3 := Lib.hid (belSlotS A0_w2.out hb (Nat.le_refl _))
    have S1_w3 := Lib.hid (belSlotS S1.out hb (Nat.le_refl _))
    clear hb hb0
    go_wp2_with fail
    refine (toSlotS_d v0 x0 _ (belSlotS A0_w3.out (by repeat (first | exact Below.refl _ _ | refine Below.alloc ?_ (by simp; try omega) _ | refine Below.setCell ?_ (by simp; try omega) _ | refine belN ?_ _ | refine belD ?_)) (Nat.le_refl _)) (by have := HSZ.out; omega)).mono ?_
    rintro e w4 ⟨u2, rfl, ho, hb0⟩
    have hb := below_step (w := w3) (by repeat (first | exact Below.refl _ _ | refine Below.alloc ?_ (by simp; try omega) _ | refine Below.setCell ?_ (by simp; try omega) _ | refine belN ?_ _ | refine belD ?_)) hb0
    have Cw_w4 := Lib.hid (Cw_w3.out.trans (hb.mono Cw_w3.out.size))
    have A0_w4 := Lib.hid (belSlotS A0_w3.out hb (Nat.le_refl _))
    have X2 := Lib.hid (zeroSlotS ho)
    clear ho
    clear hb hb0
    go_wp2_with fail
    refine (HIM.out u2 _ (belSlotS X2.out (by repeat (first | exact Below.refl _ _ | refine Below.alloc ?_ (by simp; try omega) _ | refine Below.setCell ?_ (by simp; try omega) _ | refine belN ?_ _ | refine belD ?_)) (Nat.le_refl _))).mono ?_
    rintro e w5 ⟨rfl, hb0⟩
    have hb := below_step (w := w4) (by repeat (first | exact Below.refl _ _ | refine Below.alloc ?_ (by simp; try omega) _ | refine Below.setCell ?_ (by simp; try omega) _ | refine belN ?_ _ | refine belD ?_)) hb0
    have Cw_w5 := Lib.hid (Cw_w4.out.trans (hb.mono Cw_w4.out.size))
    have A0_w5 := Lib.hid (belSlotS A0_w4.out hb (Nat.le_refl _))
    have X2_w5 := Lib.hid (belSlotS X2.out hb (Nat.le_refl _))
    clear hb hb0
    go_wp2_with fail
    refine (toSlotS_d v0 x0 _ (belSlotS A0_w5.out (by repeat (first | exact Below.refl _ _ | refine Below.alloc ?_ (by simp; try omega) _ | refine Below.setCell ?_ (by simp; try omega) _ | refine belN ?_ _ | refine belD ?_)) (Nat.le_refl _)) (by have := HSZ.out; omega)).mono ?_
    rintro e w6 ⟨u3, rfl, ho, hb0⟩
    have hb := below_step (w := w5) (by repeat (first | exact Below.refl _ _ | refine Below.alloc ?_ (by simp; try omega) _ | refine Below.setCell ?_ (by simp; try omega) _ | refine belN ?_ _ | refine belD ?_)) hb0
    have Cw_w6 := Lib.hid (Cw_w5.out.trans (hb.mono Cw_w5.out.size))
    have A0_w6 := Lib.hid (belSlotS A0_w5.out hb (Nat.le_refl _))
    have X2_w6 := Lib.hid (belSlotS X2_w5.out hb (Nat.le_refl _))
    have Z3 := Lib.hid (zeroSlotS ho)
    clear ho
    clear hb hb0
    go_wp2_with fail
    refine (eqSlotS_d u2 u3 x0 x0 _ (belSlotS X2_w6.out (by repeat (first | exact Below.refl _ _ | refine Below.alloc ?_ (by simp; try omega) _ | refine Below.setCell ?_ (by simp; try omega) _ | refine belN ?_ _ | refine belD ?_)) (Nat.le_refl _)) (belSlotS Z3.out (by repeat (first | exact Below.refl _ _ | refine Below.alloc ?_ (by simp; try omega) _ | refine Below.setCell ?_ (by simp; try omega) _ | refine belN ?_ _ | refine belD ?_)) (Nat.le_refl _))).mono ?_
    rintro e w7 ⟨rfl, hb0⟩
    have hb := below_step (w := w6) (by repeat (first | exact Below.refl _ _ | refine Below.alloc ?_ (by simp; try omega) _ | refine Below.setCell ?_ (by simp; try omega) _ | refine belN ?_ _ | refine belD ?_)) hb0
    have Cw_w7 := Lib.hid (Cw_w6.out.trans (hb.mono Cw_w6.out.size))
    have A0_w7 := Lib.hid (belSlotS A0_w6.out hb (Nat.le_refl _))
    have X2_w7 := Lib.hid (belSlotS X2_w6.out hb (Nat.le_refl _))
    have Z3_w7 := Lib.hid (belSlotS Z3.out hb (Nat.le_refl _))
    rw [show decide (x0 = x0) = true by simp]
    clear hb hb0
    go_wp2_with fail
    go_ret
    exact ⟨rfl, below_to Cw_w7.out (by repeat (first | exact Below.refl _ _ | refine Below.alloc ?_ (by simp; try omega) _ | refine Below.setCell ?_ (by simp; try omega) _ | refine belN ?_ _ | refine belD ?_))⟩
set_option maxRecDepth 100000 in
theorem fnExactIsSlots_lifted (os : Os) (started : os.Started) (H : Type) (enc : TypeId × Value → H) :
    ReturnsInHanded {} Try.checked os 3 .any (Rows.fnExactIsSlotsSpec.pre6 enc Try.prog Try.f3 Rows.fnExactIsSlotsRow.domain false) (Rows.fnExactIsSlotsSpec.post enc Try.prog Try.f3 false true false false) := by
  refine returnsInHanded_of_change (C := Try.checked) ownK started (by kernel_rfl) Try.func3
    (ChangeSpec.witness6 (enc := enc) (C := Try.checked) false ⟨#[], #[.slice none 0 0], []⟩ 8 (by kernel_rfl) (by kernel_rfl) (by kernel_rfl) (by kernel_rfl)) ?_
  intro W base args ds gs before hval0 hW _ _
  have hval : ∀ (j : Nat) t v, Try.f3.params[j]? = some t → args[j]? = some v → Value.okWide Try.prog W .any base t v := hval0
  have hW' := hW
  obtain ⟨p, q, hA0, _, rfl, _, _⟩ := hW
  have hA : DataW.TrodAll enc Try.prog W 0 (fun _ => true) true Try.f3.params.toList args.toList ds p := hA0
  rw [Try.params3] at hA hval
  obtain ⟨v0, vs0, d0, ds0, p0, q0, hargs, rfl, rfl, h0, r0⟩ := trodAll_cons hA
  obtain ⟨rfl, rfl, rfl⟩ := trodAll_nil r0
  obtain rfl : args = #[v0] := by cases args; simp_all
  obtain ⟨l0, w0, z0⟩ := argS_Slot (hval 0 22 v0 rfl rfl) h0
  clear hA0 hval0
  refine (exactIsSlots_any v0 l0 W w0 z0).mono fun e W1 ⟨he, hb⟩ => ?_
  subst he
  exact ⟨_, rfl, law_post laidK rfl (by kernel_rfl) Try.underlying4 (by kernel_rfl) (fun ds h => by match ds, h with | [_], _ => rfl) hW' hb⟩
theorem fnExactIsSlots_closed : joinedFacts Try.prog 3 Try.f3 Rows.fnExactIsSlotsSpec Rows.fnExactIsSlotsRow = true := by unfold joinedFacts; rw [mayEnter_k, liftsFinal_k, make_k]; kernel_rfl
theorem fnExactIsSlots_holds : Rows.FnExactIsSlotsSaid :=
  OpenClaim.holds_of_wide 3 Try.f3 rfl rfl rfl rfl rfl rfl rfl ⟨rfl, rfl, rfl, rfl, rfl⟩ rfl rfl rfl rfl rfl (by kernel_rfl) Try.func3 fnExactIsSlots_closed
    (of_decide_eq_true (by kernel_rfl)) (by unfold Func.isWrapper; first | (rw [if_pos (by decide +kernel)]; kernel_rfl) | (rw [if_neg (by decide +kernel)]; exact ⟨rfl, rfl⟩))
    (fun os started H enc _ => fnExactIsSlots_lifted os started H enc)
end Go.Proofs.Ytlkpinlkbikokae
