/- FnExactIsCells: at every list the program's IsCells answers as the model's (lists of more than 2^20 cells and signs are not asked). No condition. -/
import Derived.Test.YtmgfokikkhfibaaLaw5
import Derived.Test.YtmgfokikkhfibaaCells2
import Derived.Test.YtmgfokikkhfibaaOpen
namespace Go.Proofs.Ytmgfokikkhfibaa
set_option linter.unusedVariables false
open Go.ChangeShapes Go.WideShapes Go.ChangeAt Go.RowKit Go.WideMaps Go.WideElems
open Go.ChangeMaps (open_string shut_string)
set_option maxRecDepth 100000 in
set_option maxHeartbeats 3200000 in
theorem exactIsCells_any (v0 : Value) (x0 : List CellD) (w : World) (a0 : FlatAt cCell 2 w v0 x0) (g0 : ∀ d ∈ x0, okCell d) :
    Calls Try.prog 4 #[v0] w fun e w' => e = .returned (.bool true) ∧ Below w.heap.size w w' := by
  have A0 := Lib.hid a0
  have G0 := Lib.hid g0
  clear a0 g0
  go_enter Try.func4, Try.ntmps4
  go_wp2_with fail
  refine (szCellS_any v0 x0 1048576 _ (FlatAt.below A0.out (by repeat (first | exact Below.refl _ _ | refine Below.alloc ?_ (by simp; try omega) _ | refine Below.setCell ?_ (by simp; try omega) _ | refine belN ?_ _ | refine belD ?_)) (Nat.le_refl _)) G0.out (by omega) (by omega)).mono ?_
  rintro e w1 ⟨r0, rfl, hr0a, hr0b, hb0⟩
  have hb := below_step (w := w) (by repeat (first | exact Below.refl _ _ | refine Below.alloc ?_ (by simp; try omega) _ | refine Below.setCell ?_ (by simp; try omega) _ | refine belN ?_ _ | refine belD ?_)) hb0
  have Cw_w1 := Lib.hid hb
  have A0_w1 := Lib.hid (FlatAt.below A0.out hb (Nat.le_refl _))
  clear hb hb0
  by_cases hr0 : r0 < 0
  · clear hr0b
    go_wp2_with fail
    go_ret
    exact ⟨rfl, below_to Cw_w1.out (by repeat (first | exact Below.refl _ _ | refine Below.alloc ?_ (by simp; try omega) _ | refine Below.setCell ?_ (by simp; try omega) _ | refine belN ?_ _ | refine belD ?_))⟩
  · have hs0 := hr0b (by omega)
    clear hr0b
    have HSZ := Lib.hid (show (x0.length + sumF zCell x0) ≤ 1048576 by push_cast; omega)
    clear hs0
    have HSM0 := Lib.hid (show x0.length ≤ 1048576 by have h := HSZ.out; omega)
    have HK := Lib.hid (show ∀ d ∈ x0, d.fKey.length ≤ maxLen from fun d hd => (G0.out d hd).1)
    go_wp2_with fail
    refine (toCellS_any v0 x0 _ (FlatAt.below A0_w1.out (by repeat (first | exact Below.refl _ _ | refine Below.alloc ?_ (by simp; try omega) _ | refine Below.setCell ?_ (by simp; try omega) _ | refine belN ?_ _ | refine belD ?_)) (Nat.le_refl _)) (by have := HSM0.out; omega)).mono ?_
    rintro e w2 ⟨rfl, ho, hb0⟩
    have hb := below_step (w := w1) (by repeat (first | exact Below.refl _ _ | refine Below.alloc ?_ (by simp; try omega) _ | refine Below.setCell ?_ (by simp; try omega) _ | refine belN ?_ _ | refine belD ?_)) hb0
    have Cw_w2 := Lib.hid (Cw_w1.out.trans (hb.mono Cw_w1.out.size))
    have A0_w2 := Lib.hid (FlatAt.below A0_w1.out hb (Nat.le_refl _))
    have ho := (show OwnsF cCell 53 2 _ _ _ x0 from ho)
    obtain ⟨LS1, hLS1, ho⟩ := own_lo ho
    try simp at hLS1
    have HLS1 := Lib.hid hLS1
    clear hLS1
    have S1 := Lib.hid (ownR_of ho)
    have S1a := Lib.hid (ownsF_at ho (by have := HSM0.out; omega))
    clear ho
    clear hb hb0
    go_wp2_with fail
    refine (specIsCells_any _ x0 _ (FlatAt.below S1a.out (by repeat (first | exact Below.refl _ _ | refine Below.alloc ?_ (by simp; try omega) _ | refine Below.setCell ?_ (by simp; try omega) _ | refine belN ?_ _ | refine belD ?_)) (Nat.le_refl _)) HK.out).mono ?_
    rintro e w3 ⟨rfl, hb0⟩
    have hb := below_step (w := w2) (by repeat (first | exact Below.refl _ _ | refine Below.alloc ?_ (by simp; try omega) _ | refine Below.setCell ?_ (by simp; try omega) _ | refine belN ?_ _ | refine belD ?_)) hb0
    have Cw_w3 := Lib.hid (Cw_w2.out.trans (hb.mono Cw_w2.out.size))
    have A0_w3 := Lib.hid (FlatAt.below A0_w2.out hb (Nat.le_refl _))
    have S1a_w3 := Lib.hid (FlatAt.below S1a.out hb (Nat.le_refl _))
    have S1_w3 := Lib.hid (ownR_below S1.out hb (Nat.le_refl _))
    clear hb hb0
    go_wp2_with fail
    refine (toCellS_any v0 x0 _ (FlatAt.below A0_w3.out (by repeat (first | exact Below.refl _ _ | refine Below.alloc ?_ (by simp; try omega) _ | refine Below.setCell ?_ (by simp; try omega) _ | refine belN ?_ _ | refine belD ?_)) (Nat.le_refl _)) (by have := HSM0.out; omega)).mono ?_
    rintro e w4 ⟨rfl, ho, hb0⟩
    have hb := below_step (w := w3) (by repeat (first | exact Below.refl _ _ | refine Below.alloc ?_ (by simp; try omega) _ | refine Below.setCell ?_ (by simp; try omega) _ | refine belN ?_ _ | refine belD ?_)) hb0
    have Cw_w4 := Lib.hid (Cw_w3.out.trans (hb.mono Cw_w3.out.size))
    have A0_w4 := Lib.hid (FlatAt.below A0_w3.out hb (Nat.le_refl _))
    have ho := (show OwnsF cCell 53 2 _ _ _ x0 from ho)
    obtain ⟨LX2, hLX2, ho⟩ := own_lo ho
    try simp at hLX2
    have HLX2 := Lib.hid hLX2
    clear hLX2
    have X2 := Lib.hid (ownR_of ho)
    have X2a := Lib.hid (ownsF_at ho (by have := HSM0.out; omega))
    clear ho
    clear hb hb0
    go_wp2_with fail
    refine (implIsCells_any _ x0 _ (FlatAt.below X2a.out (by repeat (first | exact Below.refl _ _ | refine Below.alloc ?_ (by simp; try omega) _ | refine Below.setCell ?_ (by simp; try omega) _ | refine belN ?_ _ | refine belD ?_)) (Nat.le_refl _)) HK.out).mono ?_
    rintro e w5 ⟨rfl, hb0⟩
    have hb := below_step (w := w4) (by repeat (first | exact Below.refl _ _ | refine Below.alloc ?_ (by simp; try omega) _ | refine Below.setCell ?_ (by simp; try omega) _ | refine belN ?_ _ | refine belD ?_)) hb0
    have Cw_w5 := Lib.hid (Cw_w4.out.trans (hb.mono Cw_w4.out.size))
    have A0_w5 := Lib.hid (FlatAt.below A0_w4.out hb (Nat.le_refl _))
    have X2a_w5 := Lib.hid (FlatAt.below X2a.out hb (Nat.le_refl _))
    have X2_w5 := Lib.hid (ownR_below X2.out hb (Nat.le_refl _))
    clear hb hb0
    go_wp2_with fail
    refine (toCellS_any v0 x0 _ (FlatAt.below A0_w5.out (by repeat (first | exact Below.refl _ _ | refine Below.alloc ?_ (by simp; try omega) _ | refine Below.setCell ?_ (by simp; try omega) _ | refine belN ?_ _ | refine belD ?_)) (Nat.le_refl _)) (by have := HSM0.out; omega)).mono ?_
    rintro e w6 ⟨rfl, ho, hb0⟩
    have hb := below_step (w := w5) (by repeat (first | exact Below.refl _ _ | refine Below.alloc ?_ (by simp; try omega) _ | refine Below.setCell ?_ (by simp; try omega) _ | refine belN ?_ _ | refine belD ?_)) hb0
    have Cw_w6 := Lib.hid (Cw_w5.out.trans (hb.mono Cw_w5.out.size))
    have A0_w6 := Lib.hid (FlatAt.below A0_w5.out hb (Nat.le_refl _))
    have X2a_w6 := Lib.hid (FlatAt.below X2a_w5.out hb (Nat.le_refl _))
    have X2_w6 := Lib.hid (ownR_below X2_w5.out hb (Nat.le_refl _))
    have ho := (show OwnsF cCell 53 2 _ _ _ x0 from ho)
    obtain ⟨LZ3, hLZ3, ho⟩ := own_lo ho
    try simp at hLZ3
    have HLZ3 := Lib.hid hLZ3
    clear hLZ3
    have Z3 := Lib.hid (ownR_of ho)
    have Z3a := Lib.hid (ownsF_at ho (by have := HSM0.out; omega))
    clear ho
    clear hb hb0
    go_wp2_with fail
    refine (eqCellS_any _ _ x0 x0 _ (FlatAt.below X2a_w6.out (by repeat (first | exact Below.refl _ _ | refine Below.alloc ?_ (by simp; try omega) _ | refine Below.setCell ?_ (by simp; try omega) _ | refine belN ?_ _ | refine belD ?_)) (Nat.le_refl _)) (FlatAt.below Z3a.out (by repeat (first | exact Below.refl _ _ | refine Below.alloc ?_ (by simp; try omega) _ | refine Below.setCell ?_ (by simp; try omega) _ | refine belN ?_ _ | refine belD ?_)) (Nat.le_refl _))).mono ?_
    rintro e w7 ⟨rfl, hb0⟩
    have hb := below_step (w := w6) (by repeat (first | exact Below.refl _ _ | refine Below.alloc ?_ (by simp; try omega) _ | refine Below.setCell ?_ (by simp; try omega) _ | refine belN ?_ _ | refine belD ?_)) hb0
    have Cw_w7 := Lib.hid (Cw_w6.out.trans (hb.mono Cw_w6.out.size))
    have A0_w7 := Lib.hid (FlatAt.below A0_w6.out hb (Nat.le_refl _))
    have X2a_w7 := Lib.hid (FlatAt.below X2a_w6.out hb (Nat.le_refl _))
    have X2_w7 := Lib.hid (ownR_below X2_w6.out hb (Nat.le_refl _))
    have Z3a_w7 := Lib.hid (FlatAt.below Z3a.out hb (Nat.le_refl _))
    have Z3_w7 := Lib.hid (ownR_below Z3.out hb (Nat.le_refl _))
    rw [show decide (x0 = x0) = true by simp]
    clear hb hb0
    go_wp2_with fail
    go_ret
    exact ⟨rfl, below_to Cw_w7.out (by repeat (first | exact Below.refl _ _ | refine Below.alloc ?_ (by simp; try omega) _ | refine Below.setCell ?_ (by simp; try omega) _ | refine belN ?_ _ | refine belD ?_))⟩
set_option maxRecDepth 100000 in
theorem fnExactIsCells_lifted (os : Os) (started : os.Started) (H : Type) (enc : TypeId × Value → H) :
    ReturnsInHanded {} Try.checked os 4 .any (Rows.fnExactIsCellsSpec.pre6 enc Try.prog Try.f4 Rows.fnExactIsCellsRow.domain false) (Rows.fnExactIsCellsSpec.post enc Try.prog Try.f4 false true false false) := by
  refine returnsInHanded_of_change (C := Try.checked) ownK started (by kernel_rfl) Try.func4
    (ChangeSpec.witness6 (enc := enc) (C := Try.checked) false ⟨#[], #[.slice none 0 0], []⟩ 8 (by kernel_rfl) (by kernel_rfl) (by kernel_rfl) (by kernel_rfl)) ?_
  intro W base args ds gs before hval0 hW _ _
  have hval : ∀ (j : Nat) t v, Try.f4.params[j]? = some t → args[j]? = some v → Value.okWide Try.prog W .any base t v := hval0
  have hW' := hW
  obtain ⟨p, q, hA0, _, rfl, _, _⟩ := hW
  have hA : DataW.TrodAll enc Try.prog W 0 (fun _ => true) true Try.f4.params.toList args.toList ds p := hA0
  rw [Try.params4] at hA hval
  obtain ⟨v0, vs0, d0, ds0, p0, q0, hargs, rfl, rfl, h0, r0⟩ := trodAll_cons hA
  obtain ⟨rfl, rfl, rfl⟩ := trodAll_nil r0
  obtain rfl : args = #[v0] := by cases args; simp_all
  obtain ⟨l0, w0, z0⟩ := argS_Cell (hval 0 25 v0 rfl rfl) h0
  clear hA0 hval0
  refine (exactIsCells_any v0 l0 W w0 z0).mono fun e W1 ⟨he, hb⟩ => ?_
  subst he
  exact ⟨_, rfl, law_post laidK rfl (by kernel_rfl) Try.underlying4 (by kernel_rfl) (fun ds h => by match ds, h with | [_], _ => rfl) hW' hb⟩
theorem fnExactIsCells_closed : joinedFacts Try.prog 4 Try.f4 Rows.fnExactIsCellsSpec Rows.fnExactIsCellsRow = true := by unfold joinedFacts; rw [mayEnter_k, liftsFinal_k, make_k]; kernel_rfl
theorem fnExactIsCells_holds : Rows.FnExactIsCellsSaid :=
  OpenClaim.holds_of_wide 4 Try.f4 rfl rfl rfl rfl rfl rfl rfl ⟨rfl, rfl, rfl, rfl, rfl⟩ rfl rfl rfl rfl rfl (by kernel_rfl) Try.func4 fnExactIsCells_closed
    (of_decide_eq_true (by kernel_rfl)) (by unfold Func.isWrapper; first | (rw [if_pos (by decide +kernel)]; kernel_rfl) | (rw [if_neg (by decide +kernel)]; exact ⟨rfl, rfl⟩))
    (fun os started H enc _ => fnExactIsCells_lifted os started H enc)
end Go.Proofs.Ytmgfokikkhfibaa
