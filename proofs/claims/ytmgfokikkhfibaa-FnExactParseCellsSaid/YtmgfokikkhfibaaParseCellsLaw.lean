/- FnExactParseCells: at every text the program's ParseCells answers as the model's, and its answer owns its memory (a text longer than 2^20 is not asked). No condition. -/
import Derived.Test.YtmgfokikkhfibaaLaw5
import Derived.Test.YtmgfokikkhfibaaCells7
import Derived.Test.YtmgfokikkhfibaaOpen
import Derived.HandedShaped
namespace Go.Proofs.Ytmgfokikkhfibaa
set_option linter.unusedVariables false
open Go.ChangeShapes Go.WideShapes Go.ChangeAt Go.RowKit Go.WideMaps Go.WideElems
open Go.ChangeMaps (open_string shut_string)
set_option maxRecDepth 100000 in
set_option maxHeartbeats 3200000 in
theorem exactParseCells_any (x0 : ByteArray) (w : World) (h0 : x0.size ≤ maxLen) (m : Int) (hm : w.cell? ⟨0, 0, none⟩ = some (.int .i64 m)) :
    Calls Try.prog 6 #[.string x0] w fun e w' => e = .returned (.bool true) ∧ Below w.heap.size w w' := by
  have HG := Lib.hid (World.block_lt_of_cell? w _ hm)
  have HM := Lib.hid hm
  clear hm
  unfold maxLen at h0
  by_cases hb0 : 1048576 < x0.size
  · go_enter Try.func6, Try.ntmps6
    go_wp2_with fail
    go_ret
    exact ⟨rfl, Below.refl _ _⟩
  · have HS0 := Lib.hid (show x0.size ≤ 1048576 by omega)
    have HSP := Lib.hid (fun w1 => specParseCells_any x0 w1 HS0.out)
    have HIM := Lib.hid (fun w1 hm1 => implParseCells_any x0 m w1 hm1 HS0.out)
    have HRL := Lib.hid (show (prsC x0.data.toList).length ≤ 1048577 by have h := prsC_len x0.data.toList; have h2 := size_list x0; have h3 := HS0.out; omega)
    unfold GivesCells at HSP HIM
    generalize prsC x0.data.toList = x at *
    generalize prsB x0.data.toList = y at *
    go_enter Try.func6, Try.ntmps6
    go_wp2_with fail
    refine (HSP.out _).mono ?_
    rintro e w1 ⟨vs, rfl, ho, hb0⟩
    have hb := below_step (w := w) (by repeat (first | exact Below.refl _ _ | refine Below.alloc ?_ (by simp; try omega) _ | refine Below.setCell ?_ (by simp; try omega) _ | refine belN ?_ _ | refine belD ?_)) hb0
    have Cw_w1 := Lib.hid hb
    have ho := (show OwnsF cCell 53 2 _ _ _ x from ho)
    obtain ⟨LRs, hLRs, ho⟩ := own_lo ho
    try simp at hLRs
    have HLRs := Lib.hid hLRs
    clear hLRs
    have Rs := Lib.hid (ownR_of ho)
    have Rsa := Lib.hid (ownsF_at ho (by have := HRL.out; omega))
    clear ho
    clear hb hb0
    go_wp2_with fail
    refine (HIM.out _ (maxlen_at Cw_w1.out HG.out HM.out (by repeat (first | exact Below.refl _ _ | refine Below.alloc ?_ (by simp; try omega) _ | refine Below.setCell ?_ (by simp; try omega) _ | refine belN ?_ _ | refine belD ?_)))).mono ?_
    rintro e w2 ⟨vg, rfl, ho, hb0⟩
    have hb := below_step (w := w1) (by repeat (first | exact Below.refl _ _ | refine Below.alloc ?_ (by simp; try omega) _ | refine Below.setCell ?_ (by simp; try omega) _ | refine belN ?_ _ | refine belD ?_)) hb0
    have Cw_w2 := Lib.hid (Cw_w1.out.trans (hb.mono Cw_w1.out.size))
    have Cw1_w2 := Lib.hid hb
    have Rsa_w2 := Lib.hid (FlatAt.below Rsa.out hb (Nat.le_refl _))
    have ho := (show OwnsF cCell 53 2 _ _ _ x from ho)
    obtain ⟨LRg, hLRg, ho⟩ := own_lo ho
    try simp at hLRg
    have HLRg := Lib.hid hLRg
    clear hLRg
    have Rg := Lib.hid (ownR_of ho)
    have Rga := Lib.hid (ownsF_at ho (by have := HRL.out; omega))
    clear ho
    have LCRg_w := Lib.hid (show w.heap.size ≤ LRg by have h := Cw_w1.out.size; have h2 := HLRg.out; omega)
    have LCRg_w1 := Lib.hid (show w1.heap.size ≤ LRg by have h := (Below.refl w1.heap.size w1).size; have h2 := HLRg.out; omega)
    clear hb hb0
    cases y
    all_goals
      go_wp2_with fail
      refine (eqCellS_any vg vs x x _ (FlatAt.below Rga.out (by repeat (first | exact Below.refl _ _ | refine Below.alloc ?_ (by simp; try omega) _ | refine Below.setCell ?_ (by simp; try omega) _ | refine belN ?_ _ | refine belD ?_)) (Nat.le_refl _)) (FlatAt.below Rsa_w2.out (by repeat (first | exact Below.refl _ _ | refine Below.alloc ?_ (by simp; try omega) _ | refine Below.setCell ?_ (by simp; try omega) _ | refine belN ?_ _ | refine belD ?_)) (Nat.le_refl _))).mono ?_
      rintro e w3 ⟨rfl, hb0⟩
      have hb := below_step (w := w2) (by repeat (first | exact Below.refl _ _ | refine Below.alloc ?_ (by simp; try omega) _ | refine Below.setCell ?_ (by simp; try omega) _ | refine belN ?_ _ | refine belD ?_)) hb0
      have Cw_w3 := Lib.hid (Cw_w2.out.trans (hb.mono Cw_w2.out.size))
      have Cw1_w3 := Lib.hid (Cw1_w2.out.trans (hb.mono Cw1_w2.out.size))
      have Cw2_w3 := Lib.hid hb
      have Rsa_w3 := Lib.hid (FlatAt.below Rsa_w2.out hb (Nat.le_refl _))
      have Rga_w3 := Lib.hid (FlatAt.below Rga.out hb (Nat.le_refl _))
      have Rg_w3 := Lib.hid (ownR_below Rg.out hb (Nat.le_refl _))
      rw [show decide (x = x) = true by simp]
      clear hb hb0
      go_wp2_with fail
      refine (mark_range (ownR_below Rg_w3.out (by repeat (first | exact Below.refl _ _ | refine Below.alloc ?_ (by simp; try omega) _ | refine Below.setCell ?_ (by simp; try omega) _ | refine belN ?_ _ | refine belD ?_)) (Nat.le_refl _)) (markCellS_any LRg vg x 1 _ (ownR_below Rg_w3.out (by repeat (first | exact Below.refl _ _ | refine Below.alloc ?_ (by simp; try omega) _ | refine Below.setCell ?_ (by simp; try omega) _ | refine belN ?_ _ | refine belD ?_)) (Nat.le_refl _)).1 (by have := HRL.out; omega) (by omega) (by omega))).mono ?_
      rintro e w4 ⟨rfl, ho, hbt⟩
      have Cw_w4 := Lib.hid (betw_below Cw_w3.out hbt LCRg_w.out)
      have Cw1_w4 := Lib.hid (betw_below Cw1_w3.out hbt LCRg_w1.out)
      have Rsa_w4 := Lib.hid (FlatAt.below Rsa.out Cw1_w4.out (Nat.le_refl _))
      have MK := Lib.hid (ownR_at ho (by simp only [marksCell_len]; have := HRL.out; omega))
      clear ho hbt
      go_wp2_with fail
      refine (heldCellS_any vg x.length 1 _ (FlatAt.below MK.out (by repeat (first | exact Below.refl _ _ | refine Below.alloc ?_ (by simp; try omega) _ | refine Below.setCell ?_ (by simp; try omega) _ | refine belN ?_ _ | refine belD ?_)) (Nat.le_refl _)) (by have := HRL.out; omega) (by omega) (by omega)).mono ?_
      rintro e w5 ⟨rfl, hb0⟩
      have hb := below_step (w := w4) (by repeat (first | exact Below.refl _ _ | refine Below.alloc ?_ (by simp; try omega) _ | refine Below.setCell ?_ (by simp; try omega) _ | refine belN ?_ _ | refine belD ?_)) hb0
      have Cw_w5 := Lib.hid (Cw_w4.out.trans (hb.mono Cw_w4.out.size))
      have Cw1_w5 := Lib.hid (Cw1_w4.out.trans (hb.mono Cw1_w4.out.size))
      have Rsa_w5 := Lib.hid (FlatAt.below Rsa_w4.out hb (Nat.le_refl _))
      have MK_w5 := Lib.hid (FlatAt.below MK.out hb (Nat.le_refl _))
      clear hb hb0
      go_wp2_with fail
      refine (HIM.out _ (maxlen_at Cw_w5.out HG.out HM.out (by repeat (first | exact Below.refl _ _ | refine Below.alloc ?_ (by simp; try omega) _ | refine Below.setCell ?_ (by simp; try omega) _ | refine belN ?_ _ | refine belD ?_)))).mono ?_
      rintro e w6 ⟨vh, rfl, ho, hb0⟩
      have hb := below_step (w := w5) (by repeat (first | exact Below.refl _ _ | refine Below.alloc ?_ (by simp; try omega) _ | refine Below.setCell ?_ (by simp; try omega) _ | refine belN ?_ _ | refine belD ?_)) hb0
      have Cw_w6 := Lib.hid (Cw_w5.out.trans (hb.mono Cw_w5.out.size))
      have Cw1_w6 := Lib.hid (Cw1_w5.out.trans (hb.mono Cw1_w5.out.size))
      have Rsa_w6 := Lib.hid (FlatAt.below Rsa_w5.out hb (Nat.le_refl _))
      have MK_w6 := Lib.hid (FlatAt.below MK_w5.out hb (Nat.le_refl _))
      have ho := (show OwnsF cCell 53 2 _ _ _ x from ho)
      obtain ⟨LRh, hLRh, ho⟩ := own_lo ho
      try simp at hLRh
      have HLRh := Lib.hid hLRh
      clear hLRh
      have Rh := Lib.hid (ownR_of ho)
      have Rha := Lib.hid (ownsF_at ho (by have := HRL.out; omega))
      clear ho
      clear hb hb0
      go_wp2_with fail
      refine (eqCellS_any vh vs x x _ (FlatAt.below Rha.out (by repeat (first | exact Below.refl _ _ | refine Below.alloc ?_ (by simp; try omega) _ | refine Below.setCell ?_ (by simp; try omega) _ | refine belN ?_ _ | refine belD ?_)) (Nat.le_refl _)) (FlatAt.below Rsa_w6.out (by repeat (first | exact Below.refl _ _ | refine Below.alloc ?_ (by simp; try omega) _ | refine Below.setCell ?_ (by simp; try omega) _ | refine belN ?_ _ | refine belD ?_)) (Nat.le_refl _))).mono ?_
      rintro e w7 ⟨rfl, hb0⟩
      have hb := below_step (w := w6) (by repeat (first | exact Below.refl _ _ | refine Below.alloc ?_ (by simp; try omega) _ | refine Below.setCell ?_ (by simp; try omega) _ | refine belN ?_ _ | refine belD ?_)) hb0
      have Cw_w7 := Lib.hid (Cw_w6.out.trans (hb.mono Cw_w6.out.size))
      have Cw1_w7 := Lib.hid (Cw1_w6.out.trans (hb.mono Cw1_w6.out.size))
      have Rsa_w7 := Lib.hid (FlatAt.below Rsa_w6.out hb (Nat.le_refl _))
      have MK_w7 := Lib.hid (FlatAt.below MK_w6.out hb (Nat.le_refl _))
      have Rha_w7 := Lib.hid (FlatAt.below Rha.out hb (Nat.le_refl _))
      have Rh_w7 := Lib.hid (ownR_below Rh.out hb (Nat.le_refl _))
      rw [show decide (x = x) = true by simp]
      clear hb hb0
      go_wp2_with fail
      refine (heldCellS_any vg x.length 1 _ (FlatAt.below MK_w7.out (by repeat (first | exact Below.refl _ _ | refine Below.alloc ?_ (by simp; try omega) _ | refine Below.setCell ?_ (by simp; try omega) _ | refine belN ?_ _ | refine belD ?_)) (Nat.le_refl _)) (by have := HRL.out; omega) (by omega) (by omega)).mono ?_
      rintro e w8 ⟨rfl, hb0⟩
      have hb := below_step (w := w7) (by repeat (first | exact Below.refl _ _ | refine Below.alloc ?_ (by simp; try omega) _ | refine Below.setCell ?_ (by simp; try omega) _ | refine belN ?_ _ | refine belD ?_)) hb0
      have Cw_w8 := Lib.hid (Cw_w7.out.trans (hb.mono Cw_w7.out.size))
      have Cw1_w8 := Lib.hid (Cw1_w7.out.trans (hb.mono Cw1_w7.out.size))
      have Rsa_w8 := Lib.hid (FlatAt.below Rsa_w7.out hb (Nat.le_refl _))
      have MK_w8 := Lib.hid (FlatAt.below MK_w7.out hb (Nat.le_refl _))
      have Rha_w8 := Lib.hid (FlatAt.below Rha_w7.out hb (Nat.le_refl _))
      have Rh_w8 := Lib.hid (ownR_below Rh_w7.out hb (Nat.le_refl _))
      clear hb hb0
      go_wp2_with fail
      go_ret
      exact ⟨rfl, below_to Cw_w8.out (by repeat (first | exact Below.refl _ _ | refine Below.alloc ?_ (by simp; try omega) _ | refine Below.setCell ?_ (by simp; try omega) _ | refine belN ?_ _ | refine belD ?_))⟩
set_option maxRecDepth 100000 in
theorem fnExactParseCells_lifted (os : Os) (started : os.Started) (H : Type) (enc : TypeId × Value → H) :
    ReturnsInHanded {} Try.checked os 6 .any (Rows.fnExactParseCellsSpec.pre6 enc Try.prog Try.f6 Rows.fnExactParseCellsRow.domain false) (Rows.fnExactParseCellsSpec.post enc Try.prog Try.f6 false true false false) := by
  refine returnsInHanded_of_change_shaped (C := Try.checked) ownK started (by kernel_rfl) Try.func6
    (ChangeSpec.witness6 (enc := enc) (C := Try.checked) false ⟨#[], #[.string ⟨#[]⟩], []⟩ 8 (by kernel_rfl) (by kernel_rfl) (by kernel_rfl) (by kernel_rfl)) ?_
  intro W base args ds gs before hval0 hW _ _ hsh _
  have hval : ∀ (j : Nat) t v, Try.f6.params[j]? = some t → args[j]? = some v → Value.okWide Try.prog W .any base t v := hval0
  have hW' := hW
  obtain ⟨p, q, hA0, _, rfl, _, _⟩ := hW
  have hA : DataW.TrodAll enc Try.prog W 0 (fun _ => true) true Try.f6.params.toList args.toList ds p := hA0
  rw [Try.params6] at hA hval
  obtain ⟨v0, vs0, d0, ds0, p0, q0, hargs, rfl, rfl, h0, r0⟩ := trodAll_cons hA
  obtain ⟨rfl, rfl, rfl⟩ := trodAll_nil r0
  obtain rfl : args = #[v0] := by cases args; simp_all
  obtain ⟨x0, rfl, rfl, rfl, w0⟩ := open_string Try.underlying9 (hval 0 9 v0 rfl rfl) h0
  clear hA0 hval0
  obtain ⟨m, hm⟩ := Try.laysM143.s1_3 W hsh
  refine (exactParseCells_any x0 W w0 m hm).mono fun e W1 ⟨he, hb⟩ => ?_
  subst he
  exact ⟨_, rfl, law_post laidK rfl (by kernel_rfl) Try.underlying4 (by kernel_rfl) (fun ds h => by match ds, h with | [_], _ => rfl) hW' hb⟩
theorem fnExactParseCells_closed : joinedFacts Try.prog 6 Try.f6 Rows.fnExactParseCellsSpec Rows.fnExactParseCellsRow = true := by unfold joinedFacts; rw [mayEnter_k, liftsFinal_k, make_k]; kernel_rfl
theorem fnExactParseCells_holds : Rows.FnExactParseCellsSaid :=
  OpenClaim.holds_of_wide 6 Try.f6 rfl rfl rfl rfl rfl rfl rfl ⟨rfl, rfl, rfl, rfl, rfl⟩ rfl rfl rfl rfl rfl (by kernel_rfl) Try.func6 fnExactParseCells_closed
    (of_decide_eq_true (by kernel_rfl)) (by unfold Func.isWrapper; first | (rw [if_pos (by decide +kernel)]; kernel_rfl) | (rw [if_neg (by decide +kernel)]; exact ⟨rfl, rfl⟩))
    (fun os started H enc _ => fnExactParseCells_lifted os started H enc)
end Go.Proofs.Ytmgfokikkhfibaa
