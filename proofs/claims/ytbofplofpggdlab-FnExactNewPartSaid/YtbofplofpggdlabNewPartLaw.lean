/- FnExactNewPart: at every text the program's NewPart answers as the model's (a text longer than 2^20 is not asked). No condition. -/
import Derived.Test.YtbofplofpggdlabLaw5
import Derived.Test.YtbofplofpggdlabPart4
import Derived.Test.YtbofplofpggdlabOpen
namespace Go.Proofs.Ytbofplofpggdlab
set_option linter.unusedVariables false
open Go.ChangeShapes Go.WideShapes Go.ChangeAt Go.RowKit Go.WideMaps Go.WideElems
open Go.ChangeMaps (open_string shut_string)
set_option maxRecDepth 100000 in
set_option maxHeartbeats 3200000 in
theorem exactNewPart_any (x0 : ByteArray) (w : World) (h0 : x0.size ≤ maxLen) :
    Calls Try.prog 5 #[.string x0] w fun e w' => e = .returned (.bool true) ∧ Below w.heap.size w w' := by
  unfold maxLen at h0
  by_cases hb0 : 1048576 < x0.size
  · go_enter Try.func5, Try.ntmps5
    go_wp2_with fail
    go_ret
    exact ⟨rfl, Below.refl _ _⟩
  · have HS0 : x0.size ≤ 1048576 := by omega
    have HSP := Lib.hid (fun w1 => specNewPart_any x0 w1 HS0)
    have HIM := Lib.hid (fun w1 => implNewPart_any x0 w1 HS0)
    unfold GivesNP vNP at HSP HIM
    generalize x0.data.toList = l at *
    generalize decide (0 ≤ kindI l) = b at *
    have HB := Lib.hid (Below.refl w.heap.size w)
    cases b
    all_goals
      go_enter Try.func5, Try.ntmps5
      go_wp2_with fail
      refine (HSP.out _).mono ?_
      rintro e w1 ⟨a, c, rfl, hb⟩
      have HB := Lib.hid (belS (w := w) HB.out hb)
      clear hb
      go_wp2_with fail
      refine (HIM.out _).mono ?_
      rintro e w2 ⟨a2, c2, rfl, hb⟩
      have BW := Lib.hid ((Bx.new w1 [.string ⟨(nmK l).toArray⟩, .bool false, .bool false, .slice a 0 c, .int .i64 0, .slice none 0 0] 35).below hb)
      have HB := Lib.hid (belS (w := w) (belS HB.out (bx_box w1 (.cells #[.string ⟨(nmK l).toArray⟩, .bool false, .bool false, .slice a 0 c, .int .i64 0, .slice none 0 0] 35))) hb)
      clear hb
      have eBW0 := BW.out.cell 0 (by simp)
      have eBW1 := BW.out.cell 1 (by simp)
      have eBW2 := BW.out.cell 2 (by simp)
      have eBW3 := BW.out.cell 3 (by simp)
      have eBW4 := BW.out.cell 4 (by simp)
      have eBW5 := BW.out.cell 5 (by simp)
      have lBW := BW.out.lt
      simp only [List.getElem_cons_zero, List.getElem_cons_succ] at eBW0 eBW1 eBW2 eBW3 eBW4 eBW5
      go_wp2_with fail
      clear eBW0 eBW1 eBW2 eBW3 eBW4 eBW5 lBW
      refine (eqPart_d _ _ (⟨⟨nmK l, false, false, [], 0⟩, []⟩ : PartD) (⟨⟨nmK l, false, false, [], 0⟩, []⟩ : PartD) _ (np_at l a2 c2 _) (np_at l a c _)).mono ?_
      rintro e w3 ⟨rfl, hb⟩
      have BW := Lib.hid ((BW.out.alloc (.cells #[.string ⟨(nmK l).toArray⟩, .bool false, .bool false, .slice a2 0 c2, .int .i64 0, .slice none 0 0] 35)).below hb)
      have BG := Lib.hid ((Bx.new w2 [.string ⟨(nmK l).toArray⟩, .bool false, .bool false, .slice a2 0 c2, .int .i64 0, .slice none 0 0] 35).below hb)
      have HB := Lib.hid (belS (w := w) (belS HB.out (bx_box w2 (.cells #[.string ⟨(nmK l).toArray⟩, .bool false, .bool false, .slice a2 0 c2, .int .i64 0, .slice none 0 0] 35))) hb)
      clear hb
      have eBW0 := BW.out.cell 0 (by simp)
      have eBW1 := BW.out.cell 1 (by simp)
      have eBW2 := BW.out.cell 2 (by simp)
      have eBW3 := BW.out.cell 3 (by simp)
      have eBW4 := BW.out.cell 4 (by simp)
      have eBW5 := BW.out.cell 5 (by simp)
      have lBW := BW.out.lt
      simp only [List.getElem_cons_zero, List.getElem_cons_succ] at eBW0 eBW1 eBW2 eBW3 eBW4 eBW5
      have eBG0 := BG.out.cell 0 (by simp)
      have eBG1 := BG.out.cell 1 (by simp)
      have eBG2 := BG.out.cell 2 (by simp)
      have eBG3 := BG.out.cell 3 (by simp)
      have eBG4 := BG.out.cell 4 (by simp)
      have eBG5 := BG.out.cell 5 (by simp)
      have lBG := BG.out.lt
      simp only [List.getElem_cons_zero, List.getElem_cons_succ] at eBG0 eBG1 eBG2 eBG3 eBG4 eBG5
      rw [show decide ((⟨⟨nmK l, false, false, [], 0⟩, []⟩ : PartD) = (⟨⟨nmK l, false, false, [], 0⟩, []⟩ : PartD)) = true by simp]
      go_wp2_with fail
      clear eBW0 eBW1 eBW2 eBW3 eBW4 eBW5 lBW eBG0 eBG1 eBG2 eBG3 eBG4 eBG5 lBG
      refine (markNP_any l a2 c2 1 _).mono ?_
      rintro e w4 ⟨rfl, hb⟩
      have BW := Lib.hid (BW.out.below hb)
      have BG := Lib.hid (BG.out.below hb)
      have HB := Lib.hid (belS (w := w) HB.out hb)
      clear hb
      have eBW0 := BW.out.cell 0 (by simp)
      have eBW1 := BW.out.cell 1 (by simp)
      have eBW2 := BW.out.cell 2 (by simp)
      have eBW3 := BW.out.cell 3 (by simp)
      have eBW4 := BW.out.cell 4 (by simp)
      have eBW5 := BW.out.cell 5 (by simp)
      have lBW := BW.out.lt
      simp only [List.getElem_cons_zero, List.getElem_cons_succ] at eBW0 eBW1 eBW2 eBW3 eBW4 eBW5
      have eBG0 := BG.out.cell 0 (by simp)
      have eBG1 := BG.out.cell 1 (by simp)
      have eBG2 := BG.out.cell 2 (by simp)
      have eBG3 := BG.out.cell 3 (by simp)
      have eBG4 := BG.out.cell 4 (by simp)
      have eBG5 := BG.out.cell 5 (by simp)
      have lBG := BG.out.lt
      simp only [List.getElem_cons_zero, List.getElem_cons_succ] at eBG0 eBG1 eBG2 eBG3 eBG4 eBG5
      go_wp2_with fail
      clear eBW0 eBW1 eBW2 eBW3 eBW4 eBW5 lBW eBG0 eBG1 eBG2 eBG3 eBG4 eBG5 lBG
      refine (heldNP_any l a2 c2 _).mono ?_
      rintro e w5 ⟨rfl, hb⟩
      have BW := Lib.hid (BW.out.below hb)
      have BG := Lib.hid (BG.out.below hb)
      have HB := Lib.hid (belS (w := w) HB.out hb)
      clear hb
      have eBW0 := BW.out.cell 0 (by simp)
      have eBW1 := BW.out.cell 1 (by simp)
      have eBW2 := BW.out.cell 2 (by simp)
      have eBW3 := BW.out.cell 3 (by simp)
      have eBW4 := BW.out.cell 4 (by simp)
      have eBW5 := BW.out.cell 5 (by simp)
      have lBW := BW.out.lt
      simp only [List.getElem_cons_zero, List.getElem_cons_succ] at eBW0 eBW1 eBW2 eBW3 eBW4 eBW5
      have eBG0 := BG.out.cell 0 (by simp)
      have eBG1 := BG.out.cell 1 (by simp)
      have eBG2 := BG.out.cell 2 (by simp)
      have eBG3 := BG.out.cell 3 (by simp)
      have eBG4 := BG.out.cell 4 (by simp)
      have eBG5 := BG.out.cell 5 (by simp)
      have lBG := BG.out.lt
      simp only [List.getElem_cons_zero, List.getElem_cons_succ] at eBG0 eBG1 eBG2 eBG3 eBG4 eBG5
      go_wp2_with fail
      clear eBW0 eBW1 eBW2 eBW3 eBW4 eBW5 lBW eBG0 eBG1 eBG2 eBG3 eBG4 eBG5 lBG
      refine (HIM.out _).mono ?_
      rintro e w6 ⟨a3, c3, rfl, hb⟩
      have BW := Lib.hid (BW.out.below hb)
      have BG := Lib.hid (BG.out.below hb)
      have HB := Lib.hid (belS (w := w) HB.out hb)
      clear hb
      have eBW0 := BW.out.cell 0 (by simp)
      have eBW1 := BW.out.cell 1 (by simp)
      have eBW2 := BW.out.cell 2 (by simp)
      have eBW3 := BW.out.cell 3 (by simp)
      have eBW4 := BW.out.cell 4 (by simp)
      have eBW5 := BW.out.cell 5 (by simp)
      have lBW := BW.out.lt
      simp only [List.getElem_cons_zero, List.getElem_cons_succ] at eBW0 eBW1 eBW2 eBW3 eBW4 eBW5
      have eBG0 := BG.out.cell 0 (by simp)
      have eBG1 := BG.out.cell 1 (by simp)
      have eBG2 := BG.out.cell 2 (by simp)
      have eBG3 := BG.out.cell 3 (by simp)
      have eBG4 := BG.out.cell 4 (by simp)
      have eBG5 := BG.out.cell 5 (by simp)
      have lBG := BG.out.lt
      simp only [List.getElem_cons_zero, List.getElem_cons_succ] at eBG0 eBG1 eBG2 eBG3 eBG4 eBG5
      go_wp2_with fail
      clear eBW0 eBW1 eBW2 eBW3 eBW4 eBW5 lBW eBG0 eBG1 eBG2 eBG3 eBG4 eBG5 lBG
      refine (eqPart_d _ _ (⟨⟨nmK l, false, false, [], 0⟩, []⟩ : PartD) (⟨⟨nmK l, false, false, [], 0⟩, []⟩ : PartD) _ (np_at l a3 c3 _) (np_at l a c _)).mono ?_
      rintro e w7 ⟨rfl, hb⟩
      have BW := Lib.hid ((BW.out.alloc (.cells #[.string ⟨(nmK l).toArray⟩, .bool false, .bool false, .slice a3 0 c3, .int .i64 0, .slice none 0 0] 35)).below hb)
      have BG := Lib.hid ((BG.out.alloc (.cells #[.string ⟨(nmK l).toArray⟩, .bool false, .bool false, .slice a3 0 c3, .int .i64 0, .slice none 0 0] 35)).below hb)
      have BH := Lib.hid ((Bx.new w6 [.string ⟨(nmK l).toArray⟩, .bool false, .bool false, .slice a3 0 c3, .int .i64 0, .slice none 0 0] 35).below hb)
      have HB := Lib.hid (belS (w := w) (belS HB.out (bx_box w6 (.cells #[.string ⟨(nmK l).toArray⟩, .bool false, .bool false, .slice a3 0 c3, .int .i64 0, .slice none 0 0] 35))) hb)
      clear hb
      have eBW0 := BW.out.cell 0 (by simp)
      have eBW1 := BW.out.cell 1 (by simp)
      have eBW2 := BW.out.cell 2 (by simp)
      have eBW3 := BW.out.cell 3 (by simp)
      have eBW4 := BW.out.cell 4 (by simp)
      have eBW5 := BW.out.cell 5 (by simp)
      have lBW := BW.out.lt
      simp only [List.getElem_cons_zero, List.getElem_cons_succ] at eBW0 eBW1 eBW2 eBW3 eBW4 eBW5
      have eBG0 := BG.out.cell 0 (by simp)
      have eBG1 := BG.out.cell 1 (by simp)
      have eBG2 := BG.out.cell 2 (by simp)
      have eBG3 := BG.out.cell 3 (by simp)
      have eBG4 := BG.out.cell 4 (by simp)
      have eBG5 := BG.out.cell 5 (by simp)
      have lBG := BG.out.lt
      simp only [List.getElem_cons_zero, List.getElem_cons_succ] at eBG0 eBG1 eBG2 eBG3 eBG4 eBG5
      have eBH0 := BH.out.cell 0 (by simp)
      have eBH1 := BH.out.cell 1 (by simp)
      have eBH2 := BH.out.cell 2 (by simp)
      have eBH3 := BH.out.cell 3 (by simp)
      have eBH4 := BH.out.cell 4 (by simp)
      have eBH5 := BH.out.cell 5 (by simp)
      have lBH := BH.out.lt
      simp only [List.getElem_cons_zero, List.getElem_cons_succ] at eBH0 eBH1 eBH2 eBH3 eBH4 eBH5
      rw [show decide ((⟨⟨nmK l, false, false, [], 0⟩, []⟩ : PartD) = (⟨⟨nmK l, false, false, [], 0⟩, []⟩ : PartD)) = true by simp]
      go_wp2_with fail
      clear eBW0 eBW1 eBW2 eBW3 eBW4 eBW5 lBW eBG0 eBG1 eBG2 eBG3 eBG4 eBG5 lBG eBH0 eBH1 eBH2 eBH3 eBH4 eBH5 lBH
      refine (heldNP_any l a2 c2 _).mono ?_
      rintro e w8 ⟨rfl, hb⟩
      have BW := Lib.hid (BW.out.below hb)
      have BG := Lib.hid (BG.out.below hb)
      have BH := Lib.hid (BH.out.below hb)
      have HB := Lib.hid (belS (w := w) HB.out hb)
      clear hb
      have eBW0 := BW.out.cell 0 (by simp)
      have eBW1 := BW.out.cell 1 (by simp)
      have eBW2 := BW.out.cell 2 (by simp)
      have eBW3 := BW.out.cell 3 (by simp)
      have eBW4 := BW.out.cell 4 (by simp)
      have eBW5 := BW.out.cell 5 (by simp)
      have lBW := BW.out.lt
      simp only [List.getElem_cons_zero, List.getElem_cons_succ] at eBW0 eBW1 eBW2 eBW3 eBW4 eBW5
      have eBG0 := BG.out.cell 0 (by simp)
      have eBG1 := BG.out.cell 1 (by simp)
      have eBG2 := BG.out.cell 2 (by simp)
      have eBG3 := BG.out.cell 3 (by simp)
      have eBG4 := BG.out.cell 4 (by simp)
      have eBG5 := BG.out.cell 5 (by simp)
      have lBG := BG.out.lt
      simp only [List.getElem_cons_zero, List.getElem_cons_succ] at eBG0 eBG1 eBG2 eBG3 eBG4 eBG5
      have eBH0 := BH.out.cell 0 (by simp)
      have eBH1 := BH.out.cell 1 (by simp)
      have eBH2 := BH.out.cell 2 (by simp)
      have eBH3 := BH.out.cell 3 (by simp)
      have eBH4 := BH.out.cell 4 (by simp)
      have eBH5 := BH.out.cell 5 (by simp)
      have lBH := BH.out.lt
      simp only [List.getElem_cons_zero, List.getElem_cons_succ] at eBH0 eBH1 eBH2 eBH3 eBH4 eBH5
      go_wp2_with fail
      go_ret
      exact ⟨rfl, HB.out⟩
set_option maxRecDepth 100000 in
theorem fnExactNewPart_lifted (os : Os) (started : os.Started) (H : Type) (enc : TypeId × Value → H) :
    ReturnsInHanded {} Try.checked os 5 .any (Rows.fnExactNewPartSpec.pre6 enc Try.prog Try.f5 Rows.fnExactNewPartRow.domain false) (Rows.fnExactNewPartSpec.post enc Try.prog Try.f5 false true false false) := by
  refine returnsInHanded_of_change (C := Try.checked) ownK started (by kernel_rfl) Try.func5
    (ChangeSpec.witness6 (enc := enc) (C := Try.checked) false ⟨#[], #[.string ⟨#[]⟩], []⟩ 8 (by kernel_rfl) (by kernel_rfl) (by kernel_rfl) (by kernel_rfl)) ?_
  intro W base args ds gs before hval0 hW _ _
  have hval : ∀ (j : Nat) t v, Try.f5.params[j]? = some t → args[j]? = some v → Value.okWide Try.prog W .any base t v := hval0
  have hW' := hW
  obtain ⟨p, q, hA0, _, rfl, _, _⟩ := hW
  have hA : DataW.TrodAll enc Try.prog W 0 (fun _ => true) true Try.f5.params.toList args.toList ds p := hA0
  rw [Try.params5] at hA hval
  obtain ⟨v0, vs0, d0, ds0, p0, q0, hargs, rfl, rfl, h0, r0⟩ := trodAll_cons hA
  obtain ⟨rfl, rfl, rfl⟩ := trodAll_nil r0
  obtain rfl : args = #[v0] := by cases args; simp_all
  obtain ⟨x0, rfl, rfl, rfl, w0⟩ := open_string Try.underlying9 (hval 0 9 v0 rfl rfl) h0
  clear hA0 hval0
  refine (exactNewPart_any x0 W w0).mono fun e W1 ⟨he, hb⟩ => ?_
  subst he
  exact ⟨_, rfl, law_post laidK rfl (by kernel_rfl) Try.underlying4 (by kernel_rfl) (fun ds h => by match ds, h with | [_], _ => rfl) hW' hb⟩
theorem fnExactNewPart_closed : joinedFacts Try.prog 5 Try.f5 Rows.fnExactNewPartSpec Rows.fnExactNewPartRow = true := by unfold joinedFacts; rw [mayEnter_k, liftsFinal_k, make_k]; kernel_rfl
theorem fnExactNewPart_holds : Rows.FnExactNewPartSaid :=
  OpenClaim.holds_of_wide 5 Try.f5 rfl rfl rfl rfl rfl rfl rfl ⟨rfl, rfl, rfl, rfl, rfl⟩ rfl rfl rfl rfl rfl (by kernel_rfl) Try.func5 fnExactNewPart_closed
    (of_decide_eq_true (by kernel_rfl)) (by unfold Func.isWrapper; first | (rw [if_pos (by decide +kernel)]; kernel_rfl) | (rw [if_neg (by decide +kernel)]; exact ⟨rfl, rfl⟩))
    (fun os started H enc _ => fnExactNewPart_lifted os started H enc)
end Go.Proofs.Ytbofplofpggdlab
