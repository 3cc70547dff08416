/- FnExactParseVersion: at every text the program's ParseVersion answers as the model's (a text longer than 2^20 is not asked). No condition. -/
import Derived.Test.YtbjkalnahckfnaaLaw5
import Derived.Test.YtbjkalnahckfnaaVer4
import Derived.Test.YtbjkalnahckfnaaOpenFlat
import Derived.HandedShaped
namespace Go.Proofs.Ytbjkalnahckfnaa
set_option linter.unusedVariables false
open Go.ChangeShapes Go.WideShapes Go.ChangeAt Go.RowKit Go.WideMaps Go.WideElems
open Go.ChangeMaps (open_string shut_string)
set_option maxRecDepth 100000 in
set_option maxHeartbeats 3200000 in
theorem exactParseVersion_any (x0 : ByteArray) (w : World) (h0 : x0.size ≤ maxLen) (m : Int) (hm : w.cell? ⟨0, 0, none⟩ = some (.int .i64 m)) :
    Calls Try.prog 7 #[.string x0] w fun e w' => e = .returned (.bool true) ∧ Below w.heap.size w w' := by
  have HG := Lib.hid (World.block_lt_of_cell? w _ hm)
  have HM := Lib.hid hm
  clear hm
  unfold maxLen at h0
  by_cases hb0 : 1048576 < x0.size
  · go_enter Try.func7, Try.ntmps7
    go_wp2_with fail
    go_ret
    exact ⟨rfl, Below.refl _ _⟩
  · have HS0 := Lib.hid (show x0.size ≤ 1048576 by omega)
    have HSP := Lib.hid (fun w1 => specParseVer_any x0 w1 HS0.out)
    have HIM := Lib.hid (fun w1 hm1 => implParseVer_any x0 m w1 hm1 HS0.out)
    unfold GivesVer at HSP HIM
    generalize prsV x0.data.toList = x at *
    generalize prsVB x0.data.toList = y at *
    obtain ⟨a0, a1⟩ := x
    simp only [vVersion] at HSP HIM
    go_enter Try.func7, Try.ntmps7
    go_wp2_with fail
    refine (HSP.out _).mono ?_
    rintro e w1 ⟨rfl, hb0⟩
    have hb := below_step (w := w) (by repeat (first | exact Below.refl _ _ | refine Below.alloc ?_ (by simp; try omega) _ | refine Below.setCell ?_ (by simp; try omega) _ | refine belN ?_ _ | refine belD ?_)) hb0
    have Cw_w1 := Lib.hid hb
    clear hb hb0
    go_wp2_with fail
    refine (HIM.out _ (maxlen_at Cw_w1.out HG.out HM.out (by repeat (first | exact Below.refl _ _ | refine Below.alloc ?_ (by simp; try omega) _ | refine Below.setCell ?_ (by simp; try omega) _ | refine belN ?_ _ | refine belD ?_)))).mono ?_
    rintro e w2 ⟨rfl, hb0⟩
    have hb := below_step (w := w1) (by repeat (first | exact Below.refl _ _ | refine Below.alloc ?_ (by simp; try omega) _ | refine Below.setCell ?_ (by simp; try omega) _ | refine belN ?_ _ | refine belD ?_)) hb0
    have Cw_w2 := Lib.hid (Cw_w1.out.trans (hb.mono Cw_w1.out.size))
    have es0_0_w2 : w2.cell? ⟨w1.heap.size, 0, none⟩ = some (.int .i64 a0) := by rw [hb0.cell (p := ⟨w1.heap.size, 0, none⟩) (by simp; try omega)]; simp
    have es0_1_w2 : w2.cell? ⟨w1.heap.size, 1, none⟩ = some (.int .i64 a1) := by rw [hb0.cell (p := ⟨w1.heap.size, 1, none⟩) (by simp; try omega)]; simp
    have Ls0_w2 : w1.heap.size < w2.heap.size := by have h := hb0.size; simp at h; omega
    clear hb hb0
    cases y
    all_goals
      go_wp2_with fail
      refine (eqVersion_any (⟨a0, a1⟩ : VersionD) (⟨a0, a1⟩ : VersionD) _).mono ?_
      rintro e w3 ⟨rfl, hb0⟩
      have hb := below_step (w := w2) (by repeat (first | exact Below.refl _ _ | refine Below.alloc ?_ (by simp; try omega) _ | refine Below.setCell ?_ (by simp; try omega) _ | refine belN ?_ _ | refine belD ?_)) hb0
      have Cw_w3 := Lib.hid (Cw_w2.out.trans (hb.mono Cw_w2.out.size))
      have es0_0_w3 := (hb.cell (p := ⟨w1.heap.size, 0, none⟩) Ls0_w2).trans es0_0_w2
      have es0_1_w3 := (hb.cell (p := ⟨w1.heap.size, 1, none⟩) Ls0_w2).trans es0_1_w2
      have Ls0_w3 : w1.heap.size < w3.heap.size := by have h := hb.size; omega
      clear es0_0_w2 es0_1_w2 Ls0_w2
      have eg0_0_w3 : w3.cell? ⟨w2.heap.size, 0, none⟩ = some (.int .i64 a0) := by rw [hb0.cell (p := ⟨w2.heap.size, 0, none⟩) (by simp; try omega)]; simp
      have eg0_1_w3 : w3.cell? ⟨w2.heap.size, 1, none⟩ = some (.int .i64 a1) := by rw [hb0.cell (p := ⟨w2.heap.size, 1, none⟩) (by simp; try omega)]; simp
      have Lg0_w3 : w2.heap.size < w3.heap.size := by have h := hb0.size; simp at h; omega
      rw [show decide ((⟨a0, a1⟩ : VersionD) = (⟨a0, a1⟩ : VersionD)) = true by simp]
      clear hb hb0
      go_wp2_with fail
      go_ret
      exact ⟨rfl, below_to Cw_w3.out (by repeat (first | exact Below.refl _ _ | refine Below.alloc ?_ (by simp; try omega) _ | refine Below.setCell ?_ (by simp; try omega) _ | refine belN ?_ _ | refine belD ?_))⟩
set_option maxRecDepth 100000 in
theorem fnExactParseVersion_lifted (os : Os) (started : os.Started) (H : Type) (enc : TypeId × Value → H) :
    ReturnsInHanded {} Try.checked os 7 .any (Rows.fnExactParseVersionSpec.pre6 enc Try.prog Try.f7 Rows.fnExactParseVersionRow.domain false) (Rows.fnExactParseVersionSpec.post enc Try.prog Try.f7 false true false false) := by
  refine returnsInHanded_of_change_shaped (C := Try.checked) ownK started (by kernel_rfl) Try.func7
    (ChangeSpec.witness6 (enc := enc) (C := Try.checked) false ⟨#[], #[.string ⟨#[]⟩], []⟩ 8 (by kernel_rfl) (by kernel_rfl) (by kernel_rfl) (by kernel_rfl)) ?_
  intro W base args ds gs before hval0 hW _ _ hsh _
  have hval : ∀ (j : Nat) t v, Try.f7.params[j]? = some t → args[j]? = some v → Value.okWide Try.prog W .any base t v := hval0
  have hW' := hW
  obtain ⟨p, q, hA0, _, rfl, _, _⟩ := hW
  have hA : DataW.TrodAll enc Try.prog W 0 (fun _ => true) true Try.f7.params.toList args.toList ds p := hA0
  rw [Try.params7] at hA hval
  obtain ⟨v0, vs0, d0, ds0, p0, q0, hargs, rfl, rfl, h0, r0⟩ := trodAll_cons hA
  obtain ⟨rfl, rfl, rfl⟩ := trodAll_nil r0
  obtain rfl : args = #[v0] := by cases args; simp_all
  obtain ⟨x0, rfl, rfl, rfl, w0⟩ := open_string Try.underlying9 (hval 0 9 v0 rfl rfl) h0
  clear hA0 hval0
  obtain ⟨m, hm⟩ := Try.laysM219.s1_3 W hsh
  refine (exactParseVersion_any x0 W w0 m hm).mono fun e W1 ⟨he, hb⟩ => ?_
  subst he
  exact ⟨_, rfl, law_post laidK rfl (by kernel_rfl) Try.underlying4 (by kernel_rfl) (fun ds h => by match ds, h with | [_], _ => rfl) hW' hb⟩
theorem fnExactParseVersion_closed : joinedFacts Try.prog 7 Try.f7 Rows.fnExactParseVersionSpec Rows.fnExactParseVersionRow = true := by unfold joinedFacts; rw [mayEnter_k, liftsFinal_k, make_k]; kernel_rfl
theorem fnExactParseVersion_holds : Rows.FnExactParseVersionSaid :=
  OpenClaim.holds_of_wide 7 Try.f7 rfl rfl rfl rfl rfl rfl rfl ⟨rfl, rfl, rfl, rfl, rfl⟩ rfl rfl rfl rfl rfl (by kernel_rfl) Try.func7 fnExactParseVersion_closed
    (of_decide_eq_true (by kernel_rfl)) (by unfold Func.isWrapper; first | (rw [if_pos (by decide +kernel)]; kernel_rfl) | (rw [if_neg (by decide +kernel)]; exact ⟨rfl, rfl⟩))
    (fun os started H enc _ => fnExactParseVersion_lifted os started H enc)
end Go.Proofs.Ytbjkalnahckfnaa
