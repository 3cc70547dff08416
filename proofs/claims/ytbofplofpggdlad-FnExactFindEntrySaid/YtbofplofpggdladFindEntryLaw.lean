/- FnExactFindEntry: at every list of entries and every text the program's FindEntry answers as the model's (more than 2^20 entries and signs are not asked). No condition. -/
import Derived.Test.YtbofplofpggdladLaw
import Derived.Test.YtbofplofpggdladFind
import Derived.Test.YtbofplofpggdladOpenEntry
namespace Go.Proofs.Ytbofplofpggdlad
set_option linter.unusedVariables false
open Go.ChangeShapes Go.WideShapes Go.ChangeAt Go.RowKit Go.WideMaps Go.WideElems
open Go.ChangeMaps (open_string shut_string)
set_option maxRecDepth 100000 in
set_option maxHeartbeats 1600000 in
theorem exactFindEntry_any (v0 : Value) (x0 : List EntryD) (x1 : ByteArray) (w : World) (a0 : SliceAt rEntry 5 0 w v0 x0) (g0 : ∀ d ∈ x0, okEntry d) (h1 : x1.size ≤ maxLen) :
    Calls Try.prog 4 #[v0, .string x1] w fun e w' => e = .returned (.bool true) ∧ Below w.heap.size w w' := by
  unfold maxLen at h1
  by_cases hl : 1048576 < x1.size
  · go_enter Try.func4, Try.ntmps4
    go_wp2_with fail
    go_ret
    exact ⟨rfl, Below.refl _ _⟩
  · have HS := Lib.hid (show (⟨x1.data.toList.toArray⟩ : ByteArray) = x1 by simp)
    have HSP := Lib.hid (fun v w1 (h : SliceAt rEntry 5 0 w1 v x0) => specFind_any v x0 x1.data.toList w1 h)
    have HIM := Lib.hid (fun v w1 (h : SliceAt rEntry 5 0 w1 v x0) => implFind_any v x0 x1.data.toList w1 h)
    rw [HS.out] at HSP HIM
    have A0 := Lib.hid a0
    have G0 := Lib.hid g0
    generalize idxE x0 x1.data.toList = f at *
    clear a0 g0 HS
    go_enter Try.func4, Try.ntmps4
    go_wp2_with fail
    refine (szEntryS_d v0 x0 1048576 _ A0.out G0.out (by omega) (by omega)).mono ?_
    rintro e w1 ⟨r, rfl, hra, hrb, hb⟩
    have HR := Lib.hid hrb
    have HB := Lib.hid hb
    clear hrb hb
    by_cases hr : r < 0
    · go_wp2_with fail
      go_ret
      exact ⟨rfl, HB.out⟩
    · have hz := HR.out (by omega)
      have HM := Lib.hid (show x0.length + sumF zEntry x0 ≤ 2097152 by omega)
      clear hz HR
      have HT := Lib.hid (fun w1 (hw : Below w.heap.size w w1) => toEntryS_d v0 x0 w1 (A0.out.below goodEntry hw (Nat.le_refl _)) HM.out)
      go_wp2_with fail
      refine (HT.out _ HB.out).mono ?_
      rintro e w2 ⟨u, rfl, hu, hb⟩
      have HU := Lib.hid (hu.mono goodEntry (Nat.zero_le _))
      have HB := Lib.hid (belS HB.out hb)
      clear hu hb
      go_wp2_with fail
      refine (HSP.out _ _ HU.out).mono ?_
      rintro e w3 ⟨rfl, hb⟩
      have HB := Lib.hid (belS HB.out hb)
      clear hb
      go_wp2_with fail
      refine (HT.out _ HB.out).mono ?_
      rintro e w4 ⟨u2, rfl, hu, hb⟩
      have HU2 := Lib.hid (hu.mono goodEntry (Nat.zero_le _))
      have HB := Lib.hid (belS HB.out hb)
      clear hu hb
      go_wp2_with fail
      refine (HIM.out _ _ HU2.out).mono ?_
      rintro e w5 ⟨rfl, hb⟩
      have HU3 := Lib.hid (HU2.out.below goodEntry hb (Nat.le_refl _))
      have HB := Lib.hid (belS HB.out hb)
      clear hb
      go_wp2_with fail
      refine (HT.out _ HB.out).mono ?_
      rintro e w6 ⟨u3, rfl, hu, hb⟩
      have HU4 := Lib.hid (HU3.out.below goodEntry hb (Nat.le_refl _))
      have HU5 := Lib.hid (hu.mono goodEntry (Nat.zero_le _))
      have HB := Lib.hid (belS HB.out hb)
      clear hu hb
      go_wp2_with fail
      refine (eqEntryS_d _ _ x0 x0 _ HU4.out HU5.out).mono ?_
      rintro e w7 ⟨rfl, hb⟩
      have HB := Lib.hid (belS HB.out hb)
      rw [show decide (x0 = x0) = true by simp]
      clear hb
      go_wp2_with fail
      go_ret
      exact ⟨rfl, HB.out⟩
set_option maxRecDepth 100000 in
theorem fnExactFindEntry_lifted (os : Os) (started : os.Started) (H : Type) (enc : TypeId × Value → H) :
    ReturnsInHanded {} Try.checked os 4 .any (Rows.fnExactFindEntrySpec.pre6 enc Try.prog Try.f4 Rows.fnExactFindEntryRow.domain false) (Rows.fnExactFindEntrySpec.post enc Try.prog Try.f4 false true false false) := by
  refine returnsInHanded_of_change (C := Try.checked) ownK started (by kernel_rfl) Try.func4
    (ChangeSpec.witness6 (enc := enc) (C := Try.checked) false ⟨#[], #[.slice none 0 0, .string ⟨#[]⟩], []⟩ 8 (by kernel_rfl) (by kernel_rfl) (by kernel_rfl) (by kernel_rfl)) ?_
  intro W base args ds gs before hval0 hW _ _
  have hval : ∀ (j : Nat) t v, Try.f4.params[j]? = some t → args[j]? = some v → Value.okWide Try.prog W .any base t v := hval0
  have hW' := hW
  obtain ⟨p, q, hA0, _, rfl, _, _⟩ := hW
  have hA : DataW.TrodAll enc Try.prog W 0 (fun _ => true) true Try.f4.params.toList args.toList ds p := hA0
  rw [Try.params4] at hA hval
  obtain ⟨v0, vs0, d0, ds0, p0, q0, hargs, rfl, rfl, h0, r0⟩ := trodAll_cons hA
  obtain ⟨v1, vs1, d1, ds1, p1, q1, rfl, rfl, rfl, h1, r1⟩ := trodAll_cons r0
  obtain ⟨rfl, rfl, rfl⟩ := trodAll_nil r1
  obtain rfl : args = #[v0, v1] := by cases args; simp_all
  obtain ⟨l0, w0, z0⟩ := argS_Entry (hval 0 37 v0 rfl rfl) h0
  obtain ⟨x1, rfl, rfl, rfl, w1⟩ := open_string Try.underlying9 (hval 1 9 v1 rfl rfl) h1
  clear hA0 hval0
  refine (exactFindEntry_any v0 l0 x1 W w0 z0 w1).mono fun e W1 ⟨he, hb⟩ => ?_
  subst he
  exact ⟨_, rfl, law_post laidK rfl (by kernel_rfl) Try.underlying4 (by kernel_rfl) (fun ds h => by match ds, h with | [_, _], _ => rfl) hW' hb⟩
theorem fnExactFindEntry_closed : joinedFacts Try.prog 4 Try.f4 Rows.fnExactFindEntrySpec Rows.fnExactFindEntryRow = true := by unfold joinedFacts; rw [mayEnter_k, liftsFinal_k, make_k]; kernel_rfl
theorem fnExactFindEntry_holds : Rows.FnExactFindEntrySaid :=
  OpenClaim.holds_of_wide 4 Try.f4 rfl rfl rfl rfl rfl rfl rfl ⟨rfl, rfl, rfl, rfl, rfl⟩ rfl rfl rfl rfl rfl (by kernel_rfl) Try.func4 fnExactFindEntry_closed
    (of_decide_eq_true (by kernel_rfl)) (by unfold Func.isWrapper; first | (rw [if_pos (by decide +kernel)]; kernel_rfl) | (rw [if_neg (by decide +kernel)]; exact ⟨rfl, rfl⟩))
    (fun os started H enc _ => fnExactFindEntry_lifted os started H enc)
end Go.Proofs.Ytbofplofpggdlad
