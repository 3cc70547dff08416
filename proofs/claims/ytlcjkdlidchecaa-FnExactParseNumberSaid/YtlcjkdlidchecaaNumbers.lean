/- FnNumbers and FnExactParseNumber: numbers are read from what is written and from nothing else; ParseNumber answers as the model's. No condition. -/
import Derived.Test.YtlcjkdlidchecaaL01c
import Derived.Test.YtlcjkdlidchecaaL01d
import Derived.Test.YtlcjkdlidchecaaDraw1
import Derived.Test.YtlcjkdlidchecaaLaw
namespace Go.Proofs.Ytlcjkdlidchecaa
set_option linter.unusedVariables false
open Go.ChangeShapes Go.WideShapes Go.ChangeAt Go.RowKit Go.WideMaps Go.WideElems
open Go.ChangeMaps (open_string shut_string)
theorem dig45 : digB 45 = false := by decide
theorem parse_numL (n : Int) (h0 : -9223372036854775808 ≤ n) (h1 : n ≤ 9223372036854775807) :
    (0 ≤ n ∧ n ≤ 999 → pnum (numL n) = n ∧ pok (numL n) = true) ∧ (¬ (0 ≤ n ∧ n ≤ 999) → pnum (numL n) = 0 ∧ pok (numL n) = false) := by
  constructor
  · rintro ⟨a, b⟩
    have := pnum_some (parseL_some (l := numL n) (n := n.toNat) (by omega) (by rw [show ((n.toNat : Nat) : Int) = n from by omega]))
    rw [show ((n.toNat : Nat) : Int) = n from by omega] at this
    exact this
  · intro h
    refine pnum_none (parseL_none fun m hm e => h ?_)
    have hv := valL_numL m hm
    by_cases hn : n < 0
    · have hd := numL_dig m
      rw [e] at hd
      simp only [numL, if_pos hn, List.all_cons, dig45, Bool.false_and] at hd
      cases hd
    · have e2 : numL n = digs 20 n.natAbs := by simp [numL, hn]
      have hv2 := valL_digs 19 n.natAbs (by omega)
      rw [e, e2, hv2] at hv
      omega
theorem pnum_bd (l : List UInt8) : 0 ≤ pnum l ∧ pnum l ≤ 999 := by
  unfold pnum
  cases h : parseL l with
  | none => simp
  | some n => have := (parseL_iff h).1; simp; omega
theorem pok_num (l : List UInt8) (h : pok l = true) : numL (pnum l) = l := by
  unfold pok at h; unfold pnum
  cases hp : parseL l with
  | none => rw [hp] at h; cases h
  | some n => exact (parseL_iff hp).2
theorem pok_no (l : List UInt8) (h : pok l = false) : pnum l = 0 := by
  unfold pok at h; unfold pnum
  cases hp : parseL l with
  | none => rfl
  | some n => rw [hp] at h; cases h
set_option maxHeartbeats 400000 in
theorem exactParseNumber_any (s : ByteArray) (w : World) (hs : s.size ≤ maxLen) :
    Calls Try.prog 6 #[.string s] w fun e w' => e = .returned (.bool true) ∧ Below w.heap.size w w' := by
  obtain ⟨x, y, H1, H2⟩ : ∃ (x : Int) (y : Bool), Hid (Calls Try.prog 24 #[.string s] w fun e w' => e = .returned (.tuple #[.int .i64 x, .bool y]) ∧ Below w.heap.size w w') ∧
      Hid (∀ w, Calls Try.prog 13 #[.string s] w fun e w' => e = .returned (.tuple #[.int .i64 x, .bool y]) ∧ w = w') :=
    ⟨_, _, Lib.hid (specParse_any s w hs), Lib.hid (fun w => implParse_any s w hs)⟩
  unfold maxLen at hs
  by_cases hb : 1048576 < s.size
  · go_enter Try.func6, Try.ntmps6
    go_wp2
    go_ret
    exact ⟨rfl, Below.refl _ _⟩
  · go_enter Try.func6, Try.ntmps6
    go_wp2_with fail
    refine H1.out.mono ?_
    rintro e w1 ⟨rfl, hb1⟩
    cases y
    all_goals
      go_wp2_with (go_at_call 13; refine (H2.out _).mono ?_; rintro e w2 ⟨rfl, rfl⟩)
      go_ret
      exact ⟨rfl, hb1⟩
set_option maxRecDepth 100000 in
theorem fnExactParseNumber_lifted (os : Os) (started : os.Started) (H : Type) (enc : TypeId × Value → H) :
    ReturnsInHanded {} Try.checked os 6 .any (Rows.fnExactParseNumberSpec.pre6 enc Try.prog Try.f6 Rows.fnExactParseNumberRow.domain false) (Rows.fnExactParseNumberSpec.post enc Try.prog Try.f6 false true false false) := by
  refine returnsInHanded_of_change (C := Try.checked) ownK started (by kernel_rfl) Try.func6
    (ChangeSpec.witness6 (enc := enc) (C := Try.checked) false ⟨#[], #[.string ⟨#[]⟩], []⟩ 8 (by kernel_rfl) (by kernel_rfl) (by kernel_rfl) (by kernel_rfl)) ?_
  intro W base args ds gs before hval0 hW _ _
  have hval : ∀ (j : Nat) t v, Try.f6.params[j]? = some t → args[j]? = some v → Value.okWide Try.prog W .any base t v := hval0
  have hW' := hW
  obtain ⟨p, q, hA0, _, rfl, _, _⟩ := hW
  have hA : DataW.TrodAll enc Try.prog W 0 (fun _ => true) true Try.f6.params.toList args.toList ds p := hA0
  rw [Try.params6] at hA hval
  obtain ⟨v0, vs0, d0, ds0, p0, q0, hargs, rfl, rfl, h0, r0⟩ := trodAll_cons hA
  obtain ⟨rfl, rfl, rfl⟩ := trodAll_nil r0
  obtain rfl : args = #[v0] := by cases args; simp_all
  obtain ⟨x0, rfl, rfl, rfl, w0⟩ := open_string Try.underlying9 (hval 0 9 v0 rfl rfl) h0
  clear hA0 hval0
  refine (exactParseNumber_any x0 W w0).mono fun e W1 ⟨he, hb⟩ => ?_
  subst he
  exact ⟨_, rfl, law_post laidK rfl (by kernel_rfl) Try.underlying4 (by kernel_rfl) (fun ds h => by match ds, h with | [_], _ => rfl) hW' hb⟩
theorem fnExactParseNumber_holds : Rows.FnExactParseNumberSaid :=
  OpenClaim.holds_of_wide 6 Try.f6 rfl rfl rfl rfl rfl rfl rfl ⟨rfl, rfl, rfl, rfl, rfl⟩ rfl rfl rfl rfl rfl (by kernel_rfl) Try.func6 (by kernel_rfl)
    (of_decide_eq_true (by kernel_rfl)) (by unfold Func.isWrapper; first | (rw [if_pos (by decide +kernel)]; kernel_rfl) | (rw [if_neg (by decide +kernel)]; exact ⟨rfl, rfl⟩))
    (fun os started H enc _ => fnExactParseNumber_lifted os started H enc)
set_option maxHeartbeats 400000 in
theorem big_any (v : Value) (l : List UInt8) (w : World) (hR : RowAt w v (Lib.byteCells l)) :
    Calls Try.prog 11 #[v] w fun e w' => e = .returned (.bool (decide (4096 < l.length))) ∧ w = w' := by
  obtain ⟨a, c, rfl, hl, _⟩ := hR
  rw [Lib.byteCells_length] at *
  unfold maxLen at hl
  go_enter Try.func11, Try.ntmps11
  go_wp2
  go_ret
  exact ⟨ret_bool (by simp; try omega), rfl⟩
set_option maxHeartbeats 400000 in
theorem fnNumbers_any (v : Value) (l : List UInt8) (w : World) (hR : RowAt w v (Lib.byteCells l)) :
    Calls Try.prog 3 #[v] w fun e w' => e = .returned (.bool true) ∧ Below w.heap.size w w' := by
  have HR := Lib.hid hR
  have HB := Lib.hid (big_any v l w hR)
  clear hR
  go_enter Try.func3, Try.ntmps3
  go_wp2_with fail
  refine HB.out.mono ?_
  rintro e w' ⟨rfl, rfl⟩
  by_cases hbig : 4096 < l.length
  · go_wp2_with fail
    go_ret
    exact ⟨rfl, Below.refl _ _⟩
  · have hd : decide (4096 < l.length) = false := by simpa using hbig
    clear hbig
    rw [hd]
    go_wp2_with fail
    refine (drawFormatNumber_any v l w HR.out).mono ?_
    rintro e w1 ⟨n, rfl, ⟨hn0, hn1⟩, hb1⟩
    have HB1 := Lib.hid hb1
    have HP := Lib.hid (parse_numL n hn0 hn1)
    clear hb1
    go_wp2_with fail
    refine (implFormat_any n w1 hn0 hn1).mono ?_
    rintro e w2 ⟨rfl, hb2⟩
    have HB2 := Lib.hid (HB1.out.trans (hb2.mono HB1.out.size))
    clear hb2
    go_wp2_with fail
    refine (implParse_any _ w2 (by rw [size_lit]; have := numL_short n; unfold maxLen; omega)).mono ?_
    rintro e w2 ⟨rfl, rfl⟩
    rw [show (⟨(numL n).toArray⟩ : ByteArray).data.toList = numL n from rfl]
    by_cases hin : 0 ≤ n ∧ n ≤ 999
    case' pos =>
      obtain ⟨p1, p2⟩ := HP.out.1 hin
      obtain ⟨hin0, hin1⟩ := hin
      rw [p1, p2]
      clear p1 p2
      go_wp2_with fail
    case' neg =>
      obtain ⟨p1, p2⟩ := HP.out.2 hin
      rw [p1, p2]
      clear p1 p2
      by_cases hneg : n < 0
      case' pos =>
        clear hin
        go_wp2_with fail
      case' neg =>
        have hb9 : 999 < n := by omega
        clear hin
        go_wp2_with fail
    all_goals
      refine (drawParseNumber_any v l _ (RowAt.below HR.out HB2.out (Nat.le_refl _))).mono ?_
      rintro e w3 ⟨s, rfl, hs, hb3⟩
      have HB3 := Lib.hid (HB2.out.trans (hb3.mono HB2.out.size))
      clear hb3
      go_wp2_with fail
      refine (implParse_any s _ (by unfold maxLen; omega)).mono ?_
      rintro e w4 ⟨rfl, rfl⟩
      obtain ⟨q0, q1⟩ := pnum_bd s.data.toList
      have HN := Lib.hid (pok_num s.data.toList)
      have HZ := Lib.hid (pok_no s.data.toList)
      generalize pnum s.data.toList = m at *
      generalize pok s.data.toList = ok at *
      cases ok
      · have hz := HZ.out rfl
        subst hz
        go_wp2_with fail
        go_ret
        exact ⟨rfl, HB3.out⟩
      · have hm := HN.out rfl
        go_wp2_with fail
        refine (implFormat_any m _ (by omega) (by omega)).mono ?_
        rintro e w5 ⟨rfl, hb4⟩
        have HB4 := Lib.hid (HB3.out.trans (hb4.mono HB3.out.size))
        have heq : (numL m == s.toList) = true := by rw [Lib.toList_data, beq_iff_eq]; exact hm
        clear hb4 hm
        go_wp2_with fail
        go_ret
        exact ⟨rfl, HB4.out⟩
set_option maxRecDepth 100000 in
theorem fnNumbers_lifted (os : Os) (started : os.Started) (H : Type) (enc : TypeId × Value → H) :
    ReturnsInHanded {} Try.checked os 3 .any (Rows.fnNumbersSpec.pre6 enc Try.prog Try.f3 Rows.fnNumbersRow.domain false) (Rows.fnNumbersSpec.post enc Try.prog Try.f3 false true false false) := by
  refine returnsInHanded_of_change (C := Try.checked) ownK started (by kernel_rfl) Try.func3
    (ChangeSpec.witness6 (enc := enc) (C := Try.checked) false ⟨#[], #[.slice none 0 0], []⟩ 8 (by kernel_rfl) (by kernel_rfl) (by kernel_rfl) (by kernel_rfl)) ?_
  intro W base args ds gs before hval0 hW _ _
  have hval : ∀ (j : Nat) t v, Try.f3.params[j]? = some t → args[j]? = some v → Value.okWide Try.prog W .any base t v := hval0
  have hW' := hW
  obtain ⟨p, q, hA0, _, rfl, _, _⟩ := hW
  have hA : DataW.TrodAll enc Try.prog W 0 (fun _ => true) true Try.f3.params.toList args.toList ds p := hA0
  rw [Try.params3] at hA hval
  obtain ⟨v0, vs0, d0, ds0, p0, q0, hargs, rfl, rfl, h0, r0⟩ := trodAll_cons hA
  obtain ⟨rfl, rfl, rfl⟩ := trodAll_nil r0
  obtain rfl : args = #[v0] := by cases args; simp_all
  obtain ⟨l0, w0⟩ := open_byteRow Try.underlying22 Try.underlying5 (by kernel_rfl) (hval 0 22 v0 rfl rfl) h0
  clear hA0 hval0
  refine (fnNumbers_any v0 l0 W w0).mono fun e W1 ⟨he, hb⟩ => ?_
  subst he
  exact ⟨_, rfl, law_post laidK rfl (by kernel_rfl) Try.underlying4 (by kernel_rfl) (fun ds h => by match ds, h with | [_], _ => rfl) hW' hb⟩
theorem fnNumbers_holds : Rows.FnNumbersSaid :=
  OpenClaim.holds_of_wide 3 Try.f3 rfl rfl rfl rfl rfl rfl rfl ⟨rfl, rfl, rfl, rfl, rfl⟩ rfl rfl rfl rfl rfl (by kernel_rfl) Try.func3 (by kernel_rfl)
    (of_decide_eq_true (by kernel_rfl)) (by unfold Func.isWrapper; first | (rw [if_pos (by decide +kernel)]; kernel_rfl) | (rw [if_neg (by decide +kernel)]; exact ⟨rfl, rfl⟩))
    (fun os started H enc _ => fnNumbers_lifted os started H enc)
end Go.Proofs.Ytlcjkdlidchecaa
