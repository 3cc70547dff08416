/- Contracts of chapter 5: AllowedFace, GainsOf, the program's and the model's. -/
import Derived.Test.YtbofplofpggdlaaVer2
import Derived.Test.YtbofplofpggdlaaFace2
namespace Go.Proofs.Ytbofplofpggdlaa
set_option linter.unusedVariables false
open Go.RowKit
theorem pastC {X w1 : World} {b o : Nat} {v : Value} (hb : Below X.heap.size X w1) (hlt : b < X.heap.size) (h : X.cell? ⟨b, o, none⟩ = some v) : w1.cell? ⟨b, o, none⟩ = some v := (hb.cell (p := ⟨b, o, none⟩) hlt).trans h
theorem allocC {X : World} {b o : Nat} {v : Value} (hlt : b < X.heap.size) (h : X.cell? ⟨b, o, none⟩ = some v) (ob : Obj) : (X.alloc ob).cell? ⟨b, o, none⟩ = some v := (World.cell?_alloc_past ob b o hlt).trans h
theorem allowF_no {v : VersionD} (h : verB v = false) : allowF v = 0 := if_neg (by simp [h])
theorem allowF_yes {v : VersionD} (h : verB v = true) : allowF v = madeK (allowP v) 6 := if_pos h
theorem allowF_face (v : VersionD) : isF (allowF v) = true := by
  cases h : verB v with
  | false => rw [allowF_no h]; rfl
  | true => rw [allowF_yes h]; have := madeK_6 (allowP v); exact decide_eq_true this
set_option maxHeartbeats 1600000 in
theorem implAllow_any (v : VersionD) (w : World) :
    Calls Try.prog 25 #[vVersion v] w fun e w' => e = .returned (.int .i64 (allowF v)) ∧ Below w.heap.size w w' := by
  cases hv : verB v with
  | false =>
    have HI := Lib.hid (implIsVer_b v false hv)
    rw [allowF_no hv]
    obtain ⟨a, b⟩ := v
    unfold vVersion at *
    clear hv
    simp only at *
    go_enter Try.func25, Try.ntmps25
    go_wp2_with fail
    refine (HI.out _).mono ?_
    rintro e w1 ⟨rfl, hb⟩
    go_wp2_with fail
    go_ret
    exact ⟨rfl, bel_to (box1 _ _) hb⟩
  | true =>
    have HI := Lib.hid (implIsVer_b v true hv)
    have HF := Lib.hid (allowF_yes hv)
    have HC := Lib.hid (fun k => implCmp_any (sinceN k) v)
    have HP := Lib.hid (fun k => show allowP v k = decide (cmpV (sinceN k) v ≤ 0) from rfl)
    generalize allowF v = res at *
    generalize allowP v = p at *
    obtain ⟨a, b⟩ := v
    unfold vVersion at *
    clear hv
    simp only at *
    go_enter Try.func25, Try.ntmps25
    go_wp2_with fail
    refine (HI.out _).mono ?_
    rintro e w1 ⟨rfl, hb⟩
    have HX := Lib.hid (box1 w (.cells #[.int .i64 a, .int .i64 b] 27))
    have c0 := Lib.hid (show (w.alloc (.cells #[.int .i64 a, .int .i64 b] 27)).cell? ⟨w.heap.size, 0, none⟩ = some (.int .i64 a) by simp)
    have c1 := Lib.hid (show (w.alloc (.cells #[.int .i64 a, .int .i64 b] 27)).cell? ⟨w.heap.size, 1, none⟩ = some (.int .i64 b) by simp)
    have HL := Lib.hid (show w.heap.size < (w.alloc (.cells #[.int .i64 a, .int .i64 b] 27)).heap.size by simp)
    have HB := Lib.hid hb
    generalize w.alloc (.cells #[.int .i64 a, .int .i64 b] 27) = X at *
    clear hb HI
    go_wp2_with fail
    go_loopw [3, 4, 5, 6, 10] (fun f _ _ _ i wr => ∃ k : Nat, k ≤ 6 ∧ i = .int .i64 k ∧ f = .int .i64 (madeK p k) ∧ Below X.heap.size X wr) (fun _ _ _ _ i _ => 6 - (intOf i).toNat)
    case atStart => exact ⟨0, Nat.zero_le _, rfl, rfl, HB.out⟩
    case round =>
      obtain ⟨k, hk, rfl, rfl, hb⟩ := hrel
      have HBr := Lib.hid hb
      have d0 := pastC hb HL.out c0.out
      have d1 := pastC hb HL.out c1.out
      have hs := hb.size
      have HLr := Lib.hid (show w.heap.size < wr.heap.size by have := HL.out; omega)
      clear hb hs
      by_cases hlt : k < 6
      · have hm := madeK_step p k hlt
        have HS := Lib.hid (show madeK p (k + 1) = madeK p k + if p k = true then 2 ^ k else 0 from rfl)
        generalize madeK p k = z at *
        have HPW := Lib.hid (sum_pow z k hlt hm.1 hm.2)
        have HSI := Lib.hid (implSince_nat k hlt)
        have HCM := Lib.hid (HC.out k)
        have HPK := HP.out k
        generalize sinceN k = s at *
        obtain ⟨s0, s1⟩ := s
        unfold vVersion at HSI
        simp only at HSI HCM
        generalize cmpV ⟨s0, s1⟩ ⟨a, b⟩ = r at *
        have h6 : (k : Int) < 6 := by omega
        go_wp2_with fail
        refine (HSI.out _).mono ?_
        rintro e w2 ⟨rfl, hb⟩
        have hs2 := hb.size
        have e0 := allocC (by have := HLr.out; omega) (pastC hb HLr.out d0) (.cells #[.int .i64 s0, .int .i64 s1] 27)
        have e1 := allocC (by have := HLr.out; omega) (pastC hb HLr.out d1) (.cells #[.int .i64 s0, .int .i64 s1] 27)
        have HB2 := Lib.hid (HBr.out.trans (hb.mono HBr.out.size))
        have HL2 := Lib.hid (show w.heap.size < w2.heap.size by have := HLr.out; omega)
        clear hb hs2 d0 d1
        go_wp2_with fail
        refine (HCM.out _).mono ?_
        rintro e w3 ⟨rfl, hb⟩
        have HB3 := Lib.hid (HB2.out.trans ((bel_to (box1 _ _) hb).mono HB2.out.size))
        clear hb e0 e1
        by_cases hr : r ≤ 0
        · rw [decide_eq_true hr] at HPK
          rw [HPK, if_pos rfl] at HS
          clear HPK
          go_wp2_with fail
          exact ⟨⟨k + 1, by omega, by go_num, by rw [HS.out]; exact congrArg (Value.int .i64) HPW.out, HB3.out⟩, by simp [intOf]; omega⟩
        · rw [decide_eq_false hr] at HPK
          rw [HPK, if_neg (by simp), Int.add_zero] at HS
          clear HPK
          go_wp2_with fail
          exact ⟨⟨k + 1, by omega, by go_num, by rw [HS.out], HB3.out⟩, by simp [intOf]; omega⟩
      · have h6 : ¬ (k : Int) < 6 := by omega
        have HK := Lib.hid (show k = 6 by omega)
        go_wp2_with fail
        go_ret
        exact ⟨ret_int (by rw [HF.out, HK.out]), HX.out.trans (HBr.out.mono HX.out.size)⟩
set_option maxHeartbeats 1600000 in
theorem specAllow_any (v : VersionD) (w : World) :
    Calls Try.prog 35 #[vVersion v] w fun e w' => e = .returned (.int .i64 (allowF v)) ∧ Below w.heap.size w w' := by
  cases hv : verB v with
  | false =>
    have HI := Lib.hid (specIsVer_b v false hv)
    rw [allowF_no hv]
    obtain ⟨a, b⟩ := v
    unfold vVersion at *
    clear hv
    simp only at *
    go_enter Try.func35, Try.ntmps35
    go_wp2_with fail
    have HX := Lib.hid (box1 w (.cells #[.int .i64 a, .int .i64 b] 27))
    have c0 := Lib.hid (show (w.alloc (.cells #[.int .i64 a, .int .i64 b] 27)).cell? ⟨w.heap.size, 0, none⟩ = some (.int .i64 a) by simp)
    have c1 := Lib.hid (show (w.alloc (.cells #[.int .i64 a, .int .i64 b] 27)).cell? ⟨w.heap.size, 1, none⟩ = some (.int .i64 b) by simp)
    have HL := Lib.hid (show w.heap.size < (w.alloc (.cells #[.int .i64 a, .int .i64 b] 27)).heap.size by simp)
    generalize w.alloc (.cells #[.int .i64 a, .int .i64 b] 27) = X at *
    go_loopw [3, 4, 5, 6] (fun f i _ _ wr => i = .int .i64 0 ∧ f = .int .i64 0 ∧ wr = X) (fun _ _ _ _ _ => 0)
    case atStart => exact ⟨rfl, rfl, rfl⟩
    case round =>
      obtain ⟨rfl, rfl, rfl⟩ := hrel
      have d0 := c0.out
      have d1 := c1.out
      go_wp2_with fail
      refine (HI.out _).mono ?_
      rintro e w1 ⟨rfl, hb⟩
      go_wp2_with fail
      go_ret
      exact ⟨rfl, HX.out.trans (hb.mono HX.out.size)⟩
  | true =>
    have HI := Lib.hid (specIsVer_b v true hv)
    have HF := Lib.hid (allowF_yes hv)
    have HC := Lib.hid (fun k => specCmp_any (sinceN k) v)
    have HP := Lib.hid (fun k => show allowP v k = decide (cmpV (sinceN k) v ≤ 0) from rfl)
    generalize allowF v = res at *
    generalize allowP v = p at *
    obtain ⟨a, b⟩ := v
    unfold vVersion at *
    clear hv
    simp only at *
    go_enter Try.func35, Try.ntmps35
    go_wp2_with fail
    have HX := Lib.hid (box1 w (.cells #[.int .i64 a, .int .i64 b] 27))
    have c0 := Lib.hid (show (w.alloc (.cells #[.int .i64 a, .int .i64 b] 27)).cell? ⟨w.heap.size, 0, none⟩ = some (.int .i64 a) by simp)
    have c1 := Lib.hid (show (w.alloc (.cells #[.int .i64 a, .int .i64 b] 27)).cell? ⟨w.heap.size, 1, none⟩ = some (.int .i64 b) by simp)
    have HL := Lib.hid (show w.heap.size < (w.alloc (.cells #[.int .i64 a, .int .i64 b] 27)).heap.size by simp)
    generalize w.alloc (.cells #[.int .i64 a, .int .i64 b] 27) = X at *
    go_loopw [3, 4, 5, 6] (fun f i _ _ wr => ∃ k : Nat, k ≤ 6 ∧ i = .int .i64 k ∧ f = .int .i64 (madeK p k) ∧ Below X.heap.size X wr) (fun _ i _ _ _ => 6 - (intOf i).toNat)
    case atStart => exact ⟨0, Nat.zero_le _, rfl, rfl, Below.refl _ _⟩
    case round =>
      obtain ⟨k, hk, rfl, rfl, hb⟩ := hrel
      have HBr := Lib.hid hb
      have d0 := pastC hb HL.out c0.out
      have d1 := pastC hb HL.out c1.out
      have hs := hb.size
      have HLr := Lib.hid (show w.heap.size < wr.heap.size by have := HL.out; omega)
      clear hb hs
      by_cases hlt : k < 6
      · have hm := madeK_step p k hlt
        have HS := Lib.hid (show madeK p (k + 1) = madeK p k + if p k = true then 2 ^ k else 0 from rfl)
        generalize madeK p k = z at *
        have HPW := Lib.hid (sum_pow z k hlt hm.1 hm.2)
        have HSI := Lib.hid (specSince_nat k hlt)
        have HCM := Lib.hid (HC.out k)
        have HPK := HP.out k
        generalize sinceN k = s at *
        obtain ⟨s0, s1⟩ := s
        unfold vVersion at HSI
        simp only at HSI HCM
        generalize cmpV ⟨s0, s1⟩ ⟨a, b⟩ = r at *
        have h6 : (k : Int) < 6 := by omega
        go_wp2_with fail
        refine (HI.out _).mono ?_
        rintro e w1 ⟨rfl, hb⟩
        have HB1 := Lib.hid (HBr.out.trans (hb.mono HBr.out.size))
        have hs1 := hb.size
        have q0 := pastC hb HLr.out d0
        have q1 := pastC hb HLr.out d1
        have HL1 := Lib.hid (show w.heap.size < w1.heap.size by have := HLr.out; omega)
        clear hb hs1 d0 d1
        go_wp2_with fail
        refine (HSI.out _).mono ?_
        rintro e w2 ⟨rfl, hb⟩
        have hs2 := hb.size
        have e0 := allocC (by have := HL1.out; omega) (pastC hb HL1.out q0) (.cells #[.int .i64 s0, .int .i64 s1] 27)
        have e1 := allocC (by have := HL1.out; omega) (pastC hb HL1.out q1) (.cells #[.int .i64 s0, .int .i64 s1] 27)
        have HB2 := Lib.hid (HB1.out.trans (hb.mono HB1.out.size))
        clear hb hs2 q0 q1
        go_wp2_with fail
        refine (HCM.out _).mono ?_
        rintro e w3 ⟨rfl, hb⟩
        have HB3 := Lib.hid (HB2.out.trans ((bel_to (box1 _ _) hb).mono HB2.out.size))
        clear hb e0 e1
        by_cases hr : r ≤ 0
        · rw [decide_eq_true hr] at HPK
          rw [HPK, if_pos rfl] at HS
          clear HPK
          go_wp2_with fail
          exact ⟨⟨k + 1, by omega, by go_num, by rw [HS.out]; exact congrArg (Value.int .i64) HPW.out, HB3.out⟩, by simp [intOf]; omega⟩
        · rw [decide_eq_false hr] at HPK
          rw [HPK, if_neg (by simp), Int.add_zero] at HS
          clear HPK
          go_wp2_with fail
          exact ⟨⟨k + 1, by omega, by go_num, by rw [HS.out], HB3.out⟩, by simp [intOf]; omega⟩
      · have h6 : ¬ (k : Int) < 6 := by omega
        have HK := Lib.hid (show k = 6 by omega)
        go_wp2_with fail
        go_ret
        exact ⟨ret_int (by rw [HF.out, HK.out]), HX.out.trans (HBr.out.mono HX.out.size)⟩
def gainsF (x y : VersionD) : Int := lackF (allowF x) (allowF y)
end Go.Proofs.Ytbofplofpggdlaa
