/- Contracts of chapter 5: LeastVersion, the model's; the plain side of the program's. -/
import Derived.Test.YtbjkalnahckfnabVer5
import Derived.Test.YtbjkalnahckfnabVar2
import Derived.Test.YtbjkalnahckfnabFace4
namespace Go.Proofs.Ytbjkalnahckfnab
set_option linter.unusedVariables false
open Go.RowKit
instance : Inhabited VersionD := ⟨⟨0, 0⟩⟩
theorem leastK_is (f : Int) : ∀ k, leastK f k = ⟨0, 0⟩ ∨ ∃ j, j < k ∧ leastK f k = sinceN j := by
  intro k
  induction k with
  | zero => exact Or.inl rfl
  | succ k ih =>
    unfold leastK
    split
    · exact Or.inr ⟨k, by omega, rfl⟩
    · rcases ih with h | ⟨j, h1, h2⟩
      · exact Or.inl h
      · exact Or.inr ⟨j, by omega, h2⟩
theorem since_le : ∀ k : Fin 6, (0 < cmpV (sinceN k) ⟨0, 0⟩) ∧ ∀ j : Fin 6, j < k → (0 < cmpV (sinceN k) (sinceN j) ∨ sinceN k = sinceN j) := by decide
theorem leastK_step (f : Int) (k : Nat) (hk : k < 6) : leastK f (k + 1) = if hasI f k = true ∧ 0 < cmpV (sinceN k) (leastK f k) then sinceN k else leastK f k := by
  have hs := since_le ⟨k, hk⟩
  show (if hasI f k = true then sinceN k else leastK f k) = _
  by_cases hh : hasI f k = true
  · rw [if_pos hh]
    rcases leastK_is f k with h | ⟨j, h1, h2⟩
    · rw [h, if_pos ⟨hh, hs.1⟩]
    · rw [h2]
      rcases hs.2 ⟨j, by omega⟩ h1 with h3 | h3
      · rw [if_pos ⟨hh, h3⟩]
      · simp only at h3
        by_cases hc : hasI f k = true ∧ 0 < cmpV (sinceN k) (sinceN j)
        · rw [if_pos hc]
        · rw [if_neg hc, h3]
  · rw [if_neg hh, if_neg (by simp [hh])]
theorem leastV_no {f : Int} (h : isF f = false) : leastV f = ⟨0, 0⟩ := if_neg (by simp [h])
theorem leastV_yes {f : Int} (h : isF f = true) : leastV f = leastK f 6 := if_pos h
/-- what both give -/
def GivesLeast (f : Int) (w : World) (e : Ending) (w' : World) : Prop := e = .returned (.tuple #[vVersion (leastV f), .bool (isF f)]) ∧ Below w.heap.size w w'
set_option maxRecDepth 100000 in
set_option maxHeartbeats 1600000 in
theorem specLeast_any (f : Int) (w : World) :
    Calls Try.prog 12 #[.int .i64 f] w fun e w' => GivesLeast f w e w' := by
  unfold GivesLeast
  have HX := Lib.hid (box2 w (.cells #[.int .i64 0, .int .i64 0] 25) (.cells #[.int .i64 0, .int .i64 0] 25))
  have V0 := Lib.hid ((Var2.new w 0 0 25).alloc (.cells #[.int .i64 0, .int .i64 0] 25))
  have V1 := Lib.hid (Var2.new (w.alloc (.cells #[.int .i64 0, .int .i64 0] 25)) 0 0 25)
  have hn : (w.alloc (.cells #[.int .i64 0, .int .i64 0] 25)).heap.size = w.heap.size + 1 := by simp
  rw [hn] at V1
  clear hn
  cases hf : isF f with
  | false =>
    have HI := Lib.hid (specIsFace_b f false hf)
    rw [leastV_no hf]
    clear hf
    go_enter Try.func12, Try.ntmps12
    go_wp2_with fail
    go_loopw [5, 6, 7] (fun i _ _ wr => i = .int .i64 0 ∧ wr = (w.alloc (.cells #[.int .i64 0, .int .i64 0] 25)).alloc (.cells #[.int .i64 0, .int .i64 0] 25)) (fun _ _ _ _ => 0)
    case atStart => exact ⟨rfl, rfl⟩
    case round =>
      obtain ⟨rfl, rfl⟩ := hrel
      go_wp2_with (go_at_call 39; (with_reducible refine (HI.out _).mono ?_); rintro e w' ⟨rfl, rfl⟩)
      go_region_with (go_at_call 39; (with_reducible refine (HI.out _).mono ?_); rintro e w' ⟨rfl, rfl⟩)
      all_goals
        go_wp2_with fail
        refine bodyPost_ret (v := .tuple #[.agg #[.int .i64 0, .int .i64 0], .bool false]) (by simp [results, Try.results12, go_sem]) rfl ⟨rfl, ?_⟩
        exact belDr HX.out
  | true =>
    have HI := Lib.hid (specIsFace_b f true hf)
    have HF := Lib.hid (leastV_yes hf)
    have HFF := Lib.hid hf
    generalize leastV f = res at *
    have HZ := Lib.hid (show leastK f 0 = ⟨0, 0⟩ from rfl)
    have HST := Lib.hid (leastK_step f)
    generalize leastK f = L at *
    clear hf
    have HXB := Lib.hid (show w.heap.size + 1 < ((w.alloc (.cells #[.int .i64 0, .int .i64 0] 25)).alloc (.cells #[.int .i64 0, .int .i64 0] 25)).heap.size by simp)
    go_enter Try.func12, Try.ntmps12
    go_wp2_with fail
    go_loopw [5, 6, 7] (fun i _ _ wr => ∃ k : Nat, k ≤ 6 ∧ i = .int .i64 k ∧ Var2 wr w.heap.size 0 0 ∧ Var2 wr (w.heap.size + 1) (L k).fMajor (L k).fMinor ∧ Below w.heap.size w wr) (fun i _ _ _ => 6 - (intOf i).toNat)
    case atStart => exact ⟨0, Nat.zero_le _, rfl, V0.out, by rw [HZ.out]; exact V1.out, HX.out⟩
    case round =>
      obtain ⟨k, hk, rfl, hv0, hv1, hb⟩ := hrel
      have HB := Lib.hid hb
      have HV0 := Lib.hid hv0
      have HV1 := Lib.hid hv1
      clear hv0 hv1 hb
      by_cases hlt : k < 6
      · have h6 : (k : Int) < 6 := by omega
        have HS := Lib.hid (HST.out k hlt)
        have HSI := Lib.hid (specSince_nat k hlt)
        have HC := Lib.hid (specCmp_any (sinceN k) (L k))
        have HL := Lib.hid (l2Has_any f k)
        generalize sinceN k = sk at *
        generalize L k = lk at *
        generalize cmpV sk lk = r at *
        obtain ⟨s0, s1⟩ := sk
        obtain ⟨m0, m1⟩ := lk
        unfold vVersion at HSI HC
        simp only at HSI HC HV1
        have HL2 := Lib.hid (fun w0 => HL.out w0 HFF.out hlt)
        generalize hasI f k = hh at *
        cases hh with
        | false =>
          rw [if_neg (by simp)] at HS
          go_wp2_with (go_at_call 39; (with_reducible refine (HI.out _).mono ?_); rintro e w' ⟨rfl, rfl⟩)
          refine (HSI.out _).mono ?_
          rintro e w2 ⟨rfl, hb⟩
          have HV0' := Lib.hid ((HV0.out.below hb).alloc (.cells #[.int .i64 s0, .int .i64 s1] 25))
          have HV1' := Lib.hid ((HV1.out.below hb).alloc (.cells #[.int .i64 s0, .int .i64 s1] 25))
          have HVS := Lib.hid (Var2.new w2 s0 s1 25)
          have HB2 := Lib.hid ((HB.out.trans (hb.mono HB.out.size)).alloc (HB.out.trans (hb.mono HB.out.size)).size (.cells #[.int .i64 s0, .int .i64 s1] 25))
          clear hb
          go_wp2_with fail
          refine (HL2.out _).mono ?_
          rintro e w' ⟨rfl, rfl⟩
          generalize w2.alloc (.cells #[.int .i64 s0, .int .i64 s1] 25) = wa at *
          go_wp2_with fail
          exact ⟨⟨k + 1, by omega, by go_num, HV0'.out, by rw [HS.out]; exact HV1'.out, HB2.out⟩, by simp [intOf]; omega⟩
        | true =>
          go_wp2_with (go_at_call 39; (with_reducible refine (HI.out _).mono ?_); rintro e w' ⟨rfl, rfl⟩)
          refine (HSI.out _).mono ?_
          rintro e w2 ⟨rfl, hb⟩
          have HV0' := Lib.hid ((HV0.out.below hb).alloc (.cells #[.int .i64 s0, .int .i64 s1] 25))
          have HV1' := Lib.hid ((HV1.out.below hb).alloc (.cells #[.int .i64 s0, .int .i64 s1] 25))
          have HVS := Lib.hid (Var2.new w2 s0 s1 25)
          have HB2 := Lib.hid ((HB.out.trans (hb.mono HB.out.size)).alloc (HB.out.trans (hb.mono HB.out.size)).size (.cells #[.int .i64 s0, .int .i64 s1] 25))
          clear hb
          go_wp2_with fail
          refine (HL2.out _).mono ?_
          rintro e w' ⟨rfl, rfl⟩
          generalize w2.alloc (.cells #[.int .i64 s0, .int .i64 s1] 25) = wa at *
          obtain ⟨_, a0, a1, _, _⟩ := HVS.out
          obtain ⟨_, b0, b1, g0, g1⟩ := HV1'.out
          go_wp2_with fail
          refine (HC.out _).mono ?_
          rintro e w3 ⟨rfl, hb⟩
          clear a0 a1 b0 b1 g0 g1
          have HV0'' := Lib.hid (HV0'.out.below hb)
          have HV1'' := Lib.hid (HV1'.out.below hb)
          have HVS' := Lib.hid (HVS.out.below hb)
          have HB3 := Lib.hid (HB2.out.trans (hb.mono HB2.out.size))
          clear hb
          by_cases hr : 0 < r
          · rw [if_pos ⟨by simp, hr⟩] at HS
            obtain ⟨_, a0, a1, _, _⟩ := HVS'.out
            obtain ⟨hl, b0, b1, g0, g1⟩ := HV1''.out
            go_wp2_with fail
            have HV := Lib.hid (HV1''.out.set s0 s1)
            have HW := Lib.hid (HV0''.out.other (show w.heap.size ≠ w.heap.size + 1 by omega) s0 s1)
            refine ⟨⟨k + 1, by omega, by go_num, HW.out, by rw [HS.out]; exact HV.out, ?_⟩, by simp [intOf]; omega⟩
            exact (HB3.out.setCell (by simp) _).setCell (by simp) _
          · rw [if_neg (by simp [hr])] at HS
            go_wp2_with fail
            exact ⟨⟨k + 1, by omega, by go_num, HV0''.out, by rw [HS.out]; exact HV1''.out, HB3.out⟩, by simp [intOf]; omega⟩
      · have h6 : ¬ (k : Int) < 6 := by omega
        have HK := Lib.hid (show k = 6 by omega)
        have HE := Lib.hid (show L k = res by rw [HK.out, HF.out])
        generalize L k = lk at *
        obtain ⟨m0, m1⟩ := lk
        simp only at HV1
        obtain ⟨hl, b0, b1, g0, g1⟩ := HV1.out
        obtain ⟨hl2, a0, a1, q0, q1⟩ := HV0.out
        go_wp2_with fail
        go_region_with (go_at_call 39; (with_reducible refine (HI.out _).mono ?_); rintro e w' ⟨rfl, rfl⟩)
        all_goals
          go_wp2_with fail
          refine bodyPost_ret (v := .tuple #[.agg #[.int .i64 m0, .int .i64 m1], .bool true]) (by simp [results, Try.results12, go_sem, a0, a1]) rfl ⟨by rw [← HE.out]; rfl, ?_⟩
          exact ((belDr HB.out).setCell (by simp) _).setCell (by simp) _
end Go.Proofs.Ytbjkalnahckfnab
