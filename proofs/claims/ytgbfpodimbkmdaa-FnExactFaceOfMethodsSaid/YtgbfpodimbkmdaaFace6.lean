/- Contracts of chapter 2: the model's FaceOfMethods; FacesUnder. -/
import Derived.Test.YtgbfpodimbkmdaaFace5
namespace Go.Proofs.Ytgbfpodimbkmdaa
set_option linter.unusedVariables false
open Go.RowKit
set_option maxHeartbeats 1600000 in
theorem specFaceOfM_any (v : Value) (x : List (List UInt8)) (w : World) (hx : RowAt w v (x.map strV)) :
    Calls Try.prog 26 #[v] w fun e w' => e = .returned (.int .i64 (faceOfM x)) ∧ Below w.heap.size w w' := by
  have HX := Lib.hid hx
  clear hx
  go_enter Try.func26, Try.ntmps26
  go_wp2_with fail
  go_loopw [3, 4, 5, 7] (fun fv i _ _ wr => ∃ k : Nat, k ≤ 6 ∧ i = .int .i64 k ∧ fv = .int .i64 (madeK (faceM x) k) ∧ Below w.heap.size w wr) (fun _ i _ _ _ => 6 - (intOf i).toNat)
  case atStart => exact ⟨0, Nat.zero_le _, rfl, rfl, Below.refl _ _⟩
  case round =>
    obtain ⟨k, hk, rfl, rfl, hb⟩ := hrel
    have HB := Lib.hid hb
    have HXr := Lib.hid (RowAt.below HX.out hb (Nat.le_refl _))
    clear hb
    by_cases hlt : k < 6
    · have hm := madeK_step (faceM x) k hlt
      have HS := Lib.hid (show madeK (faceM x) (k + 1) = madeK (faceM x) k + if faceM x k = true then 2 ^ k else 0 from rfl)
      generalize madeK (faceM x) k = z at *
      have HP := Lib.hid (sum_pow' z k hlt hm.1 hm.2)
      have hml := mthN_len k
      go_wp2_with fail
      refine (specMethods_any k hlt wr).mono ?_
      rintro e w1 ⟨rfl, rfl⟩
      have HXm := Lib.hid (rowAt_alloc HXr.out (.cells ((mthN k).map strV).toArray 9))
      have HY := Lib.hid (mth_row wr k (mthN k).length)
      have HB1 := Lib.hid (HB.out.alloc HB.out.size (.cells ((mthN k).map strV).toArray 9))
      go_wp2_with fail
      go_loop [5, 7, 15] (fun okv _ i => ∃ j : Nat, j ≤ (mthN k).length ∧ i = .int .i64 j ∧ okv = .bool (((mthN k).take j).all fun s => decide (s ∈ x))) (fun _ _ i => (mthN k).length - (intOf i).toNat)
      case atStart => exact ⟨0, Nat.zero_le _, rfl, rfl⟩
      case round =>
        obtain ⟨j, hj, rfl, rfl⟩ := hrel
        by_cases hjl : j < (mthN k).length
        · obtain ⟨b, o, he, hbw, d1⟩ := rowAt_cell HY.out j (by simpa using hjl)
          injection he with he
          injection he with he1 he2
          subst he1
          subst he2
          rw [getElem_map_strV] at d1
          unfold strV at d1
          have HC := Lib.hid (l1HasText_any v x ⟨((mthN k)[j]).toArray⟩ _ HXm.out)
          have hdl : (⟨((mthN k)[j]).toArray⟩ : ByteArray).data.toList = (mthN k)[j] := by simp
          rw [hdl] at HC
          clear hdl
          have HN := Lib.hid (show (((mthN k).take (j + 1)).all fun s => decide (s ∈ x)) = ((((mthN k).take j).all fun s => decide (s ∈ x)) && decide ((mthN k)[j] ∈ x)) by rw [List.take_succ_eq_append_getElem hjl, List.all_append]; simp)
          generalize (((mthN k).take j).all fun s => decide (s ∈ x)) = p at *
          generalize decide ((mthN k)[j] ∈ x) = q at *
          cases p
          · go_wp2_with fail
            exact ⟨⟨j + 1, by omega, by go_num, by rw [HN.out]; rfl⟩, by simp [intOf]; omega⟩
          · go_wp2_with fail
            refine HC.out.mono ?_
            rintro e w2 ⟨rfl, rfl⟩
            go_wp2_with fail
            exact ⟨⟨j + 1, by omega, by go_num, by rw [HN.out]; rfl⟩, by simp [intOf]; omega⟩
        · have HD := Lib.hid (show (((mthN k).take j).all fun s => decide (s ∈ x)) = faceM x k by rw [List.take_of_length_le (by omega)]; rfl)
          rw [HD.out]
          cases hd : faceM x k with
          | true =>
            rw [hd, if_pos rfl] at HS
            clear hd HD
            go_wp2_with fail
            exact ⟨⟨k + 1, by omega, by go_num, by rw [HS.out]; exact HP.out, HB1.out⟩, by simp [intOf]; omega⟩
          | false =>
            rw [hd, if_neg (by decide), Int.add_zero] at HS
            clear hd HD
            go_wp2_with fail
            exact ⟨⟨k + 1, by omega, by go_num, by rw [HS.out], HB1.out⟩, by simp [intOf]; omega⟩
    · have HN := Lib.hid (show madeK (faceM x) k = faceOfM x by rw [show k = 6 by omega]; rfl)
      go_wp2_with fail
      go_ret
      exact ⟨ret_int HN.out, HB.out⟩
theorem underK_yes {f : Int} {k : Nat} (h : offersF f (k : Nat) = true) : underK f (k + 1) = underK f k ++ [(k : Int)] := by rw [underK_succ, if_pos h]
theorem underK_no {f : Int} {k : Nat} (h : offersF f (k : Nat) = false) : underK f (k + 1) = underK f k := by rw [underK_succ, if_neg (by simp [h]), List.append_nil]
end Go.Proofs.Ytgbfpodimbkmdaa
