/- Contracts of chapter 2: AbilityOfMethod, FaceOfMethods, FacesUnder. -/
import Derived.Test.YtkoocddbfjaiaaaFace4
import Derived.Test.YtkoocddbfjaiaaaFace2
namespace Go.Proofs.Ytkoocddbfjaiaaa
set_option linter.unusedVariables false
open Go.RowKit
set_option maxHeartbeats 800000 in
theorem implAbilityOfMethod_any (s : ByteArray) (w : World) :
    Calls Try.prog 31 #[.string s] w fun e w' => e = .returned (.int .i64 (abOfM s.data.toList)) ∧ Below w.heap.size w w' := by
  go_enter Try.func31, Try.ntmps31
  go_wp2_with fail
  go_loopw [3, 4] (fun _ i wr => ∃ k : Nat, k ≤ 6 ∧ i = .int .i64 k ∧ findK (fun k => decide (s.data.toList ∈ mthN k)) k (6 - k) = abOfM s.data.toList ∧ Below w.heap.size w wr) (fun _ i _ => 6 - (intOf i).toNat)
  case atStart => exact ⟨0, Nat.zero_le _, rfl, rfl, Below.refl _ _⟩
  case round =>
    obtain ⟨k, hk, rfl, hf, hb⟩ := hrel
    have HF := Lib.hid hf
    have HB := Lib.hid hb
    clear hf hb
    by_cases hlt : k < 6
    · go_wp2_with fail
      refine (implMethods_any k hlt wr).mono ?_
      rintro e w1 ⟨rfl, rfl⟩
      have HC := Lib.hid (contains_any _ (mthN k) s _ (mth_row wr k (mthN k).length))
      have HB1 := Lib.hid (HB.out.alloc HB.out.size (.cells ((mthN k).map strV).toArray 9))
      cases hx : decide (s.data.toList ∈ mthN k) with
      | true =>
        rw [hx] at HC
        have HR := Lib.hid (show (k : Int) = abOfM s.data.toList from by rw [← HF.out]; exact (findK_yes hlt hx).symm)
        clear hx
        go_wp2_with fail
        refine HC.out.mono ?_
        rintro e w2 ⟨rfl, rfl⟩
        go_wp2_with fail
        go_ret
        exact ⟨ret_int HR.out, HB1.out⟩
      | false =>
        rw [hx] at HC
        have HR := Lib.hid (show findK (fun k => decide (s.data.toList ∈ mthN k)) (k + 1) (6 - (k + 1)) = abOfM s.data.toList from by rw [← HF.out]; exact (findK_no hlt hx).symm)
        clear hx
        go_wp2_with fail
        refine HC.out.mono ?_
        rintro e w2 ⟨rfl, rfl⟩
        go_wp2_with fail
        exact ⟨⟨k + 1, by omega, by go_num, HR.out, HB1.out⟩, by simp [intOf]; omega⟩
    · have HR := Lib.hid (show (-1 : Int) = abOfM s.data.toList from by rw [← HF.out, show k = 6 by omega]; exact findK_end.symm)
      go_wp2_with fail
      go_ret
      exact ⟨ret_int HR.out, HB.out⟩
set_option maxHeartbeats 800000 in
theorem containsAll_any (v u : Value) (x y : List (List UInt8)) (w : World) (hx : RowAt w v (x.map strV)) (hy : RowAt w u (y.map strV)) :
    Calls Try.prog 49 #[v, u] w fun e w' => e = .returned (.bool (y.all fun s => decide (s ∈ x))) ∧ w = w' := by
  obtain ⟨a2, c2, rfl, hl2⟩ := rowAt_len hy
  rw [List.length_map] at *
  have HX := Lib.hid hx
  have HY := Lib.hid hy
  clear hx hy
  unfold maxLen at hl2
  go_enter Try.func49, Try.ntmps49
  go_wp2_with fail
  go_loop [6, 9] (fun _ i => ∃ j : Nat, j ≤ y.length ∧ i = .int .i64 j ∧ ((y.take j).all fun s => decide (s ∈ x)) = true) (fun _ i => y.length - (intOf i).toNat)
  case atStart => exact ⟨0, Nat.zero_le _, rfl, by simp⟩
  case round =>
    obtain ⟨j, hj, rfl, hall⟩ := hrel
    have HA := Lib.hid hall
    clear hall
    by_cases hlt : j < y.length
    · obtain ⟨b, o, rfl, hbw, d1⟩ := rowAt_cell HY.out j (by simpa using hlt)
      rw [getElem_map_strV] at d1
      unfold strV at d1
      have HC := Lib.hid (contains_any v x ⟨(y[j]).toArray⟩ w HX.out)
      have hdl : (⟨(y[j]).toArray⟩ : ByteArray).data.toList = y[j] := by simp
      rw [hdl] at HC
      clear hdl
      cases hd : decide (y[j] ∈ x) with
      | true =>
        rw [hd] at HC
        have HN := Lib.hid (show ((y.take (j + 1)).all fun s => decide (s ∈ x)) = true by rw [List.take_succ_eq_append_getElem hlt, List.all_append, HA.out]; simp [hd])
        clear hd
        go_wp2_with fail
        refine HC.out.mono ?_
        rintro e w1 ⟨rfl, rfl⟩
        go_wp2_with fail
        exact ⟨⟨j + 1, by omega, by go_num, HN.out⟩, by simp [intOf]; omega⟩
      | false =>
        rw [hd] at HC
        have HN := Lib.hid (show (y.all fun s => decide (s ∈ x)) = false by rw [List.all_eq_false]; exact ⟨y[j], List.getElem_mem hlt, by simp [hd]⟩)
        clear hd
        go_wp2_with fail
        refine HC.out.mono ?_
        rintro e w1 ⟨rfl, rfl⟩
        go_wp2_with fail
        go_ret
        exact ⟨ret_bool HN.out.symm, rfl⟩
    · have HN := Lib.hid (show (y.all fun s => decide (s ∈ x)) = true by have h := HA.out; rwa [List.take_of_length_le (by omega)] at h)
      go_wp2_with fail
      go_ret
      exact ⟨ret_bool HN.out.symm, rfl⟩
theorem rowAt_alloc {w : World} {v : Value} {xs : List Value} (h : RowAt w v xs) (o : Obj) : RowAt (w.alloc o) v xs := h.below ((Below.refl w.heap.size w).alloc (Nat.le_refl _) o) (Nat.le_refl _)
theorem sum_pow' (z : Int) (k : Nat) (hk : k < 6) (h0 : 0 ≤ z) (h1 : z ≤ 63) : Value.int .i64 (wrap64 (z + wrap64 (2 ^ k))) = .int .i64 (z + 2 ^ k) := congrArg _ (sum_pow z k hk h0 h1)
set_option maxHeartbeats 800000 in
theorem implFaceOfM_any (v : Value) (x : List (List UInt8)) (w : World) (hx : RowAt w v (x.map strV)) :
    Calls Try.prog 32 #[v] w fun e w' => e = .returned (.int .i64 (faceOfM x)) ∧ Below w.heap.size w w' := by
  have HX := Lib.hid hx
  clear hx
  go_enter Try.func32, Try.ntmps32
  go_wp2_with fail
  go_loopw [3, 4, 5] (fun fv _ i wr => ∃ k : Nat, k ≤ 6 ∧ i = .int .i64 k ∧ fv = .int .i64 (madeK (faceM x) k) ∧ Below w.heap.size w wr) (fun _ _ i _ => 6 - (intOf i).toNat)
  case atStart => exact ⟨0, Nat.zero_le _, rfl, rfl, Below.refl _ _⟩
  case round =>
    obtain ⟨k, hk, rfl, rfl, hb⟩ := hrel
    have HB := Lib.hid hb
    have HXr := Lib.hid (RowAt.below HX.out hb (Nat.le_refl _))
    clear hb
    by_cases hlt : k < 6
    · have hm := madeK_step (faceM x) k hlt
      have HS := Lib.hid (show madeK (faceM x) (k + 1) = madeK (faceM x) k + if faceM x k = true then 2 ^ k else 0 from rfl)
      generalize madeK (faceM x) k = z at *
      have HP := Lib.hid (sum_pow' z k hlt hm.1 hm.2)
      go_wp2_with fail
      refine (implMethods_any k hlt wr).mono ?_
      rintro e w1 ⟨rfl, rfl⟩
      have HC := Lib.hid (containsAll_any v _ x (mthN k) _ (rowAt_alloc HXr.out _) (mth_row wr k (mthN k).length))
      have HB1 := Lib.hid (HB.out.alloc HB.out.size (.cells ((mthN k).map strV).toArray 9))
      cases hd : faceM x k with
      | true =>
        rw [show ((mthN k).all fun s => decide (s ∈ x)) = true from hd] at HC
        rw [hd, if_pos rfl] at HS
        clear hd
        go_wp2_with fail
        refine HC.out.mono ?_
        rintro e w2 ⟨rfl, rfl⟩
        go_wp2_with fail
        exact ⟨⟨k + 1, by omega, by go_num, by rw [HS.out]; exact HP.out, HB1.out⟩, by simp [intOf]; omega⟩
      | false =>
        rw [show ((mthN k).all fun s => decide (s ∈ x)) = false from hd] at HC
        rw [hd, if_neg (by decide), Int.add_zero] at HS
        clear hd
        go_wp2_with fail
        refine HC.out.mono ?_
        rintro e w2 ⟨rfl, rfl⟩
        go_wp2_with fail
        exact ⟨⟨k + 1, by omega, by go_num, by rw [HS.out], HB1.out⟩, by simp [intOf]; omega⟩
    · have HN := Lib.hid (show madeK (faceM x) k = faceOfM x by rw [show k = 6 by omega]; rfl)
      go_wp2_with fail
      go_ret
      exact ⟨ret_int HN.out, HB.out⟩
end Go.Proofs.Ytkoocddbfjaiaaa
