/- Contracts of chapter 2: the abilities of a face, their number; methods of abilities; what is in a list. -/
import Derived.Test.YtmgfokikkhfibabFace3
import Derived.Test.YtmgfokikkhfibabInt
namespace Go.Proofs.Ytmgfokikkhfibab
set_option linter.unusedVariables false
open Go.RowKit
def intsN (l : List Nat) : List Int := l.map fun k => ((k : Nat) : Int)
theorem intsN_len (l : List Nat) : (intsN l).length = l.length := by simp [intsN]
theorem intsN_snoc (l : List Nat) (k : Nat) : intsN (l ++ [k]) = intsN l ++ [(k : Int)] := by simp [intsN]
/-- rows of integers and rows of texts are not the same -/
theorem owns_apart {w : World} {B B' : Nat} {v u : Value} {xs : List Int} {ys : List (List UInt8)} (h : OwnsI w B v xs) (k : Owns w B' u ys) : v.ownBlock = none ∨ v.ownBlock ≠ u.ownBlock := by
  rcases h.2 with ⟨rfl, _⟩ | ⟨g, cap, cur, rfl, _, hg, _⟩
  · exact Or.inl rfl
  · right
    rcases k.2 with ⟨rfl, _⟩ | ⟨g2, cap2, cur2, rfl, _, hg2, _⟩
    · simp [Value.ownBlock]
    · intro e
      simp [Value.ownBlock] at e
      subst e
      rw [hg] at hg2
      injection hg2 with hg2
      injection hg2 with _ h2 _
      exact absurd h2 (by decide)
theorem ownsI_kept {w w' : World} {B B' : Nat} {v u : Value} {xs : List Int} {ys : List (List UInt8)} (h : OwnsI w B v xs) (k : Owns w B' u ys) (hg : w.grownBy w' u.ownBlock) : OwnsI w' B v xs :=
  World.ownsRow.kept h hg (owns_apart h k)
theorem bit_walk {f : Int} (hf : isF f = true) (k : Nat) (hk : k < 6) (b : Bool) (h : hasI f k = b) : (bits .and .i64 f (wrap64 (2 ^ k)) != 0) = b := by
  rw [pow_of k hk, bit_eq hf k hk]; exact h
theorem abilK_yes {f : Int} {k : Nat} (h : hasI f k = true) : intsN (abilK f (k + 1)) = intsN (abilK f k) ++ [(k : Int)] := by rw [abilK_succ, if_pos h, intsN_snoc]
theorem abilK_no {f : Int} {k : Nat} (h : hasI f k = false) : abilK f (k + 1) = abilK f k := by rw [abilK_succ, if_neg (by simp [h]), List.append_nil]
theorem abilL_yes {f : Int} (h : isF f = true) : abilL f = abilK f 6 := if_pos h
theorem abilL_no {f : Int} (h : isF f = false) : abilL f = [] := if_neg (by simp [h])
set_option maxHeartbeats 800000 in
theorem abilitiesOf_any (f : Int) (w : World) :
    Calls Try.prog 71 #[.int .i64 f] w fun e w' => GivesRowI (intsN (abilL f)) w e w' := by
  cases hf : isF f with
  | false =>
    have HN := Lib.hid (show intsN (abilL f) = [] by rw [abilL_no hf]; rfl)
    have HI := Lib.hid (implIsFace_b f false hf)
    have HO := Lib.hid (ownsI_new w)
    clear hf
    go_enter Try.func71, Try.ntmps71
    go_wp2_with (go_at_call 77; (with_reducible refine (HI.out _).mono ?_); rintro e w' ⟨rfl, rfl⟩)
    go_ret
    exact ⟨_, rfl, by rw [HN.out]; exact HO.out, (Below.refl _ _).alloc (Nat.le_refl _) _⟩
  | true =>
    have HN := Lib.hid (abilL_yes hf)
    have HI := Lib.hid (implIsFace_b f true hf)
    have HF := Lib.hid hf
    have HO := Lib.hid (ownsI_new w)
    clear hf
    go_enter Try.func71, Try.ntmps71
    go_wp2_with (go_at_call 77; (with_reducible refine (HI.out _).mono ?_); rintro e w' ⟨rfl, rfl⟩)
    go_loopw [3, 4, 10] (fun ov _ i wr => ∃ k : Nat, k ≤ 6 ∧ i = .int .i64 k ∧ OwnsI wr w.heap.size ov (intsN (abilK f k)) ∧ Below w.heap.size w wr) (fun _ _ i _ => 6 - (intOf i).toNat)
    case atStart => exact ⟨0, Nat.zero_le _, rfl, HO.out, (Below.refl _ _).alloc (Nat.le_refl _) _⟩
    case round =>
      obtain ⟨k, hk, rfl, hO, hb⟩ := hrel
      have HO2 := Lib.hid hO
      have HB := Lib.hid hb
      clear hO hb
      by_cases hlt : k < 6
      · have hlen : (intsN (abilK f k)).length ≤ 6 := by have := abilK_len f k; rw [intsN_len]; omega
        cases hx : hasI f k with
        | true =>
          have hbit := bit_walk HF.out k hlt true hx
          have HS := Lib.hid (abilK_yes hx)
          clear hx
          go_wp2_with (at_builtin; (refine append_ints rfl _ _ rfl w.heap.size _ (intsN (abilK f k)) (k : Int) _ wr.heap.size (by rfl) (ownsI_alloc HO2.out _) rfl (cell_new _ _ _) (by omega) (by have := HB.out.size; simp; omega) ?_; intro v' w3 hO1 hg1))
          exact ⟨⟨k + 1, by omega, by go_num, by rw [HS.out]; exact hO1, below_appendI (HB.out.alloc HB.out.size _) (ownsI_alloc HO2.out _) hg1 (by have := HB.out.size; simp; omega)⟩, by simp [intOf]; omega⟩
        | false =>
          have hbit := bit_walk HF.out k hlt false hx
          have HS := Lib.hid (abilK_no hx)
          clear hx
          go_wp2_with fail
          exact ⟨⟨k + 1, by omega, by go_num, by rw [HS.out]; exact HO2.out, HB.out⟩, by simp [intOf]; omega⟩
      · have HK := Lib.hid (show k = 6 by omega)
        go_wp2_with fail
        go_ret
        exact ⟨_, rfl, by rw [HN.out, ← HK.out]; exact HO2.out, HB.out⟩
/-- the methods of an ability, in memory that was just made -/
def GivesMth (k : Nat) (w : World) (e : Ending) (w' : World) : Prop := e = .returned (.slice (some ⟨w.heap.size, 0, none⟩) (mthN k).length (mthN k).length) ∧ w' = w.alloc (.cells ((mthN k).map strV).toArray 9)
set_option maxHeartbeats 400000 in
theorem implMethods_any (k : Nat) (hk : k < 6) (w : World) :
    Calls Try.prog 54 #[.int .i64 k] w fun e w' => GivesMth k w e w' := by
  rcases (show k = 0 ∨ k = 1 ∨ k = 2 ∨ k = 3 ∨ k = 4 ∨ k = 5 by omega) with rfl | rfl | rfl | rfl | rfl | rfl
  all_goals
    clear hk
    go_enter Try.func54, Try.ntmps54
    go_wp2
    go_ret
    exact ⟨rfl, rfl⟩
set_option maxHeartbeats 400000 in
theorem specMethods_any (k : Nat) (hk : k < 6) (w : World) :
    Calls Try.prog 52 #[.int .i64 k] w fun e w' => GivesMth k w e w' := by
  rcases (show k = 0 ∨ k = 1 ∨ k = 2 ∨ k = 3 ∨ k = 4 ∨ k = 5 by omega) with rfl | rfl | rfl | rfl | rfl | rfl
  all_goals
    clear hk
    go_enter Try.func52, Try.ntmps52
    go_wp2
    go_ret
    exact ⟨rfl, rfl⟩
theorem mth_row (w : World) (k : Nat) (c : Nat) : RowAt (w.alloc (.cells ((mthN k).map strV).toArray 9)) (.slice (some ⟨w.heap.size, 0, none⟩) (mthN k).length c) ((mthN k).map strV) := by
  refine ⟨_, c, by rw [List.length_map], by rw [List.length_map]; have := mthN_len k; unfold maxLen; omega, Or.inr ⟨w.heap.size, 0, rfl, by simp, fun i _ => ?_⟩⟩
  rw [cell_of_row _ _ _ _ 9 (0, 0) (heap_alloc_new w _)]
  simp
set_option maxHeartbeats 400000 in
theorem l1HasText_any (v : Value) (x : List (List UInt8)) (t : ByteArray) (w : World) (hR : RowAt w v (x.map strV)) :
    Calls Try.prog 51 #[v, .string t] w fun e w' => e = .returned (.bool (decide (t.data.toList ∈ x))) ∧ w = w' := by
  obtain ⟨a, c, rfl, hl⟩ := rowAt_len hR
  rw [List.length_map] at *
  have HR := Lib.hid hR
  clear hR
  unfold maxLen at hl
  go_enter Try.func51, Try.ntmps51
  go_wp2_with fail
  go_loop [6, 9] (fun _ i => ∃ j : Nat, j ≤ x.length ∧ i = .int .i64 j ∧ t.data.toList ∉ x.take j) (fun _ i => x.length - (intOf i).toNat)
  case atStart => exact ⟨0, Nat.zero_le _, rfl, by simp⟩
  case round =>
    obtain ⟨j, hj, rfl, hni⟩ := hrel
    have HNI := Lib.hid hni
    clear hni
    by_cases hlt : j < x.length
    · obtain ⟨b, o, rfl, hbw, d1⟩ := rowAt_cell HR.out j (by simpa using hlt)
      rw [getElem_map_strV] at d1
      unfold strV at d1
      by_cases heq : x[j] = t.data.toList
      · have hbeq : (x[j] == t.toList) = true := by rw [Lib.toList_data, beq_iff_eq]; exact heq
        have HF := Lib.hid (show t.data.toList ∈ x from by rw [← heq]; exact List.getElem_mem hlt)
        clear heq
        go_wp2_with fail
        go_ret
        exact ⟨ret_bool (by simp [HF.out]), rfl⟩
      · have hbeq : (x[j] == t.toList) = false := by rw [Lib.toList_data, beq_eq_false_iff_ne]; exact heq
        have HF := Lib.hid (show t.data.toList ∉ x.take (j + 1) from by
          rw [List.take_succ_eq_append_getElem hlt, List.mem_append]
          rintro (h | h)
          · exact HNI.out h
          · exact heq (List.mem_singleton.1 h).symm)
        clear heq
        go_wp2_with fail
        exact ⟨⟨j + 1, by omega, by go_num, HF.out⟩, by simp [intOf]; omega⟩
    · have HF := Lib.hid (show t.data.toList ∉ x from by have h := HNI.out; rwa [List.take_of_length_le (by omega)] at h)
      go_wp2_with fail
      go_ret
      exact ⟨ret_bool (by simp [HF.out]), rfl⟩
def IdxOf (x : List (List UInt8)) (t : List UInt8) (w : World) (e : Ending) (w' : World) : Prop := ∃ i : Int, e = .returned (.int .i64 i) ∧ -1 ≤ i ∧ i ≤ 9223372036854775807 ∧ decide (0 ≤ i) = decide (t ∈ x) ∧ w = w'
set_option maxHeartbeats 400000 in
theorem index_any (v : Value) (x : List (List UInt8)) (t : ByteArray) (w : World) (hR : RowAt w v (x.map strV)) :
    Calls Try.prog 73 #[v, .string t] w fun e w' => IdxOf x t.data.toList w e w' := by
  obtain ⟨a, c, rfl, hl⟩ := rowAt_len hR
  rw [List.length_map] at *
  have HR := Lib.hid hR
  clear hR
  unfold maxLen at hl
  go_enter Try.func73, Try.ntmps73
  go_wp2_with fail
  go_loop [5, 8] (fun _ i => ∃ j : Nat, j ≤ x.length ∧ i = .int .i64 j ∧ t.data.toList ∉ x.take j) (fun _ i => x.length - (intOf i).toNat)
  case atStart => exact ⟨0, Nat.zero_le _, rfl, by simp⟩
  case round =>
    obtain ⟨j, hj, rfl, hni⟩ := hrel
    have HNI := Lib.hid hni
    clear hni
    by_cases hlt : j < x.length
    · obtain ⟨b, o, rfl, hbw, d1⟩ := rowAt_cell HR.out j (by simpa using hlt)
      rw [getElem_map_strV] at d1
      unfold strV at d1
      by_cases heq : x[j] = t.data.toList
      · have hbeq : (t.toList == x[j]) = true := by rw [Lib.toList_data, beq_iff_eq]; exact heq.symm
        have HF := Lib.hid (show t.data.toList ∈ x from by rw [← heq]; exact List.getElem_mem hlt)
        clear heq
        go_wp2_with fail
        go_ret
        exact ⟨_, rfl, by omega, by omega, by simp [HF.out], rfl⟩
      · have hbeq : (t.toList == x[j]) = false := by rw [Lib.toList_data, beq_eq_false_iff_ne]; exact fun h => heq h.symm
        have HF := Lib.hid (show t.data.toList ∉ x.take (j + 1) from by
          rw [List.take_succ_eq_append_getElem hlt, List.mem_append]
          rintro (h | h)
          · exact HNI.out h
          · exact heq (List.mem_singleton.1 h).symm)
        clear heq
        go_wp2_with fail
        exact ⟨⟨j + 1, by omega, by go_num, HF.out⟩, by simp [intOf]; omega⟩
    · have HF := Lib.hid (show t.data.toList ∉ x from by have h := HNI.out; rwa [List.take_of_length_le (by omega)] at h)
      go_wp2_with fail
      go_ret
      exact ⟨_, rfl, by omega, by omega, by simp [HF.out], rfl⟩
set_option maxHeartbeats 400000 in
theorem contains_any (v : Value) (x : List (List UInt8)) (t : ByteArray) (w : World) (hR : RowAt w v (x.map strV)) :
    Calls Try.prog 53 #[v, .string t] w fun e w' => e = .returned (.bool (decide (t.data.toList ∈ x))) ∧ w = w' := by
  have HR := Lib.hid (index_any v x t w hR)
  clear hR
  go_enter Try.func53, Try.ntmps53
  go_wp2_with fail
  refine HR.out.mono ?_
  rintro e w1 ⟨i, rfl, h0, h1, hd, rfl⟩
  have HD := Lib.hid hd
  clear hd
  go_wp2_with fail
  go_ret
  exact ⟨ret_bool HD.out, rfl⟩
end Go.Proofs.Ytmgfokikkhfibab
