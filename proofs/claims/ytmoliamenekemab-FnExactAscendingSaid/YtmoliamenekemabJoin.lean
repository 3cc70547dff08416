/- JoinWith, the model's and the program's; the program's writeText and copyText. -/
import Derived.Test.YtmoliamenekemabStr
import Derived.Test.YtmoliamenekemabL01c
namespace Go.Proofs.Ytmoliamenekemab
set_option linter.unusedVariables false
open Go.RowKit
/-- the first k texts with sep between them -/
def joinK (x : List (List UInt8)) (sep : List UInt8) : Nat → List UInt8
  | 0 => []
  | k + 1 => joinK x sep k ++ (if 0 < k then sep else []) ++ x.getD k []
def joinL (x : List (List UInt8)) (sep : List UInt8) : List UInt8 := joinK x sep x.length
theorem strEq {s : ByteArray} {l : List UInt8} (h : s.data.toList = l) : Value.string s = .string ⟨l.toArray⟩ := by subst h; simp
theorem joinK_mono (x : List (List UInt8)) (sep : List UInt8) (k m : Nat) (h : k ≤ m) : (joinK x sep k).length ≤ (joinK x sep m).length := by
  induction m with
  | zero => rw [show k = 0 from by omega]; exact Nat.le_refl _
  | succ m ih =>
    rcases Nat.lt_or_ge m k with h1 | h1
    · rw [show k = m + 1 from by omega]; exact Nat.le_refl _
    · have := ih h1; simp only [joinK, List.length_append]; omega
theorem joinK_len (x : List (List UInt8)) (sep : List UInt8) (k : Nat) (h : k ≤ x.length) : (joinK x sep k).length ≤ k * sep.length + total (x.take k) := by
  induction k with
  | zero => simp [joinK]
  | succ k ih =>
    have h1 := ih (by omega)
    have h2 := total_take_succ x k (by omega)
    have h3 : x.getD k [] = x[k] := by simp [List.getD, List.getElem?_eq_getElem (show k < x.length by omega)]
    simp only [joinK, List.length_append, h3, h2, Nat.succ_mul]
    split <;> simp <;> omega
set_option maxHeartbeats 400000 in
theorem writeText_any (B b : Nat) (bs : List UInt8) (s : ByteArray) (w : World) (hI : Lib.IsBuilderF 90 5 B b (Lib.byteCells bs) w) (hl : bs.length + s.size ≤ 140737488355328) (hB : B ≤ w.heap.size) :
    Calls Try.prog 66 #[.pointer (some ⟨b, 0, none⟩), .string s] w fun e w' => e = .returned (.tuple #[]) ∧ Lib.IsBuilderF 90 5 B b (Lib.byteCells (bs ++ s.data.toList)) w' ∧ Below B w w' ∧ Lib.OthersKept 5 (some b) w w' := by
  have HI := Lib.hid hI
  have HB := Lib.hid hB
  clear hI hB
  go_enter Try.func66, Try.ntmps66
  go_wp2_with fail
  go_loopw [4, 7] (fun _ i wr => ∃ k : Nat, k ≤ s.size ∧ i = .int .i64 k ∧ Lib.IsBuilderF 90 5 B b (Lib.byteCells (bs ++ s.data.toList.take k)) wr ∧ Below B w wr ∧ Lib.OthersKept 5 (some b) w wr) (fun _ i _ => s.size - (intOf i).toNat)
  case atStart => exact ⟨0, Nat.zero_le _, rfl, by simpa using HI.out, Below.refl _ _, Lib.OthersKept.refl _ _ _⟩
  case round =>
    obtain ⟨k, hk, rfl, hI, hb, ho⟩ := hrel
    have HI2 := Lib.hid hI
    have HB2 := Lib.hid hb
    have HO2 := Lib.hid ho
    clear hI hb ho
    by_cases hlt : k < s.size
    · have hu := (s[k]).toNat_lt
      have HN := Lib.hid (take_snoc s k hlt)
      go_wp2_with fail
      refine (writeByte_k B b (Lib.byteCells (bs ++ s.data.toList.take k)) _ wr HI2.out (by rw [Lib.byteCells_length]; simp; omega) (Nat.le_trans HB.out HB2.out.size)).mono ?_
      rintro e w1 ⟨rfl, h1, b1, o1⟩
      have H1 := Lib.hid (bytes_more (by omega) (by omega) h1)
      have B1 := Lib.hid (HB2.out.trans b1)
      have O1 := Lib.hid (HO2.out.trans o1)
      clear h1 b1 o1
      go_wp2_with fail
      refine ⟨⟨k + 1, by omega, by go_num, Or.inr ?_, B1.out, O1.out⟩, by simp [intOf]; omega⟩
      have h := H1.out
      rw [HN.out, ← List.append_assoc]
      simpa using h
    · have HN := Lib.hid (show s.data.toList.take k = s.data.toList from List.take_of_length_le (by rw [size_list]; omega))
      go_wp2_with fail
      go_end0
      exact ⟨rfl, by have h := HI2.out; rw [HN.out] at h; exact h, HB2.out, HO2.out⟩
set_option maxHeartbeats 400000 in
theorem copyText_any (s : ByteArray) (w : World) (hl : s.size ≤ 140737488355328) :
    Calls Try.prog 68 #[.string s] w fun e w' => e = .returned (.string s) ∧ Below w.heap.size w w' := by
  have hf := Lib.fresh_isBuilder 90 5 w
  have HW := Lib.hid (writeText_any w.heap.size w.heap.size [] s (w.alloc (.cells #[.pointer none, .slice none 0 0] 90)) (Lib.IsBuilderF.of hf) (by simpa using hl) (by simp))
  clear hf
  go_enter Try.func68, Try.ntmps68
  go_wp2_with fail
  refine HW.out.mono ?_
  rintro e w1 ⟨rfl, h1, b1, o1⟩
  have HS := Lib.hid (string_k w.heap.size w.heap.size ([] ++ s.data.toList) w1 h1 (by have := b1.size; simp at this; omega))
  have B1 := Lib.hid (((Below.refl w.heap.size w).alloc (Nat.le_refl _) _).trans b1)
  clear h1 b1 o1
  go_wp2_with fail
  refine HS.out.mono ?_
  rintro e w2 ⟨rfl, h2, b2, o2⟩
  go_wp2_with fail
  go_ret
  exact ⟨by simp, B1.out.trans b2⟩
set_option maxHeartbeats 400000 in
theorem specJoin_any (v : Value) (x : List (List UInt8)) (sep : ByteArray) (w : World) (hR : RowAt w v (x.map strV)) (hm : (joinL x sep.data.toList).length ≤ 70368744177664) (hsep : sep.size ≤ 70368744177664) :
    Calls Try.prog 158 #[v, .string sep] w fun e w' => e = .returned (.string ⟨(joinL x sep.data.toList).toArray⟩) ∧ Below w.heap.size w w' := by
  obtain ⟨a, c, rfl, hl⟩ := rowAt_len hR
  rw [List.length_map] at *
  have HR := Lib.hid hR
  have HM := Lib.hid (fun k hk => Nat.le_trans (joinK_mono x sep.data.toList k x.length hk) hm)
  clear hR hm
  unfold maxLen at hl
  go_enter Try.func158, Try.ntmps158
  go_wp2_with fail
  go_loopw [5, 6, 7, 10] (fun sv _ _ i wr => ∃ k : Nat, k ≤ x.length ∧ i = .int .i64 k ∧ sv = .string ⟨(joinK x sep.data.toList k).toArray⟩ ∧ ∃ nq, wr = w.drewN nq) (fun _ _ _ i _ => x.length - (intOf i).toNat)
  case atStart => exact ⟨0, Nat.zero_le _, rfl, rfl, 0, rfl⟩
  case round =>
    obtain ⟨k, hk, rfl, rfl, nq, rfl⟩ := hrel
    have hmk := HM.out k hk
    by_cases hlt : k < x.length
    · obtain ⟨b, o, rfl, hbw, d1⟩ := rowAt_cell HR.out k (by simpa using hlt)
      rw [getElem_map_strV] at d1
      unfold strV at d1
      have hmk1 := HM.out (k + 1) (by omega)
      have HX := Lib.hid (show x.getD k [] = x[k] by simp [List.getD, List.getElem?_eq_getElem hlt])
      have hxl : (joinK x sep.data.toList k).length + (x[k]).length ≤ 70368744177664 := by
        simp only [joinK, List.length_append, HX.out] at hmk1; omega
      clear hmk1
      by_cases h0 : 0 < k
      · go_wp2_with fail
        exact ⟨⟨k + 1, by omega, by go_num, strEq (by rw [data_app, data_app]; simp only [joinK, if_pos h0, HX.out]), _, rfl⟩, by simp [intOf]; omega⟩
      · go_wp2_with fail
        exact ⟨⟨k + 1, by omega, by go_num, strEq (by rw [data_app]; simp only [joinK, if_neg h0, HX.out, List.append_nil]), _, rfl⟩, by simp [intOf]; omega⟩
    · have HN := Lib.hid (show k = x.length by omega)
      go_wp2_with fail
      go_ret
      exact ⟨ret_str (by rw [HN.out]; rfl), below_drewN (Below.refl _ _) _⟩
set_option maxHeartbeats 800000 in
theorem implJoin_any (v : Value) (x : List (List UInt8)) (sep : ByteArray) (w : World) (hR : RowAt w v (x.map strV)) (hm : (joinL x sep.data.toList).length ≤ 70368744177664) (hsep : sep.size ≤ 70368744177664) :
    Calls Try.prog 27 #[v, .string sep] w fun e w' => e = .returned (.string ⟨(joinL x sep.data.toList).toArray⟩) ∧ Below w.heap.size w w' := by
  obtain ⟨a, c, rfl, hl⟩ := rowAt_len hR
  rw [List.length_map] at *
  have HR := Lib.hid hR
  have HM := Lib.hid (fun k hk => Nat.le_trans (joinK_mono x sep.data.toList k x.length hk) hm)
  have HF := Lib.hid (Lib.fresh_isBuilder 90 5 w)
  clear hR hm
  unfold maxLen at hl
  go_enter Try.func27, Try.ntmps27
  go_wp2_with fail
  go_loopw [6, 7, 10] (fun _ _ i wr => ∃ k : Nat, k ≤ x.length ∧ i = .int .i64 k ∧ Lib.IsBuilderF 90 5 w.heap.size w.heap.size (Lib.byteCells (joinK x sep.data.toList k)) wr ∧ Below w.heap.size w wr) (fun _ _ i _ => x.length - (intOf i).toNat)
  case atStart => exact ⟨0, Nat.zero_le _, rfl, Lib.IsBuilderF.of HF.out, (Below.refl _ _).alloc (Nat.le_refl _) _⟩
  case round =>
    obtain ⟨k, hk, rfl, hI, hb⟩ := hrel
    have HI := Lib.hid hI
    have HB := Lib.hid hb
    have HRr := Lib.hid (RowAt.below HR.out hb (Nat.le_refl _))
    clear hI hb
    have hmk := HM.out k hk
    by_cases hlt : k < x.length
    · obtain ⟨b, o, rfl, hbw, d1⟩ := rowAt_cell HRr.out k (by simpa using hlt)
      rw [getElem_map_strV] at d1
      unfold strV at d1
      have hmk1 := HM.out (k + 1) (by omega)
      have HX := Lib.hid (show x.getD k [] = x[k] by simp [List.getD, List.getElem?_eq_getElem hlt])
      have hss := size_list sep
      have hxl : (joinK x sep.data.toList k).length + (x[k]).length + (if 0 < k then sep.size else 0) ≤ 70368744177664 := by
        simp only [joinK, List.length_append, HX.out] at hmk1; split <;> rename_i h <;> simp [h] at hmk1 <;> omega
      have HSS := Lib.hid hss
      clear hmk1 hss
      by_cases h0 : 0 < k
      · simp only [if_pos h0] at hxl
        go_wp2_with fail
        refine (writeText_any w.heap.size w.heap.size _ sep wr HI.out (by omega) HB.out.size).mono ?_
        rintro e w1 ⟨rfl, hI1, hb1, ho1⟩
        have HI1 := Lib.hid hI1
        have HB1 := Lib.hid (HB.out.trans hb1)
        clear hI1 hb1 ho1
        go_wp2_with fail
        refine (writeText_any w.heap.size w.heap.size _ ⟨(x[k]).toArray⟩ w1 HI1.out (by have := HSS.out; simp [size_strB]; omega) HB1.out.size).mono ?_
        rintro e w2 ⟨rfl, hI2, hb2, ho2⟩
        have HI2 := Lib.hid hI2
        have HB2 := Lib.hid (HB1.out.trans hb2)
        clear hI2 hb2 ho2
        go_wp2_with fail
        refine ⟨⟨k + 1, by omega, by go_num, ?_, HB2.out⟩, by simp [intOf]; omega⟩
        have h := HI2.out
        simp only [joinK, if_pos h0, HX.out]
        exact h
      · simp only [if_neg h0] at hxl
        go_wp2_with fail
        refine (writeText_any w.heap.size w.heap.size _ ⟨(x[k]).toArray⟩ wr HI.out (by simp [size_strB]; omega) HB.out.size).mono ?_
        rintro e w2 ⟨rfl, hI2, hb2, ho2⟩
        have HI2 := Lib.hid hI2
        have HB2 := Lib.hid (HB.out.trans hb2)
        clear hI2 hb2 ho2
        go_wp2_with fail
        refine ⟨⟨k + 1, by omega, by go_num, ?_, HB2.out⟩, by simp [intOf]; omega⟩
        have h := HI2.out
        simp only [joinK, if_neg h0, HX.out, List.append_nil]
        exact h
    · have HN := Lib.hid (show k = x.length by omega)
      go_wp2_with fail
      refine (string_k w.heap.size w.heap.size _ wr HI.out HB.out.size).mono ?_
      rintro e w2 ⟨rfl, h2, b2, o2⟩
      have HB2 := Lib.hid (HB.out.trans b2)
      clear h2 b2 o2
      go_wp2_with fail
      go_ret
      exact ⟨ret_str (by rw [HN.out]; rfl), HB2.out⟩
end Go.Proofs.Ytmoliamenekemab
