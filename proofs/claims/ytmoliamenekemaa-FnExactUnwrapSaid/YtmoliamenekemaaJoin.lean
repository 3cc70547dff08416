/- JoinWith, the model's and the program's; the program's writeText and copyText. -/
import Derived.Test.YtmoliamenekemaaStr
import Derived.Test.YtmoliamenekemaaL01c
namespace Go.Proofs.Ytmoliamenekemaa
set_option linter.unusedVariables false
open Go.RowKit
/-- the first k texts with sep between them -/
def joinK (x : List (List UInt8)) (sep : List UInt8) : Nat → List UInt8
  | 0 => []
  | k + 1 => joinK x sep k ++ (if 0 < k then sep else []) ++ x.getD k []
def joinL (x : List (List UInt8)) (sep : List UInt8) : List UInt8 := joinK x sep x.length
theorem strEq {s : ByteArray} {l : List UInt8} (h : s.data.toList = l) : Value.string s = .string ⟨l.toArray⟩ := by subst h; simp
theorem joinK_mono (x : List (List UInt8)) (sep : List UInt8) (k m : Nat) (h : k ≤ m) : (joinK x sep k).length ≤ (joinK x sep m).length := by
  induction m with
  | zero => rw [show k = 0 from by omega]; exact Nat.le_refl _
  | succ m ih =>
    rcases Nat.lt_or_ge m k with h1 | h1
    · rw [show k = m + 1 from by omega]; exact Nat.le_refl _
    · have := ih h1; simp only [joinK, List.length_append]; omega
theorem joinK_len (x : List (List UInt8)) (sep : List UInt8) (k : Nat) (h : k ≤ x.length) : (joinK x sep k).length ≤ k * sep.length + total (x.take k) := by
  induction k with
  | zero => simp [joinK]
  | succ k ih =>
    have h1 := ih (by omega)
    have h2 := total_take_succ x k (by omega)
    have h3 : x.getD k [] = x[k] := by simp [List.getD, List.getElem?_eq_getElem (show k < x.length by omega)]
    simp only [joinK, List.length_append, h3, h2, Nat.succ_mul]
    split <;> simp <;> omega
set_option maxHeartbeats 400000 in
theorem writeText_any (B b : Nat) (bs : List UInt8) (s : ByteArray) (w : World) (hI : Lib.IsBuilderF 102 5 B b (Lib.byteCells bs) w) (hl : bs.length + s.size ≤ 140737488355328) (hB : B ≤ w.heap.size) :
    Calls Try.prog 83 #[.pointer (some ⟨b, 0, none⟩), .string s] w fun e w' => e = .returned (.tuple #[]) ∧ Lib.IsBuilderF 102 5 B b (Lib.byteCells (bs ++ s.data.toList)) w' ∧ Below B w w' ∧ Lib.OthersKept 5 (some b) w w' := by
  have HI := Lib.hid hI
  have HB := Lib.hid hB
  clear hI hB
  go_enter Try.func83, Try.ntmps83
  go_wp2_with fail
  go_loopw [4, 7] (fun _ i wr => ∃ k : Nat, k ≤ s.size ∧ i = .int .i64 k ∧ Lib.IsBuilderF 102 5 B b (Lib.byteCells (bs ++ s.data.toList.take k)) wr ∧ Below B w wr ∧ Lib.OthersKept 5 (some b) w wr) (fun _ i _ => s.size - (intOf i).toNat)
  case atStart => exact ⟨0, Nat.zero_le _, rfl, by simpa using HI.out, Below.refl _ _, Lib.OthersKept.refl _ _ _⟩
  case round =>
    obtain ⟨k, hk, rfl, hI, hb, ho⟩ := hrel
    have HI2 := Lib.hid hI
    have HB2 := Lib.hid hb
    have HO2 := Lib.hid ho
    clear hI hb ho
    by_cases hlt : k < s.size
    · have hu := (s[k]).toNat_lt
      have HN := Lib.hid (take_snoc s k hlt)
      go_wp2_with fail
      refine (writeByte_k B b (Lib.byteCells (bs ++ s.data.toList.take k)) _ wr HI2.out (by rw [Lib.byteCells_length]; simp; omega) (Nat.le_trans HB.out HB2.out.size)).mono ?_
      rintro e w1 ⟨rfl, h1, b1, o1⟩
      have H1 := Lib.hid (bytes_more (by omega) (by omega) h1)
      have B1 := Lib.hid (HB2.out.trans b1)
      have O1 := Lib.hid (HO2.out.trans o1)
      clear h1 b1 o1
      go_wp2_with fail
      refine ⟨⟨k + 1, by omega, by go_num, Or.inr ?_, B1.out, O1.out⟩, by simp [intOf]; omega⟩
      have h := H1.out
      rw [HN.out, ← List.append_assoc]
      simpa using h
    · have HN := Lib.hid (show s.data.toList.take k = s.data.toList from List.take_of_length_le (by rw [size_list]; omega))
      go_wp2_with fail
      go_end0
      exact ⟨rfl, by have h := HI2.out; rw [HN.out] at h; exact h, HB2.out, HO2.out⟩
set_option maxHeartbeats 400000 in
theorem copyText_any (s : ByteArray) (w : World) (hl : s.size ≤ 140737488355328) :
    Calls Try.prog 54 #[.string s] w fun e w' => e = .returned (.string s) ∧ Below w.heap.size w w' := by
  have hf := Lib.fresh_isBuilder 102 5 w
  have HW := Lib.hid (writeText_any w.heap.size w.heap.size [] s (w.alloc (.cells #[.pointer none, .slice none 0 0] 102)) (Lib.IsBuilderF.of hf) (by simpa using hl) (by simp))
  clear hf
  go_enter Try.func54, Try.ntmps54
  go_wp2_with fail
  refine HW.out.mono ?_
  rintro e w1 ⟨rfl, h1, b1, o1⟩
  have HS := Lib.hid (string_k w.heap.size w.heap.size ([] ++ s.data.toList) w1 h1 (by have := b1.size; simp at this; omega))
  have B1 := Lib.hid (((Below.refl w.heap.size w).alloc (Nat.le_refl _) _).trans b1)
  clear h1 b1 o1
  go_wp2_with fail
  refine HS.out.mono ?_
  rintro e w2 ⟨rfl, h2, b2, o2⟩
  go_wp2_with fail
  go_ret
  exact ⟨by simp, B1.out.trans b2⟩
end Go.Proofs.Ytmoliamenekemaa
