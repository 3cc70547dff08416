/- Contracts of chapter 2: ParseFace. -/
import Derived.Test.YtgbfpodimbkmdaaFace7
namespace Go.Proofs.Ytgbfpodimbkmdaa
set_option linter.unusedVariables false
open Go.RowKit
/-- the face that is written as s; -1 -/
def rdF (s : List UInt8) : Int := findK (fun k => fmtF (k : Nat) == s) 0 64
/-- the results of a parser -/
def parsed (n : Int) : Value := .tuple #[.int .i64 (if n < 0 then 0 else n), .bool (decide (0 ≤ n))]
theorem parsed_yes {n : Int} {k : Nat} (h : (k : Int) = n) : Value.tuple #[.int .i64 k, .bool true] = parsed n := by
  subst h; unfold parsed; rw [if_neg (by omega)]; simp
theorem parsed_no {n : Int} (h : (-1 : Int) = n) : Value.tuple #[.int .i64 0, .bool false] = parsed n := by subst h; rfl
set_option maxHeartbeats 800000 in
theorem implParseFace_any (s : ByteArray) (w : World) :
    Calls Try.prog 16 #[.string s] w fun e w' => e = .returned (parsed (rdF s.data.toList)) ∧ Below w.heap.size w w' := by
  go_enter Try.func16, Try.ntmps16
  go_wp2_with fail
  go_loopw [4, 5] (fun _ i wr => ∃ k : Nat, k ≤ 64 ∧ i = .int .i64 k ∧ findK (fun k => fmtF (k : Nat) == s.data.toList) k (64 - k) = rdF s.data.toList ∧ Below w.heap.size w wr) (fun _ i _ => 64 - (intOf i).toNat)
  case atStart => exact ⟨0, Nat.zero_le _, rfl, rfl, Below.refl _ _⟩
  case round =>
    obtain ⟨k, hk, rfl, hf, hb⟩ := hrel
    have HF := Lib.hid hf
    have HB := Lib.hid hb
    clear hf hb
    by_cases hlt : k < 64
    · cases heq : (fmtF (k : Nat) == s.data.toList) with
      | true =>
        have HR := Lib.hid (show (k : Int) = rdF s.data.toList from by rw [← HF.out]; exact (findK_yes hlt heq).symm)
        have hbeq : (fmtF (k : Nat) == s.toList) = true := by rw [Lib.toList_data]; exact heq
        clear heq
        go_wp2_with fail
        refine (implFormatFace_any k wr).mono ?_
        rintro e w1 ⟨rfl, hb1⟩
        have HB1 := Lib.hid (HB.out.trans (hb1.mono HB.out.size))
        clear hb1
        go_wp2_with fail
        go_ret2
        exact ⟨congrArg Ending.returned (parsed_yes HR.out), HB1.out⟩
      | false =>
        have HR := Lib.hid (show findK (fun k => fmtF (k : Nat) == s.data.toList) (k + 1) (64 - (k + 1)) = rdF s.data.toList from by rw [← HF.out]; exact (findK_no hlt heq).symm)
        have hbeq : (fmtF (k : Nat) == s.toList) = false := by rw [Lib.toList_data]; exact heq
        clear heq
        go_wp2_with fail
        refine (implFormatFace_any k wr).mono ?_
        rintro e w1 ⟨rfl, hb1⟩
        have HB1 := Lib.hid (HB.out.trans (hb1.mono HB.out.size))
        clear hb1
        go_wp2_with fail
        exact ⟨⟨k + 1, by omega, by go_num, HR.out, HB1.out⟩, by simp [intOf]; omega⟩
    · have HR := Lib.hid (show (-1 : Int) = rdF s.data.toList from by rw [← HF.out, show k = 64 by omega]; exact findK_end.symm)
      go_wp2_with fail
      go_ret2
      exact ⟨congrArg Ending.returned (parsed_no HR.out), HB.out⟩
set_option maxHeartbeats 800000 in
theorem specParseFace_any (s : ByteArray) (w : World) :
    Calls Try.prog 15 #[.string s] w fun e w' => e = .returned (parsed (rdF s.data.toList)) ∧ Below w.heap.size w w' := by
  go_enter Try.func15, Try.ntmps15
  go_wp2_with fail
  go_loopw [4] (fun i wr => ∃ k : Nat, k ≤ 64 ∧ i = .int .i64 k ∧ findK (fun k => fmtF (k : Nat) == s.data.toList) k (64 - k) = rdF s.data.toList ∧ Below w.heap.size w wr) (fun i _ => 64 - (intOf i).toNat)
  case atStart => exact ⟨0, Nat.zero_le _, rfl, rfl, Below.refl _ _⟩
  case round =>
    obtain ⟨k, hk, rfl, hf, hb⟩ := hrel
    have HF := Lib.hid hf
    have HB := Lib.hid hb
    clear hf hb
    by_cases hlt : k < 64
    · cases heq : (fmtF (k : Nat) == s.data.toList) with
      | true =>
        have HR := Lib.hid (show (k : Int) = rdF s.data.toList from by rw [← HF.out]; exact (findK_yes hlt heq).symm)
        have hbeq : (fmtF (k : Nat) == s.toList) = true := by rw [Lib.toList_data]; exact heq
        clear heq
        go_wp2_with fail
        refine (specFormatFace_any k wr).mono ?_
        rintro e w1 ⟨rfl, hb1⟩
        have HB1 := Lib.hid (HB.out.trans (hb1.mono HB.out.size))
        clear hb1
        go_wp2_with fail
        go_ret2
        exact ⟨congrArg Ending.returned (parsed_yes HR.out), HB1.out⟩
      | false =>
        have HR := Lib.hid (show findK (fun k => fmtF (k : Nat) == s.data.toList) (k + 1) (64 - (k + 1)) = rdF s.data.toList from by rw [← HF.out]; exact (findK_no hlt heq).symm)
        have hbeq : (fmtF (k : Nat) == s.toList) = false := by rw [Lib.toList_data]; exact heq
        clear heq
        go_wp2_with fail
        refine (specFormatFace_any k wr).mono ?_
        rintro e w1 ⟨rfl, hb1⟩
        have HB1 := Lib.hid (HB.out.trans (hb1.mono HB.out.size))
        clear hb1
        go_wp2_with fail
        exact ⟨⟨k + 1, by omega, by go_num, HR.out, HB1.out⟩, by simp [intOf]; omega⟩
    · have HR := Lib.hid (show (-1 : Int) = rdF s.data.toList from by rw [← HF.out, show k = 64 by omega]; exact findK_end.symm)
      go_wp2_with fail
      go_ret2
      exact ⟨congrArg Ending.returned (parsed_no HR.out), HB.out⟩
end Go.Proofs.Ytgbfpodimbkmdaa
