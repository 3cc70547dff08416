/- Contracts of ParseNumber, the model's and the program's. -/
import Derived.Test.YtbjkalnahckfnabL01b
namespace Go.Proofs.Ytbjkalnahckfnab
set_option linter.unusedVariables false
open Go.RowKit
def pnum (l : List UInt8) : Int := ((parseL l).getD 0 : Nat)
def pok (l : List UInt8) : Bool := (parseL l).isSome
theorem pnum_some {l : List UInt8} {n : Nat} (h : parseL l = some n) : pnum l = n ∧ pok l = true := by simp [pnum, pok, h]
theorem pnum_none {l : List UInt8} (h : parseL l = none) : pnum l = 0 ∧ pok l = false := by simp [pnum, pok, h]
theorem ret_pair {a b : Int} {c d : Bool} (h : a = b) (h2 : c = d) : Ending.returned (.tuple #[.int .i64 a, .bool c]) = .returned (.tuple #[.int .i64 b, .bool d]) := by rw [h, h2]
theorem valL_next (s : ByteArray) (k : Nat) (h : k < s.size) : valL (s.data.toList.take (k + 1)) = 10 * valL (s.data.toList.take k) + (s[k].toNat : Int) - 48 := by
  rw [take_snoc s k h, valL_snoc]; omega
theorem digB_isDig (c : UInt8) : isDig c.toNat = digB c := by simp [isDig, digB]
theorem all_next (s : ByteArray) (k : Nat) (h : k < s.size) (ha : (s.data.toList.take k).all digB = true) (hd : isDig (s[k]).toNat = true) : (s.data.toList.take (k + 1)).all digB = true := by
  rw [take_snoc s k h, List.all_append, ha, digB_isDig] at *; simpa using hd
theorem nodig_at (s : ByteArray) (k : Nat) (h : k < s.size) (hd : isDig (s[k]).toNat = false) : parseL s.data.toList = none :=
  parseL_nodig _ k (by rw [size_list]; exact h) (by rw [getD_get s k h, ← digB_isDig]; exact hd)
theorem first48 (s : ByteArray) (h : 0 < s.size) (hz : (s[0].toNat : Int) = 48) : s.data.toList.getD 0 0 = 48 := by
  rw [getD_get s 0 h]; exact UInt8.toNat_inj.1 (by show s[0].toNat = 48; omega)
theorem notfirst48 (s : ByteArray) (h : 0 < s.size) (hz : ¬ (s[0].toNat : Int) = 48) : s.data.toList.getD 0 0 ≠ 48 := by
  rw [getD_get s 0 h]; intro e; apply hz; rw [e]; rfl
theorem wrap_dig (x : Int) (h0 : 48 ≤ x) (h1 : x ≤ 255) : IntKind.u8.wrap (x - 48) = x - 48 := by
  simp only [IntKind.wrap, IntKind.bits, IntKind.signed]; simp; omega
/-- the loop of the program's ParseNumber, from the two ways that lead to it -/
def looped (s : ByteArray) (w : World) : Prop := Calls Try.prog 66 #[.string s] w fun e w' => e = .returned (.tuple #[.int .i64 (pnum s.data.toList), .bool (pok s.data.toList)]) ∧ w = w'
set_option maxHeartbeats 800000 in
theorem implParse_loop (s : ByteArray) (w : World) (hs : s.size ≤ maxLen) (hE : s.toList.isEmpty = false) (hpos : 0 < s.size)
    (hg : ((s[0].toNat : Int) == 48) = false ∨ (((s[0].toNat : Int) == 48) = true ∧ ¬ 1 < s.size)) (HZ : Hid (s.data.toList.length = 1 ∨ s.data.toList.getD 0 0 ≠ 48)) : looped s w := by
  unfold looped
  unfold maxLen at hs
  have HNE := Lib.hid (show s.data.toList ≠ [] from by intro h; rw [← size_list, h] at hpos; simp at hpos)
  rcases hg with hz1 | ⟨hz1, h1⟩
  all_goals
    go_enter Try.func66, Try.ntmps66
    go_wp2
    go_loop [4, 5, 20] (fun n _ i => ∃ k : Nat, k ≤ s.size ∧ i = .int .i64 k ∧ n = .int .i64 (valL (s.data.toList.take k)) ∧ (s.data.toList.take k).all digB = true ∧ 0 ≤ valL (s.data.toList.take k) ∧ valL (s.data.toList.take k) ≤ 999) (fun _ _ i => s.size - (intOf i).toNat)
    case atStart => exact ⟨0, Nat.zero_le _, rfl, rfl, rfl, by simp [valL], by simp [valL]⟩
    case round =>
      obtain ⟨k, hk, rfl, rfl, ha, hb1, hb2⟩ := hrel
      have HA := Lib.hid ha
      clear ha
      by_cases hlt : k < s.size
      · by_cases hd : isDig (s[k]).toNat = true
        · have HA2 := Lib.hid (all_next s k hlt HA.out hd)
          have HN := Lib.hid (valL_next s k hlt)
          obtain ⟨hd1, hd2⟩ : 48 ≤ (s[k].toNat : Int) ∧ (s[k].toNat : Int) ≤ 57 := by simpa [isDig] using hd
          have hw := wrap_dig _ hd1 (by omega)
          by_cases hbig : 999 < 10 * valL (s.data.toList.take k) + ((s[k].toNat : Int) - 48)
          · have HQ := Lib.hid (pnum_none (parseL_big s.data.toList (k + 1) (by rw [HN.out]; omega)))
            go_wp2_with (go_at_call 85; refine (isDigit_any _ _).mono ?_; rintro e w' ⟨rfl, rfl⟩)
            go_ret2
            exact ⟨ret_pair HQ.out.1.symm HQ.out.2.symm, rfl⟩
          · go_wp2_with (go_at_call 85; refine (isDigit_any _ _).mono ?_; rintro e w' ⟨rfl, rfl⟩)
            go_round
            case rel => exact ⟨k + 1, by omega, by go_num, by rw [HN.out]; go_num, HA2.out, by rw [HN.out]; omega, by rw [HN.out]; omega⟩
            case measure => simp [intOf]; omega
        · have hd' : isDig (s[k]).toNat = false := by simpa using hd
          have HQ := Lib.hid (pnum_none (nodig_at s k hlt hd'))
          clear hd
          go_wp2_with (go_at_call 85; refine (isDigit_any _ _).mono ?_; rintro e w' ⟨rfl, rfl⟩)
          go_ret2
          exact ⟨ret_pair HQ.out.1.symm HQ.out.2.symm, rfl⟩
      · have HK := Lib.hid (show s.data.toList.take k = s.data.toList from List.take_of_length_le (by rw [size_list]; omega))
        have HQ := Lib.hid (pnum_some (parseL_good s.data.toList (by rw [← HK.out]; exact HA.out) HNE.out HZ.out (by rw [← HK.out]; exact hb2)))
        have HV := Lib.hid (show ((valL s.data.toList).toNat : Int) = valL (s.data.toList.take k) from by rw [HK.out] at hb1 ⊢; omega)
        go_wp2
        go_ret2
        exact ⟨ret_pair (by rw [HQ.out.1, HV.out]) HQ.out.2.symm, rfl⟩
set_option maxHeartbeats 400000 in
theorem implParse_any (s : ByteArray) (w : World) (hs : s.size ≤ maxLen) :
    Calls Try.prog 66 #[.string s] w fun e w' => e = .returned (.tuple #[.int .i64 (pnum s.data.toList), .bool (pok s.data.toList)]) ∧ w = w' := by
  by_cases h0 : s.size = 0
  · have hl : s.data.toList = [] := List.eq_nil_of_length_eq_zero (by rw [size_list]; exact h0)
    have HQ := Lib.hid (pnum_none (show parseL s.data.toList = none from by rw [hl]; exact parseL_nil))
    have hE : s.toList = [] := by rw [Lib.toList_data, hl]
    clear hl h0
    go_enter Try.func66, Try.ntmps66
    go_wp2
    go_ret2
    exact ⟨ret_pair HQ.out.1.symm HQ.out.2.symm, rfl⟩
  · have hE : s.toList.isEmpty = false := by rw [Lib.toList_data]; cases hh : s.data.toList with | nil => exfalso; apply h0; rw [← size_list, hh]; rfl | cons a b => rfl
    have hpos : 0 < s.size := by omega
    clear h0
    by_cases hz : (s[0].toNat : Int) = 48
    · have hz1 : ((s[0].toNat : Int) == 48) = true := by simpa using hz
      by_cases h1 : 1 < s.size
      · have HQ := Lib.hid (pnum_none (parseL_zero s.data.toList (first48 s hpos hz) (by rw [size_list]; exact h1)))
        unfold maxLen at hs
        clear hz
        go_enter Try.func66, Try.ntmps66
        go_wp2
        go_ret2
        exact ⟨ret_pair HQ.out.1.symm HQ.out.2.symm, rfl⟩
      · exact implParse_loop s w hs hE hpos (Or.inr ⟨hz1, h1⟩) (Lib.hid (Or.inl (by rw [size_list]; omega)))
    · exact implParse_loop s w hs hE hpos (Or.inl (by simpa using hz)) (Lib.hid (Or.inr (notfirst48 s hpos hz)))
end Go.Proofs.Ytbjkalnahckfnab
