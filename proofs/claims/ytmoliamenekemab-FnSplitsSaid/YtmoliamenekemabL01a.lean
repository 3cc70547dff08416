/- Contracts of the small functions of chapter 1: letters, digits and names. -/
import Derived.Test.YtmoliamenekemabRows
import Derived.WalkKit
import Derived.WalkSpells
import Derived.WalkLawsBesides
import Derived.Lib.Hide
import Derived.Lib.Bytes
namespace Go.Proofs.Ytmoliamenekemab
set_option linter.unusedVariables false
open Go.RowKit

def isLet (c : Int) : Bool := decide (97 ≤ c ∧ c ≤ 122)
def isDig (c : Int) : Bool := decide (48 ≤ c ∧ c ≤ 57)
def isLetB (c : Int) (first : Bool) : Bool := isLet c || (!first && isDig c)

theorem ret_bool {a b : Bool} (h : a = b) : Ending.returned (.bool a) = .returned (.bool b) := by rw [h]
theorem ret_int {k : IntKind} {a b : Int} (h : a = b) : Ending.returned (.int k a) = .returned (.int k b) := by rw [h]

set_option maxHeartbeats 400000 in
theorem isLetter_any (c : Int) (w : World) :
    Calls Try.prog 109 #[.int .u8 c] w fun e w' => e = .returned (.bool (isLet c)) ∧ w = w' := by
  go_enter Try.func109, Try.ntmps109
  go_wp2
  all_goals
    go_ret
    exact ⟨ret_bool (by simp [isLet]; try omega), rfl⟩
set_option maxHeartbeats 400000 in
theorem isDigit_any (c : Int) (w : World) :
    Calls Try.prog 110 #[.int .u8 c] w fun e w' => e = .returned (.bool (isDig c)) ∧ w = w' := by
  go_enter Try.func110, Try.ntmps110
  go_wp2
  all_goals
    go_ret
    exact ⟨ret_bool (by simp [isDig]; try omega), rfl⟩
set_option maxHeartbeats 400000 in
theorem l1Letter_any (c : Int) (b : Bool) (w : World) :
    Calls Try.prog 111 #[.int .u8 c, .bool b] w fun e w' => e = .returned (.bool (isLetB c b)) ∧ w = w' := by
  cases b
  all_goals
    go_enter Try.func111, Try.ntmps111
    go_wp2
    all_goals
      go_ret
      exact ⟨ret_bool (by rw [Bool.eq_iff_iff]; simp [isLetB, isLet, isDig]; try omega), rfl⟩
/-- a text is a name -/
def nmB (l : List UInt8) : Bool := l.all fun c => isLet c.toNat || isDig c.toNat
theorem nmB_snoc (l : List UInt8) (c : UInt8) : nmB (l ++ [c]) = (nmB l && (isLet c.toNat || isDig c.toNat)) := by simp [nmB]
theorem take_snoc (s : ByteArray) (k : Nat) (h : k < s.size) : s.data.toList.take (k + 1) = s.data.toList.take k ++ [s[k]] := by
  rw [List.take_succ_eq_append_getElem (by simpa using h)]; rfl
def nameB (l : List UInt8) : Bool := decide (0 < l.length) && decide (l.length ≤ 8) && isLet (l.getD 0 0).toNat && nmB l
theorem getD_get (s : ByteArray) (k : Nat) (h : k < s.size) : s.data.toList.getD k 0 = s[k] := by
  simp only [List.getD_eq_getElem?_getD]
  rw [List.getElem?_eq_getElem (by simpa using h)]; rfl
theorem nameB_false_at (s : ByteArray) (k : Nat) (h : k < s.size) (hb : isLetB (s[k]).toNat ((k : Int) == 0) = false) : nameB s.data.toList = false := by
  rw [← getD_get s k h] at hb
  by_cases h0 : k = 0
  · subst h0
    have hb1 : isLet (s.data.toList.getD 0 0).toNat = false := by simpa [isLetB] using hb
    unfold nameB; rw [hb1]; simp
  · have hk : ((k : Int) == 0) = false := by simpa using h0
    rw [hk] at hb
    have : nmB s.data.toList = false := by
      unfold nmB; rw [List.all_eq_false]
      refine ⟨s.data.toList.getD k 0, ?_, ?_⟩
      · simp only [List.getD_eq_getElem?_getD]
        rw [List.getElem?_eq_getElem (by simpa using h)]; simp
      · simpa [isLetB] using hb
    unfold nameB; rw [this]; simp
theorem nmB_next (s : ByteArray) (k : Nat) (h : k < s.size) (b : Bool) (hn : nmB (s.data.toList.take k) = true) (hb : isLetB (s[k]).toNat b = true) : nmB (s.data.toList.take (k + 1)) = true := by
  rw [take_snoc s k h, nmB_snoc, hn]; revert hb; cases b <;> simp [isLetB]; intro h; exact Or.inl h
theorem name_first (s : ByteArray) (k : Nat) (h : k < s.size) (hf : 0 < k → isLet (s.data.toList.getD 0 0).toNat = true) (hb : isLetB (s[k]).toNat ((k : Int) == 0) = true) : isLet (s.data.toList.getD 0 0).toNat = true := by
  by_cases h0 : k = 0
  · subst h0; rw [getD_get s 0 h]; simpa [isLetB] using hb
  · exact hf (by omega)
theorem size_list (s : ByteArray) : s.data.toList.length = s.size := Array.length_toList
theorem nameB_end (s : ByteArray) (k : Nat) (hk : k ≤ s.size) (hlt : ¬ k < s.size) (hn : nmB (s.data.toList.take k) = true) (hf : 0 < k → isLet (s.data.toList.getD 0 0).toNat = true) :
    nameB s.data.toList = (decide (0 < s.size) && decide (s.size ≤ 8)) := by
  have e : k = s.size := by omega
  subst e
  rw [List.take_of_length_le (by rw [size_list]; omega)] at hn
  unfold nameB; rw [hn, size_list]
  by_cases h0 : 0 < s.size
  · rw [hf h0]; simp
  · simp [h0]
set_option maxHeartbeats 400000 in
theorem specIsName_any (s : ByteArray) (w : World) (hs : s.size ≤ maxLen) :
    Calls Try.prog 76 #[.string s] w fun e w' => e = .returned (.bool (nameB s.data.toList)) ∧ w = w' := by
  unfold maxLen at hs
  go_enter Try.func76, Try.ntmps76
  go_wp2
  go_loop [3] (fun i => ∃ k : Nat, k ≤ s.size ∧ i = .int .i64 k ∧ nmB (s.data.toList.take k) = true ∧ (0 < k → isLet (s.data.toList.getD 0 0).toNat = true)) (fun i => s.size - (intOf i).toNat)
  case atStart => exact ⟨0, Nat.zero_le _, rfl, rfl, by simp⟩
  case round =>
    obtain ⟨k, hk, rfl, hn, hf⟩ := hrel
    have HN := Lib.hid hn
    have HF := Lib.hid hf
    clear hn hf
    by_cases hlt : k < s.size
    · by_cases hb : isLetB (s[k]).toNat ((k : Int) == 0) = true
      · have hb' := hb
        go_wp2_with (go_at_call 111; refine (l1Letter_any _ _ _).mono ?_; rintro e w' ⟨rfl, rfl⟩)
        go_round
        case rel => exact ⟨k + 1, by omega, by go_num, nmB_next s k hlt _ HN.out hb', fun _ => name_first s k hlt HF.out hb'⟩
        case measure => simp [intOf]; omega
      · have hb' : isLetB (s[k]).toNat ((k : Int) == 0) = false := by simpa using hb
        clear hb
        go_wp2_with (go_at_call 111; refine (l1Letter_any _ _ _).mono ?_; rintro e w' ⟨rfl, rfl⟩)
        go_ret
        exact ⟨ret_bool (nameB_false_at s k hlt hb').symm, rfl⟩
    · have hend := Lib.hid (nameB_end s k hk hlt HN.out HF.out)
      by_cases h0 : 0 < s.size
      all_goals
        go_wp2
        go_ret
        exact ⟨ret_bool (by rw [hend.out]; simp [h0]; try omega), rfl⟩
theorem nameB_len (s : ByteArray) (h : s.size = 0 ∨ 8 < s.size) : nameB s.data.toList = false := by
  unfold nameB; rw [size_list]
  rcases h with h | h
  · simp [h]
  · simp [show ¬ s.size ≤ 8 from by omega]
theorem nameB_first (s : ByteArray) (h : 0 < s.size) (hb : isLet (s[0]).toNat = false) : nameB s.data.toList = false := by
  rw [← getD_get s 0 h] at hb
  unfold nameB; rw [hb]; simp
theorem nameB_bad (s : ByteArray) (k : Nat) (h : k < s.size) (hb : (isLet (s[k]).toNat || isDig (s[k]).toNat) = false) : nameB s.data.toList = false := by
  apply nameB_false_at s k h
  rw [Bool.or_eq_false_iff] at hb
  simp [isLetB, hb.1, hb.2]
set_option maxHeartbeats 400000 in
theorem implIsName_any (s : ByteArray) (w : World) (hs : s.size ≤ maxLen) :
    Calls Try.prog 74 #[.string s] w fun e w' => e = .returned (.bool (nameB s.data.toList)) ∧ w = w' := by
  by_cases h0 : s.size = 0
  · have hl := Lib.hid (nameB_len s (Or.inl h0))
    have hE : s.toList = [] := by rw [Lib.toList_data]; exact List.eq_nil_of_length_eq_zero (by rw [size_list]; exact h0)
    go_enter Try.func74, Try.ntmps74
    go_wp2
    go_ret
    exact ⟨ret_bool (by rw [hl.out]), rfl⟩
  · have hE : ¬ s.toList = [] := by rw [Lib.toList_data]; intro h; apply h0; rw [← size_list, h]; rfl
    have hE2 : s.toList.isEmpty = false := by simpa using hE
    clear hE
    have hpos : 0 < s.size := by omega
    unfold maxLen at hs
    by_cases h8 : 8 < s.size
    · have hl := Lib.hid (nameB_len s (Or.inr h8))
      clear h0
      go_enter Try.func74, Try.ntmps74
      go_wp2
      go_ret
      exact ⟨ret_bool (by rw [hl.out]), rfl⟩
    · clear h0
      by_cases hb : isLet (s[0]).toNat = true
      · have hb' := Lib.hid hb
        go_enter Try.func74, Try.ntmps74
        go_wp2_with (go_at_call 109; refine (isLetter_any _ _).mono ?_; rintro e w' ⟨rfl, rfl⟩)
        clear hb
        go_loop [3, 19] (fun _ i => ∃ k : Nat, k ≤ s.size ∧ i = .int .i64 k ∧ nmB (s.data.toList.take k) = true) (fun _ i => s.size - (intOf i).toNat)
        case atStart => exact ⟨0, Nat.zero_le _, rfl, rfl⟩
        case round =>
          obtain ⟨k, hk, rfl, hn⟩ := hrel
          have HN := Lib.hid hn
          clear hn
          by_cases hlt : k < s.size
          · by_cases hc : isLet (s[k]).toNat = true
            · go_wp2_with (go_at_call 109; refine (isLetter_any _ _).mono ?_; rintro e w' ⟨rfl, rfl⟩)
              go_round
              case rel => exact ⟨k + 1, by omega, by go_num, nmB_next s k hlt false HN.out (by simp [isLetB, hc])⟩
              case measure => simp [intOf]; omega
            · have hc' : isLet (s[k]).toNat = false := by simpa using hc
              clear hc
              by_cases hd : isDig (s[k]).toNat = true
              · go_wp2_with (first | (go_at_call 109; refine (isLetter_any _ _).mono ?_; rintro e w' ⟨rfl, rfl⟩) | (go_at_call 110; refine (isDigit_any _ _).mono ?_; rintro e w' ⟨rfl, rfl⟩))
                go_round
                case rel => exact ⟨k + 1, by omega, by go_num, nmB_next s k hlt false HN.out (by simp [isLetB, hd])⟩
                case measure => simp [intOf]; omega
              · have hd' : isDig (s[k]).toNat = false := by simpa using hd
                have hl := Lib.hid (nameB_bad s k hlt (by rw [hc', hd']; rfl))
                clear hd
                go_wp2_with (first | (go_at_call 109; refine (isLetter_any _ _).mono ?_; rintro e w' ⟨rfl, rfl⟩) | (go_at_call 110; refine (isDigit_any _ _).mono ?_; rintro e w' ⟨rfl, rfl⟩))
                go_ret
                exact ⟨ret_bool (by rw [hl.out]), rfl⟩
          · have hend := Lib.hid (nameB_end s k hk hlt HN.out (fun _ => by rw [getD_get s 0 hpos]; exact hb'.out))
            go_wp2
            go_ret
            exact ⟨ret_bool (by rw [hend.out]; simp; omega), rfl⟩
      · have hb' : isLet (s[0]).toNat = false := by simpa using hb
        have hl := Lib.hid (nameB_first s hpos hb')
        clear hb
        go_enter Try.func74, Try.ntmps74
        go_wp2_with (go_at_call 109; refine (isLetter_any _ _).mono ?_; rintro e w' ⟨rfl, rfl⟩)
        go_ret
        exact ⟨ret_bool (by rw [hl.out]), rfl⟩
end Go.Proofs.Ytmoliamenekemab
