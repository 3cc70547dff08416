/- Contracts of the model's FormatNumber and ParseNumber. -/
import Derived.Test.YtmoliamenekemabL01a
import Derived.Test.YtmoliamenekemabNum
namespace Go.Proofs.Ytmoliamenekemab
set_option linter.unusedVariables false
open Go.RowKit
theorem conv_one (w : World) (x : Int) (h0 : 0 ≤ x) (h1 : x ≤ 255) :
    (convert 22 9 (.slice (some ⟨w.heap.size, 0, none⟩) 1 1)).run Try.prog (w.alloc (.cells #[.int .u8 x] 5)) = .ok (.string ⟨[UInt8.ofNat x.toNat].toArray⟩) (w.alloc (.cells #[.int .u8 x] 5)) := by
  refine run_convert_bytes_back (w.alloc (.cells #[.int .u8 x] 5)) 22 9 5 ⟨w.heap.size, 0, none⟩ 1 [UInt8.ofNat x.toNat] Try.underlying22 Try.underlying5 Try.underlying9 ?_
  intro j hj
  have : j = 0 := by simpa using hj
  subst this
  simp [Addr.add]; omega
theorem dig_eq {a b : Nat} (h : a = b) : #[UInt8.ofNat a].toList = [UInt8.ofNat b] := by rw [h]
theorem ret_strB {s : ByteArray} {b : List UInt8} (h : s.data.toList = b) : Ending.returned (.string s) = .returned (.string ⟨b.toArray⟩) := by subst h; simp
theorem data_app (a b : ByteArray) : (a ++ b).data.toList = a.data.toList ++ b.data.toList := by rw [ByteArray.data_append]; simp
theorem ret_str {a b : List UInt8} (h : a = b) : Ending.returned (.string ⟨a.toArray⟩) = .returned (.string ⟨b.toArray⟩) := by rw [h]
theorem ret_strA {a : Array UInt8} {b : List UInt8} (h : a.toList = b) : Ending.returned (.string ⟨a⟩) = .returned (.string ⟨b.toArray⟩) := by subst h; simp
set_option maxHeartbeats 400000 in
set_option maxRecDepth 100000 in
theorem specFormat_pos (k : Nat) (hk50 : k ≤ 50) : ∀ (n : Int) (w : World), 0 ≤ n → n ≤ 9223372036854775807 → n.natAbs < 10 ^ (k + 1) →
    Calls Try.prog 114 #[.int .i64 n] w fun e w' => e = .returned (.string ⟨(digs (k + 1) n.natAbs).toArray⟩) ∧ Below w.heap.size w w' := by
  induction k with
  | zero =>
    intro n w h0 h1 hn
    have hn' : n < 10 := by omega
    have hcv := conv_one w (48 + n % 10) (by omega) (by omega)
    have HD := Lib.hid (digs_small 0 n.natAbs (by omega))
    clear hn h1
    go_enter Try.func114, Try.ntmps114
    go_wp2_with fail
    go_ret
    exact ⟨ret_strA (by rw [HD.out]; exact dig_eq (by omega)), (Below.refl _ _).alloc (Nat.le_refl _) _⟩
  | succ k ih =>
    intro n w h0 h1 hn
    have hcv := conv_one w (48 + n % 10) (by omega) (by omega)
    by_cases h9 : n ≤ 9
    · have HD := Lib.hid (digs_small (k + 1) n.natAbs (by omega))
      clear hn h1
      go_enter Try.func114, Try.ntmps114
      go_wp2_with fail
      go_ret
      exact ⟨ret_strA (by rw [HD.out]; exact dig_eq (by omega)), (Below.refl _ _).alloc (Nat.le_refl _) _⟩
    · have HD := Lib.hid (digs_big (k + 1) n.natAbs (by omega))
      have hk : (n / 10).natAbs < 10 ^ (k + 1) := by rw [Nat.pow_succ] at hn; omega
      have hlen : (digs (k + 1) (n / 10).natAbs).length ≤ 60 := by have := digs_len (k + 1) (n / 10).natAbs; omega
      have h1' : n / 10 ≤ 9223372036854775807 := by omega
      have IH := Lib.hid (ih (by omega) (n / 10) (w.alloc (.cells #[.int .u8 (48 + n % 10)] 5)) (by omega) h1' hk)
      clear hn hk h1' ih
      go_enter Try.func114, Try.ntmps114
      go_wp2_with (go_at_call 114; refine (IH.out).mono ?_; rintro e w1 ⟨rfl, hb⟩)
      go_ret
      refine ⟨ret_strB ?_, ?_⟩
      · rw [HD.out, data_app, show (n / 10).natAbs = n.natAbs / 10 from by omega, show (48 + n % 10).toNat = 48 + n.natAbs % 10 from by omega]
      · exact ((Below.refl _ _).alloc (Nat.le_refl _) _).trans (hb.mono (by simp))
set_option maxHeartbeats 400000 in
set_option maxRecDepth 100000 in
theorem specFormat_any (n : Int) (w : World) (h0 : -9223372036854775808 ≤ n) (h1 : n ≤ 9223372036854775807) :
    Calls Try.prog 114 #[.int .i64 n] w fun e w' => e = .returned (.string ⟨(numL n).toArray⟩) ∧ Below w.heap.size w w' := by
  by_cases hn : 0 ≤ n
  · have e : numL n = digs (19 + 1) n.natAbs := by simp [numL, show ¬ n < 0 from by omega]
    rw [e]
    exact specFormat_pos 19 (by omega) n w hn h1 (by omega)
  · by_cases hm : n = -9223372036854775808
    · subst hm
      have HE := Lib.hid (show numL (-9223372036854775808) = [45, 57, 50, 50, 51, 51, 55, 50, 48, 51, 54, 56, 53, 52, 55, 55, 53, 56, 48, 56] from by decide +kernel)
      clear hn h0 h1
      go_enter Try.func114, Try.ntmps114
      go_wp2_with fail
      go_ret
      exact ⟨ret_strA (by rw [HE.out]), Below.refl _ _⟩
    · have HE := Lib.hid (show numL n = 45 :: digs 20 n.natAbs from by simp [numL, show n < 0 from by omega])
      have h2 : -9223372036854775807 ≤ n := by omega
      have hlen : (digs 20 n.natAbs).length ≤ 60 := by have := digs_len 20 n.natAbs; omega
      have IH := Lib.hid (specFormat_pos 19 (by omega) (-n) w (by omega) (by omega) (by omega))
      clear h0 hm
      go_enter Try.func114, Try.ntmps114
      go_wp2_with (go_at_call 114; refine (IH.out).mono ?_; rintro e w1 ⟨rfl, hb⟩)
      go_ret
      exact ⟨ret_strB (by rw [HE.out, data_app]; simp), hb⟩
end Go.Proofs.Ytmoliamenekemab
