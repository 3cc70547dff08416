/- Contracts of the program's FormatNumber. -/
import Derived.Test.YtmoliamenekemabL01b
import Derived.Test.YtmoliamenekemabBuild
namespace Go.Proofs.Ytmoliamenekemab
set_option linter.unusedVariables false
open Go.RowKit
theorem byteCells_one (x : UInt8) : Lib.byteCells [x] = [.int .u8 (x.toNat : Int)] := rfl
theorem bytes_more {T e : TypeId} {B b : Nat} {p : Value} {bs : List UInt8} {c : Int} {w : World} (h0 : 0 ≤ c) (h1 : c ≤ 255) (h : Lib.BuilderAtF T e B b p (Lib.byteCells bs ++ [.int .u8 c]) w) : Lib.BuilderAtF T e B b p (Lib.byteCells (bs ++ [UInt8.ofNat c.toNat])) w := by
  rw [Lib.byteCells_append, byteCells_one, show ((UInt8.ofNat c.toNat).toNat : Int) = c from by simp; omega]
  exact h
set_option maxHeartbeats 400000 in
theorem writeDigits_any (k : Nat) (hk50 : k ≤ 50) : ∀ (n : Int) (B b : Nat) (bs : List UInt8) (w : World), 0 ≤ n → n ≤ 18446744073709551615 → n.natAbs < 10 ^ (k + 1) →
    Lib.IsBuilderF 90 5 B b (Lib.byteCells bs) w → bs.length ≤ 1000 → B ≤ w.heap.size →
    Calls Try.prog 108 #[.pointer (some ⟨b, 0, none⟩), .int .u64 n] w fun e w' => e = .returned (.tuple #[]) ∧ Lib.IsBuilderF 90 5 B b (Lib.byteCells (bs ++ digs (k + 1) n.natAbs)) w' ∧ Below B w w' ∧ Lib.OthersKept 5 (some b) w w' := by
  induction k with
  | zero =>
    intro n B b bs w h0 h1 hn hI hl hB
    have HW := Lib.hid (writeByte_k B b (Lib.byteCells bs) (48 + n % 10) w hI (by rw [Lib.byteCells_length]; omega) hB)
    have h9 : n < 10 := by omega
    have HD := Lib.hid (digs_small 0 n.natAbs (by omega))
    clear hn hI hB
    go_enter Try.func108, Try.ntmps108
    go_wp2_with (go_at_call 102; refine (HW.out).mono ?_; rintro e w1 ⟨rfl, hb, hlo, hk⟩)
    go_end0
    refine ⟨rfl, Or.inr ?_, hlo, hk⟩
    rw [HD.out]
    have := bytes_more (by omega) (by omega) hb
    rwa [show (48 + n % 10).toNat = 48 + n.natAbs from by omega] at this
  | succ k ih =>
    intro n B b bs w h0 h1 hn hI hl hB
    by_cases h9 : n < 10
    · have HW := Lib.hid (writeByte_k B b (Lib.byteCells bs) (48 + n % 10) w hI (by rw [Lib.byteCells_length]; omega) hB)
      have HD := Lib.hid (digs_small (k + 1) n.natAbs (by omega))
      clear hn hI hB ih
      go_enter Try.func108, Try.ntmps108
      go_wp2_with (go_at_call 102; refine (HW.out).mono ?_; rintro e w1 ⟨rfl, hb, hlo, hk⟩)
      go_end0
      refine ⟨rfl, Or.inr ?_, hlo, hk⟩
      rw [HD.out]
      have := bytes_more (by omega) (by omega) hb
      rwa [show (48 + n % 10).toNat = 48 + n.natAbs from by omega] at this
    · have HD := Lib.hid (digs_big (k + 1) n.natAbs (by omega))
      have hdl := digs_len (k + 1) (n / 10).natAbs
      have IH := Lib.hid (ih (by omega) (n / 10) B b bs w (by omega) (by omega) (by rw [Nat.pow_succ] at hn; omega) hI hl hB)
      clear hn hI ih
      have hB' := Lib.hid hB
      clear hB
      go_enter Try.func108, Try.ntmps108
      go_wp2_with (go_at_call 108; refine (IH.out).mono ?_; rintro e w1 ⟨rfl, hb, hlo, hk⟩)
      have HW := Lib.hid (writeByte_k B b (Lib.byteCells (bs ++ digs (k + 1) (n / 10).natAbs)) (48 + n % 10) w1 hb (by rw [Lib.byteCells_length]; simp; omega) (Nat.le_trans hB'.out hlo.size))
      go_wp2_with (go_at_call 102; refine (HW.out).mono ?_; rintro e w2 ⟨rfl, hb2, hlo2, hk2⟩)
      go_end0
      refine ⟨rfl, Or.inr ?_, hlo.trans hlo2, hk.trans hk2⟩
      rw [HD.out, ← List.append_assoc]
      have := bytes_more (by omega) (by omega) hb2
      rwa [show (48 + n % 10).toNat = 48 + n.natAbs % 10 from by omega, show (n / 10).natAbs = n.natAbs / 10 from by omega] at this
theorem wrap_neg (n : Int) (h : -9223372036854775808 ≤ n) (h' : n < 0) : IntKind.u64.wrap (-IntKind.u64.wrap n) = -n := by
  simp only [IntKind.wrap, IntKind.bits, IntKind.signed]; simp; omega
set_option maxHeartbeats 400000 in
theorem implFormat_any (n : Int) (w : World) (h0 : -9223372036854775808 ≤ n) (h1 : n ≤ 9223372036854775807) :
    Calls Try.prog 73 #[.int .i64 n] w fun e w' => e = .returned (.string ⟨(numL n).toArray⟩) ∧ Below w.heap.size w w' := by
  by_cases hn : 0 ≤ n
  · have HE := Lib.hid (show numL n = digs (19 + 1) n.natAbs from by simp [numL, show ¬ n < 0 from by omega])
    have hl0 : numL n = numL n := rfl
    have hf := Lib.fresh_isBuilder 90 5 w
    have HW := Lib.hid (writeDigits_any 19 (by omega) n w.heap.size w.heap.size [] (w.alloc (.cells #[.pointer none, .slice none 0 0] 90)) hn (by omega) (by omega) (Lib.IsBuilderF.of hf) (by simp) (by simp))
    clear hl0 hf h0
    go_enter Try.func73, Try.ntmps73
    go_wp2_with (go_at_call 108; refine (HW.out).mono ?_; rintro e w1 ⟨rfl, hb, hlo, hk⟩)
    have HS := Lib.hid (string_k w.heap.size w.heap.size ([] ++ digs (19 + 1) n.natAbs) w1 hb (by have := hlo.size; simp at this; omega))
    go_wp2_with (go_at_call 67; refine (HS.out).mono ?_; rintro e w2 ⟨rfl, hb2, hlo2, hk2⟩)
    go_ret
    exact ⟨ret_str (by rw [HE.out]; try rfl), (((Below.refl _ _).alloc (Nat.le_refl _) _).trans hlo).trans hlo2⟩
  · have HE := Lib.hid (show numL n = 45 :: digs (19 + 1) n.natAbs from by simp [numL, show n < 0 from by omega])
    have h2 : n < 0 := by omega
    have hf := Lib.fresh_isBuilder 90 5 w
    have HW := Lib.hid (writeByte_k w.heap.size w.heap.size (Lib.byteCells []) 45 (w.alloc (.cells #[.pointer none, .slice none 0 0] 90)) (Lib.IsBuilderF.of hf) (by simp [Lib.byteCells]) (by simp))
    clear hf hn
    have WN := Lib.hid (wrap_neg n h0 h2)
    go_enter Try.func73, Try.ntmps73
    go_wp2_with (go_at_call 102; refine (HW.out).mono ?_; rintro e w1 ⟨rfl, hb, hlo, hk⟩)
    have hz : w.heap.size ≤ w1.heap.size := by have := hlo.size; simp at this; omega
    have HZ := Lib.hid hz
    have HV := Lib.hid (writeDigits_any 19 (by omega) (-n) w.heap.size w.heap.size [45] w1 (by omega) (by omega) (by omega) (Or.inr hb) (by simp) hz)
    clear hz hb
    rw [WN.out]
    refine (HV.out).mono ?_
    rintro e w2 ⟨rfl, hb2, hlo2, hk2⟩
    have HS := Lib.hid (string_k w.heap.size w.heap.size ([45] ++ digs (19 + 1) (-n).natAbs) w2 hb2 (by have := hlo2.size; have := HZ.out; omega))
    clear hb2
    go_wp2_with (go_at_call 67; refine (HS.out).mono ?_; rintro e w3 ⟨rfl, hb3, hlo3, hk3⟩)
    go_ret
    exact ⟨ret_str (by rw [HE.out]; try simp), ((((Below.refl _ _).alloc (Nat.le_refl _) _).trans hlo).trans hlo2).trans hlo3⟩
end Go.Proofs.Ytmoliamenekemab
