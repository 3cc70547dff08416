/- The draws of chapter 1. -/
import Derived.Test.YtmoliamenekemabDraw
import Derived.Test.YtmoliamenekemabL01b
namespace Go.Proofs.Ytmoliamenekemab
set_option linter.unusedVariables false
open Go.RowKit
theorem numL_short (n : Int) : (numL n).length ≤ 21 := by
  unfold numL
  split
  · have := digs_len 20 n.natAbs; simp; omega
  · have := digs_len 20 n.natAbs; omega
theorem size_app (a b : ByteArray) : (a ++ b).size = a.size + b.size := ByteArray.size_append
theorem size_lit (l : List UInt8) : (⟨l.toArray⟩ : ByteArray).size = l.length := by simp [ByteArray.size]
def GivesTwo (Q : ByteArray → ByteArray → Prop) (w : World) (e : Ending) (w' : World) : Prop := ∃ x y : ByteArray, e = .returned (.tuple #[.string x, .string y]) ∧ Q x y ∧ Below w.heap.size w w'
set_option maxHeartbeats 400000 in
theorem l1Parts_any (b : Nat) (v : Value) (l : List UInt8) (sep : ByteArray) (hs : sep.size ≤ 20) (w : World) (hC : Cur w b v l) :
    Calls Try.prog 65 #[.pointer (some ⟨b, 0, none⟩), .string sep] w fun e w' => DrawnStr (fun x => x.size ≤ 1000) b v l w e w' := by
  have HC := Lib.hid hC
  clear hC
  go_enter Try.func65, Try.ntmps65
  go_wp2_with fail
  refine (l1Below_any b v l _ w HC.out (by omega) (by omega)).mono ?_
  rintro e w1 ⟨x, rfl, ⟨h0, h1, h6⟩, hg1, hC1⟩
  have h6' : x < 6 := h6 (by omega)
  have HG1 := Lib.hid hg1
  have HC1 := Lib.hid hC1
  clear hg1 hC1 h6 h1
  go_wp2_with fail
  go_loopw [5, 6] (fun sv nv wr => ∃ (n : Int) (t : ByteArray), sv = .string t ∧ nv = .int .i64 n ∧ 0 ≤ n ∧ n ≤ 6 ∧ (t.size : Int) ≤ 40 * (6 - n) ∧ w.grownBy wr (some b) ∧ Cur wr b v l) (fun _ nv _ => (intOf nv).toNat)
  case atStart => exact ⟨x, ⟨#[]⟩, rfl, rfl, by omega, by omega, by simp [ByteArray.size]; omega, HG1.out, HC1.out⟩
  case round =>
    obtain ⟨n, t, rfl, rfl, hn0, hn6, ht, hg, hC⟩ := hrel
    have HG := Lib.hid hg
    have HC2 := Lib.hid hC
    clear hg hC
    by_cases hp : 0 < n
    · go_wp2_with fail
      refine (l1Str_new b v l _ _ _ _ _ 9 HC2.out (by rfl) (by decide) (by decide) (by decide)).mono ?_
      rintro e w2 ⟨z, rfl, hz, hg2, hC2⟩
      have HG3 := Lib.hid (grown_trans HG.out hg2)
      have HC3 := Lib.hid hC2
      clear hg2 hC2
      go_wp2_with fail
      exact ⟨⟨n - 1, t ++ z ++ sep, rfl, rfl, by omega, by omega, by rw [size_app, size_app]; omega, HG3.out, HC3.out⟩, by simp [intOf]; omega⟩
    · go_wp2_with fail
      refine (l1Str_new b v l _ _ _ _ _ 9 HC2.out (by rfl) (by decide) (by decide) (by decide)).mono ?_
      rintro e w2 ⟨z, rfl, hz, hg2, hC2⟩
      have HG3 := Lib.hid (grown_trans HG.out hg2)
      have HC3 := Lib.hid hC2
      clear hg2 hC2
      go_wp2_with fail
      go_ret
      exact ⟨_, rfl, by show ByteArray.size _ ≤ 1000; rw [size_app]; omega, HG3.out, HC3.out⟩
set_option maxHeartbeats 400000 in
theorem drawSplitAt_any (v : Value) (l : List UInt8) (w : World) (hR : RowAt w v (Lib.byteCells l)) :
    Calls Try.prog 26 #[v] w fun e w' => GivesTwo (fun x y => x.size ≤ 1000 ∧ y.size ≤ 9) w e w' := by
  have HR := Lib.hid hR
  clear hR
  go_enter Try.func26, Try.ntmps26
  go_wp2_with fail
  refine (l1New_any v l w HR.out).mono ?_
  rintro e w1 ⟨b, rfl, hb, hB, hC⟩
  have HB := Lib.hid hB
  have HC := Lib.hid hC
  clear hB hC
  go_wp2_with fail
  refine (l1Str_new b v l _ _ _ _ _ 9 HC.out (by rfl) (by decide) (by decide) (by decide)).mono ?_
  rintro e w2 ⟨z, rfl, hz, hg2, hC2⟩
  have HB2 := Lib.hid (below_grown HB.out hg2 hb HB.out.size)
  have HC2 := Lib.hid hC2
  clear hg2 hC2
  go_wp2_with fail
  refine (l1Parts_any b v l z (by omega) _ HC2.out).mono ?_
  rintro e w3 ⟨y, rfl, hy, hg3, hC3⟩
  have HB3 := Lib.hid (below_grown HB2.out hg3 hb HB2.out.size)
  clear hg3 hC3
  go_wp2_with fail
  go_ret2
  exact ⟨_, _, rfl, ⟨hy, hz⟩, HB3.out⟩
end Go.Proofs.Ytmoliamenekemab
