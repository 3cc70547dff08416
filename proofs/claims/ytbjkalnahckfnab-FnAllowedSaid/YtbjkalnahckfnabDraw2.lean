/- The draws of chapter 2. -/
import Derived.Test.YtbjkalnahckfnabDraw
import Derived.Test.YtbjkalnahckfnabFace2
import Derived.Test.YtbjkalnahckfnabFace7
namespace Go.Proofs.Ytbjkalnahckfnab
set_option linter.unusedVariables false
open Go.RowKit
def I64 (x : Int) : Prop := -9223372036854775808 ≤ x ∧ x ≤ 9223372036854775807
def GivesInts (w : World) (e : Ending) (w' : World) : Prop := ∃ x y : Int, e = .returned (.tuple #[.int .i64 x, .int .i64 y]) ∧ I64 x ∧ I64 y ∧ Below w.heap.size w w'
set_option maxHeartbeats 400000 in
theorem l2Face_any (b : Nat) (v : Value) (l : List UInt8) (w : World) (hC : Cur w b v l) :
    Calls Try.prog 72 #[.pointer (some ⟨b, 0, none⟩)] w fun e w' => DrawnInt (fun x => 0 ≤ x ∧ x ≤ 63) b v l w e w' := by
  have HC0 := Lib.hid hC
  clear hC
  go_enter Try.func72, Try.ntmps72
  go_wp2_with fail
  refine (l1Below_any b v l _ w HC0.out (by omega) (by omega)).mono ?_
  rintro e w1 ⟨x, rfl, ⟨h0, h1, h2⟩, hg, hC⟩
  have HG1 := Lib.hid (hg)
  have HC1 := Lib.hid hC
  clear hg hC
  have h3 := h2 (by omega)
  clear h2
  go_wp2_with fail
  go_ret
  exact ⟨_, rfl, ⟨by omega, by omega⟩, HG1.out, HC1.out⟩
set_option maxHeartbeats 400000 in
theorem l2Any_any (b : Nat) (v : Value) (l : List UInt8) (w : World) (hC : Cur w b v l) :
    Calls Try.prog 56 #[.pointer (some ⟨b, 0, none⟩)] w fun e w' => DrawnInt I64 b v l w e w' := by
  have HC0 := Lib.hid hC
  clear hC
  go_enter Try.func56, Try.ntmps56
  go_wp2_with fail
  refine (l1Once_any b v l _ w HC0.out (by omega) (by omega)).mono ?_
  rintro e w1 ⟨x, rfl, hg, hC⟩
  have HG1 := Lib.hid (hg)
  have HC1 := Lib.hid hC
  clear hg hC
  cases x
  · go_wp2_with fail
    refine (l2Face_any b v l w1 HC1.out).mono ?_
    rintro e w2 ⟨y, rfl, ⟨h0, h1⟩, hg, hC⟩
    have HG2 := Lib.hid (grown_trans HG1.out hg)
    have HC2 := Lib.hid hC
    clear hg hC
    go_wp2_with fail
    go_ret
    exact ⟨_, rfl, ⟨by omega, by omega⟩, HG2.out, HC2.out⟩
  · go_wp2_with fail
    refine (l1Int_any b v l _ [-1, 64, 65, 1000, 9223372036854775807, -9223372036854775808] _ (cur_alloc HC1.out _) (rowOff_new w1 b HC1.out.lt _ _ _ _ rfl rfl (by decide) (by decide) _)).mono ?_
    rintro e w2 ⟨x, rfl, hx, hg1, hC1⟩
    have HG2 := Lib.hid (grown_trans (grown_alloc HG1.out _) hg1)
    have HC2 := Lib.hid hC1
    have HX := Lib.hid hx
    clear hg1 hC1 hx
    go_wp2_with fail
    go_ret
    refine ⟨_, rfl, ?_, HG2.out, HC2.out⟩
    have hx := HX.out
    simp only [List.mem_cons, List.not_mem_nil, or_false] at hx
    unfold I64
    omega
theorem size_appB (a b : ByteArray) : (a ++ b).size = a.size + b.size := ByteArray.size_append
end Go.Proofs.Ytbjkalnahckfnab
