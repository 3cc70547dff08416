/- Entries in plain words. -/
import Derived.Test.YtlkpinlkbikokaaIsEntryLawM2
import Derived.StillTailTactics
import Derived.Test.YtlkpinlkbikokaaIsEntryLawM0
import Derived.Recover
import Derived.Defers
import Derived.Test.YtlkpinlkbikokaaIsEntryLawM1
/- A part as a value of an interface type: its face, and which assertions it meets. Written by gen/ch4if.py. -/
namespace Go.Proofs.Ytlkpinlkbikokaa
set_option linter.unusedVariables false
set_option linter.unusedSimpArgs false
open Go.RowKit

theorem bel_dr {B : Nat} {a w : World} (h : Below B a w) : Below B a w.drew := ⟨h.os, h.tape, h.output, h.size, h.block⟩
theorem off_bits : ∀ a : Fin 64, offersF ((a : Nat) : Int) 0 = true ∧ offersF ((a : Nat) : Int) 1 = hasI ((a : Nat) : Int) 0 ∧ offersF ((a : Nat) : Int) 2 = hasI ((a : Nat) : Int) 1 ∧ offersF ((a : Nat) : Int) 4 = hasI ((a : Nat) : Int) 2 ∧ offersF ((a : Nat) : Int) 3 = (hasI ((a : Nat) : Int) 0 && hasI ((a : Nat) : Int) 1) := by decide +kernel
/-- the type T meets an assertion to I, or it does not -/
def Meets (I T : TypeId) (b : Bool) : Prop := match b with | true => Has I T | false => Fails I T
structure Ass (T : TypeId) (f : Int) : Prop where
  face : isF f = true
  run : Meets 160 T (offersF f 1)
  keep : Meets 164 T (offersF f 2)
  tell : Meets 176 T (offersF f 4)
  both : Meets 169 T (offersF f 3)
theorem as_run_k0 : Meets 160 204 (offersF 0 1) := (show offersF 0 1 = false by decide +kernel) ▸ (show Fails 160 204 from fails_of Try.underlying160 (by kernel_rfl))
theorem as_keep_k0 : Meets 164 204 (offersF 0 2) := (show offersF 0 2 = false by decide +kernel) ▸ (show Fails 164 204 from fails_of Try.underlying164 (by kernel_rfl))
theorem as_tell_k0 : Meets 176 204 (offersF 0 4) := (show offersF 0 4 = false by decide +kernel) ▸ (show Fails 176 204 from fails_of Try.underlying176 (by kernel_rfl))
theorem as_both_k0 : Meets 169 204 (offersF 0 3) := (show offersF 0 3 = false by decide +kernel) ▸ (show Fails 169 204 from fails_of Try.underlying169 (by kernel_rfl))
theorem ass_k0 : Ass 204 0 := ⟨by decide, as_run_k0, as_keep_k0, as_tell_k0, as_both_k0⟩
theorem fk_0 (b : Nat) : ∀ (fuel : Nat) (w : World), (method (fuel + 1) 204 (.agg #[.pointer (some ⟨b, 0, none⟩)]) "loop.example/g03016/impl.face").run Try.prog w = .ok (147, .agg #[.pointer (some ⟨b, 0, none⟩)]) w := by intro fuel w; kernel_rfl
theorem fn_0 (b : Nat) : ∀ (fuel : Nat) (w : World), (nilAhead (fuel + 1) 204 (.agg #[.pointer (some ⟨b, 0, none⟩)]) "loop.example/g03016/impl.face").run Try.prog w = .ok (some false) w := by intro fuel w; kernel_rfl
theorem as_run_k1 : Meets 160 185 (offersF 1 1) := (show offersF 1 1 = true by decide +kernel) ▸ (show Has 160 185 from ta_has Try.underlying160 (by kernel_rfl))
theorem as_keep_k1 : Meets 164 185 (offersF 1 2) := (show offersF 1 2 = false by decide +kernel) ▸ (show Fails 164 185 from fails_of Try.underlying164 (by kernel_rfl))
theorem as_tell_k1 : Meets 176 185 (offersF 1 4) := (show offersF 1 4 = false by decide +kernel) ▸ (show Fails 176 185 from fails_of Try.underlying176 (by kernel_rfl))
theorem as_both_k1 : Meets 169 185 (offersF 1 3) := (show offersF 1 3 = false by decide +kernel) ▸ (show Fails 169 185 from fails_of Try.underlying169 (by kernel_rfl))
theorem ass_k1 : Ass 185 1 := ⟨by decide, as_run_k1, as_keep_k1, as_tell_k1, as_both_k1⟩
theorem fk_1 (b : Nat) : ∀ (fuel : Nat) (w : World), (method (fuel + 1) 185 (.agg #[.pointer (some ⟨b, 0, none⟩), .pointer (some ⟨b, 0, none⟩)]) "loop.example/g03016/impl.face").run Try.prog w = .ok (147, .agg #[.pointer (some ⟨b, 0, none⟩)]) w := by intro fuel w; kernel_rfl
theorem fn_1 (b : Nat) : ∀ (fuel : Nat) (w : World), (nilAhead (fuel + 1) 185 (.agg #[.pointer (some ⟨b, 0, none⟩), .pointer (some ⟨b, 0, none⟩)]) "loop.example/g03016/impl.face").run Try.prog w = .ok (some false) w := by intro fuel w; kernel_rfl
theorem as_run_k2 : Meets 160 188 (offersF 2 1) := (show offersF 2 1 = false by decide +kernel) ▸ (show Fails 160 188 from fails_of Try.underlying160 (by kernel_rfl))
theorem as_keep_k2 : Meets 164 188 (offersF 2 2) := (show offersF 2 2 = true by decide +kernel) ▸ (show Has 164 188 from ta_has Try.underlying164 (by kernel_rfl))
theorem as_tell_k2 : Meets 176 188 (offersF 2 4) := (show offersF 2 4 = false by decide +kernel) ▸ (show Fails 176 188 from fails_of Try.underlying176 (by kernel_rfl))
theorem as_both_k2 : Meets 169 188 (offersF 2 3) := (show offersF 2 3 = false by decide +kernel) ▸ (show Fails 169 188 from fails_of Try.underlying169 (by kernel_rfl))
theorem ass_k2 : Ass 188 2 := ⟨by decide, as_run_k2, as_keep_k2, as_tell_k2, as_both_k2⟩
theorem fk_2 (b : Nat) : ∀ (fuel : Nat) (w : World), (method (fuel + 1) 188 (.agg #[.pointer (some ⟨b, 0, none⟩), .pointer (some ⟨b, 0, none⟩)]) "loop.example/g03016/impl.face").run Try.prog w = .ok (147, .agg #[.pointer (some ⟨b, 0, none⟩)]) w := by intro fuel w; kernel_rfl
theorem fn_2 (b : Nat) : ∀ (fuel : Nat) (w : World), (nilAhead (fuel + 1) 188 (.agg #[.pointer (some ⟨b, 0, none⟩), .pointer (some ⟨b, 0, none⟩)]) "loop.example/g03016/impl.face").run Try.prog w = .ok (some false) w := by intro fuel w; kernel_rfl
theorem as_run_k3 : Meets 160 191 (offersF 5 1) := (show offersF 5 1 = true by decide +kernel) ▸ (show Has 160 191 from ta_has Try.underlying160 (by kernel_rfl))
theorem as_keep_k3 : Meets 164 191 (offersF 5 2) := (show offersF 5 2 = false by decide +kernel) ▸ (show Fails 164 191 from fails_of Try.underlying164 (by kernel_rfl))
theorem as_tell_k3 : Meets 176 191 (offersF 5 4) := (show offersF 5 4 = true by decide +kernel) ▸ (show Has 176 191 from ta_has Try.underlying176 (by kernel_rfl))
theorem as_both_k3 : Meets 169 191 (offersF 5 3) := (show offersF 5 3 = false by decide +kernel) ▸ (show Fails 169 191 from fails_of Try.underlying169 (by kernel_rfl))
theorem ass_k3 : Ass 191 5 := ⟨by decide, as_run_k3, as_keep_k3, as_tell_k3, as_both_k3⟩
theorem fk_3 (b : Nat) : ∀ (fuel : Nat) (w : World), (method (fuel + 1) 191 (.agg #[.pointer (some ⟨b, 0, none⟩), .pointer (some ⟨b, 0, none⟩), .pointer (some ⟨b, 0, none⟩)]) "loop.example/g03016/impl.face").run Try.prog w = .ok (147, .agg #[.pointer (some ⟨b, 0, none⟩)]) w := by intro fuel w; kernel_rfl
theorem fn_3 (b : Nat) : ∀ (fuel : Nat) (w : World), (nilAhead (fuel + 1) 191 (.agg #[.pointer (some ⟨b, 0, none⟩), .pointer (some ⟨b, 0, none⟩), .pointer (some ⟨b, 0, none⟩)]) "loop.example/g03016/impl.face").run Try.prog w = .ok (some false) w := by intro fuel w; kernel_rfl
theorem as_run_k4 : Meets 160 193 (offersF 3 1) := (show offersF 3 1 = true by decide +kernel) ▸ (show Has 160 193 from ta_has Try.underlying160 (by kernel_rfl))
theorem as_keep_k4 : Meets 164 193 (offersF 3 2) := (show offersF 3 2 = true by decide +kernel) ▸ (show Has 164 193 from ta_has Try.underlying164 (by kernel_rfl))
theorem as_tell_k4 : Meets 176 193 (offersF 3 4) := (show offersF 3 4 = false by decide +kernel) ▸ (show Fails 176 193 from fails_of Try.underlying176 (by kernel_rfl))
theorem as_both_k4 : Meets 169 193 (offersF 3 3) := (show offersF 3 3 = true by decide +kernel) ▸ (show Has 169 193 from ta_has Try.underlying169 (by kernel_rfl))
theorem ass_k4 : Ass 193 3 := ⟨by decide, as_run_k4, as_keep_k4, as_tell_k4, as_both_k4⟩
theorem fk_4 (b : Nat) : ∀ (fuel : Nat) (w : World), (method (fuel + 1) 193 (.agg #[.pointer (some ⟨b, 0, none⟩), .pointer (some ⟨b, 0, none⟩), .pointer (some ⟨b, 0, none⟩)]) "loop.example/g03016/impl.face").run Try.prog w = .ok (147, .agg #[.pointer (some ⟨b, 0, none⟩)]) w := by intro fuel w; kernel_rfl
theorem fn_4 (b : Nat) : ∀ (fuel : Nat) (w : World), (nilAhead (fuel + 1) 193 (.agg #[.pointer (some ⟨b, 0, none⟩), .pointer (some ⟨b, 0, none⟩), .pointer (some ⟨b, 0, none⟩)]) "loop.example/g03016/impl.face").run Try.prog w = .ok (some false) w := by intro fuel w; kernel_rfl
theorem as_run_k5 : Meets 160 196 (offersF 9 1) := (show offersF 9 1 = true by decide +kernel) ▸ (show Has 160 196 from ta_has Try.underlying160 (by kernel_rfl))
theorem as_keep_k5 : Meets 164 196 (offersF 9 2) := (show offersF 9 2 = false by decide +kernel) ▸ (show Fails 164 196 from fails_of Try.underlying164 (by kernel_rfl))
theorem as_tell_k5 : Meets 176 196 (offersF 9 4) := (show offersF 9 4 = false by decide +kernel) ▸ (show Fails 176 196 from fails_of Try.underlying176 (by kernel_rfl))
theorem as_both_k5 : Meets 169 196 (offersF 9 3) := (show offersF 9 3 = false by decide +kernel) ▸ (show Fails 169 196 from fails_of Try.underlying169 (by kernel_rfl))
theorem ass_k5 : Ass 196 9 := ⟨by decide, as_run_k5, as_keep_k5, as_tell_k5, as_both_k5⟩
theorem fk_5 (b : Nat) : ∀ (fuel : Nat) (w : World), (method (fuel + 1) 196 (.agg #[.pointer (some ⟨b, 0, none⟩), .pointer (some ⟨b, 0, none⟩), .pointer (some ⟨b, 0, none⟩)]) "loop.example/g03016/impl.face").run Try.prog w = .ok (147, .agg #[.pointer (some ⟨b, 0, none⟩)]) w := by intro fuel w; kernel_rfl
theorem fn_5 (b : Nat) : ∀ (fuel : Nat) (w : World), (nilAhead (fuel + 1) 196 (.agg #[.pointer (some ⟨b, 0, none⟩), .pointer (some ⟨b, 0, none⟩), .pointer (some ⟨b, 0, none⟩)]) "loop.example/g03016/impl.face").run Try.prog w = .ok (some false) w := by intro fuel w; kernel_rfl
theorem as_run_k6 : Meets 160 199 (offersF 19 1) := (show offersF 19 1 = true by decide +kernel) ▸ (show Has 160 199 from ta_has Try.underlying160 (by kernel_rfl))
theorem as_keep_k6 : Meets 164 199 (offersF 19 2) := (show offersF 19 2 = true by decide +kernel) ▸ (show Has 164 199 from ta_has Try.underlying164 (by kernel_rfl))
theorem as_tell_k6 : Meets 176 199 (offersF 19 4) := (show offersF 19 4 = false by decide +kernel) ▸ (show Fails 176 199 from fails_of Try.underlying176 (by kernel_rfl))
theorem as_both_k6 : Meets 169 199 (offersF 19 3) := (show offersF 19 3 = true by decide +kernel) ▸ (show Has 169 199 from ta_has Try.underlying169 (by kernel_rfl))
theorem ass_k6 : Ass 199 19 := ⟨by decide, as_run_k6, as_keep_k6, as_tell_k6, as_both_k6⟩
theorem fk_6 (b : Nat) : ∀ (fuel : Nat) (w : World), (method (fuel + 1) 199 (.agg #[.pointer (some ⟨b, 0, none⟩), .pointer (some ⟨b, 0, none⟩), .pointer (some ⟨b, 0, none⟩), .pointer (some ⟨b, 0, none⟩)]) "loop.example/g03016/impl.face").run Try.prog w = .ok (147, .agg #[.pointer (some ⟨b, 0, none⟩)]) w := by intro fuel w; kernel_rfl
theorem fn_6 (b : Nat) : ∀ (fuel : Nat) (w : World), (nilAhead (fuel + 1) 199 (.agg #[.pointer (some ⟨b, 0, none⟩), .pointer (some ⟨b, 0, none⟩), .pointer (some ⟨b, 0, none⟩), .pointer (some ⟨b, 0, none⟩)]) "loop.example/g03016/impl.face").run Try.prog w = .ok (some false) w := by intro fuel w; kernel_rfl
theorem as_run_k7 : Meets 160 202 (offersF 63 1) := (show offersF 63 1 = true by decide +kernel) ▸ (show Has 160 202 from ta_has Try.underlying160 (by kernel_rfl))
theorem as_keep_k7 : Meets 164 202 (offersF 63 2) := (show offersF 63 2 = true by decide +kernel) ▸ (show Has 164 202 from ta_has Try.underlying164 (by kernel_rfl))
theorem as_tell_k7 : Meets 176 202 (offersF 63 4) := (show offersF 63 4 = true by decide +kernel) ▸ (show Has 176 202 from ta_has Try.underlying176 (by kernel_rfl))
theorem as_both_k7 : Meets 169 202 (offersF 63 3) := (show offersF 63 3 = true by decide +kernel) ▸ (show Has 169 202 from ta_has Try.underlying169 (by kernel_rfl))
theorem ass_k7 : Ass 202 63 := ⟨by decide, as_run_k7, as_keep_k7, as_tell_k7, as_both_k7⟩
theorem fk_7 (b : Nat) : ∀ (fuel : Nat) (w : World), (method (fuel + 1) 202 (.agg #[.pointer (some ⟨b, 0, none⟩), .pointer (some ⟨b, 0, none⟩), .pointer (some ⟨b, 0, none⟩), .pointer (some ⟨b, 0, none⟩), .pointer (some ⟨b, 0, none⟩), .pointer (some ⟨b, 0, none⟩), .pointer (some ⟨b, 0, none⟩)]) "loop.example/g03016/impl.face").run Try.prog w = .ok (147, .agg #[.pointer (some ⟨b, 0, none⟩)]) w := by intro fuel w; kernel_rfl
theorem fn_7 (b : Nat) : ∀ (fuel : Nat) (w : World), (nilAhead (fuel + 1) 202 (.agg #[.pointer (some ⟨b, 0, none⟩), .pointer (some ⟨b, 0, none⟩), .pointer (some ⟨b, 0, none⟩), .pointer (some ⟨b, 0, none⟩), .pointer (some ⟨b, 0, none⟩), .pointer (some ⟨b, 0, none⟩), .pointer (some ⟨b, 0, none⟩)]) "loop.example/g03016/impl.face").run Try.prog w = .ok (some false) w := by intro fuel w; kernel_rfl
theorem as_run_l0 : Meets 160 180 (offersF 0 1) := (show offersF 0 1 = false by decide +kernel) ▸ (show Fails 160 180 from fails_of Try.underlying160 (by kernel_rfl))
theorem as_keep_l0 : Meets 164 180 (offersF 0 2) := (show offersF 0 2 = false by decide +kernel) ▸ (show Fails 164 180 from fails_of Try.underlying164 (by kernel_rfl))
theorem as_tell_l0 : Meets 176 180 (offersF 0 4) := (show offersF 0 4 = false by decide +kernel) ▸ (show Fails 176 180 from fails_of Try.underlying176 (by kernel_rfl))
theorem as_both_l0 : Meets 169 180 (offersF 0 3) := (show offersF 0 3 = false by decide +kernel) ▸ (show Fails 169 180 from fails_of Try.underlying169 (by kernel_rfl))
theorem ass_l0 : Ass 180 0 := ⟨by decide, as_run_l0, as_keep_l0, as_tell_l0, as_both_l0⟩
theorem fl_0 (b o : Nat) : ∀ (fuel : Nat) (w : World), (method (fuel + 1) 180 (.agg #[.pointer (some ⟨b, o, none⟩)]) "loop.example/g03016/impl.face").run Try.prog w = .ok (139, .agg #[.pointer (some ⟨b, o, none⟩)]) w := by intro fuel w; kernel_rfl
theorem fm_0 (b o : Nat) : ∀ (fuel : Nat) (w : World), (nilAhead (fuel + 1) 180 (.agg #[.pointer (some ⟨b, o, none⟩)]) "loop.example/g03016/impl.face").run Try.prog w = .ok (some false) w := by intro fuel w; kernel_rfl
theorem as_run_l1 : Meets 160 162 (offersF 1 1) := (show offersF 1 1 = true by decide +kernel) ▸ (show Has 160 162 from ta_has Try.underlying160 (by kernel_rfl))
theorem as_keep_l1 : Meets 164 162 (offersF 1 2) := (show offersF 1 2 = false by decide +kernel) ▸ (show Fails 164 162 from fails_of Try.underlying164 (by kernel_rfl))
theorem as_tell_l1 : Meets 176 162 (offersF 1 4) := (show offersF 1 4 = false by decide +kernel) ▸ (show Fails 176 162 from fails_of Try.underlying176 (by kernel_rfl))
theorem as_both_l1 : Meets 169 162 (offersF 1 3) := (show offersF 1 3 = false by decide +kernel) ▸ (show Fails 169 162 from fails_of Try.underlying169 (by kernel_rfl))
theorem ass_l1 : Ass 162 1 := ⟨by decide, as_run_l1, as_keep_l1, as_tell_l1, as_both_l1⟩
theorem fl_1 (b o : Nat) (T : TypeId) (V : Value) : ∀ (fuel : Nat) (w : World), (method (fuel + 1) 162 (.agg #[.pointer (some ⟨b, o, none⟩), .iface T V]) "loop.example/g03016/impl.face").run Try.prog w = .ok (139, .agg #[.pointer (some ⟨b, o, none⟩)]) w := by intro fuel w; kernel_rfl
theorem fm_1 (b o : Nat) (T : TypeId) (V : Value) : ∀ (fuel : Nat) (w : World), (nilAhead (fuel + 1) 162 (.agg #[.pointer (some ⟨b, o, none⟩), .iface T V]) "loop.example/g03016/impl.face").run Try.prog w = .ok (some false) w := by intro fuel w; kernel_rfl
theorem as_run_l2 : Meets 160 166 (offersF 2 1) := (show offersF 2 1 = false by decide +kernel) ▸ (show Fails 160 166 from fails_of Try.underlying160 (by kernel_rfl))
theorem as_keep_l2 : Meets 164 166 (offersF 2 2) := (show offersF 2 2 = true by decide +kernel) ▸ (show Has 164 166 from ta_has Try.underlying164 (by kernel_rfl))
theorem as_tell_l2 : Meets 176 166 (offersF 2 4) := (show offersF 2 4 = false by decide +kernel) ▸ (show Fails 176 166 from fails_of Try.underlying176 (by kernel_rfl))
theorem as_both_l2 : Meets 169 166 (offersF 2 3) := (show offersF 2 3 = false by decide +kernel) ▸ (show Fails 169 166 from fails_of Try.underlying169 (by kernel_rfl))
theorem ass_l2 : Ass 166 2 := ⟨by decide, as_run_l2, as_keep_l2, as_tell_l2, as_both_l2⟩
theorem fl_2 (b o : Nat) (T : TypeId) (V : Value) : ∀ (fuel : Nat) (w : World), (method (fuel + 1) 166 (.agg #[.pointer (some ⟨b, o, none⟩), .iface T V]) "loop.example/g03016/impl.face").run Try.prog w = .ok (139, .agg #[.pointer (some ⟨b, o, none⟩)]) w := by intro fuel w; kernel_rfl
theorem fm_2 (b o : Nat) (T : TypeId) (V : Value) : ∀ (fuel : Nat) (w : World), (nilAhead (fuel + 1) 166 (.agg #[.pointer (some ⟨b, o, none⟩), .iface T V]) "loop.example/g03016/impl.face").run Try.prog w = .ok (some false) w := by intro fuel w; kernel_rfl
theorem as_run_l3 : Meets 160 167 (offersF 6 1) := (show offersF 6 1 = false by decide +kernel) ▸ (show Fails 160 167 from fails_of Try.underlying160 (by kernel_rfl))
theorem as_keep_l3 : Meets 164 167 (offersF 6 2) := (show offersF 6 2 = true by decide +kernel) ▸ (show Has 164 167 from ta_has Try.underlying164 (by kernel_rfl))
theorem as_tell_l3 : Meets 176 167 (offersF 6 4) := (show offersF 6 4 = true by decide +kernel) ▸ (show Has 176 167 from ta_has Try.underlying176 (by kernel_rfl))
theorem as_both_l3 : Meets 169 167 (offersF 6 3) := (show offersF 6 3 = false by decide +kernel) ▸ (show Fails 169 167 from fails_of Try.underlying169 (by kernel_rfl))
theorem ass_l3 : Ass 167 6 := ⟨by decide, as_run_l3, as_keep_l3, as_tell_l3, as_both_l3⟩
theorem fl_3 (b o : Nat) (T : TypeId) (V : Value) : ∀ (fuel : Nat) (w : World), (method (fuel + 1) 167 (.agg #[.pointer (some ⟨b, o, none⟩), .iface T V]) "loop.example/g03016/impl.face").run Try.prog w = .ok (139, .agg #[.pointer (some ⟨b, o, none⟩)]) w := by intro fuel w; kernel_rfl
theorem fm_3 (b o : Nat) (T : TypeId) (V : Value) : ∀ (fuel : Nat) (w : World), (nilAhead (fuel + 1) 167 (.agg #[.pointer (some ⟨b, o, none⟩), .iface T V]) "loop.example/g03016/impl.face").run Try.prog w = .ok (some false) w := by intro fuel w; kernel_rfl
theorem as_run_l4 : Meets 160 171 (offersF 3 1) := (show offersF 3 1 = true by decide +kernel) ▸ (show Has 160 171 from ta_has Try.underlying160 (by kernel_rfl))
theorem as_keep_l4 : Meets 164 171 (offersF 3 2) := (show offersF 3 2 = true by decide +kernel) ▸ (show Has 164 171 from ta_has Try.underlying164 (by kernel_rfl))
theorem as_tell_l4 : Meets 176 171 (offersF 3 4) := (show offersF 3 4 = false by decide +kernel) ▸ (show Fails 176 171 from fails_of Try.underlying176 (by kernel_rfl))
theorem as_both_l4 : Meets 169 171 (offersF 3 3) := (show offersF 3 3 = true by decide +kernel) ▸ (show Has 169 171 from ta_has Try.underlying169 (by kernel_rfl))
theorem ass_l4 : Ass 171 3 := ⟨by decide, as_run_l4, as_keep_l4, as_tell_l4, as_both_l4⟩
theorem fl_4 (b o : Nat) (T : TypeId) (V : Value) : ∀ (fuel : Nat) (w : World), (method (fuel + 1) 171 (.agg #[.pointer (some ⟨b, o, none⟩), .iface T V]) "loop.example/g03016/impl.face").run Try.prog w = .ok (139, .agg #[.pointer (some ⟨b, o, none⟩)]) w := by intro fuel w; kernel_rfl
theorem fm_4 (b o : Nat) (T : TypeId) (V : Value) : ∀ (fuel : Nat) (w : World), (nilAhead (fuel + 1) 171 (.agg #[.pointer (some ⟨b, o, none⟩), .iface T V]) "loop.example/g03016/impl.face").run Try.prog w = .ok (some false) w := by intro fuel w; kernel_rfl
theorem as_run_l5 : Meets 160 172 (offersF 2 1) := (show offersF 2 1 = false by decide +kernel) ▸ (show Fails 160 172 from fails_of Try.underlying160 (by kernel_rfl))
theorem as_keep_l5 : Meets 164 172 (offersF 2 2) := (show offersF 2 2 = true by decide +kernel) ▸ (show Has 164 172 from ta_has Try.underlying164 (by kernel_rfl))
theorem as_tell_l5 : Meets 176 172 (offersF 2 4) := (show offersF 2 4 = false by decide +kernel) ▸ (show Fails 176 172 from fails_of Try.underlying176 (by kernel_rfl))
theorem as_both_l5 : Meets 169 172 (offersF 2 3) := (show offersF 2 3 = false by decide +kernel) ▸ (show Fails 169 172 from fails_of Try.underlying169 (by kernel_rfl))
theorem ass_l5 : Ass 172 2 := ⟨by decide, as_run_l5, as_keep_l5, as_tell_l5, as_both_l5⟩
theorem fl_5 (b o : Nat) (T : TypeId) (V : Value) : ∀ (fuel : Nat) (w : World), (method (fuel + 1) 172 (.agg #[.pointer (some ⟨b, o, none⟩), .iface T V]) "loop.example/g03016/impl.face").run Try.prog w = .ok (139, .agg #[.pointer (some ⟨b, o, none⟩)]) w := by intro fuel w; kernel_rfl
theorem fm_5 (b o : Nat) (T : TypeId) (V : Value) : ∀ (fuel : Nat) (w : World), (nilAhead (fuel + 1) 172 (.agg #[.pointer (some ⟨b, o, none⟩), .iface T V]) "loop.example/g03016/impl.face").run Try.prog w = .ok (some false) w := by intro fuel w; kernel_rfl
theorem as_run_l6 : Meets 160 173 (offersF 9 1) := (show offersF 9 1 = true by decide +kernel) ▸ (show Has 160 173 from ta_has Try.underlying160 (by kernel_rfl))
theorem as_keep_l6 : Meets 164 173 (offersF 9 2) := (show offersF 9 2 = false by decide +kernel) ▸ (show Fails 164 173 from fails_of Try.underlying164 (by kernel_rfl))
theorem as_tell_l6 : Meets 176 173 (offersF 9 4) := (show offersF 9 4 = false by decide +kernel) ▸ (show Fails 176 173 from fails_of Try.underlying176 (by kernel_rfl))
theorem as_both_l6 : Meets 169 173 (offersF 9 3) := (show offersF 9 3 = false by decide +kernel) ▸ (show Fails 169 173 from fails_of Try.underlying169 (by kernel_rfl))
theorem ass_l6 : Ass 173 9 := ⟨by decide, as_run_l6, as_keep_l6, as_tell_l6, as_both_l6⟩
theorem fl_6 (b o : Nat) (T : TypeId) (V : Value) : ∀ (fuel : Nat) (w : World), (method (fuel + 1) 173 (.agg #[.pointer (some ⟨b, o, none⟩), .iface T V]) "loop.example/g03016/impl.face").run Try.prog w = .ok (139, .agg #[.pointer (some ⟨b, o, none⟩)]) w := by intro fuel w; kernel_rfl
theorem fm_6 (b o : Nat) (T : TypeId) (V : Value) : ∀ (fuel : Nat) (w : World), (nilAhead (fuel + 1) 173 (.agg #[.pointer (some ⟨b, o, none⟩), .iface T V]) "loop.example/g03016/impl.face").run Try.prog w = .ok (some false) w := by intro fuel w; kernel_rfl
theorem as_run_l7 : Meets 160 174 (offersF 33 1) := (show offersF 33 1 = true by decide +kernel) ▸ (show Has 160 174 from ta_has Try.underlying160 (by kernel_rfl))
theorem as_keep_l7 : Meets 164 174 (offersF 33 2) := (show offersF 33 2 = false by decide +kernel) ▸ (show Fails 164 174 from fails_of Try.underlying164 (by kernel_rfl))
theorem as_tell_l7 : Meets 176 174 (offersF 33 4) := (show offersF 33 4 = false by decide +kernel) ▸ (show Fails 176 174 from fails_of Try.underlying176 (by kernel_rfl))
theorem as_both_l7 : Meets 169 174 (offersF 33 3) := (show offersF 33 3 = false by decide +kernel) ▸ (show Fails 169 174 from fails_of Try.underlying169 (by kernel_rfl))
theorem ass_l7 : Ass 174 33 := ⟨by decide, as_run_l7, as_keep_l7, as_tell_l7, as_both_l7⟩
theorem fl_7 (b o : Nat) (T : TypeId) (V : Value) : ∀ (fuel : Nat) (w : World), (method (fuel + 1) 174 (.agg #[.pointer (some ⟨b, o, none⟩), .iface T V]) "loop.example/g03016/impl.face").run Try.prog w = .ok (139, .agg #[.pointer (some ⟨b, o, none⟩)]) w := by intro fuel w; kernel_rfl
theorem fm_7 (b o : Nat) (T : TypeId) (V : Value) : ∀ (fuel : Nat) (w : World), (nilAhead (fuel + 1) 174 (.agg #[.pointer (some ⟨b, o, none⟩), .iface T V]) "loop.example/g03016/impl.face").run Try.prog w = .ok (some false) w := by intro fuel w; kernel_rfl
theorem as_run_l8 : Meets 160 178 (offersF 4 1) := (show offersF 4 1 = false by decide +kernel) ▸ (show Fails 160 178 from fails_of Try.underlying160 (by kernel_rfl))
theorem as_keep_l8 : Meets 164 178 (offersF 4 2) := (show offersF 4 2 = false by decide +kernel) ▸ (show Fails 164 178 from fails_of Try.underlying164 (by kernel_rfl))
theorem as_tell_l8 : Meets 176 178 (offersF 4 4) := (show offersF 4 4 = true by decide +kernel) ▸ (show Has 176 178 from ta_has Try.underlying176 (by kernel_rfl))
theorem as_both_l8 : Meets 169 178 (offersF 4 3) := (show offersF 4 3 = false by decide +kernel) ▸ (show Fails 169 178 from fails_of Try.underlying169 (by kernel_rfl))
theorem ass_l8 : Ass 178 4 := ⟨by decide, as_run_l8, as_keep_l8, as_tell_l8, as_both_l8⟩
theorem fl_8 (b o : Nat) (T : TypeId) (V : Value) : ∀ (fuel : Nat) (w : World), (method (fuel + 1) 178 (.agg #[.pointer (some ⟨b, o, none⟩), .iface T V]) "loop.example/g03016/impl.face").run Try.prog w = .ok (139, .agg #[.pointer (some ⟨b, o, none⟩)]) w := by intro fuel w; kernel_rfl
theorem fm_8 (b o : Nat) (T : TypeId) (V : Value) : ∀ (fuel : Nat) (w : World), (nilAhead (fuel + 1) 178 (.agg #[.pointer (some ⟨b, o, none⟩), .iface T V]) "loop.example/g03016/impl.face").run Try.prog w = .ok (some false) w := by intro fuel w; kernel_rfl
/-- the value (T, V) tells the face f, in each world that keeps what lies below -/
def FaceAt (w : World) (T : TypeId) (V : Value) (f : Int) : Prop := ∃ (F : FuncId) (rcv : Value), (F = 147 ∨ F = 139) ∧ (∀ (fuel : Nat) (w : World), (method (fuel + 1) T V "loop.example/g03016/impl.face").run Try.prog w = .ok (F, rcv) w) ∧ (∀ (fuel : Nat) (w : World), (nilAhead (fuel + 1) T V "loop.example/g03016/impl.face").run Try.prog w = .ok (some false) w) ∧
  ∀ W, Below w.heap.size w W → Calls Try.prog F #[rcv] W fun e w' => e = .returned (.int .i64 f) ∧ Below W.heap.size W w'
theorem FaceAt.below {w w' : World} {T : TypeId} {V : Value} {f : Int} (h : FaceAt w T V f) (hb : Below w.heap.size w w') : FaceAt w' T V f := by
  obtain ⟨F, r, h0, h1, h2, h3⟩ := h
  exact ⟨F, r, h0, h1, h2, fun W hW => h3 W (belS hb hW)⟩
def IfaceAt (w : World) (v : Value) (f : Int) : Prop := ∃ T V, v = .iface T V ∧ FaceAt w T V f ∧ Ass T f
theorem IfaceAt.below {w w' : World} {v : Value} {f : Int} (h : IfaceAt w v f) (hb : Below w.heap.size w w') : IfaceAt w' v f := by
  obtain ⟨T, V, h1, h2, h3⟩ := h
  exact ⟨T, V, h1, h2.below hb, h3⟩
set_option maxHeartbeats 800000 in
theorem bodyName_c (b : Nat) (k : List UInt8) (w : World) (h : w.cell? ⟨b, 0, none⟩ = some (.string ⟨k.toArray⟩)) :
    Calls Try.prog 148 #[.agg #[.pointer (some ⟨b, 0, none⟩)]] w fun e w' => e = .returned (.string ⟨k.toArray⟩) ∧ Below w.heap.size w w' := by
  have hl := World.block_lt_of_cell? w _ h
  simp only at hl
  have hne : ¬ b = w.heap.size := by omega
  go_enter Try.func148, Try.ntmps148
  go_wp2_with fail
  go_ret
  exact ⟨rfl, part_box w _⟩
set_option maxHeartbeats 800000 in
theorem bodyFace_c (b : Nat) (k : List UInt8) (w : World) (h : w.cell? ⟨b, 0, none⟩ = some (.string ⟨k.toArray⟩)) :
    Calls Try.prog 147 #[.agg #[.pointer (some ⟨b, 0, none⟩)]] w fun e w' => e = .returned (.int .i64 (kfI (kindI k))) ∧ Below w.heap.size w w' := by
  have hl := World.block_lt_of_cell? w _ h
  simp only at hl
  have HN := Lib.hid (bodyName_c b k (w.alloc (.cells #[.pointer (some ⟨b, 0, none⟩)] 182)) (((part_box w _).cell (p := ⟨b, 0, none⟩) hl).trans h))
  have HK := Lib.hid (implKind_any ⟨k.toArray⟩)
  simp only [List.toList_toArray] at HK
  unfold kfV at HK
  generalize kfI (kindI k) = f at *
  generalize decide (0 ≤ kindI k) = q at *
  clear h
  go_enter Try.func147, Try.ntmps147
  go_wp2_with fail
  refine HN.out.mono ?_
  rintro e w1 ⟨rfl, hb⟩
  have HB := Lib.hid (belS (part_box w _) hb)
  clear hb
  go_wp2_with (first | (go_at_call 95; (with_reducible refine (HK.out _).mono ?_); rintro e w' ⟨rfl, rfl⟩))
  go_ret
  exact ⟨rfl, HB.out⟩
set_option maxHeartbeats 800000 in
theorem coverName_c (b o : Nat) (k : List UInt8) (w : World) (h : w.cell? ⟨b, o, none⟩ = some (.string ⟨k.toArray⟩)) :
    Calls Try.prog 140 #[.agg #[.pointer (some ⟨b, o, none⟩)]] w fun e w' => e = .returned (.string ⟨k.toArray⟩) ∧ Below w.heap.size w w' := by
  have hl := World.block_lt_of_cell? w _ h
  simp only at hl
  have hne : ¬ b = w.heap.size := by omega
  go_enter Try.func140, Try.ntmps140
  go_wp2_with fail
  go_ret
  exact ⟨rfl, part_box w _⟩
set_option maxHeartbeats 800000 in
theorem coverFace_c (b o : Nat) (k : List UInt8) (w : World) (h : w.cell? ⟨b, o, none⟩ = some (.string ⟨k.toArray⟩)) :
    Calls Try.prog 139 #[.agg #[.pointer (some ⟨b, o, none⟩)]] w fun e w' => e = .returned (.int .i64 (giveI (layI k))) ∧ Below w.heap.size w w' := by
  have hl := World.block_lt_of_cell? w _ h
  simp only at hl
  have HN := Lib.hid (coverName_c b o k (w.alloc (.cells #[.pointer (some ⟨b, o, none⟩)] 158)) (((part_box w _).cell (p := ⟨b, o, none⟩) hl).trans h))
  have HK := Lib.hid (implLayerGives_any ⟨k.toArray⟩)
  simp only [List.toList_toArray] at HK
  unfold gvV at HK
  generalize giveI (layI k) = f at *
  generalize decide (0 ≤ layI k) = q at *
  clear h
  go_enter Try.func139, Try.ntmps139
  go_wp2_with fail
  refine HN.out.mono ?_
  rintro e w1 ⟨rfl, hb⟩
  have HB := Lib.hid (belS (part_box w _) hb)
  clear hb
  go_wp2_with (first | (go_at_call 96; (with_reducible refine (HK.out _).mono ?_); rintro e w' ⟨rfl, rfl⟩))
  go_ret
  exact ⟨rfl, HB.out⟩
theorem faceAt_body {b : Nat} {k : List UInt8} {w : World} {T : TypeId} {V : Value} {f : Int} (h : w.cell? ⟨b, 0, none⟩ = some (.string ⟨k.toArray⟩)) (hf : kfI (kindI k) = f) (h1 : ∀ (fuel : Nat) (w : World), (method (fuel + 1) T V "loop.example/g03016/impl.face").run Try.prog w = .ok (147, .agg #[.pointer (some ⟨b, 0, none⟩)]) w)
    (h2 : ∀ (fuel : Nat) (w : World), (nilAhead (fuel + 1) T V "loop.example/g03016/impl.face").run Try.prog w = .ok (some false) w) : FaceAt w T V f := by
  subst hf
  exact ⟨_, _, Or.inl rfl, h1, h2, fun W hW => bodyFace_c b k W ((hW.cell (p := ⟨b, 0, none⟩) (World.block_lt_of_cell? w _ h)).trans h)⟩
theorem faceAt_cover {b o : Nat} {k : List UInt8} {w : World} {T : TypeId} {V : Value} {f : Int} (h : w.cell? ⟨b, o, none⟩ = some (.string ⟨k.toArray⟩)) (hf : giveI (layI k) = f) (h1 : ∀ (fuel : Nat) (w : World), (method (fuel + 1) T V "loop.example/g03016/impl.face").run Try.prog w = .ok (139, .agg #[.pointer (some ⟨b, o, none⟩)]) w)
    (h2 : ∀ (fuel : Nat) (w : World), (nilAhead (fuel + 1) T V "loop.example/g03016/impl.face").run Try.prog w = .ok (some false) w) : FaceAt w T V f := by
  subst hf
  exact ⟨_, _, Or.inr rfl, h1, h2, fun W hW => coverFace_c b o k W ((hW.cell (p := ⟨b, o, none⟩) (World.block_lt_of_cell? w _ h)).trans h)⟩
theorem iface_kind {b : Nat} {w : World} (j : Nat) (hj : j < 8) (h : w.cell? ⟨b, 0, none⟩ = some (.string ⟨(kindN j).toArray⟩)) : IfaceAt w (partV b j) (kfN j) := by
  rcases (show j = 0 ∨ j = 1 ∨ j = 2 ∨ j = 3 ∨ j = 4 ∨ j = 5 ∨ j = 6 ∨ j = 7 by omega) with rfl | rfl | rfl | rfl | rfl | rfl | rfl | rfl
  · exact ⟨_, _, rfl, faceAt_body h (by decide +kernel) (fk_0 b) (fn_0 b), ass_k0⟩
  · exact ⟨_, _, rfl, faceAt_body h (by decide +kernel) (fk_1 b) (fn_1 b), ass_k1⟩
  · exact ⟨_, _, rfl, faceAt_body h (by decide +kernel) (fk_2 b) (fn_2 b), ass_k2⟩
  · exact ⟨_, _, rfl, faceAt_body h (by decide +kernel) (fk_3 b) (fn_3 b), ass_k3⟩
  · exact ⟨_, _, rfl, faceAt_body h (by decide +kernel) (fk_4 b) (fn_4 b), ass_k4⟩
  · exact ⟨_, _, rfl, faceAt_body h (by decide +kernel) (fk_5 b) (fn_5 b), ass_k5⟩
  · exact ⟨_, _, rfl, faceAt_body h (by decide +kernel) (fk_6 b) (fn_6 b), ass_k6⟩
  · exact ⟨_, _, rfl, faceAt_body h (by decide +kernel) (fk_7 b) (fn_7 b), ass_k7⟩
/-- what wrapping hands out, by adapter -/
def wrapV (b o : Nat) (v : Value) : Nat → Value
  | 0 => .iface 180 (.agg #[.pointer (some ⟨b, o, none⟩)])
  | 1 => .iface 162 (.agg #[.pointer (some ⟨b, o, none⟩), v])
  | 2 => .iface 166 (.agg #[.pointer (some ⟨b, o, none⟩), v])
  | 3 => .iface 167 (.agg #[.pointer (some ⟨b, o, none⟩), v])
  | 4 => .iface 171 (.agg #[.pointer (some ⟨b, o, none⟩), v])
  | 5 => .iface 172 (.agg #[.pointer (some ⟨b, o, none⟩), v])
  | 6 => .iface 173 (.agg #[.pointer (some ⟨b, o, none⟩), v])
  | 7 => .iface 174 (.agg #[.pointer (some ⟨b, o, none⟩), v])
  | _ => .iface 178 (.agg #[.pointer (some ⟨b, o, none⟩), v])
theorem iface_wrap {b o : Nat} {w : World} {T : TypeId} {V : Value} (i : Nat) (hi : i < 9) (h : w.cell? ⟨b, o, none⟩ = some (.string ⟨(layN i).toArray⟩)) : IfaceAt w (wrapV b o (.iface T V) i) (giveN i) := by
  rcases (show i = 0 ∨ i = 1 ∨ i = 2 ∨ i = 3 ∨ i = 4 ∨ i = 5 ∨ i = 6 ∨ i = 7 ∨ i = 8 by omega) with rfl | rfl | rfl | rfl | rfl | rfl | rfl | rfl | rfl
  · exact ⟨_, _, rfl, faceAt_cover h (by decide +kernel) (fl_0 b o) (fm_0 b o), ass_l0⟩
  · exact ⟨_, _, rfl, faceAt_cover h (by decide +kernel) (fl_1 b o T V) (fm_1 b o T V), ass_l1⟩
  · exact ⟨_, _, rfl, faceAt_cover h (by decide +kernel) (fl_2 b o T V) (fm_2 b o T V), ass_l2⟩
  · exact ⟨_, _, rfl, faceAt_cover h (by decide +kernel) (fl_3 b o T V) (fm_3 b o T V), ass_l3⟩
  · exact ⟨_, _, rfl, faceAt_cover h (by decide +kernel) (fl_4 b o T V) (fm_4 b o T V), ass_l4⟩
  · exact ⟨_, _, rfl, faceAt_cover h (by decide +kernel) (fl_5 b o T V) (fm_5 b o T V), ass_l5⟩
  · exact ⟨_, _, rfl, faceAt_cover h (by decide +kernel) (fl_6 b o T V) (fm_6 b o T V), ass_l6⟩
  · exact ⟨_, _, rfl, faceAt_cover h (by decide +kernel) (fl_7 b o T V) (fm_7 b o T V), ass_l7⟩
  · exact ⟨_, _, rfl, faceAt_cover h (by decide +kernel) (fl_8 b o T V) (fm_8 b o T V), ass_l8⟩
end Go.Proofs.Ytlkpinlkbikokaa
/- assertAndWrap, by adapter: where the assertion is met, and where it is not. Written by gen/ch4if.py. -/
namespace Go.Proofs.Ytlkpinlkbikokaa
set_option linter.unusedVariables false
set_option linter.unusedSimpArgs false
open Go.RowKit

set_option maxRecDepth 100000 in
set_option maxHeartbeats 1600000 in
theorem aw_0 (b o : Nat) (T : TypeId) (V : Value) (w : World) (h : w.cell? ⟨b, o, none⟩ = some (.string ⟨(layN 0).toArray⟩)) :
    Calls Try.prog 89 #[.iface T V, .pointer (some ⟨b, o, none⟩)] w fun e w' => e = .returned (wrapV b o (.iface T V) 0) ∧ Below w.heap.size w w' := by
  have hl0 := World.block_lt_of_cell? w _ h
  simp only at hl0
  have hn0 : ¬ b = w.heap.size := by omega
  simp only [layN] at h
  unfold wrapV
  go_enter Try.func89, Try.ntmps89
  go_wp2_with fail
  try go_region
  all_goals (try go_wp2_with fail)
  all_goals
    go_ret
    refine ⟨rfl, ?_⟩
    repeat (first | with_reducible exact Below.refl _ _ | with_reducible refine Below.alloc ?_ (by simp; try omega) _ | with_reducible refine bel_dr ?_)
set_option maxRecDepth 100000 in
set_option maxHeartbeats 1600000 in
theorem aw_1 (b o : Nat) (T : TypeId) (V : Value) (w : World) (h : w.cell? ⟨b, o, none⟩ = some (.string ⟨(layN 1).toArray⟩)) (hta : Has 160 T) :
    Calls Try.prog 89 #[.iface T V, .pointer (some ⟨b, o, none⟩)] w fun e w' => e = .returned (wrapV b o (.iface T V) 1) ∧ Below w.heap.size w w' := by
  have hl0 := World.block_lt_of_cell? w _ h
  simp only at hl0
  have hn0 : ¬ b = w.heap.size := by omega
  simp only [layN] at h
  unfold wrapV
  unfold Has at hta
  go_enter Try.func89, Try.ntmps89
  go_wp2_with fail
  try go_region
  all_goals (try go_wp2_with fail)
  all_goals
    go_ret
    refine ⟨rfl, ?_⟩
    repeat (first | with_reducible exact Below.refl _ _ | with_reducible refine Below.alloc ?_ (by simp; try omega) _ | with_reducible refine bel_dr ?_)
set_option maxRecDepth 100000 in
set_option maxHeartbeats 1600000 in
theorem awp_1 (b o : Nat) (T : TypeId) (V : Value) (w : World) (h : w.cell? ⟨b, o, none⟩ = some (.string ⟨(layN 1).toArray⟩)) (hta : Fails 160 T) :
    Calls Try.prog 89 #[.iface T V, .pointer (some ⟨b, o, none⟩)] w fun e w' => Panics w e w' := by
  have hl0 := World.block_lt_of_cell? w _ h
  simp only at hl0
  have hn0 : ¬ b = w.heap.size := by omega
  simp only [layN] at h
  obtain ⟨c, E, hta⟩ := hta
  go_enter Try.func89, Try.ntmps89
  go_wp2_with fail
  refine wp_region_any (by kernel_rfl) ?_
  change wpAny _ _ _ _ _ _ _ (World.drew _)
  refine wpAny_take (i := 1) (v := ?_) rfl (by kernel_rfl) (by kernel_rfl) (by kernel_rfl) (fun _ _ _ h => h) (Or.inl ⟨by rfl, ?_⟩) ?_
  rotate_left
  · intro w; go_simp; try (with_reducible rfl)
  refine wpAny_ready (rs := [0, 2]) (by kernel_rfl) (by simp) ?_
  refine AllReady.cons rfl (fun K hK => ?_) ?_
  · go_simp
    refine hK _ _ ?_
    clear hK K
    refine wpAny_ready (rs := [2]) (by kernel_rfl) (by simp) ?_
    refine AllReady.cons rfl (fun K hK => ?_) ?_
    · go_simp
      exact ⟨rfl, _, rfl, by repeat (first | with_reducible exact Below.refl _ _ | with_reducible refine Below.alloc ?_ (by simp; try omega) _ | with_reducible refine Below.drew ?_ | with_reducible refine below_drewN ?_ _)⟩
    exact AllReady.nil
  refine AllReady.cons rfl (fun K hK => ?_) ?_
  · go_simp
    exact ⟨rfl, _, rfl, by repeat (first | with_reducible exact Below.refl _ _ | with_reducible refine Below.alloc ?_ (by simp; try omega) _ | with_reducible refine Below.drew ?_ | with_reducible refine below_drewN ?_ _)⟩
  exact AllReady.nil
set_option maxRecDepth 100000 in
set_option maxHeartbeats 1600000 in
theorem aw_2 (b o : Nat) (T : TypeId) (V : Value) (w : World) (h : w.cell? ⟨b, o, none⟩ = some (.string ⟨(layN 2).toArray⟩)) (hta : Has 164 T) :
    Calls Try.prog 89 #[.iface T V, .pointer (some ⟨b, o, none⟩)] w fun e w' => e = .returned (wrapV b o (.iface T V) 2) ∧ Below w.heap.size w w' := by
  have hl0 := World.block_lt_of_cell? w _ h
  simp only at hl0
  have hn0 : ¬ b = w.heap.size := by omega
  simp only [layN] at h
  unfold wrapV
  unfold Has at hta
  go_enter Try.func89, Try.ntmps89
  go_wp2_with fail
  try go_region
  all_goals (try go_wp2_with fail)
  all_goals
    go_ret
    refine ⟨rfl, ?_⟩
    repeat (first | with_reducible exact Below.refl _ _ | with_reducible refine Below.alloc ?_ (by simp; try omega) _ | with_reducible refine bel_dr ?_)
set_option maxRecDepth 100000 in
set_option maxHeartbeats 1600000 in
theorem awp_2 (b o : Nat) (T : TypeId) (V : Value) (w : World) (h : w.cell? ⟨b, o, none⟩ = some (.string ⟨(layN 2).toArray⟩)) (hta : Fails 164 T) :
    Calls Try.prog 89 #[.iface T V, .pointer (some ⟨b, o, none⟩)] w fun e w' => Panics w e w' := by
  have hl0 := World.block_lt_of_cell? w _ h
  simp only at hl0
  have hn0 : ¬ b = w.heap.size := by omega
  simp only [layN] at h
  obtain ⟨c, E, hta⟩ := hta
  go_enter Try.func89, Try.ntmps89
  go_wp2_with fail
  refine wp_region_any (by kernel_rfl) ?_
  change wpAny _ _ _ _ _ _ _ (World.drew _)
  refine wpAny_take (i := 1) (v := ?_) rfl (by kernel_rfl) (by kernel_rfl) (by kernel_rfl) (fun _ _ _ h => h) (Or.inl ⟨by rfl, ?_⟩) ?_
  rotate_left
  · intro w; go_simp; try (with_reducible rfl)
  refine wpAny_ready (rs := [0, 2]) (by kernel_rfl) (by simp) ?_
  refine AllReady.cons rfl (fun K hK => ?_) ?_
  · go_simp
    refine hK _ _ ?_
    clear hK K
    refine wpAny_ready (rs := [2]) (by kernel_rfl) (by simp) ?_
    refine AllReady.cons rfl (fun K hK => ?_) ?_
    · go_simp
      exact ⟨rfl, _, rfl, by repeat (first | with_reducible exact Below.refl _ _ | with_reducible refine Below.alloc ?_ (by simp; try omega) _ | with_reducible refine Below.drew ?_ | with_reducible refine below_drewN ?_ _)⟩
    exact AllReady.nil
  refine AllReady.cons rfl (fun K hK => ?_) ?_
  · go_simp
    exact ⟨rfl, _, rfl, by repeat (first | with_reducible exact Below.refl _ _ | with_reducible refine Below.alloc ?_ (by simp; try omega) _ | with_reducible refine Below.drew ?_ | with_reducible refine below_drewN ?_ _)⟩
  exact AllReady.nil
set_option maxRecDepth 100000 in
set_option maxHeartbeats 1600000 in
theorem aw_3 (b o : Nat) (T : TypeId) (V : Value) (w : World) (h : w.cell? ⟨b, o, none⟩ = some (.string ⟨(layN 3).toArray⟩)) (hta : Has 164 T) :
    Calls Try.prog 89 #[.iface T V, .pointer (some ⟨b, o, none⟩)] w fun e w' => e = .returned (wrapV b o (.iface T V) 3) ∧ Below w.heap.size w w' := by
  have hl0 := World.block_lt_of_cell? w _ h
  simp only at hl0
  have hn0 : ¬ b = w.heap.size := by omega
  simp only [layN] at h
  unfold wrapV
  unfold Has at hta
  go_enter Try.func89, Try.ntmps89
  go_wp2_with fail
  try go_region
  all_goals (try go_wp2_with fail)
  all_goals
    go_ret
    refine ⟨rfl, ?_⟩
    repeat (first | with_reducible exact Below.refl _ _ | with_reducible refine Below.alloc ?_ (by simp; try omega) _ | with_reducible refine bel_dr ?_)
set_option maxRecDepth 100000 in
set_option maxHeartbeats 1600000 in
theorem awp_3 (b o : Nat) (T : TypeId) (V : Value) (w : World) (h : w.cell? ⟨b, o, none⟩ = some (.string ⟨(layN 3).toArray⟩)) (hta : Fails 164 T) :
    Calls Try.prog 89 #[.iface T V, .pointer (some ⟨b, o, none⟩)] w fun e w' => Panics w e w' := by
  have hl0 := World.block_lt_of_cell? w _ h
  simp only at hl0
  have hn0 : ¬ b = w.heap.size := by omega
  simp only [layN] at h
  obtain ⟨c, E, hta⟩ := hta
  go_enter Try.func89, Try.ntmps89
  go_wp2_with fail
  refine wp_region_any (by kernel_rfl) ?_
  change wpAny _ _ _ _ _ _ _ (World.drew _)
  refine wpAny_take (i := 1) (v := ?_) rfl (by kernel_rfl) (by kernel_rfl) (by kernel_rfl) (fun _ _ _ h => h) (Or.inl ⟨by rfl, ?_⟩) ?_
  rotate_left
  · intro w; go_simp; try (with_reducible rfl)
  refine wpAny_ready (rs := [0, 2]) (by kernel_rfl) (by simp) ?_
  refine AllReady.cons rfl (fun K hK => ?_) ?_
  · go_simp
    refine hK _ _ ?_
    clear hK K
    refine wpAny_ready (rs := [2]) (by kernel_rfl) (by simp) ?_
    refine AllReady.cons rfl (fun K hK => ?_) ?_
    · go_simp
      exact ⟨rfl, _, rfl, by repeat (first | with_reducible exact Below.refl _ _ | with_reducible refine Below.alloc ?_ (by simp; try omega) _ | with_reducible refine Below.drew ?_ | with_reducible refine below_drewN ?_ _)⟩
    exact AllReady.nil
  refine AllReady.cons rfl (fun K hK => ?_) ?_
  · go_simp
    exact ⟨rfl, _, rfl, by repeat (first | with_reducible exact Below.refl _ _ | with_reducible refine Below.alloc ?_ (by simp; try omega) _ | with_reducible refine Below.drew ?_ | with_reducible refine below_drewN ?_ _)⟩
  exact AllReady.nil
set_option maxRecDepth 100000 in
set_option maxHeartbeats 1600000 in
theorem aw_4 (b o : Nat) (T : TypeId) (V : Value) (w : World) (h : w.cell? ⟨b, o, none⟩ = some (.string ⟨(layN 4).toArray⟩)) (hta : Has 169 T) :
    Calls Try.prog 89 #[.iface T V, .pointer (some ⟨b, o, none⟩)] w fun e w' => e = .returned (wrapV b o (.iface T V) 4) ∧ Below w.heap.size w w' := by
  have hl0 := World.block_lt_of_cell? w _ h
  simp only at hl0
  have hn0 : ¬ b = w.heap.size := by omega
  simp only [layN] at h
  unfold wrapV
  unfold Has at hta
  go_enter Try.func89, Try.ntmps89
  go_wp2_with fail
  try go_region
  all_goals (try go_wp2_with fail)
  all_goals
    go_ret
    refine ⟨rfl, ?_⟩
    repeat (first | with_reducible exact Below.refl _ _ | with_reducible refine Below.alloc ?_ (by simp; try omega) _ | with_reducible refine bel_dr ?_)
set_option maxRecDepth 100000 in
set_option maxHeartbeats 1600000 in
theorem awp_4 (b o : Nat) (T : TypeId) (V : Value) (w : World) (h : w.cell? ⟨b, o, none⟩ = some (.string ⟨(layN 4).toArray⟩)) (hta : Fails 169 T) :
    Calls Try.prog 89 #[.iface T V, .pointer (some ⟨b, o, none⟩)] w fun e w' => Panics w e w' := by
  have hl0 := World.block_lt_of_cell? w _ h
  simp only at hl0
  have hn0 : ¬ b = w.heap.size := by omega
  simp only [layN] at h
  obtain ⟨c, E, hta⟩ := hta
  go_enter Try.func89, Try.ntmps89
  go_wp2_with fail
  refine wp_region_any (by kernel_rfl) ?_
  change wpAny _ _ _ _ _ _ _ (World.drew _)
  refine wpAny_take (i := 1) (v := ?_) rfl (by kernel_rfl) (by kernel_rfl) (by kernel_rfl) (fun _ _ _ h => h) (Or.inl ⟨by rfl, ?_⟩) ?_
  rotate_left
  · intro w; go_simp; try (with_reducible rfl)
  refine wpAny_ready (rs := [0, 2]) (by kernel_rfl) (by simp) ?_
  refine AllReady.cons rfl (fun K hK => ?_) ?_
  · go_simp
    refine hK _ _ ?_
    clear hK K
    refine wpAny_ready (rs := [2]) (by kernel_rfl) (by simp) ?_
    refine AllReady.cons rfl (fun K hK => ?_) ?_
    · go_simp
      exact ⟨rfl, _, rfl, by repeat (first | with_reducible exact Below.refl _ _ | with_reducible refine Below.alloc ?_ (by simp; try omega) _ | with_reducible refine Below.drew ?_ | with_reducible refine below_drewN ?_ _)⟩
    exact AllReady.nil
  refine AllReady.cons rfl (fun K hK => ?_) ?_
  · go_simp
    exact ⟨rfl, _, rfl, by repeat (first | with_reducible exact Below.refl _ _ | with_reducible refine Below.alloc ?_ (by simp; try omega) _ | with_reducible refine Below.drew ?_ | with_reducible refine below_drewN ?_ _)⟩
  exact AllReady.nil
set_option maxRecDepth 100000 in
set_option maxHeartbeats 1600000 in
theorem aw_5 (b o : Nat) (T : TypeId) (V : Value) (w : World) (h : w.cell? ⟨b, o, none⟩ = some (.string ⟨(layN 5).toArray⟩)) (hta : Has 164 T) :
    Calls Try.prog 89 #[.iface T V, .pointer (some ⟨b, o, none⟩)] w fun e w' => e = .returned (wrapV b o (.iface T V) 5) ∧ Below w.heap.size w w' := by
  have hl0 := World.block_lt_of_cell? w _ h
  simp only at hl0
  have hn0 : ¬ b = w.heap.size := by omega
  simp only [layN] at h
  unfold wrapV
  unfold Has at hta
  go_enter Try.func89, Try.ntmps89
  go_wp2_with fail
  try go_region
  all_goals (try go_wp2_with fail)
  all_goals
    go_ret
    refine ⟨rfl, ?_⟩
    repeat (first | with_reducible exact Below.refl _ _ | with_reducible refine Below.alloc ?_ (by simp; try omega) _ | with_reducible refine bel_dr ?_)
set_option maxRecDepth 100000 in
set_option maxHeartbeats 1600000 in
theorem awp_5 (b o : Nat) (T : TypeId) (V : Value) (w : World) (h : w.cell? ⟨b, o, none⟩ = some (.string ⟨(layN 5).toArray⟩)) (hta : Fails 164 T) :
    Calls Try.prog 89 #[.iface T V, .pointer (some ⟨b, o, none⟩)] w fun e w' => Panics w e w' := by
  have hl0 := World.block_lt_of_cell? w _ h
  simp only at hl0
  have hn0 : ¬ b = w.heap.size := by omega
  simp only [layN] at h
  obtain ⟨c, E, hta⟩ := hta
  go_enter Try.func89, Try.ntmps89
  go_wp2_with fail
  refine wp_region_any (by kernel_rfl) ?_
  change wpAny _ _ _ _ _ _ _ (World.drew _)
  refine wpAny_take (i := 1) (v := ?_) rfl (by kernel_rfl) (by kernel_rfl) (by kernel_rfl) (fun _ _ _ h => h) (Or.inl ⟨by rfl, ?_⟩) ?_
  rotate_left
  · intro w; go_simp; try (with_reducible rfl)
  refine wpAny_ready (rs := [0, 2]) (by kernel_rfl) (by simp) ?_
  refine AllReady.cons rfl (fun K hK => ?_) ?_
  · go_simp
    refine hK _ _ ?_
    clear hK K
    refine wpAny_ready (rs := [2]) (by kernel_rfl) (by simp) ?_
    refine AllReady.cons rfl (fun K hK => ?_) ?_
    · go_simp
      exact ⟨rfl, _, rfl, by repeat (first | with_reducible exact Below.refl _ _ | with_reducible refine Below.alloc ?_ (by simp; try omega) _ | with_reducible refine Below.drew ?_ | with_reducible refine below_drewN ?_ _)⟩
    exact AllReady.nil
  refine AllReady.cons rfl (fun K hK => ?_) ?_
  · go_simp
    exact ⟨rfl, _, rfl, by repeat (first | with_reducible exact Below.refl _ _ | with_reducible refine Below.alloc ?_ (by simp; try omega) _ | with_reducible refine Below.drew ?_ | with_reducible refine below_drewN ?_ _)⟩
  exact AllReady.nil
set_option maxRecDepth 100000 in
set_option maxHeartbeats 1600000 in
theorem aw_6 (b o : Nat) (T : TypeId) (V : Value) (w : World) (h : w.cell? ⟨b, o, none⟩ = some (.string ⟨(layN 6).toArray⟩)) (hta : Has 160 T) :
    Calls Try.prog 89 #[.iface T V, .pointer (some ⟨b, o, none⟩)] w fun e w' => e = .returned (wrapV b o (.iface T V) 6) ∧ Below w.heap.size w w' := by
  have hl0 := World.block_lt_of_cell? w _ h
  simp only at hl0
  have hn0 : ¬ b = w.heap.size := by omega
  simp only [layN] at h
  unfold wrapV
  unfold Has at hta
  go_enter Try.func89, Try.ntmps89
  go_wp2_with fail
  try go_region
  all_goals (try go_wp2_with fail)
  all_goals
    go_ret
    refine ⟨rfl, ?_⟩
    repeat (first | with_reducible exact Below.refl _ _ | with_reducible refine Below.alloc ?_ (by simp; try omega) _ | with_reducible refine bel_dr ?_)
set_option maxRecDepth 100000 in
set_option maxHeartbeats 1600000 in
theorem awp_6 (b o : Nat) (T : TypeId) (V : Value) (w : World) (h : w.cell? ⟨b, o, none⟩ = some (.string ⟨(layN 6).toArray⟩)) (hta : Fails 160 T) :
    Calls Try.prog 89 #[.iface T V, .pointer (some ⟨b, o, none⟩)] w fun e w' => Panics w e w' := by
  have hl0 := World.block_lt_of_cell? w _ h
  simp only at hl0
  have hn0 : ¬ b = w.heap.size := by omega
  simp only [layN] at h
  obtain ⟨c, E, hta⟩ := hta
  go_enter Try.func89, Try.ntmps89
  go_wp2_with fail
  refine wp_region_any (by kernel_rfl) ?_
  change wpAny _ _ _ _ _ _ _ (World.drew _)
  refine wpAny_take (i := 1) (v := ?_) rfl (by kernel_rfl) (by kernel_rfl) (by kernel_rfl) (fun _ _ _ h => h) (Or.inl ⟨by rfl, ?_⟩) ?_
  rotate_left
  · intro w; go_simp; try (with_reducible rfl)
  refine wpAny_ready (rs := [0, 2]) (by kernel_rfl) (by simp) ?_
  refine AllReady.cons rfl (fun K hK => ?_) ?_
  · go_simp
    refine hK _ _ ?_
    clear hK K
    refine wpAny_ready (rs := [2]) (by kernel_rfl) (by simp) ?_
    refine AllReady.cons rfl (fun K hK => ?_) ?_
    · go_simp
      exact ⟨rfl, _, rfl, by repeat (first | with_reducible exact Below.refl _ _ | with_reducible refine Below.alloc ?_ (by simp; try omega) _ | with_reducible refine Below.drew ?_ | with_reducible refine below_drewN ?_ _)⟩
    exact AllReady.nil
  refine AllReady.cons rfl (fun K hK => ?_) ?_
  · go_simp
    exact ⟨rfl, _, rfl, by repeat (first | with_reducible exact Below.refl _ _ | with_reducible refine Below.alloc ?_ (by simp; try omega) _ | with_reducible refine Below.drew ?_ | with_reducible refine below_drewN ?_ _)⟩
  exact AllReady.nil
set_option maxRecDepth 100000 in
set_option maxHeartbeats 1600000 in
theorem aw_7 (b o : Nat) (T : TypeId) (V : Value) (w : World) (h : w.cell? ⟨b, o, none⟩ = some (.string ⟨(layN 7).toArray⟩)) (hta : Has 160 T) :
    Calls Try.prog 89 #[.iface T V, .pointer (some ⟨b, o, none⟩)] w fun e w' => e = .returned (wrapV b o (.iface T V) 7) ∧ Below w.heap.size w w' := by
  have hl0 := World.block_lt_of_cell? w _ h
  simp only at hl0
  have hn0 : ¬ b = w.heap.size := by omega
  simp only [layN] at h
  unfold wrapV
  unfold Has at hta
  go_enter Try.func89, Try.ntmps89
  go_wp2_with fail
  try go_region
  all_goals (try go_wp2_with fail)
  all_goals
    go_ret
    refine ⟨rfl, ?_⟩
    repeat (first | with_reducible exact Below.refl _ _ | with_reducible refine Below.alloc ?_ (by simp; try omega) _ | with_reducible refine bel_dr ?_)
set_option maxRecDepth 100000 in
set_option maxHeartbeats 1600000 in
theorem awp_7 (b o : Nat) (T : TypeId) (V : Value) (w : World) (h : w.cell? ⟨b, o, none⟩ = some (.string ⟨(layN 7).toArray⟩)) (hta : Fails 160 T) :
    Calls Try.prog 89 #[.iface T V, .pointer (some ⟨b, o, none⟩)] w fun e w' => Panics w e w' := by
  have hl0 := World.block_lt_of_cell? w _ h
  simp only at hl0
  have hn0 : ¬ b = w.heap.size := by omega
  simp only [layN] at h
  obtain ⟨c, E, hta⟩ := hta
  go_enter Try.func89, Try.ntmps89
  go_wp2_with fail
  refine wp_region_any (by kernel_rfl) ?_
  change wpAny _ _ _ _ _ _ _ (World.drew _)
  refine wpAny_take (i := 1) (v := ?_) rfl (by kernel_rfl) (by kernel_rfl) (by kernel_rfl) (fun _ _ _ h => h) (Or.inl ⟨by rfl, ?_⟩) ?_
  rotate_left
  · intro w; go_simp; try (with_reducible rfl)
  refine wpAny_ready (rs := [0, 2]) (by kernel_rfl) (by simp) ?_
  refine AllReady.cons rfl (fun K hK => ?_) ?_
  · go_simp
    refine hK _ _ ?_
    clear hK K
    refine wpAny_ready (rs := [2]) (by kernel_rfl) (by simp) ?_
    refine AllReady.cons rfl (fun K hK => ?_) ?_
    · go_simp
      exact ⟨rfl, _, rfl, by repeat (first | with_reducible exact Below.refl _ _ | with_reducible refine Below.alloc ?_ (by simp; try omega) _ | with_reducible refine Below.drew ?_ | with_reducible refine below_drewN ?_ _)⟩
    exact AllReady.nil
  refine AllReady.cons rfl (fun K hK => ?_) ?_
  · go_simp
    exact ⟨rfl, _, rfl, by repeat (first | with_reducible exact Below.refl _ _ | with_reducible refine Below.alloc ?_ (by simp; try omega) _ | with_reducible refine Below.drew ?_ | with_reducible refine below_drewN ?_ _)⟩
  exact AllReady.nil
set_option maxRecDepth 100000 in
set_option maxHeartbeats 1600000 in
theorem aw_8 (b o : Nat) (T : TypeId) (V : Value) (w : World) (h : w.cell? ⟨b, o, none⟩ = some (.string ⟨(layN 8).toArray⟩)) (hta : Has 176 T) :
    Calls Try.prog 89 #[.iface T V, .pointer (some ⟨b, o, none⟩)] w fun e w' => e = .returned (wrapV b o (.iface T V) 8) ∧ Below w.heap.size w w' := by
  have hl0 := World.block_lt_of_cell? w _ h
  simp only at hl0
  have hn0 : ¬ b = w.heap.size := by omega
  simp only [layN] at h
  unfold wrapV
  unfold Has at hta
  go_enter Try.func89, Try.ntmps89
  go_wp2_with fail
  try go_region
  all_goals (try go_wp2_with fail)
  all_goals
    go_ret
    refine ⟨rfl, ?_⟩
    repeat (first | with_reducible exact Below.refl _ _ | with_reducible refine Below.alloc ?_ (by simp; try omega) _ | with_reducible refine bel_dr ?_)
set_option maxRecDepth 100000 in
set_option maxHeartbeats 1600000 in
theorem awp_8 (b o : Nat) (T : TypeId) (V : Value) (w : World) (h : w.cell? ⟨b, o, none⟩ = some (.string ⟨(layN 8).toArray⟩)) (hta : Fails 176 T) :
    Calls Try.prog 89 #[.iface T V, .pointer (some ⟨b, o, none⟩)] w fun e w' => Panics w e w' := by
  have hl0 := World.block_lt_of_cell? w _ h
  simp only at hl0
  have hn0 : ¬ b = w.heap.size := by omega
  simp only [layN] at h
  obtain ⟨c, E, hta⟩ := hta
  go_enter Try.func89, Try.ntmps89
  go_wp2_with fail
  refine wp_region_any (by kernel_rfl) ?_
  change wpAny _ _ _ _ _ _ _ (World.drew _)
  refine wpAny_take (i := 1) (v := ?_) rfl (by kernel_rfl) (by kernel_rfl) (by kernel_rfl) (fun _ _ _ h => h) (Or.inl ⟨by rfl, ?_⟩) ?_
  rotate_left
  · intro w; go_simp; try (with_reducible rfl)
  refine wpAny_ready (rs := [0, 2]) (by kernel_rfl) (by simp) ?_
  refine AllReady.cons rfl (fun K hK => ?_) ?_
  · go_simp
    refine hK _ _ ?_
    clear hK K
    refine wpAny_ready (rs := [2]) (by kernel_rfl) (by simp) ?_
    refine AllReady.cons rfl (fun K hK => ?_) ?_
    · go_simp
      exact ⟨rfl, _, rfl, by repeat (first | with_reducible exact Below.refl _ _ | with_reducible refine Below.alloc ?_ (by simp; try omega) _ | with_reducible refine Below.drew ?_ | with_reducible refine below_drewN ?_ _)⟩
    exact AllReady.nil
  refine AllReady.cons rfl (fun K hK => ?_) ?_
  · go_simp
    exact ⟨rfl, _, rfl, by repeat (first | with_reducible exact Below.refl _ _ | with_reducible refine Below.alloc ?_ (by simp; try omega) _ | with_reducible refine Below.drew ?_ | with_reducible refine below_drewN ?_ _)⟩
  exact AllReady.nil
end Go.Proofs.Ytlkpinlkbikokaa
/- Reply: what the laws' own helpers do with it. Written by gen/flat.py. -/
namespace Go.Proofs.Ytlkpinlkbikokaa
set_option linter.unusedVariables false
open Go.RowKit
structure ReplyD where
  fCode : Int
  fValue : Int
  fText : List UInt8
  fWant : Int
  fHad : Int
deriving DecidableEq
def okReply (d : ReplyD) : Prop := (-9223372036854775808 ≤ d.fCode ∧ d.fCode ≤ 9223372036854775807) ∧ (-9223372036854775808 ≤ d.fValue ∧ d.fValue ≤ 9223372036854775807) ∧ (d.fText.length ≤ maxLen) ∧ (-9223372036854775808 ≤ d.fWant ∧ d.fWant ≤ 9223372036854775807) ∧ (-9223372036854775808 ≤ d.fHad ∧ d.fHad ≤ 9223372036854775807)
def vReply (d : ReplyD) : Value := .agg #[.int .i64 d.fCode, .int .i64 d.fValue, .string ⟨d.fText.toArray⟩, .int .i64 d.fWant, .int .i64 d.fHad]
def cReply (d : ReplyD) : List Value := [.int .i64 d.fCode, .int .i64 d.fValue, .string ⟨d.fText.toArray⟩, .int .i64 d.fWant, .int .i64 d.fHad]
theorem cReply_len (d : ReplyD) : (cReply d).length = 5 := rfl
theorem cReply_one (d : ReplyD) : ∀ u ∈ cReply d, u.oneCell' = true := by intro u hu; simp only [cReply, List.mem_cons, List.not_mem_nil, or_false] at hu; rcases hu with rfl | rfl | rfl | rfl | rfl <;> rfl
set_option maxHeartbeats 800000 in
theorem eqReply_any (x y : ReplyD) (w : World) :
    Calls Try.prog 13 #[vReply x, vReply y] w fun e w' => e = .returned (.bool (decide (x = y))) ∧ Below w.heap.size w w' := by
  obtain ⟨a0, a1, a2, a3, a4⟩ := x
  obtain ⟨b0, b1, b2, b3, b4⟩ := y
  unfold vReply
  by_cases h0 : a0 = b0
  · by_cases h1 : a1 = b1
    · by_cases h2 : a2 = b2
      · by_cases h3 : a3 = b3
        · by_cases h4 : a4 = b4
          · have HN := Lib.hid (show decide ((⟨a0, a1, a2, a3, a4⟩ : ReplyD) = (⟨b0, b1, b2, b3, b4⟩ : ReplyD)) = true by rw [h0, h1, h2, h3, h4]; simp)
            subst h0 h1 h2 h3 h4
            go_enter Try.func13, Try.ntmps13
            go_wp2
            go_ret
            exact ⟨ret_bool HN.out.symm, ((Below.refl _ _).alloc (Nat.le_refl _) _).alloc (by simp) _⟩
          · have HN := Lib.hid (show decide ((⟨a0, a1, a2, a3, a4⟩ : ReplyD) = (⟨b0, b1, b2, b3, b4⟩ : ReplyD)) = false by rw [decide_eq_false_iff_not]; exact fun e => h4 (by injection e))
            have hne4 : (a4 == b4) = false := by simpa using h4
            have hnf4 : (a4 != b4) = true := by simpa using h4
            subst h0 h1 h2 h3
            clear h4
            go_enter Try.func13, Try.ntmps13
            go_wp2
            go_ret
            exact ⟨ret_bool HN.out.symm, ((Below.refl _ _).alloc (Nat.le_refl _) _).alloc (by simp) _⟩
        · have HN := Lib.hid (show decide ((⟨a0, a1, a2, a3, a4⟩ : ReplyD) = (⟨b0, b1, b2, b3, b4⟩ : ReplyD)) = false by rw [decide_eq_false_iff_not]; exact fun e => h3 (by injection e))
          have hne3 : (a3 == b3) = false := by simpa using h3
          have hnf3 : (a3 != b3) = true := by simpa using h3
          subst h0 h1 h2
          clear h3
          go_enter Try.func13, Try.ntmps13
          go_wp2
          go_ret
          exact ⟨ret_bool HN.out.symm, ((Below.refl _ _).alloc (Nat.le_refl _) _).alloc (by simp) _⟩
      · have HN := Lib.hid (show decide ((⟨a0, a1, a2, a3, a4⟩ : ReplyD) = (⟨b0, b1, b2, b3, b4⟩ : ReplyD)) = false by rw [decide_eq_false_iff_not]; exact fun e => h2 (by injection e))
        have hne2 : (a2 == b2) = false := by simpa using h2
        have hnf2 : (a2 != b2) = true := by simpa using h2
        subst h0 h1
        clear h2
        go_enter Try.func13, Try.ntmps13
        go_wp2
        go_ret
        exact ⟨ret_bool HN.out.symm, ((Below.refl _ _).alloc (Nat.le_refl _) _).alloc (by simp) _⟩
    · have HN := Lib.hid (show decide ((⟨a0, a1, a2, a3, a4⟩ : ReplyD) = (⟨b0, b1, b2, b3, b4⟩ : ReplyD)) = false by rw [decide_eq_false_iff_not]; exact fun e => h1 (by injection e))
      have hne1 : (a1 == b1) = false := by simpa using h1
      have hnf1 : (a1 != b1) = true := by simpa using h1
      subst h0
      clear h1
      go_enter Try.func13, Try.ntmps13
      go_wp2
      go_ret
      exact ⟨ret_bool HN.out.symm, ((Below.refl _ _).alloc (Nat.le_refl _) _).alloc (by simp) _⟩
  · have HN := Lib.hid (show decide ((⟨a0, a1, a2, a3, a4⟩ : ReplyD) = (⟨b0, b1, b2, b3, b4⟩ : ReplyD)) = false by rw [decide_eq_false_iff_not]; exact fun e => h0 (by injection e))
    have hne0 : (a0 == b0) = false := by simpa using h0
    have hnf0 : (a0 != b0) = true := by simpa using h0
    clear h0
    go_enter Try.func13, Try.ntmps13
    go_wp2
    go_ret
    exact ⟨ret_bool HN.out.symm, ((Below.refl _ _).alloc (Nat.le_refl _) _).alloc (by simp) _⟩
def zReply (d : ReplyD) : Nat := d.fText.length
theorem infoReply : (Try.prog.info? 36).map (fun i => (i.zero, i.size, i.bytes)) = some (some (.agg #[.int .i64 0, .int .i64 0, .string ⟨#[]⟩, .int .i64 0, .int .i64 0]), 5, 48) := by kernel_rfl
def marksReply (k : Int) (n : Nat) : List ReplyD := (List.range n).map fun i : Nat => ⟨k + i * 5, k + i * 5 + 1, markL (k + i * 5 + 1 + 1), k + i * 5 + 1 + 1 + 1, k + i * 5 + 1 + 1 + 1 + 1⟩
theorem marksReply_len (k : Int) (n : Nat) : (marksReply k n).length = n := by simp [marksReply]
theorem marksReply_get (k : Int) (n i : Nat) (h : i < n) : (marksReply k n)[i]'(by rw [marksReply_len]; exact h) = ⟨k + i * 5, k + i * 5 + 1, markL (k + i * 5 + 1 + 1), k + i * 5 + 1 + 1 + 1, k + i * 5 + 1 + 1 + 1 + 1⟩ := by simp [marksReply]
end Go.Proofs.Ytlkpinlkbikokaa
/- wrapIn: its deferred function literal, and itself. -/
namespace Go.Proofs.Ytlkpinlkbikokaa
set_option linter.unusedVariables false
set_option linter.unusedSimpArgs false
open Go.RowKit
/-- the literal's boxes: the layer at nl, what is inside at ni, what is outside at no, the reply at nr -/
structure BoxW (nl ni no nr b o : Nat) (k : List UInt8) (v : Value) (w : World) : Prop where
  l0 : w.cell? ⟨nl, 0, none⟩ = some (.pointer (some ⟨b, o, none⟩))
  n0 : w.cell? ⟨b, o, none⟩ = some (.string ⟨k.toArray⟩)
  i0 : w.cell? ⟨ni, 0, none⟩ = some v
  o0 : (w.cell? ⟨no, 0, none⟩).isSome = true
  oz : w.frozen? ⟨no, 0, none⟩ = false
  r : ∀ o, o < 5 → (w.cell? ⟨nr, o, none⟩).isSome = true
  z : ∀ o, o < 5 → w.frozen? ⟨nr, o, none⟩ = false
theorem some_lt {w : World} {n o : Nat} (h : (w.cell? ⟨n, o, none⟩).isSome = true) : n < w.heap.size := by
  obtain ⟨v, hv⟩ := Option.isSome_iff_exists.1 h
  exact World.block_lt_of_cell? w _ hv
theorem BoxW.below {nl ni no nr b o : Nat} {k : List UInt8} {v : Value} {w w' : World} (h : BoxW nl ni no nr b o k v w) (hb : Below w.heap.size w w') : BoxW nl ni no nr b o k v w' := by
  have hr := some_lt (h.r 0 (by decide))
  have ho := some_lt h.o0
  exact ⟨(hb.cell (p := ⟨nl, 0, none⟩) (World.block_lt_of_cell? w _ h.l0)).trans h.l0, (hb.cell (p := ⟨b, o, none⟩) (World.block_lt_of_cell? w _ h.n0)).trans h.n0, (hb.cell (p := ⟨ni, 0, none⟩) (World.block_lt_of_cell? w _ h.i0)).trans h.i0,
    by rw [hb.cell (p := ⟨no, 0, none⟩) ho]; exact h.o0, (hb.frozen (p := ⟨no, 0, none⟩) ho).trans h.oz, fun o ho => by rw [hb.cell (p := ⟨nr, o, none⟩) hr]; exact h.r o ho, fun o ho => (hb.frozen (p := ⟨nr, o, none⟩) hr).trans (h.z o ho)⟩
def putW (w : World) (no nr : Nat) (v : Value) (want had : Int) : World := (((((w.setCell ⟨no, 0, none⟩ v).setCell ⟨nr, 0, none⟩ (.int .i64 1)).setCell ⟨nr, 1, none⟩ (.int .i64 0)).setCell ⟨nr, 2, none⟩ (.string ⟨#[]⟩)).setCell ⟨nr, 3, none⟩ (.int .i64 want)).setCell ⟨nr, 4, none⟩ (.int .i64 had)
theorem catchW_idle (a1 a2 a3 a4 : Value) (w : World) :
    CallsD Try.prog 88 #[a1, a2, a3, a4] .returning w fun e u' w' => e = .returned (.tuple #[]) ∧ u' = .returning ∧ w' = w := by
  refine callsD_of_wpS Try.func88 rfl fun c₀ cs hu => ?_
  apply wpS_seq
  apply wpS_region
  simp [wpOpsS, go_sem, recoverD, hu, Try.ntmps88, Exit.thenS]
  refine wpS_cond (t := false) (by simp [Act.eval, Array.replicate]) ?_
  simp only [Bool.false_eq_true, if_false]
  refine wpS_of_wp (wp_skip ?_)
  cases c₀
  simp_all [bodyPostS, results, Try.results88]
set_option maxRecDepth 100000 in
set_option maxHeartbeats 1600000 in
theorem catchW (nl ni no nr b o : Nat) (k : List UInt8) (T : TypeId) (V : Value) (f : Int) (pv : Value) (w : World) (hf : FaceAt w T V f) (hb : BoxW nl ni no nr b o k (.iface T V) w) (hne : no ≠ nr) :
    CallsD Try.prog 88 #[.pointer (some ⟨nl, 0, none⟩), .pointer (some ⟨ni, 0, none⟩), .pointer (some ⟨no, 0, none⟩), .pointer (some ⟨nr, 0, none⟩)] (.panicking ({ v := .iface Try.prog.rt.typeAssertionError pv, recovered := false } :: [])) w fun e u' w' =>
      e = .returned (.tuple #[]) ∧ u' = .panicking ({ v := .iface Try.prog.rt.typeAssertionError pv, recovered := true } :: []) ∧ ∃ w1, Below w.heap.size w w1 ∧ w' = putW w1 no nr (.iface T V) (needI (layI k)) f := by
  have HX := Lib.hid hb
  have x0 := hb.l0
  have n0 := hb.n0
  have p0 := hb.i0
  have HW := Lib.hid (fun W => implLayerNeeds_any ⟨k.toArray⟩ W)
  simp only [List.toList_toArray, ndV] at HW
  obtain ⟨F, rcv, hF, hfm, hfn, HF0⟩ := hf
  have HF := Lib.hid HF0
  generalize needI (layI k) = want at *
  generalize decide (0 ≤ layI k) = q at *
  clear HF0 hb
  rcases hF with rfl | rfl
  all_goals
    refine callsD_of_wpS Try.func88 rfl fun c₀ cs hu => ?_
    apply wpS_seq
    apply wpS_region
    simp [wpOpsS, go_sem, recoverD, hu, Try.ntmps88, Exit.thenS]
    refine wpS_cond (t := true) (by simp [Act.eval, Array.replicate]) ?_
    simp only [if_true]
    refine wpS_of_wp ?_
    go_wp2_with (first | (go_at_call 44; (with_reducible refine (HW.out _).mono ?_); rintro e w' ⟨rfl, rfl⟩))
    go_region_with (first
      | ((with_reducible refine (HF.out _ (by repeat (first | with_reducible exact Below.refl _ _ | with_reducible refine bel_dr ?_))).mono ?_); rintro e w1 ⟨rfl, hb1⟩; have HB1 := Lib.hid (show Below w.heap.size w w1 from ⟨hb1.os, hb1.tape, hb1.output, hb1.size, hb1.block⟩); clear hb1; have KR := Lib.hid (HX.out.below HB1.out); have k0 := KR.out.i0; have yo := KR.out.oz; obtain ⟨eo, fo⟩ := Option.isSome_iff_exists.1 KR.out.o0; have y0 := KR.out.z 0 (by decide); have y1 := KR.out.z 1 (by decide); have y2 := KR.out.z 2 (by decide); have y3 := KR.out.z 3 (by decide); have y4 := KR.out.z 4 (by decide); obtain ⟨e0, f0⟩ := Option.isSome_iff_exists.1 (KR.out.r 0 (by decide)); obtain ⟨e1, f1⟩ := Option.isSome_iff_exists.1 (KR.out.r 1 (by decide)); obtain ⟨e2, f2⟩ := Option.isSome_iff_exists.1 (KR.out.r 2 (by decide)); obtain ⟨e3, f3⟩ := Option.isSome_iff_exists.1 (KR.out.r 3 (by decide)); obtain ⟨e4, f4⟩ := Option.isSome_iff_exists.1 (KR.out.r 4 (by decide))))
    all_goals
      refine ⟨rfl, _, rfl, .tuple #[], ?_, rfl, rfl, w1, HB1.out, rfl⟩
      simp [results, Try.results88, go_sem]
end Go.Proofs.Ytlkpinlkbikokaa
/- wrapIn: what it answers. -/
namespace Go.Proofs.Ytlkpinlkbikokaa
set_option linter.unusedVariables false
set_option linter.unusedSimpArgs false
open Go.RowKit
theorem bx_dr {w : World} {b : Nat} {cs : List Value} (h : Bx w b cs) : Bx w.drew b cs := ⟨h.lt, h.cell, h.froz⟩
/-- a region of a function with defers, which does not panic -/
def OnlyN (K : Act → World → Prop) : Exit → Act → World → Prop
  | .normal, a, w => K a w
  | _, _, _ => False
theorem wp_only {P : Program} {c : Code} {Q : Exit → Act → World → Prop} {a : Act} {w : World} (h : c.wp P (OnlyN (Q .normal)) a w) : c.wp P Q a w :=
  wp_mono h (fun e a w hh => by cases e <;> first | exact hh | exact hh.elim)
/-- what wrapIn answers: the wrapped part, or what came in -/
def WrapRes (b o i : Nat) (v : Value) (f : Int) (w : World) (e : Ending) (w' : World) : Prop :=
  Below w.heap.size w w' ∧ ((offersF f (needN i) = true ∧ e = .returned (.tuple #[wrapV b o v i, vReply ⟨0, giveN i, [], 0, 0⟩])) ∨ (offersF f (needN i) = false ∧ e = .returned (.tuple #[v, vReply ⟨1, 0, [], needN i, f⟩])))
set_option maxRecDepth 100000 in
set_option maxHeartbeats 1600000 in
theorem wrapIn_ok (b o i : Nat) (hi : i < 9) (T : TypeId) (V : Value) (f : Int) (w : World) (h : w.cell? ⟨b, o, none⟩ = some (.string ⟨(layN i).toArray⟩)) (ho : offersF f (needN i) = true)
    (hA : ∀ W, Below w.heap.size w W → Calls Try.prog 89 #[.iface T V, .pointer (some ⟨b, o, none⟩)] W fun e w' => e = .returned (wrapV b o (.iface T V) i) ∧ Below W.heap.size W w') :
    Calls Try.prog 47 #[.iface T V, .pointer (some ⟨b, o, none⟩)] w fun e w' => WrapRes b o i (.iface T V) f w e w' := by
  have hl0 := World.block_lt_of_cell? w _ h
  obtain ⟨T', V', hv, hF, _⟩ := iface_wrap (T := T) (V := V) i hi h
  unfold WrapRes
  rw [hv] at hA ⊢
  obtain ⟨F, rcv, hFF, hfm, hfn, hFC⟩ := hF
  have HF := Lib.hid hFC
  have HA := Lib.hid hA
  have HO := Lib.hid ho
  generalize giveN i = g at *
  clear h hA ho hv hFC
  have hmf : ∀ (fn : Fn) (first cap : Array Value) (w : World), (Instr.makeFunc fn first cap).run Try.prog w = .ok (.func fn first cap) w := fun _ _ _ _ => rfl
  have BX := Lib.hid (bx_start3 (w.alloc (.cells #[.iface T V] 86)) [.pointer (some ⟨b, o, none⟩)] [.nilIface] [.int .i64 0, .int .i64 0, .string ⟨#[]⟩, .int .i64 0, .int .i64 0] 91 86 36)
  have HB3 := Lib.hid (belS (part_box w (.cells #[.iface T V] 86)) BX.out.2.2.2)
  rw [show (w.alloc (.cells #[.iface T V] 86)).heap.size = w.heap.size + 1 by simp] at BX
  rcases hFF with rfl | rfl
  all_goals
    go_enter_defers Try.func47, Try.ntmps47
    go_wp2_with fail
    refine (HA.out _ HB3.out).mono ?_
    rintro e w1 ⟨rfl, hb⟩
    have HB1 := Lib.hid (belS HB3.out hb)
    have BO := Lib.hid (BX.out.2.1.below hb)
    have BR := Lib.hid (BX.out.2.2.1.below hb)
    clear hb HA
    have c0 := BO.out.cell 0 (by simp)
    simp only [List.getElem_cons_zero, List.getElem_cons_succ] at c0
    have z0 := BO.out.froz 0 (by simp)
    go_wp2_with fail
    have BO2 := Lib.hid (bx_dr (BO.out.set 0 (by simp) (.iface T' V')))
    have BR2 := Lib.hid (bx_dr (BR.out.other (c := w.heap.size + 1 + 1) (by omega) 0 (.iface T' V')))
    have HB2 := Lib.hid (bel_dr (HB1.out.setCell (p := ⟨w.heap.size + 1 + 1, 0, none⟩) (by simp; omega) (.iface T' V')))
    simp only [List.set_cons_zero] at BO2
    clear c0 z0
    have c0 := BO2.out.cell 0 (by simp)
    simp only [List.getElem_cons_zero, List.getElem_cons_succ] at c0
    have z0 := BO2.out.froz 0 (by simp)
    have r0 := BR2.out.cell 0 (by simp)
    have r1 := BR2.out.cell 1 (by simp)
    have r2 := BR2.out.cell 2 (by simp)
    have r3 := BR2.out.cell 3 (by simp)
    have r4 := BR2.out.cell 4 (by simp)
    simp only [List.getElem_cons_zero, List.getElem_cons_succ] at r0 r1 r2 r3 r4
    have y0 := BR2.out.froz 0 (by simp)
    have y1 := BR2.out.froz 1 (by simp)
    have y2 := BR2.out.froz 2 (by simp)
    have y3 := BR2.out.froz 3 (by simp)
    have y4 := BR2.out.froz 4 (by simp)
    refine wp_only ?_
    go_region_with (first
      | ((with_reducible refine (HF.out _ (by repeat (first | with_reducible exact HB1.out | refine bel_dr ?_ | refine Below.setCell ?_ (by simp; try omega) _))).mono ?_); rintro e w2 ⟨rfl, hb2⟩; have HB3 := Lib.hid (show Below w.heap.size w w2 from by first | exact belS HB2.out hb2 | exact belS (HB2.out.setCell (p := ⟨w.heap.size + 1 + 1, 0, none⟩) (by simp; omega) (.iface T' V')) hb2); have BO3 := Lib.hid (show Bx w2 (w.heap.size + 1 + 1) [.iface T' V'] from by first | exact BO2.out.below hb2 | exact (BO2.out.set 0 (by simp) (.iface T' V')).below hb2); have BR3 := Lib.hid (show Bx w2 (w.heap.size + 1 + 1 + 1) [.int .i64 0, .int .i64 0, .string ⟨#[]⟩, .int .i64 0, .int .i64 0] from by first | exact BR2.out.below hb2 | exact (BR2.out.other (c := w.heap.size + 1 + 1) (by omega) 0 (.iface T' V')).below hb2); have c3 := BO3.out.cell 0 (by simp); have z3 := BO3.out.froz 0 (by simp); have r3 := BR3.out.cell 0 (by simp); have r4 := BR3.out.cell 1 (by simp); have r5 := BR3.out.cell 2 (by simp); have r6 := BR3.out.cell 3 (by simp); have r7 := BR3.out.cell 4 (by simp); have y5 := BR3.out.froz 0 (by simp); have y6 := BR3.out.froz 1 (by simp); have y7 := BR3.out.froz 2 (by simp); have y8 := BR3.out.froz 3 (by simp); have y9 := BR3.out.froz 4 (by simp); simp only [List.getElem_cons_zero, List.getElem_cons_succ] at c3 r3 r4 r5 r6 r7))
    all_goals unfold OnlyN
    all_goals go_wp2_with fail
    all_goals
      change Leaves _ _ _ _ _ _ _
      refine leaves_cons (f := 88) (args := #[.pointer (some ⟨w.heap.size + 1, 0, none⟩), .pointer (some ⟨w.heap.size, 0, none⟩), .pointer (some ⟨w.heap.size + 1 + 1, 0, none⟩), .pointer (some ⟨w.heap.size + 1 + 1 + 1, 0, none⟩)]) (by simp) (by simp [go_sem]) ?_
      refine (catchW_idle _ _ _ _ _).mono ?_
      rintro e u' w'' ⟨rfl, rfl, rfl⟩
      simp [Leaves, settle, results, Try.results47, go_sem, cell_set_at, cell_set_ne, c3, r3, r4, r5, r6, r7]
      refine ⟨?_, Or.inl ⟨HO.out, rfl⟩⟩
      repeat (first | with_reducible exact HB3.out | refine Below.setCell ?_ (by simp; try omega) _)
end Go.Proofs.Ytlkpinlkbikokaa
/- wrapIn: where the assertion is not met; wrapIn whole; wholePart. -/
namespace Go.Proofs.Ytlkpinlkbikokaa
set_option linter.unusedVariables false
set_option linter.unusedSimpArgs false
open Go.RowKit
set_option maxRecDepth 100000 in
set_option maxHeartbeats 1600000 in
theorem wrapIn_fail (b o i : Nat) (hi : i < 9) (T : TypeId) (V : Value) (f : Int) (w : World) (h : w.cell? ⟨b, o, none⟩ = some (.string ⟨(layN i).toArray⟩)) (ho : offersF f (needN i) = false) (hF : FaceAt w T V f)
    (hA : ∀ W, Below w.heap.size w W → Calls Try.prog 89 #[.iface T V, .pointer (some ⟨b, o, none⟩)] W fun e w' => Panics W e w') :
    Calls Try.prog 47 #[.iface T V, .pointer (some ⟨b, o, none⟩)] w fun e w' => WrapRes b o i (.iface T V) f w e w' := by
  have hl0 := World.block_lt_of_cell? w _ h
  simp only at hl0
  unfold WrapRes
  have HX := Lib.hid h
  have HF := Lib.hid hF
  have HA := Lib.hid hA
  have HO := Lib.hid ho
  have HN := Lib.hid (show needI (layI (layN i)) = needN i from by
    rcases (show i = 0 ∨ i = 1 ∨ i = 2 ∨ i = 3 ∨ i = 4 ∨ i = 5 ∨ i = 6 ∨ i = 7 ∨ i = 8 by omega) with rfl | rfl | rfl | rfl | rfl | rfl | rfl | rfl | rfl <;> decide +kernel)
  clear h hA ho hF
  have hmf : ∀ (fn : Fn) (first cap : Array Value) (w : World), (Instr.makeFunc fn first cap).run Try.prog w = .ok (.func fn first cap) w := fun _ _ _ _ => rfl
  have BI := Lib.hid (Bx.new w [.iface T V] 86)
  have BX := Lib.hid (bx_start3 (w.alloc (.cells #[.iface T V] 86)) [.pointer (some ⟨b, o, none⟩)] [.nilIface] [.int .i64 0, .int .i64 0, .string ⟨#[]⟩, .int .i64 0, .int .i64 0] 91 86 36)
  have HB3 := Lib.hid (belS (part_box w (.cells #[.iface T V] 86)) BX.out.2.2.2)
  have BI2 := Lib.hid (BI.out.below BX.out.2.2.2)
  rw [show (w.alloc (.cells #[.iface T V] 86)).heap.size = w.heap.size + 1 by simp] at BX
  go_enter_defers Try.func47, Try.ntmps47
  go_wp2_with fail
  refine (HA.out _ HB3.out).mono ?_
  rintro e w1 ⟨pv, rfl, hb⟩
  have HB1 := Lib.hid (belS HB3.out hb)
  have BI3 := Lib.hid (BI2.out.below hb)
  have BL := Lib.hid (BX.out.1.below hb)
  have BO := Lib.hid (BX.out.2.1.below hb)
  have BR := Lib.hid (BX.out.2.2.1.below hb)
  clear hb HA
  have HBW := Lib.hid (show BoxW (w.heap.size + 1) w.heap.size (w.heap.size + 1 + 1) (w.heap.size + 1 + 1 + 1) b o (layN i) (.iface T V) w1 from
    ⟨BL.out.cell 0 (by simp), (HB1.out.cell (p := ⟨b, o, none⟩) hl0).trans HX.out, BI3.out.cell 0 (by simp), by rw [BO.out.cell 0 (by simp)]; rfl, BO.out.froz 0 (by simp),
      fun j hj => by rw [BR.out.cell j (by simpa using hj)]; rfl, fun j hj => BR.out.froz j (by simpa using hj)⟩)
  clear BI BI2 BI3 BL BO BR BX HX
  refine leaves_cons (f := 88) (args := #[.pointer (some ⟨w.heap.size + 1, 0, none⟩), .pointer (some ⟨w.heap.size, 0, none⟩), .pointer (some ⟨w.heap.size + 1 + 1, 0, none⟩), .pointer (some ⟨w.heap.size + 1 + 1 + 1, 0, none⟩)]) (by simp) (by simp [go_sem]) ?_
  refine (catchW _ _ _ _ b o (layN i) T V f pv _ (HF.out.below HB1.out) HBW.out (by omega)).mono ?_
  rintro e u' w'' ⟨rfl, rfl, w2, hb2, rfl⟩
  have HB2 := Lib.hid (belS HB1.out hb2)
  have KR := Lib.hid (HBW.out.below hb2)
  obtain ⟨eo, fo⟩ := Option.isSome_iff_exists.1 KR.out.o0
  obtain ⟨e0, f0⟩ := Option.isSome_iff_exists.1 (KR.out.r 0 (by decide))
  obtain ⟨e1, f1⟩ := Option.isSome_iff_exists.1 (KR.out.r 1 (by decide))
  obtain ⟨e2, f2⟩ := Option.isSome_iff_exists.1 (KR.out.r 2 (by decide))
  obtain ⟨e3, f3⟩ := Option.isSome_iff_exists.1 (KR.out.r 3 (by decide))
  obtain ⟨e4, f4⟩ := Option.isSome_iff_exists.1 (KR.out.r 4 (by decide))
  rw [HN.out]
  unfold putW vReply
  generalize needN i = want at *
  clear hb2 HBW KR
  simp [Leaves, settle, results, Try.results47, go_sem, cell_set_at, cell_set_ne, bx_set_ne, fo, f0, f1, f2, f3, f4]
  refine ⟨?_, HO.out⟩
  repeat (first | with_reducible exact HB2.out | refine Below.setCell ?_ (by simp; try omega) _)
theorem wrapIn_c (b o i : Nat) (hi : i < 9) (v : Value) (f : Int) (w : World) (h : w.cell? ⟨b, o, none⟩ = some (.string ⟨(layN i).toArray⟩)) (hv : IfaceAt w v f) :
    Calls Try.prog 47 #[v, .pointer (some ⟨b, o, none⟩)] w fun e w' => WrapRes b o i v f w e w' := by
  obtain ⟨T, V, rfl, hF, hA⟩ := hv
  have hl0 := World.block_lt_of_cell? w _ h
  have hW : ∀ W, Below w.heap.size w W → W.cell? ⟨b, o, none⟩ = some (.string ⟨(layN i).toArray⟩) := fun W hb => (hb.cell (p := ⟨b, o, none⟩) hl0).trans h
  obtain ⟨hf, hr, hk, ht, hbo⟩ := hA
  have h0 : offersF f 0 = true := by
    obtain ⟨F, rfl⟩ := isF_fin hf
    exact (off_bits F).1
  rcases (show i = 0 ∨ i = 1 ∨ i = 2 ∨ i = 3 ∨ i = 4 ∨ i = 5 ∨ i = 6 ∨ i = 7 ∨ i = 8 by omega) with rfl | rfl | rfl | rfl | rfl | rfl | rfl | rfl | rfl
  · exact wrapIn_ok b o 0 (by decide) T V f w h h0 (fun W hb => aw_0 b o T V W (hW W hb))
  · cases hq : offersF f 1 with
    | true => rw [hq] at hr; exact wrapIn_ok b o 1 (by decide) T V f w h hq (fun W hb => aw_1 b o T V W (hW W hb) hr)
    | false => rw [hq] at hr; exact wrapIn_fail b o 1 (by decide) T V f w h hq hF (fun W hb => awp_1 b o T V W (hW W hb) hr)
  · cases hq : offersF f 2 with
    | true => rw [hq] at hk; exact wrapIn_ok b o 2 (by decide) T V f w h hq (fun W hb => aw_2 b o T V W (hW W hb) hk)
    | false => rw [hq] at hk; exact wrapIn_fail b o 2 (by decide) T V f w h hq hF (fun W hb => awp_2 b o T V W (hW W hb) hk)
  · cases hq : offersF f 2 with
    | true => rw [hq] at hk; exact wrapIn_ok b o 3 (by decide) T V f w h hq (fun W hb => aw_3 b o T V W (hW W hb) hk)
    | false => rw [hq] at hk; exact wrapIn_fail b o 3 (by decide) T V f w h hq hF (fun W hb => awp_3 b o T V W (hW W hb) hk)
  · cases hq : offersF f 3 with
    | true => rw [hq] at hbo; exact wrapIn_ok b o 4 (by decide) T V f w h hq (fun W hb => aw_4 b o T V W (hW W hb) hbo)
    | false => rw [hq] at hbo; exact wrapIn_fail b o 4 (by decide) T V f w h hq hF (fun W hb => awp_4 b o T V W (hW W hb) hbo)
  · cases hq : offersF f 2 with
    | true => rw [hq] at hk; exact wrapIn_ok b o 5 (by decide) T V f w h hq (fun W hb => aw_5 b o T V W (hW W hb) hk)
    | false => rw [hq] at hk; exact wrapIn_fail b o 5 (by decide) T V f w h hq hF (fun W hb => awp_5 b o T V W (hW W hb) hk)
  · cases hq : offersF f 1 with
    | true => rw [hq] at hr; exact wrapIn_ok b o 6 (by decide) T V f w h hq (fun W hb => aw_6 b o T V W (hW W hb) hr)
    | false => rw [hq] at hr; exact wrapIn_fail b o 6 (by decide) T V f w h hq hF (fun W hb => awp_6 b o T V W (hW W hb) hr)
  · cases hq : offersF f 1 with
    | true => rw [hq] at hr; exact wrapIn_ok b o 7 (by decide) T V f w h hq (fun W hb => aw_7 b o T V W (hW W hb) hr)
    | false => rw [hq] at hr; exact wrapIn_fail b o 7 (by decide) T V f w h hq hF (fun W hb => awp_7 b o T V W (hW W hb) hr)
  · cases hq : offersF f 4 with
    | true => rw [hq] at ht; exact wrapIn_ok b o 8 (by decide) T V f w h hq (fun W hb => aw_8 b o T V W (hW W hb) ht)
    | false => rw [hq] at ht; exact wrapIn_fail b o 8 (by decide) T V f w h hq hF (fun W hb => awp_8 b o T V W (hW W hb) ht)
end Go.Proofs.Ytlkpinlkbikokaa
/- wholePart: a valid part with all its adapters, as a value of an interface type. -/
namespace Go.Proofs.Ytlkpinlkbikokaa
set_option linter.unusedVariables false
set_option linter.unusedSimpArgs false
open Go.RowKit
theorem partB_lay {x : PartD} (h : partB x = true) (k : Nat) (hk : k < x.fLayers.length) : layOk x k = true := by
  cases hq : layOk x k with
  | true => rfl
  | false => rw [partB_bad hk hq] at h; cases h
theorem partB_core {x : PartD} (h : partB x = true) : coreB x.fCore = true := by
  simp only [partB, Bool.and_eq_true] at h; exact h.1.1
theorem partB_len {x : PartD} (h : partB x = true) : x.fLayers.length ≤ 3 := by
  simp only [partB, Bool.and_eq_true, decide_eq_true_iff] at h; exact h.1.2
theorem coreB_kind {d : CoreD} (h : coreB d = true) : ∃ j : Nat, kindI d.fKind = j ∧ j < 8 ∧ kindN j = d.fKind := by
  have h0 : 0 ≤ kindI d.fKind := by
    simp only [coreB, Bool.and_eq_true, decide_eq_true_iff] at h; exact h.1.1.1.1.1
  rcases kindI_bd d.fKind with h1 | h1
  · omega
  · exact h1
theorem faceN_succ (x : PartD) (k : Nat) (hk : k < x.fLayers.length) : faceN x (k + 1) = giveI (layI (x.fLayers[k]).fName) := by
  show giveI (layI (x.fLayers.getD k default).fName) = _
  rw [List.getD_eq_getElem?_getD, List.getElem?_eq_getElem hk]; rfl
/-- the face and the assertions of a valid part with its first layers -/
def Whole (x : PartD) (k : Nat) (w : World) (v : Value) : Prop := IfaceAt w v (faceN x k)
set_option maxRecDepth 100000 in
set_option maxHeartbeats 3200000 in
theorem wholePart_c (b0 : Nat) (cs : List Value) (x : PartD) (w : World) (hx : rPart 0 w cs x) (hb : Bx w b0 cs) (hp : partB x = true) :
    Calls Try.prog 48 #[.pointer (some ⟨b0, 0, none⟩)] w fun e w' => ∃ v, e = .returned v ∧ IfaceAt w' v (faceP x) ∧ Below w.heap.size w w' := by
  have HLK := Lib.hid (fun k hk => partB_lay hp k hk)
  have HOK := Lib.hid (fun i h y hy => layOk_of x i h y hy)
  have HFS := Lib.hid (faceN_succ x)
  have HFP := Lib.hid (show faceP x = faceN x x.fLayers.length from rfl)
  obtain ⟨j, hj1, hj2, hj3⟩ := coreB_kind (partB_core hp)
  have H0 := Lib.hid (show faceN x 0 = kfN j by unfold faceN kfI; rw [hj1, if_neg (by omega)]; rfl)
  obtain ⟨xc, ls⟩ := x
  obtain ⟨v3, v5, rfl, h3, h5⟩ := hx
  simp only at h3 h5 hj3 HLK HOK HFS HFP
  obtain ⟨sa, sc, rfl, hl, hcap⟩ := sliceAt_cap h5
  have H5 := Lib.hid h5
  have BX := Lib.hid hb
  have HK := Lib.hid (show w.cell? ⟨b0, 0, none⟩ = some (.string ⟨(kindN j).toArray⟩) by have h := hb.cell 0 (by simp); rw [hj3]; exact h)
  have HPO := Lib.hid (partOf_k j hj2 b0 w HK.out)
  unfold maxLen at hl
  clear h3 h5 hp hj1 hj3 hb
  go_enter Try.func48, Try.ntmps48
  go_wp2_with fail
  refine HPO.out.mono ?_
  rintro e w1 ⟨rfl, hb⟩
  have HB1 := Lib.hid hb
  have BX1 := Lib.hid (BX.out.below hb)
  have HI := Lib.hid (show IfaceAt w1 (partV b0 j) (faceN ⟨xc, ls⟩ 0) by rw [H0.out]; exact iface_kind j hj2 ((hb.cell (p := ⟨b0, 0, none⟩) BX.out.lt).trans HK.out))
  generalize partV b0 j = pv at *
  clear hb
  have e5 := BX1.out.cell 5 (by simp)
  simp only [List.getElem_cons_zero, List.getElem_cons_succ] at e5
  go_wp2_with fail
  clear e5
  go_loopw [3, 4, 14] (fun u3 _ i wr => ∃ k : Nat, k ≤ ls.length ∧ i = .int .i64 k ∧ Whole ⟨xc, ls⟩ k wr u3 ∧ Below w.heap.size w wr) (fun _ _ i _ => ls.length - (intOf i).toNat)
  case atStart => exact ⟨0, Nat.zero_le _, rfl, HI.out, HB1.out⟩
  case round =>
    obtain ⟨k, hk, rfl, ht, hbr⟩ := hrel
    have HT := Lib.hid ht
    have HBr := Lib.hid hbr
    have BXr := Lib.hid (BX.out.below hbr)
    have HXr := Lib.hid (SliceAt.below H5.out (good_flat cLayer_len) hbr (Nat.le_refl _))
    clear ht hbr
    by_cases hlt : k < ls.length
    · obtain ⟨b, o, cs, rfl, hbw, hat, hd⟩ := sliceAt_cell HXr.out k hlt
      have HO1 := Lib.hid (HLK.out k hlt)
      have HO2 := Lib.hid (HOK.out k hlt _ rfl)
      have HF1 := Lib.hid (HFS.out k hlt)
      have d0 := hd 0 (by decide)
      generalize ls[k] = z at *
      obtain ⟨z0, z1⟩ := z
      simp only [rFlat, cLayer] at hat HO2 HF1
      subst hat
      simp only [List.getElem?_cons_zero, Nat.add_zero] at d0
      have hh := HO1.out
      rw [HO2.out] at hh
      simp only [Bool.and_eq_true, decide_eq_true_iff] at hh
      obtain ⟨⟨hh1, hh2⟩, _⟩ := hh
      obtain ⟨q, hq1, hq2, hq3⟩ : ∃ q : Nat, layI z0 = q ∧ q < 9 ∧ layN q = z0 := by
        rcases layI_bd z0 with h1 | h1
        · omega
        · exact h1
      subst hq3
      have hn : needI (layI (layN q)) = needN q := by rw [hq1]; unfold needI; rw [if_neg (by omega)]; rfl
      have hg : giveI (layI (layN q)) = giveN q := by rw [hq1]; unfold giveI; rw [if_neg (by omega)]; rfl
      have HW := Lib.hid (wrapIn_c b (o + k * 2) q hq2 u3 (faceN ⟨xc, ls⟩ k) wr d0 HT.out)
      have HOF := Lib.hid (show offersF (faceN ⟨xc, ls⟩ k) (needN q) = true by rw [← hn]; exact hh2)
      have HGV := Lib.hid (show faceN ⟨xc, ls⟩ (k + 1) = giveN q by rw [HF1.out, hg])
      have D0 := Lib.hid d0
      have hkc : (k : Int) < (ls.length : Int) := by omega
      have e5 := BXr.out.cell 5 (by simp)
      simp only [List.getElem_cons_zero, List.getElem_cons_succ] at e5
      obtain ⟨T, V, hu, hu2⟩ := HT.out
      have HU := Lib.hid hu
      clear hd HXr hh1 hh2 hq1 hn hg d0 HO1 HO2 HF1 HLK HOK HFS hu hu2
      go_wp2_with fail
      refine HW.out.mono ?_
      rintro e w2 ⟨hb2, hres⟩
      obtain rfl : e = .returned (.tuple #[wrapV b (o + k * 2) u3 q, vReply ⟨0, giveN q, [], 0, 0⟩]) := by
        rcases hres with ⟨_, h⟩ | ⟨h, _⟩
        · exact h
        · rw [HOF.out] at h; cases h
      have HB2 := Lib.hid (belS HBr.out hb2)
      have HWW := Lib.hid (show Whole ⟨xc, ls⟩ (k + 1) w2 (wrapV b (o + k * 2) u3 q) by
        unfold Whole
        rw [HGV.out, HU.out]
        exact iface_wrap q hq2 ((hb2.cell (p := ⟨b, o + k * 2, none⟩) hbw).trans D0.out))
      generalize wrapV b (o + k * 2) u3 q = nv at *
      unfold vReply
      clear hb2 hres e5
      go_wp2_with fail
      exact ⟨⟨k + 1, by omega, by go_num, HWW.out, HB2.out⟩, by simp [intOf]; omega⟩
    · have HR := Lib.hid (show IfaceAt wr u3 (faceP ⟨xc, ls⟩) by rw [HFP.out]; have h := HT.out; rwa [show k = ls.length by omega] at h)
      go_wp2
      go_ret
      exact ⟨u3, rfl, HR.out, HBr.out⟩
end Go.Proofs.Ytlkpinlkbikokaa
/- Wrapping in plain words; results of a part and a reply. -/
namespace Go.Proofs.Ytlkpinlkbikokaa
set_option linter.unusedVariables false
set_option linter.unusedSimpArgs false
open Go.RowKit
theorem Bx.put5 {w : World} {b : Nat} {c0 c1 c2 c3 c4 : Value} (h : Bx w b [c0, c1, c2, c3, c4]) (u0 u1 u2 u3 u4 : Value) :
    Bx (((((w.setCell ⟨b, 0, none⟩ u0).setCell ⟨b, 1, none⟩ u1).setCell ⟨b, 2, none⟩ u2).setCell ⟨b, 3, none⟩ u3).setCell ⟨b, 4, none⟩ u4) b [u0, u1, u2, u3, u4] :=
  (((((h.set 0 (by simp) u0).set 1 (by simp) u1).set 2 (by simp) u2).set 3 (by simp) u3).set 4 (by simp) u4)
theorem Bx.put5o {w : World} {b c : Nat} {cs : List Value} (h : Bx w b cs) (hne : b ≠ c) (u0 u1 u2 u3 u4 : Value) :
    Bx (((((w.setCell ⟨c, 0, none⟩ u0).setCell ⟨c, 1, none⟩ u1).setCell ⟨c, 2, none⟩ u2).setCell ⟨c, 3, none⟩ u3).setCell ⟨c, 4, none⟩ u4) b cs :=
  (((((h.other hne 0 u0).other hne 1 u1).other hne 2 u2).other hne 3 u3).other hne 4 u4)
theorem Bx.put6o {w : World} {b c : Nat} {cs : List Value} (h : Bx w b cs) (hne : b ≠ c) (u0 u1 u2 u3 u4 u5 : Value) :
    Bx ((((((w.setCell ⟨c, 0, none⟩ u0).setCell ⟨c, 1, none⟩ u1).setCell ⟨c, 2, none⟩ u2).setCell ⟨c, 3, none⟩ u3).setCell ⟨c, 4, none⟩ u4).setCell ⟨c, 5, none⟩ u5) b cs :=
  ((((((h.other hne 0 u0).other hne 1 u1).other hne 2 u2).other hne 3 u3).other hne 4 u4).other hne 5 u5)
theorem below_put5 {B : Nat} {a w : World} (h : Below B a w) (b : Nat) (hb : B ≤ b) (u0 u1 u2 u3 u4 : Value) :
    Below B a (((((w.setCell ⟨b, 0, none⟩ u0).setCell ⟨b, 1, none⟩ u1).setCell ⟨b, 2, none⟩ u2).setCell ⟨b, 3, none⟩ u3).setCell ⟨b, 4, none⟩ u4) :=
  (((((h.setCell (p := ⟨b, 0, none⟩) hb u0).setCell (p := ⟨b, 1, none⟩) hb u1).setCell (p := ⟨b, 2, none⟩) hb u2).setCell (p := ⟨b, 3, none⟩) hb u3).setCell (p := ⟨b, 4, none⟩) hb u4)
theorem ownsF_put5 {α : Type} {f : α → List Value} {E k : Nat} {w : World} {B : Nat} {v : Value} {l : List α} (h : OwnsF f E k w B v l) (b : Nat) (hb : b < B) (u0 u1 u2 u3 u4 : Value) :
    OwnsF f E k (((((w.setCell ⟨b, 0, none⟩ u0).setCell ⟨b, 1, none⟩ u1).setCell ⟨b, 2, none⟩ u2).setCell ⟨b, 3, none⟩ u3).setCell ⟨b, 4, none⟩ u4) B v l :=
  ownsF_set (ownsF_set (ownsF_set (ownsF_set (ownsF_set h hb) hb) hb) hb) hb
/-- the code of Wrap's reply -/
def wrapI (x : PartD) (s : List UInt8) : Int :=
  if partB x = true ∧ 0 ≤ layI s then (if x.fLayers.length = 3 then 5 else if offersF (faceP x) (needI (layI s)) = true then 0 else 1) else 7
def wrapP (x : PartD) (s : List UInt8) : PartD := if wrapI x s = 0 then ⟨x.fCore, x.fLayers ++ [⟨s, 0⟩]⟩ else x
def wrapR (x : PartD) (s : List UInt8) : ReplyD := ⟨wrapI x s, if wrapI x s = 0 then giveI (layI s) else 0, [], if wrapI x s = 1 then needI (layI s) else 0, if wrapI x s = 1 then faceP x else 0⟩
def GivesOPR (x : PartD) (r : ReplyD) (w : World) (e : Ending) (w' : World) : Prop := ∃ cs, e = .returned (.tuple #[.agg cs.toArray, vReply r]) ∧ oPart w' w.heap.size cs x ∧ Below w.heap.size w w'
def GivesPR (x : PartD) (r : ReplyD) (w : World) (e : Ending) (w' : World) : Prop := ∃ cs, e = .returned (.tuple #[.agg cs.toArray, vReply r]) ∧ rPart w.heap.size w' cs x ∧ Below w.heap.size w w'
theorem givesPR_of {x : PartD} {r : ReplyD} {w w' : World} {e : Ending} (h : GivesOPR x r w e w') (hs : SmallP x) : GivesPR x r w e w' := by
  obtain ⟨cs, h1, h2, h3⟩ := h
  exact ⟨cs, h1, oPart_r h2 hs, h3⟩
theorem wrap_bad {x : PartD} {s : List UInt8} (h : ¬ (partB x = true ∧ 0 ≤ layI s)) : wrapP x s = x ∧ wrapR x s = ⟨7, 0, [], 0, 0⟩ := by
  have hi : wrapI x s = 7 := if_neg h
  unfold wrapP wrapR; rw [hi]; exact ⟨rfl, rfl⟩
theorem wrap_full {x : PartD} {s : List UInt8} (h : partB x = true ∧ 0 ≤ layI s) (h3 : x.fLayers.length = 3) : wrapP x s = x ∧ wrapR x s = ⟨5, 0, [], 0, 0⟩ := by
  have hi : wrapI x s = 5 := by unfold wrapI; rw [if_pos h, if_pos h3]
  unfold wrapP wrapR; rw [hi]; exact ⟨rfl, rfl⟩
theorem wrap_ok {x : PartD} {s : List UInt8} (h : partB x = true ∧ 0 ≤ layI s) (h3 : ¬ x.fLayers.length = 3) (ho : offersF (faceP x) (needI (layI s)) = true) : wrapP x s = ⟨x.fCore, x.fLayers ++ [⟨s, 0⟩]⟩ ∧ wrapR x s = ⟨0, giveI (layI s), [], 0, 0⟩ := by
  have hi : wrapI x s = 0 := by unfold wrapI; rw [if_pos h, if_neg h3, if_pos ho]
  unfold wrapP wrapR; rw [hi]; exact ⟨rfl, rfl⟩
theorem wrap_fail {x : PartD} {s : List UInt8} (h : partB x = true ∧ 0 ≤ layI s) (h3 : ¬ x.fLayers.length = 3) (ho : offersF (faceP x) (needI (layI s)) = false) : wrapP x s = x ∧ wrapR x s = ⟨1, 0, [], needI (layI s), faceP x⟩ := by
  have hi : wrapI x s = 1 := by unfold wrapI; rw [if_pos h, if_neg h3, if_neg (by simp [ho])]
  unfold wrapP wrapR; rw [hi]; exact ⟨rfl, rfl⟩
theorem sumF_le {α : Type} (f : α → Nat) (b : Nat) (l : List α) (h : ∀ a ∈ l, f a ≤ b) : sumF f l ≤ l.length * b := by
  induction l with
  | nil => simp [sumF]
  | cons x r ih =>
    have h1 := ih (fun a ha => h a (List.mem_cons_of_mem _ ha))
    have h2 := h x (List.mem_cons_self ..)
    simp only [sumF, List.length_cons, Nat.add_mul, Nat.one_mul]; omega
theorem layN_len (k : Nat) : (layN k).length ≤ 6 := by unfold layN; split <;> decide
theorem kindN_len (k : Nat) : (kindN k).length ≤ 6 := by unfold kindN; split <;> decide
theorem partB_small {x : PartD} (h : partB x = true) : zPart x ≤ 100 := by
  have hc := partB_core h
  have hl := partB_len h
  obtain ⟨j, _, _, hj⟩ := coreB_kind hc
  have h1 : x.fCore.fKind.length ≤ 6 := by rw [← hj]; exact kindN_len j
  have hcb : cellsB x.fCore.fCells = true := by simp only [coreB, Bool.and_eq_true] at hc; exact hc.1.1.1.1.2
  have h2 := cellsB_len hcb
  have h3 := sumF_le zCell 8 x.fCore.fCells (fun c hc => by have h9 := (cellsB_mem hcb c hc).1; simp only [nameB, Bool.and_eq_true, decide_eq_true_iff] at h9; exact h9.1.1.2)
  have h4 := sumF_le zLayer 6 x.fLayers (fun y hy => by
    obtain ⟨i, hi, rfl⟩ := List.mem_iff_getElem.1 hy
    have h5 := partB_lay h i hi
    rw [layOk_of x i hi _ rfl] at h5
    simp only [Bool.and_eq_true, decide_eq_true_iff] at h5
    rcases layI_bd (x.fLayers[i]).fName with h6 | ⟨q, _, _, h7⟩
    · omega
    · show (x.fLayers[i]).fName.length ≤ 6
      rw [← h7]; exact layN_len q)
  have h5 : x.fCore.fCells.length * 8 ≤ 32 := by omega
  unfold zPart zCore
  omega
theorem wrapP_small {x : PartD} (hs : SmallP x) (s : List UInt8) : SmallP (wrapP x s) := by
  by_cases h : wrapI x s = 0
  · have h1 : partB x = true ∧ 0 ≤ layI s := by
      by_cases h1 : partB x = true ∧ 0 ≤ layI s
      · exact h1
      · rw [wrapI, if_neg h1] at h; cases h
    have h2 := partB_small h1.1
    have h3 : s.length ≤ 6 := by
      rcases layI_bd s with h6 | ⟨q, _, _, h7⟩
      · omega
      · rw [← h7]; exact layN_len q
    have h4 : ∀ (a : List LayerD), sumF zLayer (a ++ [⟨s, 0⟩]) = sumF zLayer a + s.length := by
      intro a
      induction a with
      | nil => simp [sumF, zLayer]
      | cons y r ih => simp only [List.cons_append, sumF, ih]; omega
    unfold wrapP
    rw [if_pos h]
    refine smallP_of ?_
    unfold zPart zCore at h2 ⊢
    simp only [h4, List.length_append, List.length_cons, List.length_nil]
    omega
  · unfold wrapP; rw [if_neg h]; exact hs
theorem append_lay {ops : Array Oper} {rest : List Oper} {o : Oper} {a : Act} {Q : Exit → Act → World → Prop} (hgd : o.guard = none) (s x : Operand)
    (ho : o.op = .call { callee := .builtin .append, args := #[s, x], argTypes := #[32, 32] }) (B : Nat) (v : Value) (l : List LayerD) (y : LayerD) (w : World) (blk : Nat)
    (hs : a.eval s = v) (hO : OwnsF cLayer 80 2 w B v l) (hx : a.eval x = .slice (some ⟨blk, 0, none⟩) 1 1) (hc : ∀ j, j < 2 → w.cell? ⟨blk, j, none⟩ = (cLayer y)[j]?) (hl : l.length ≤ 4194304) (hB : B ≤ w.heap.size)
    (h : ∀ v' w', OwnsF cLayer 80 2 w' B v' (l ++ [y]) → w.grownBy w' v.ownBlock → wpList Try.prog ops Q rest (a.put o.dst v') w') : wpList Try.prog ops Q (o :: rest) a w :=
  append_flat cLayer_len cLayer_one infoLay rfl (by decide) (by decide) Try.underlying32 hgd s x ho B v l y w blk hs hO hx hc hl hB h
theorem ownsF_setNe {α : Type} {f : α → List Value} {E k : Nat} {w : World} {B : Nat} {v : Value} {l : List α} {p : Addr} {u : Value} (h : OwnsF f E k w B v l) (hp : v.ownBlock ≠ some p.block) : OwnsF f E k (w.setCell p u) B v l :=
  World.ownsRow.kept h (row := some p.block) ⟨rfl, rfl, rfl, by simp, fun i hi hne => Below.heap_setCell w p u i (fun e => hne (by rw [e]))⟩ (Or.inr hp)
theorem slice_lenW {α : Type} {f : α → List Value} {E k : Nat} {w : World} {B m : Nat} {v : Value} {l : List α} (h : OwnsF f E k w B v l) (hm : l.length = m) : ∃ a c, v = .slice a m c := by
  subst hm; exact slice_of h
theorem lay_not_bool {w : World} {N b : Nat} {v : Value} {l : List LayerD} {x : Bool} (h : OwnsF cLayer 80 2 w N v l) (hl : 0 < l.length) (hb : w.cell? ⟨b, 1, none⟩ = some (.bool x)) : v.ownBlock ≠ some b := by
  rcases h.2 with ⟨rfl, _⟩ | ⟨g, cap, cur, rfl, _⟩
  · simp [Value.ownBlock]
  · intro e
    simp [Value.ownBlock] at e
    subst e
    have h1 := World.ownsRow.cellAt h 1 (by omega)
    rw [hb] at h1
    cases l with
    | nil => simp at hl
    | cons d r => simp [cLayer] at h1
end Go.Proofs.Ytlkpinlkbikokaa
/- Contracts of chapter 3: NewCore, the program's and the model's. -/
namespace Go.Proofs.Ytlkpinlkbikokaa
set_option linter.unusedVariables false
open Go.RowKit
def newCoreD (k : List UInt8) : CoreD := if 0 ≤ kindI k then ⟨k, false, false, [], 0⟩ else ⟨[], false, false, [], 0⟩
def GivesNew (k : List UInt8) (w : World) (e : Ending) (w' : World) : Prop := ∃ v, e = .returned (.tuple #[v, .bool (decide (0 ≤ kindI k))]) ∧ OwnsCore w' w.heap.size v (newCoreD k) ∧ Below w.heap.size w w'
theorem owns_zero (w : World) (B : Nat) (k : List UInt8) : OwnsCore w B (.agg #[.string ⟨k.toArray⟩, .bool false, .bool false, .slice none 0 0, .int .i64 0]) ⟨k, false, false, [], 0⟩ :=
  ⟨.slice none 0 0, rfl, rfl, Or.inl ⟨rfl, rfl⟩⟩
theorem newCoreD_yes {k : List UInt8} (h : decide (0 ≤ kindI k) = true) : newCoreD k = ⟨k, false, false, [], 0⟩ := if_pos (of_decide_eq_true h)
theorem newCoreD_no {k : List UInt8} (h : decide (0 ≤ kindI k) = false) : newCoreD k = ⟨[], false, false, [], 0⟩ := if_neg (of_decide_eq_false h)
theorem new_cells {f : FuncId} {args : Array Value} {k : List UInt8} {w : World} (h : Calls Try.prog f args w fun e w' => GivesNew k w e w') :
    Calls Try.prog f args w fun e w' => ∃ cv, e = .returned (.tuple #[vCore (newCoreD k) cv, .bool (decide (0 ≤ kindI k))]) ∧ OwnsF cCell 146 2 w' w.heap.size cv (newCoreD k).fCells ∧ Below w.heap.size w w' :=
  h.mono fun e w' ⟨v, h1, ⟨cv, h2, h3⟩, h4⟩ => ⟨cv, by rw [h1, h2], h3, h4⟩
set_option maxRecDepth 100000 in
set_option maxHeartbeats 1600000 in
theorem implNewCore_any (s : ByteArray) (w : World) (hs : s.size ≤ 1048576) :
    Calls Try.prog 94 #[.string s] w fun e w' => GivesNew s.data.toList w e w' := by
  have HK := Lib.hid (implKind_any s)
  have HC := Lib.hid (fun w0 => copyText_any s w0 (by omega))
  have HY := Lib.hid (@newCoreD_yes s.data.toList)
  have HN := Lib.hid (@newCoreD_no s.data.toList)
  have HS := Lib.hid (show (⟨s.data.toList.toArray⟩ : ByteArray) = s by simp)
  unfold GivesNew
  unfold kfV at HK
  generalize newCoreD s.data.toList = nc at *
  generalize kfI (kindI s.data.toList) = f at *
  generalize decide (0 ≤ kindI s.data.toList) = b at *
  generalize s.data.toList = l at *
  have hl := HS.out
  subst hl
  have HB0 := Lib.hid (show ∀ o, Below w.heap.size w (w.alloc o) from fun o => (Below.refl w.heap.size w).alloc (Nat.le_refl _) o)
  cases b with
  | false =>
    have HD := Lib.hid (HN.out rfl)
    go_enter Try.func94, Try.ntmps94
    go_wp2_with fail
    refine (HK.out _).mono ?_
    rintro e w1 ⟨rfl, rfl⟩
    go_wp2_with fail
    refine bodyPost_ret (v := .tuple #[.agg #[.string ⟨#[]⟩, .bool false, .bool false, .slice none 0 0, .int .i64 0], .bool false]) (by simp [results, Try.results94, go_sem]) rfl ⟨_, rfl, ?_, ?_⟩
    · rw [HD.out]; exact owns_zero _ _ []
    · first | exact HB0.out _ | (repeat (refine Below.setCell ?_ (by simp; try omega) _)
                                 exact HB0.out _)
  | true =>
    have HD := Lib.hid (HY.out rfl)
    go_enter Try.func94, Try.ntmps94
    go_wp2_with fail
    refine (HK.out _).mono ?_
    rintro e w1 ⟨rfl, rfl⟩
    go_wp2_with fail
    refine (HC.out _).mono ?_
    rintro e w1 ⟨rfl, hb⟩
    obtain ⟨hcc, hff⟩ := bcell hb
    simp at hcc hff
    have hsz := hb.size
    simp at hsz
    have HB := Lib.hid ((HB0.out _).trans (hb.mono (HB0.out _).size))
    clear hb
    go_wp2_with fail
    refine bodyPost_ret (v := .tuple #[.agg #[.string ⟨l.toArray⟩, .bool false, .bool false, .slice none 0 0, .int .i64 0], .bool true]) (by simp [results, Try.results94, go_sem, hcc]) rfl ⟨_, rfl, ?_, ?_⟩
    · rw [HD.out]; exact owns_zero _ _ l
    · repeat (refine Below.setCell ?_ (by simp; try omega) _)
      exact HB.out
set_option maxRecDepth 100000 in
set_option maxHeartbeats 1600000 in
theorem specNewCore_any (s : ByteArray) (w : World) (hs : s.size ≤ 1048576) :
    Calls Try.prog 93 #[.string s] w fun e w' => GivesNew s.data.toList w e w' := by
  have HK := Lib.hid (specKind_any s)
  have HY := Lib.hid (@newCoreD_yes s.data.toList)
  have HN := Lib.hid (@newCoreD_no s.data.toList)
  have HS := Lib.hid (show (⟨s.data.toList.toArray⟩ : ByteArray) = s by simp)
  unfold GivesNew
  unfold kfV at HK
  generalize newCoreD s.data.toList = nc at *
  generalize kfI (kindI s.data.toList) = f at *
  generalize decide (0 ≤ kindI s.data.toList) = b at *
  generalize s.data.toList = l at *
  have hl := HS.out
  subst hl
  have HB0 := Lib.hid (show ∀ o, Below w.heap.size w (w.alloc o) from fun o => (Below.refl w.heap.size w).alloc (Nat.le_refl _) o)
  cases b with
  | false =>
    have HD := Lib.hid (HN.out rfl)
    go_enter Try.func93, Try.ntmps93
    go_wp2_with fail
    refine (HK.out _).mono ?_
    rintro e w1 ⟨rfl, hb⟩
    obtain ⟨hcc, hff⟩ := bcell hb
    simp at hcc hff
    have hsz := hb.size
    simp at hsz
    have HB := Lib.hid ((HB0.out _).trans (hb.mono (HB0.out _).size))
    clear hb
    go_wp2_with fail
    refine bodyPost_ret (v := .tuple #[.agg #[.string ⟨#[]⟩, .bool false, .bool false, .slice none 0 0, .int .i64 0], .bool false]) (by simp [results, Try.results93, go_sem, hcc]) rfl ⟨_, rfl, ?_, ?_⟩
    · rw [HD.out]; exact owns_zero _ _ []
    · repeat (refine Below.setCell ?_ (by simp; try omega) _)
      exact HB.out
  | true =>
    have HD := Lib.hid (HY.out rfl)
    go_enter Try.func93, Try.ntmps93
    go_wp2_with fail
    refine (HK.out _).mono ?_
    rintro e w1 ⟨rfl, hb⟩
    obtain ⟨hcc, hff⟩ := bcell hb
    simp at hcc hff
    have hsz := hb.size
    simp at hsz
    have HB := Lib.hid ((HB0.out _).trans (hb.mono (HB0.out _).size))
    clear hb
    go_wp2_with fail
    refine bodyPost_ret (v := .tuple #[.agg #[.string ⟨l.toArray⟩, .bool false, .bool false, .slice none 0 0, .int .i64 0], .bool true]) (by simp [results, Try.results93, go_sem, hcc]) rfl ⟨_, rfl, ?_, ?_⟩
    · rw [HD.out]; exact owns_zero _ _ l
    · repeat (refine Below.setCell ?_ (by simp; try omega) _)
      exact HB.out
end Go.Proofs.Ytlkpinlkbikokaa
/- Contracts of chapter 4: NewPart, both sides; what marks do to a part without rows. -/
namespace Go.Proofs.Ytlkpinlkbikokaa
set_option linter.unusedVariables false
set_option linter.unusedSimpArgs false
open Go.RowKit
def nmK (l : List UInt8) : List UInt8 := if 0 ≤ kindI l then l else []
theorem newCore_is (l : List UInt8) : newCoreD l = ⟨nmK l, false, false, [], 0⟩ := by unfold newCoreD nmK; split <;> rfl
def vNP (l : List UInt8) (a : Option Addr) (c : Nat) : Value := .agg #[.string ⟨(nmK l).toArray⟩, .bool false, .bool false, .slice a 0 c, .int .i64 0, .slice none 0 0]
/-- the same, with the row of cells told as one's own -/
def GivesNPO (l : List UInt8) (w : World) (e : Ending) (w' : World) : Prop := ∃ a c, e = .returned (.tuple #[vNP l a c, .bool (decide (0 ≤ kindI l))]) ∧ OwnsF cCell 146 2 w' w.heap.size (.slice a 0 c) [] ∧ Below w.heap.size w w'
def GivesNP (l : List UInt8) (w : World) (e : Ending) (w' : World) : Prop := ∃ a c, e = .returned (.tuple #[vNP l a c, .bool (decide (0 ≤ kindI l))]) ∧ Below w.heap.size w w'
theorem flat_none {α : Type} (f : α → List Value) (k : Nat) (w : World) (a : Option Addr) (c : Nat) : FlatAt f k w (.slice a 0 c) ([] : List α) := ⟨a, c, by simp, by simp, Nat.zero_le _, Or.inl rfl⟩
theorem slice_none {α : Type} (R : Nat → World → List Value → α → Prop) (k F : Nat) (w : World) (a : Option Addr) (c : Nat) : SliceAt R k F w (.slice a 0 c) ([] : List α) := ⟨a, c, by simp, Nat.zero_le _, Or.inl rfl⟩
set_option maxRecDepth 100000 in
set_option maxHeartbeats 1600000 in
theorem implNewPart_own (s : ByteArray) (w : World) (hs : s.size ≤ 1048576) :
    Calls Try.prog 56 #[.string s] w fun e w' => GivesNPO s.data.toList w e w' := by
  have HC := Lib.hid (fun w0 => new_cells (implNewCore_any s w0 hs))
  have HS := Lib.hid (bx_start1 w [.string ⟨#[]⟩, .bool false, .bool false, .slice none 0 0, .int .i64 0, .slice none 0 0] 34)
  unfold GivesNPO vNP
  simp only [newCore_is, vCore] at HC
  generalize nmK s.data.toList = n at *
  generalize decide (0 ≤ kindI s.data.toList) = b at *
  clear hs
  go_enter Try.func56, Try.ntmps56
  go_wp2_with fail
  refine (HC.out _).mono ?_
  rintro e w1 ⟨cv, rfl, ho, hb⟩
  obtain ⟨a, c, rfl, _⟩ := flatAt_len (ownsF_at ho (by simp))
  have BN := Lib.hid (HS.out.1.below hb)
  have HB := Lib.hid (belS HS.out.2 hb)
  have OW := Lib.hid (ownsF_alloc (ownsF_put6 (ownsF_base (B' := w.heap.size + 1) ho (by simp)) w.heap.size (by omega) (.string ⟨n.toArray⟩) (.bool false) (.bool false) (.slice a 0 c) (.int .i64 0) (.slice none 0 0)) (.cells #[.string ⟨n.toArray⟩, .bool false, .bool false, .slice a 0 c, .int .i64 0] 31))
  clear ho hb
  have e0 := BN.out.cell 0 (by simp)
  have e1 := BN.out.cell 1 (by simp)
  have e2 := BN.out.cell 2 (by simp)
  have e3 := BN.out.cell 3 (by simp)
  have e4 := BN.out.cell 4 (by simp)
  have e5 := BN.out.cell 5 (by simp)
  have f0 := BN.out.froz 0 (by simp)
  have f1 := BN.out.froz 1 (by simp)
  have f2 := BN.out.froz 2 (by simp)
  have f3 := BN.out.froz 3 (by simp)
  have f4 := BN.out.froz 4 (by simp)
  have f5 := BN.out.froz 5 (by simp)
  have hl := BN.out.lt
  simp only [List.getElem_cons_zero, List.getElem_cons_succ] at e0 e1 e2 e3 e4 e5
  go_wp2_with fail
  clear e0 e1 e2 e3 e4 e5 f0 f1 f2 f3 f4 f5 hl
  have BN := Lib.hid (BN.out.set 0 (by simp) (.string ⟨n.toArray⟩))
  have HB := Lib.hid (HB.out.setCell (p := ⟨w.heap.size, 0, none⟩) (by simp) (.string ⟨n.toArray⟩))
  have BN := Lib.hid (BN.out.set 1 (by simp) (.bool false))
  have HB := Lib.hid (HB.out.setCell (p := ⟨w.heap.size, 1, none⟩) (by simp) (.bool false))
  have BN := Lib.hid (BN.out.set 2 (by simp) (.bool false))
  have HB := Lib.hid (HB.out.setCell (p := ⟨w.heap.size, 2, none⟩) (by simp) (.bool false))
  have BN := Lib.hid (BN.out.set 3 (by simp) (.slice a 0 c))
  have HB := Lib.hid (HB.out.setCell (p := ⟨w.heap.size, 3, none⟩) (by simp) (.slice a 0 c))
  have BN := Lib.hid (BN.out.set 4 (by simp) (.int .i64 0))
  have HB := Lib.hid (HB.out.setCell (p := ⟨w.heap.size, 4, none⟩) (by simp) (.int .i64 0))
  have BN := Lib.hid (BN.out.set 5 (by simp) (.slice none 0 0))
  have HB := Lib.hid (HB.out.setCell (p := ⟨w.heap.size, 5, none⟩) (by simp) (.slice none 0 0))
  have BN := Lib.hid (BN.out.alloc (.cells #[.string ⟨n.toArray⟩, .bool false, .bool false, .slice a 0 c, .int .i64 0] 31))
  have HB := Lib.hid (belS HB.out (bx_box _ (.cells #[.string ⟨n.toArray⟩, .bool false, .bool false, .slice a 0 c, .int .i64 0] 31)))
  simp only [List.set_cons_zero, List.set_cons_succ] at BN
  generalize (((((((w1).setCell ⟨w.heap.size, 0, none⟩ (.string ⟨n.toArray⟩)).setCell ⟨w.heap.size, 1, none⟩ (.bool false)).setCell ⟨w.heap.size, 2, none⟩ (.bool false)).setCell ⟨w.heap.size, 3, none⟩ (.slice a 0 c)).setCell ⟨w.heap.size, 4, none⟩ (.int .i64 0)).setCell ⟨w.heap.size, 5, none⟩ (.slice none 0 0)).alloc (.cells #[.string ⟨n.toArray⟩, .bool false, .bool false, .slice a 0 c, .int .i64 0] 31) = WE at *
  have e0 := BN.out.cell 0 (by simp)
  have e1 := BN.out.cell 1 (by simp)
  have e2 := BN.out.cell 2 (by simp)
  have e3 := BN.out.cell 3 (by simp)
  have e4 := BN.out.cell 4 (by simp)
  have e5 := BN.out.cell 5 (by simp)
  simp only [List.getElem_cons_zero, List.getElem_cons_succ] at e0 e1 e2 e3 e4 e5
  exact bodyPost_ret (v := .tuple #[.agg #[.string ⟨n.toArray⟩, .bool false, .bool false, .slice a 0 c, .int .i64 0, .slice none 0 0], .bool b]) (by simp [results, Try.results56, go_sem, e0, e1, e2, e3, e4, e5]) rfl ⟨a, c, rfl, ownsF_base OW.out (by omega), HB.out⟩
theorem implNewPart_any (s : ByteArray) (w : World) (hs : s.size ≤ 1048576) :
    Calls Try.prog 56 #[.string s] w fun e w' => GivesNP s.data.toList w e w' :=
  (implNewPart_own s w hs).mono fun e w' h => by
    obtain ⟨a, c, h1, _, h3⟩ := h
    exact ⟨a, c, h1, h3⟩
set_option maxRecDepth 100000 in
set_option maxHeartbeats 1600000 in
theorem specNewPart_own (s : ByteArray) (w : World) (hs : s.size ≤ 1048576) :
    Calls Try.prog 55 #[.string s] w fun e w' => GivesNPO s.data.toList w e w' := by
  have HC := Lib.hid (fun w0 => new_cells (specNewCore_any s w0 hs))
  have HS := Lib.hid (bx_start1 w [.string ⟨#[]⟩, .bool false, .bool false, .slice none 0 0, .int .i64 0, .slice none 0 0] 34)
  unfold GivesNPO vNP
  simp only [newCore_is, vCore] at HC
  generalize nmK s.data.toList = n at *
  generalize decide (0 ≤ kindI s.data.toList) = b at *
  clear hs
  go_enter Try.func55, Try.ntmps55
  go_wp2_with fail
  refine (HC.out _).mono ?_
  rintro e w1 ⟨cv, rfl, ho, hb⟩
  obtain ⟨a, c, rfl, _⟩ := flatAt_len (ownsF_at ho (by simp))
  have BN := Lib.hid (HS.out.1.below hb)
  have HB := Lib.hid (belS HS.out.2 hb)
  have OW := Lib.hid (ownsF_alloc (ownsF_put6 (ownsF_base (B' := w.heap.size + 1) ho (by simp)) w.heap.size (by omega) (.string ⟨n.toArray⟩) (.bool false) (.bool false) (.slice a 0 c) (.int .i64 0) (.slice none 0 0)) (.cells #[.string ⟨n.toArray⟩, .bool false, .bool false, .slice a 0 c, .int .i64 0] 31))
  clear ho hb
  have e0 := BN.out.cell 0 (by simp)
  have e1 := BN.out.cell 1 (by simp)
  have e2 := BN.out.cell 2 (by simp)
  have e3 := BN.out.cell 3 (by simp)
  have e4 := BN.out.cell 4 (by simp)
  have e5 := BN.out.cell 5 (by simp)
  have f0 := BN.out.froz 0 (by simp)
  have f1 := BN.out.froz 1 (by simp)
  have f2 := BN.out.froz 2 (by simp)
  have f3 := BN.out.froz 3 (by simp)
  have f4 := BN.out.froz 4 (by simp)
  have f5 := BN.out.froz 5 (by simp)
  have hl := BN.out.lt
  simp only [List.getElem_cons_zero, List.getElem_cons_succ] at e0 e1 e2 e3 e4 e5
  go_wp2_with fail
  clear e0 e1 e2 e3 e4 e5 f0 f1 f2 f3 f4 f5 hl
  have BN := Lib.hid (BN.out.set 0 (by simp) (.string ⟨n.toArray⟩))
  have HB := Lib.hid (HB.out.setCell (p := ⟨w.heap.size, 0, none⟩) (by simp) (.string ⟨n.toArray⟩))
  have BN := Lib.hid (BN.out.set 1 (by simp) (.bool false))
  have HB := Lib.hid (HB.out.setCell (p := ⟨w.heap.size, 1, none⟩) (by simp) (.bool false))
  have BN := Lib.hid (BN.out.set 2 (by simp) (.bool false))
  have HB := Lib.hid (HB.out.setCell (p := ⟨w.heap.size, 2, none⟩) (by simp) (.bool false))
  have BN := Lib.hid (BN.out.set 3 (by simp) (.slice a 0 c))
  have HB := Lib.hid (HB.out.setCell (p := ⟨w.heap.size, 3, none⟩) (by simp) (.slice a 0 c))
  have BN := Lib.hid (BN.out.set 4 (by simp) (.int .i64 0))
  have HB := Lib.hid (HB.out.setCell (p := ⟨w.heap.size, 4, none⟩) (by simp) (.int .i64 0))
  have BN := Lib.hid (BN.out.set 5 (by simp) (.slice none 0 0))
  have HB := Lib.hid (HB.out.setCell (p := ⟨w.heap.size, 5, none⟩) (by simp) (.slice none 0 0))
  have BN := Lib.hid (BN.out.alloc (.cells #[.string ⟨n.toArray⟩, .bool false, .bool false, .slice a 0 c, .int .i64 0] 31))
  have HB := Lib.hid (belS HB.out (bx_box _ (.cells #[.string ⟨n.toArray⟩, .bool false, .bool false, .slice a 0 c, .int .i64 0] 31)))
  simp only [List.set_cons_zero, List.set_cons_succ] at BN
  generalize (((((((w1).setCell ⟨w.heap.size, 0, none⟩ (.string ⟨n.toArray⟩)).setCell ⟨w.heap.size, 1, none⟩ (.bool false)).setCell ⟨w.heap.size, 2, none⟩ (.bool false)).setCell ⟨w.heap.size, 3, none⟩ (.slice a 0 c)).setCell ⟨w.heap.size, 4, none⟩ (.int .i64 0)).setCell ⟨w.heap.size, 5, none⟩ (.slice none 0 0)).alloc (.cells #[.string ⟨n.toArray⟩, .bool false, .bool false, .slice a 0 c, .int .i64 0] 31) = WE at *
  have e0 := BN.out.cell 0 (by simp)
  have e1 := BN.out.cell 1 (by simp)
  have e2 := BN.out.cell 2 (by simp)
  have e3 := BN.out.cell 3 (by simp)
  have e4 := BN.out.cell 4 (by simp)
  have e5 := BN.out.cell 5 (by simp)
  simp only [List.getElem_cons_zero, List.getElem_cons_succ] at e0 e1 e2 e3 e4 e5
  exact bodyPost_ret (v := .tuple #[.agg #[.string ⟨n.toArray⟩, .bool false, .bool false, .slice a 0 c, .int .i64 0, .slice none 0 0], .bool b]) (by simp [results, Try.results55, go_sem, e0, e1, e2, e3, e4, e5]) rfl ⟨a, c, rfl, ownsF_base OW.out (by omega), HB.out⟩
theorem specNewPart_any (s : ByteArray) (w : World) (hs : s.size ≤ 1048576) :
    Calls Try.prog 55 #[.string s] w fun e w' => GivesNP s.data.toList w e w' :=
  (specNewPart_own s w hs).mono fun e w' h => by
    obtain ⟨a, c, h1, _, h3⟩ := h
    exact ⟨a, c, h1, h3⟩
theorem np_at (l : List UInt8) (a : Option Addr) (c : Nat) (w : World) : ValAt rPart 0 w (vNP l a c) ⟨⟨nmK l, false, false, [], 0⟩, []⟩ := ⟨_, rfl, _, _, rfl, slice_none _ _ _ _ _ _, slice_none _ _ _ _ _ _⟩
set_option maxHeartbeats 400000 in
theorem markCells_none (a : Option Addr) (c : Nat) (k : Int) (w : World) : Calls Try.prog 69 #[.slice a 0 c, .int .i64 k] w fun e w' => e = .returned (.int .i64 k) ∧ w = w' := by
  go_enter Try.func69, Try.ntmps69
  go_wp2_with fail
  refine wp_loop_rounds 1 ?_
  rw [rounds_succ]
  go_wp2_with fail
  go_ret
  exact ⟨rfl, rfl⟩
set_option maxHeartbeats 400000 in
theorem markLayers_none (a : Option Addr) (c : Nat) (k : Int) (w : World) : Calls Try.prog 52 #[.slice a 0 c, .int .i64 k] w fun e w' => e = .returned (.int .i64 k) ∧ w = w' := by
  go_enter Try.func52, Try.ntmps52
  go_wp2_with fail
  refine wp_loop_rounds 1 ?_
  rw [rounds_succ]
  go_wp2_with fail
  go_ret
  exact ⟨rfl, rfl⟩
set_option maxHeartbeats 800000 in
theorem markNP_any (l : List UInt8) (a : Option Addr) (c : Nat) (k : Int) (w : World) : Calls Try.prog 14 #[vNP l a c, .int .i64 k] w fun e w' => e = .returned (.int .i64 k) ∧ Below w.heap.size w w' := by
  unfold vNP
  generalize nmK l = n at *
  have HC := Lib.hid (fun w1 => show Calls Try.prog 51 #[.agg #[.string ⟨n.toArray⟩, .bool false, .bool false, .slice a 0 c, .int .i64 0], .int .i64 k] w1 fun e w' => e = .returned (.int .i64 k) ∧ Below w1.heap.size w1 w' from by
    go_enter Try.func51, Try.ntmps51
    go_wp2_with fail
    refine (markCells_none a c k _).mono ?_
    rintro e w2 ⟨rfl, rfl⟩
    go_wp2_with fail
    go_ret
    exact ⟨rfl, bx_box w1 _⟩)
  have HS := Lib.hid (bx_start1 w [.string ⟨n.toArray⟩, .bool false, .bool false, .slice a 0 c, .int .i64 0, .slice none 0 0] 34)
  go_enter Try.func14, Try.ntmps14
  go_wp2_with fail
  refine (HC.out _).mono ?_
  rintro e w1 ⟨rfl, hb⟩
  have BN := Lib.hid (HS.out.1.below hb)
  have HB := Lib.hid (belS HS.out.2 hb)
  clear hb
  have e5 := BN.out.cell 5 (by simp)
  simp only [List.getElem_cons_zero, List.getElem_cons_succ] at e5
  go_wp2_with fail
  refine (markLayers_none none 0 k _).mono ?_
  rintro e w2 ⟨rfl, rfl⟩
  go_wp2_with fail
  go_ret
  exact ⟨rfl, HB.out⟩
set_option maxHeartbeats 800000 in
theorem heldNP_any (l : List UInt8) (a : Option Addr) (c : Nat) (w : World) : Calls Try.prog 15 #[vNP l a c, .int .i64 1] w fun e w' => e = .returned (.int .i64 1) ∧ Below w.heap.size w w' := by
  unfold vNP
  generalize nmK l = n at *
  have HC := Lib.hid (fun w1 => (heldCore_any (.agg #[.string ⟨n.toArray⟩, .bool false, .bool false, .slice a 0 c, .int .i64 0]) ⟨n, false, false, [], 0⟩ 0 1 w1 ⟨.slice a 0 c, rfl, flat_none _ _ _ _ _⟩ (by decide) (by decide) (by decide)).mono fun e w' h => (show e = .returned (.int .i64 1) ∧ Below w1.heap.size w1 w' from by simpa using h))
  have HL := Lib.hid (fun w1 => (heldLayerS_any (.slice none 0 0) 0 1 w1 (flat_none _ _ _ _ _) (by decide) (by decide) (by decide)).mono fun e w' h => (show e = .returned (.int .i64 1) ∧ Below w1.heap.size w1 w' from by simpa using h))
  have HS := Lib.hid (bx_start1 w [.string ⟨n.toArray⟩, .bool false, .bool false, .slice a 0 c, .int .i64 0, .slice none 0 0] 34)
  go_enter Try.func15, Try.ntmps15
  go_wp2_with fail
  refine (HC.out _).mono ?_
  rintro e w1 ⟨rfl, hb⟩
  have BN := Lib.hid (HS.out.1.below hb)
  have HB := Lib.hid (belS HS.out.2 hb)
  clear hb
  have e5 := BN.out.cell 5 (by simp)
  simp only [List.getElem_cons_zero, List.getElem_cons_succ] at e5
  go_wp2_with fail
  refine (HL.out _).mono ?_
  rintro e w2 ⟨rfl, hb⟩
  have HB := Lib.hid (belS HB.out hb)
  clear hb
  go_wp2_with fail
  go_ret
  exact ⟨rfl, HB.out⟩
end Go.Proofs.Ytlkpinlkbikokaa
/- Recipes made, in plain words. -/
namespace Go.Proofs.Ytlkpinlkbikokaa
set_option linter.unusedVariables false
set_option linter.unusedSimpArgs false
open Go.RowKit
def zeroP : PartD := ⟨⟨[], false, false, [], 0⟩, []⟩
def newP (k : List UInt8) : PartD := ⟨⟨k, false, false, [], 0⟩, []⟩
def makeGo : PartD → List (List UInt8) → PartD × ReplyD
  | p, [] => (p, ⟨0, faceP p, [], 0, 0⟩)
  | p, s :: r => if wrapI p s = 0 then makeGo (wrapP p s) r else (zeroP, wrapR p s)
def makePR : List (List UInt8) → PartD × ReplyD
  | [] => (zeroP, ⟨7, 0, [], 0, 0⟩)
  | k :: r => if 0 ≤ kindI k then makeGo (newP k) r else (zeroP, ⟨7, 0, [], 0, 0⟩)
theorem makeGo_stop {p : PartD} {s : List UInt8} {r : List (List UInt8)} (h : ¬ wrapI p s = 0) : makeGo p (s :: r) = (zeroP, wrapR p s) := if_neg h
theorem makeGo_on {p : PartD} {s : List UInt8} {r : List (List UInt8)} (h : wrapI p s = 0) : makeGo p (s :: r) = makeGo (wrapP p s) r := if_pos h
theorem ownsF_nil {α : Type} (f : α → List Value) (E k : Nat) (w : World) (B : Nat) : OwnsF f E k w B (.slice none 0 0) [] := ⟨by simp, Or.inl ⟨rfl, rfl⟩⟩
theorem wrapP_core (p : PartD) (s : List UInt8) : (wrapP p s).fCore = p.fCore := by unfold wrapP; split <;> rfl
theorem newP_small {k : List UInt8} (h : k.length ≤ 1048576) : SmallP (newP k) := smallP_of (by unfold zPart zCore newP; simp [sumF]; exact h)
theorem zeroP_small : SmallP zeroP := smallP_of (by decide)
theorem makeGo_small (r : List (List UInt8)) : ∀ {p : PartD}, SmallP p → SmallP (makeGo p r).1 := by
  induction r with
  | nil => intro p h; exact h
  | cons s r ih =>
    intro p h
    by_cases hw : wrapI p s = 0
    · rw [makeGo_on hw]; exact ih (wrapP_small h s)
    · rw [makeGo_stop hw]; exact zeroP_small
theorem makePR_small {l : List (List UInt8)} (h : ∀ s ∈ l, s.length ≤ 1048576) : SmallP (makePR l).1 := by
  cases l with
  | nil => exact zeroP_small
  | cons k r =>
    by_cases hk : 0 ≤ kindI k
    · rw [makePR, if_pos hk]; exact makeGo_small r (newP_small (h k (List.mem_cons_self ..)))
    · rw [makePR, if_neg hk]; exact zeroP_small
theorem makeGo_val (r : List (List UInt8)) : ∀ {p : PartD}, (makeGo p r).2.fCode = 0 → (makeGo p r).2.fValue = faceP (makeGo p r).1 := by
  induction r with
  | nil => intro p h; rfl
  | cons s r ih =>
    intro p h
    by_cases hw : wrapI p s = 0
    · rw [makeGo_on hw] at h ⊢; exact ih h
    · rw [makeGo_stop hw] at h; exact absurd h hw
theorem makePR_val {l : List (List UInt8)} : (makePR l).2.fCode = 0 → (makePR l).2.fValue = faceP (makePR l).1 := by
  cases l with
  | nil => intro h; cases h
  | cons k r =>
    by_cases hk : 0 ≤ kindI k
    · rw [makePR, if_pos hk]; exact makeGo_val r
    · rw [makePR, if_neg hk]; intro h; cases h
def recB (l : List (List UInt8)) : Bool := decide ((makePR l).2.fCode = 0)
def recI (l : List (List UInt8)) : Int := if (makePR l).2.fCode = 0 then faceP (makePR l).1 else 0
/-- the state of the loop: the part so far, in a variable of its own -/
structure MkSt (w : World) (b4 : Nat) (p : PartD) (wr : World) : Prop where
  small : SmallP p
  bare : p.fCore.fCells = []
  part : ∃ cs, Bx wr b4 cs ∧ oPart wr (w.heap.size + 1 + 1) cs p
  r2 : Bx wr w.heap.size [.string ⟨#[]⟩, .bool false, .bool false, .slice none 0 0, .int .i64 0, .slice none 0 0]
  r3 : Bx wr (w.heap.size + 1) [.int .i64 0, .int .i64 0, .string ⟨#[]⟩, .int .i64 0, .int .i64 0]
  below : Below w.heap.size w wr
end Go.Proofs.Ytlkpinlkbikokaa
namespace Go.Proofs.Ytlkpinlkbikokaa
set_option linter.unusedVariables false
set_option linter.unusedSimpArgs false
open Go.RowKit
def needOk (nm : List UInt8) (d : NeedD) : Bool := needB d && !(d.fFrom == nm)
def needsB (x : EntryD) : Bool := decide (x.fNeeds.length ≤ 3) && x.fNeeds.all (needOk x.fName)
def headB (x : EntryD) : Bool := nameB x.fName && verB x.fVersion && needsB x
def entryB (x : EntryD) : Bool := headB x && recB x.fRecipe
def entryI (x : EntryD) : Int := if headB x = true then recI x.fRecipe else 0
end Go.Proofs.Ytlkpinlkbikokaa
