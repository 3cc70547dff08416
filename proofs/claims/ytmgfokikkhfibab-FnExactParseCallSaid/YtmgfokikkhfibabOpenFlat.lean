/- Arguments opened: flat structs. Written by gen/openflat.py. -/
import Derived.Test.YtmgfokikkhfibabOpen
import Derived.Test.YtmgfokikkhfibabTCall
import Derived.Test.YtmgfokikkhfibabTReply
import Derived.Test.YtmgfokikkhfibabTLayer
import Derived.Test.YtmgfokikkhfibabTVersion
namespace Go.Proofs.Ytmgfokikkhfibab
set_option linter.unusedVariables false
open Go.ChangeShapes Go.WideShapes Go.ChangeAt Go.RowKit Go.WideMaps Go.WideElems
open Go.Deep
section
variable {H : Type} {enc : TypeId × Value → H} {W : World}
theorem open_Call {n : Nat} {cs : List Value} {x : DataW H × List MemPlace} (h : DataW.trod enc Try.prog W 0 (fun _ => true) true n 25 cs = some x) : ∃ d : CallD, cs = cCall d ∧ okCall d := by
  obtain ⟨xs, m, rfl, _, hl, hn, hf⟩ := DataW.trod_struct Try.underlying25 h
  rw [show Try.prog.cellsOf 25 = 4 by kernel_rfl] at hl
  obtain ⟨c0, c1, c2, c3, rfl⟩ := four_of hl
  obtain ⟨y0, k0⟩ := field_one hn hf 0 _ 9 0 _ _ rfl rfl rfl (by kernel_rfl) rfl
  obtain ⟨y1, k1⟩ := field_one hn hf 1 _ 9 1 _ _ rfl rfl rfl (by kernel_rfl) rfl
  obtain ⟨y2, k2⟩ := field_one hn hf 2 _ 3 2 _ _ rfl rfl rfl (by kernel_rfl) rfl
  obtain ⟨y3, k3⟩ := field_one hn hf 3 _ 9 3 _ _ rfl rfl rfl (by kernel_rfl) rfl
  obtain ⟨l0, rfl, b0⟩ := leaf_str Try.underlying9 k0
  obtain ⟨l1, rfl, b1⟩ := leaf_str Try.underlying9 k1
  obtain ⟨l2, rfl, b2⟩ := leaf_int Try.underlying3 k2
  obtain ⟨l3, rfl, b3⟩ := leaf_str Try.underlying9 k3
  exact ⟨⟨l0, l1, l2, l3⟩, rfl, b0, b1, b2, b3⟩
theorem arg_Call {base : Nat} {v : Value} {d : DataW H} {p : List MemPlace} (hval : Value.okWide Try.prog W .any base 25 v) (h : DataW.Trod enc Try.prog W 0 (fun _ => true) true 25 v d p) : ∃ d : CallD, v = vCall d ∧ okCall d := by
  obtain ⟨cs, rfl, _⟩ := okWide_struct Try.underlying25 hval
  obtain ⟨fuel, hf⟩ := h
  obtain ⟨d, h1, h2⟩ := open_Call hf
  refine ⟨d, ?_, h2⟩
  simp only [Value.cells] at h1
  unfold vCall
  congr 1
  exact Array.toList_inj.1 h1
theorem open_Reply {n : Nat} {cs : List Value} {x : DataW H × List MemPlace} (h : DataW.trod enc Try.prog W 0 (fun _ => true) true n 46 cs = some x) : ∃ d : ReplyD, cs = cReply d ∧ okReply d := by
  obtain ⟨xs, m, rfl, _, hl, hn, hf⟩ := DataW.trod_struct Try.underlying46 h
  rw [show Try.prog.cellsOf 46 = 5 by kernel_rfl] at hl
  obtain ⟨c0, c1, c2, c3, c4, rfl⟩ := five_of hl
  obtain ⟨y0, k0⟩ := field_one hn hf 0 _ 3 0 _ _ rfl rfl rfl (by kernel_rfl) rfl
  obtain ⟨y1, k1⟩ := field_one hn hf 1 _ 3 1 _ _ rfl rfl rfl (by kernel_rfl) rfl
  obtain ⟨y2, k2⟩ := field_one hn hf 2 _ 9 2 _ _ rfl rfl rfl (by kernel_rfl) rfl
  obtain ⟨y3, k3⟩ := field_one hn hf 3 _ 3 3 _ _ rfl rfl rfl (by kernel_rfl) rfl
  obtain ⟨y4, k4⟩ := field_one hn hf 4 _ 3 4 _ _ rfl rfl rfl (by kernel_rfl) rfl
  obtain ⟨l0, rfl, b0⟩ := leaf_int Try.underlying3 k0
  obtain ⟨l1, rfl, b1⟩ := leaf_int Try.underlying3 k1
  obtain ⟨l2, rfl, b2⟩ := leaf_str Try.underlying9 k2
  obtain ⟨l3, rfl, b3⟩ := leaf_int Try.underlying3 k3
  obtain ⟨l4, rfl, b4⟩ := leaf_int Try.underlying3 k4
  exact ⟨⟨l0, l1, l2, l3, l4⟩, rfl, b0, b1, b2, b3, b4⟩
theorem arg_Reply {base : Nat} {v : Value} {d : DataW H} {p : List MemPlace} (hval : Value.okWide Try.prog W .any base 46 v) (h : DataW.Trod enc Try.prog W 0 (fun _ => true) true 46 v d p) : ∃ d : ReplyD, v = vReply d ∧ okReply d := by
  obtain ⟨cs, rfl, _⟩ := okWide_struct Try.underlying46 hval
  obtain ⟨fuel, hf⟩ := h
  obtain ⟨d, h1, h2⟩ := open_Reply hf
  refine ⟨d, ?_, h2⟩
  simp only [Value.cells] at h1
  unfold vReply
  congr 1
  exact Array.toList_inj.1 h1
end
end Go.Proofs.Ytmgfokikkhfibab
