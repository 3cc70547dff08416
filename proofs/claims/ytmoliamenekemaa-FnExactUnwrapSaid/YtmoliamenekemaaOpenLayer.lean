/- Arguments opened: flat structs. Written by gen/openflat.py. -/
import Derived.Test.YtmoliamenekemaaOpen
import Derived.Test.YtmoliamenekemaaTLayer
namespace Go.Proofs.Ytmoliamenekemaa
set_option linter.unusedVariables false
open Go.ChangeShapes Go.WideShapes Go.ChangeAt Go.RowKit Go.WideMaps Go.WideElems
open Go.Deep
section
variable {H : Type} {enc : TypeId × Value → H} {W : World}
set_option maxRecDepth 100000 in
theorem open_Layer {n : Nat} {cs : List Value} {x : DataW H × List MemPlace} (h : DataW.trod enc Try.prog W 0 (fun _ => true) true n 88 cs = some x) : ∃ d : LayerD, cs = cLayer d ∧ okLayer d := by
  obtain ⟨xs, m, rfl, _, hl, hn, hf⟩ := DataW.trod_struct Try.underlying88 h
  rw [show Try.prog.cellsOf 88 = 2 by kernel_rfl] at hl
  obtain ⟨c0, c1, rfl⟩ := two_of hl
  obtain ⟨y0, k0⟩ := field_one hn hf 0 _ 9 0 _ _ rfl rfl rfl (by kernel_rfl) rfl
  obtain ⟨y1, k1⟩ := field_one hn hf 1 _ 3 1 _ _ rfl rfl rfl (by kernel_rfl) rfl
  obtain ⟨l0, rfl, b0⟩ := leaf_str Try.underlying9 k0
  obtain ⟨l1, rfl, b1⟩ := leaf_int Try.underlying3 k1
  exact ⟨⟨l0, l1⟩, rfl, b0, b1⟩
set_option maxRecDepth 100000 in
theorem arg_Layer {base : Nat} {v : Value} {d : DataW H} {p : List MemPlace} (hval : Value.okWide Try.prog W .any base 88 v) (h : DataW.Trod enc Try.prog W 0 (fun _ => true) true 88 v d p) : ∃ d : LayerD, v = vLayer d ∧ okLayer d := by
  obtain ⟨cs, rfl, _⟩ := okWide_struct Try.underlying88 hval
  obtain ⟨fuel, hf⟩ := h
  obtain ⟨d, h1, h2⟩ := open_Layer hf
  refine ⟨d, ?_, h2⟩
  simp only [Value.cells] at h1
  unfold vLayer
  congr 1
  exact Array.toList_inj.1 h1
set_option maxRecDepth 100000 in
theorem openS_Layer {n : Nat} {v : Value} {x : DataW H × List MemPlace} (h : DataW.trod enc Try.prog W 0 (fun _ => true) true n 25 [v] = some x) : ∃ l : List LayerD, FlatAt cLayer 2 W v l ∧ ∀ d ∈ l, okLayer d :=
  haveI : Inhabited LayerD := ⟨⟨[], 0⟩⟩
  open_flat cLayer_len (by decide) Try.underlying25 (by kernel_rfl) (fun _ _ _ h => open_Layer h) h
set_option maxRecDepth 100000 in
theorem argS_Layer {base : Nat} {v : Value} {d : DataW H} {p : List MemPlace} (hval : Value.okWide Try.prog W .any base 25 v) (h : DataW.Trod enc Try.prog W 0 (fun _ => true) true 25 v d p) : ∃ l : List LayerD, FlatAt cLayer 2 W v l ∧ ∀ d ∈ l, okLayer d := by
  obtain ⟨a1, len, cap, rfl⟩ := okWide_slice Try.underlying25 hval
  obtain ⟨fuel, hf⟩ := h
  exact openS_Layer hf
end
end Go.Proofs.Ytmoliamenekemaa
