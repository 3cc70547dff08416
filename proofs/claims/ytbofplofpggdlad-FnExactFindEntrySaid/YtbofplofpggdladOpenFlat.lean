/- Arguments opened: flat structs. Written by gen/openflat.py. -/
import Derived.Test.YtbofplofpggdladOpen
import Derived.Test.YtbofplofpggdladTCall
import Derived.Test.YtbofplofpggdladTReply
import Derived.Test.YtbofplofpggdladTLayer
import Derived.Test.YtbofplofpggdladTVersion
namespace Go.Proofs.Ytbofplofpggdlad
set_option linter.unusedVariables false
open Go.ChangeShapes Go.WideShapes Go.ChangeAt Go.RowKit Go.WideMaps Go.WideElems
open Go.Deep
section
variable {H : Type} {enc : TypeId × Value → H} {W : World}
set_option maxRecDepth 100000 in
theorem open_Version {n : Nat} {cs : List Value} {x : DataW H × List MemPlace} (h : DataW.trod enc Try.prog W 0 (fun _ => true) true n 24 cs = some x) : ∃ d : VersionD, cs = cVersion d ∧ okVersion d := by
  obtain ⟨xs, m, rfl, _, hl, hn, hf⟩ := DataW.trod_struct Try.underlying24 h
  rw [show Try.prog.cellsOf 24 = 2 by kernel_rfl] at hl
  obtain ⟨c0, c1, rfl⟩ := two_of hl
  obtain ⟨y0, k0⟩ := field_one hn hf 0 _ 3 0 _ _ rfl rfl rfl (by kernel_rfl) rfl
  obtain ⟨y1, k1⟩ := field_one hn hf 1 _ 3 1 _ _ rfl rfl rfl (by kernel_rfl) rfl
  obtain ⟨l0, rfl, b0⟩ := leaf_int Try.underlying3 k0
  obtain ⟨l1, rfl, b1⟩ := leaf_int Try.underlying3 k1
  exact ⟨⟨l0, l1⟩, rfl, b0, b1⟩
set_option maxRecDepth 100000 in
theorem arg_Version {base : Nat} {v : Value} {d : DataW H} {p : List MemPlace} (hval : Value.okWide Try.prog W .any base 24 v) (h : DataW.Trod enc Try.prog W 0 (fun _ => true) true 24 v d p) : ∃ d : VersionD, v = vVersion d ∧ okVersion d := by
  obtain ⟨cs, rfl, _⟩ := okWide_struct Try.underlying24 hval
  obtain ⟨fuel, hf⟩ := h
  obtain ⟨d, h1, h2⟩ := open_Version hf
  refine ⟨d, ?_, h2⟩
  simp only [Value.cells] at h1
  unfold vVersion
  congr 1
  exact Array.toList_inj.1 h1
end
end Go.Proofs.Ytbofplofpggdlad
