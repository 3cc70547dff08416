/- Arguments opened: needs. -/
import Derived.Test.YtbofplofpggdladOpenFlat
import Derived.Test.YtbofplofpggdladTNeed
namespace Go.Proofs.Ytbofplofpggdlad
set_option linter.unusedVariables false
open Go.ChangeShapes Go.WideShapes Go.ChangeAt Go.RowKit Go.WideMaps Go.WideElems
open Go.Deep
section
variable {H : Type} {enc : TypeId × Value → H} {W : World}
set_option maxRecDepth 100000 in
theorem open_Need {n : Nat} {cs : List Value} {x : DataW H × List MemPlace} (h : DataW.trod enc Try.prog W 0 (fun _ => true) true n 63 cs = some x) : ∃ d : NeedD, cs = cNeed d ∧ okNeed d := by
  obtain ⟨xs, m, rfl, _, hl, hn, hf⟩ := DataW.trod_struct Try.underlying63 h
  rw [show Try.prog.cellsOf 63 = 4 by kernel_rfl] at hl
  obtain ⟨c0, c1, c2, c3, rfl⟩ := four_of hl
  obtain ⟨y0, k0⟩ := field_one hn hf 0 _ 3 0 _ _ rfl rfl rfl (by kernel_rfl) rfl
  obtain ⟨y1, k1⟩ := field_one hn hf 1 _ 9 1 _ _ rfl rfl rfl (by kernel_rfl) rfl
  obtain ⟨y2, k2⟩ := field_at hn hf 2 _ rfl
  have k2 : DataW.trod enc Try.prog W 0 (fun _ => true) true m 24 [c2, c3] = some y2 := by
    have e : Try.prog.cellsOf 24 = 2 := by kernel_rfl
    simpa [e] using k2
  obtain ⟨l0, rfl, b0⟩ := leaf_int Try.underlying3 k0
  obtain ⟨l1, rfl, b1⟩ := leaf_str Try.underlying9 k1
  obtain ⟨⟨v0, v1⟩, e2, b2, b3⟩ := open_Version k2
  simp only [cVersion] at e2
  injection e2 with e2 e3
  injection e3 with e3 _
  subst e2 e3
  exact ⟨⟨l0, l1, v0, v1⟩, rfl, b0, b1, b2, b3⟩
set_option maxRecDepth 100000 in
theorem arg_Need {base : Nat} {v : Value} {d : DataW H} {p : List MemPlace} (hval : Value.okWide Try.prog W .any base 63 v) (h : DataW.Trod enc Try.prog W 0 (fun _ => true) true 63 v d p) : ∃ d : NeedD, v = vNeed d ∧ okNeed d := by
  obtain ⟨cs, rfl, _⟩ := okWide_struct Try.underlying63 hval
  obtain ⟨fuel, hf⟩ := h
  obtain ⟨d, h1, h2⟩ := open_Need hf
  refine ⟨d, ?_, h2⟩
  simp only [Value.cells] at h1
  unfold vNeed
  congr 1
  exact Array.toList_inj.1 h1
end
end Go.Proofs.Ytbofplofpggdlad
