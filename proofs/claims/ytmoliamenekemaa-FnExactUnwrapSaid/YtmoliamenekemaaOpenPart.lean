/- Arguments opened: parts. -/
import Derived.Test.YtmoliamenekemaaOpenCore
import Derived.Test.YtmoliamenekemaaOpenLayer
import Derived.Test.YtmoliamenekemaaOpenDeep
import Derived.Test.YtmoliamenekemaaDPart
namespace Go.Proofs.Ytmoliamenekemaa
set_option linter.unusedVariables false
open Go.ChangeShapes Go.WideShapes Go.ChangeAt Go.RowKit Go.WideMaps Go.WideElems
open Go.Deep
theorem belPart {w w' : World} {cs : List Value} {x : PartD} {F B : Nat} (h : rPart F w cs x) (hb : Below B w w') (hB : w.heap.size ≤ B) : rPart F w' cs x := goodPart.keep h (kept_below hb hB)
theorem six_of {α : Type} {l : List α} (h : l.length = 6) : ∃ a b c d e f, l = [a, b, c, d, e, f] := by match l, h with | [a, b, c, d, e, f], _ => exact ⟨a, b, c, d, e, f, rfl⟩
section
variable {H : Type} {enc : TypeId × Value → H} {W : World}
set_option maxRecDepth 100000 in
theorem openR_Part {n : Nat} {cs : List Value} {x : DataW H × List MemPlace} (h : DataW.trod enc Try.prog W 0 (fun _ => true) true n 27 cs = some x) : ∃ d : PartD, rPart 0 W cs d ∧ okPart d := by
  obtain ⟨xs, m, rfl, _, hl, hn, hf⟩ := DataW.trod_struct Try.underlying27 h
  rw [show Try.prog.cellsOf 27 = 6 by kernel_rfl] at hl
  obtain ⟨c0, c1, c2, c3, c4, c5, rfl⟩ := six_of hl
  obtain ⟨y0, k0⟩ := field_at hn hf 0 _ rfl
  have k0 : DataW.trod enc Try.prog W 0 (fun _ => true) true m 24 [c0, c1, c2, c3, c4] = some y0 := by
    have e : Try.prog.cellsOf 24 = 5 := by kernel_rfl
    simpa [e] using k0
  obtain ⟨y1, k1⟩ := field_one hn hf 1 _ 25 5 _ _ rfl rfl rfl (by kernel_rfl) rfl
  obtain ⟨d, cv, e0, b0, g0⟩ := open_Core k0
  obtain ⟨l1, b1, g1⟩ := openS_Layer k1
  injection e0 with e0 e1
  injection e1 with e1 e2
  injection e2 with e2 e3
  injection e3 with e3 e4
  injection e4 with e4 _
  subst e0 e1 e2 e3 e4
  exact ⟨⟨d, l1⟩, ⟨c3, c5, rfl, sliceAt_of_flat cCell_len b0, sliceAt_of_flat cLayer_len b1⟩, g0, g1⟩
set_option maxRecDepth 100000 in
theorem arg_Part {base : Nat} {v : Value} {d : DataW H} {p : List MemPlace} (hval : Value.okWide Try.prog W .any base 27 v) (h : DataW.Trod enc Try.prog W 0 (fun _ => true) true 27 v d p) : ∃ d : PartD, ValAt rPart 0 W v d ∧ okPart d := by
  obtain ⟨cs, rfl, _⟩ := okWide_struct Try.underlying27 hval
  obtain ⟨fuel, hf⟩ := h
  obtain ⟨d, h1, h2⟩ := openR_Part hf
  exact ⟨d, ⟨cs.toList, by simp, h1⟩, h2⟩
end
end Go.Proofs.Ytmoliamenekemaa
