/- Arguments opened: slices of entries. -/
import Derived.Test.YtbofplofpggdladOpenNeedS
import Derived.Test.YtbofplofpggdladOpenDeep
import Derived.Test.YtbofplofpggdladDEntry
namespace Go.Proofs.Ytbofplofpggdlad
set_option linter.unusedVariables false
open Go.ChangeShapes Go.WideShapes Go.ChangeAt Go.RowKit Go.WideMaps Go.WideElems
open Go.Deep
section
variable {H : Type} {enc : TypeId × Value → H} {W : World}
theorem openS_Str {n : Nat} {v : Value} {x : DataW H × List MemPlace} (h : DataW.trod enc Try.prog W 0 (fun _ => true) true n 22 [v] = some x) : ∃ l : List (List UInt8), FlatAt cStr 1 W v l ∧ ∀ s ∈ l, s.length ≤ maxLen :=
  open_flat cStr_len (by decide) Try.underlying22 (by kernel_rfl) (fun n cs x h => by
    have h2 := h
    obtain ⟨s, h1, _, h3⟩ := DataW.trod_string Try.underlying9 h2
    exact ⟨s.data.toList, by rw [h1]; simp [cStr, strV], by rw [Array.length_toList]; exact h3⟩) h
set_option maxRecDepth 100000 in
theorem openR_Entry {n : Nat} {cs : List Value} {x : DataW H × List MemPlace} (h : DataW.trod enc Try.prog W 0 (fun _ => true) true n 27 cs = some x) : ∃ d : EntryD, rEntry 0 W cs d ∧ okEntry d := by
  obtain ⟨xs, m, rfl, _, hl, hn, hf⟩ := DataW.trod_struct Try.underlying27 h
  rw [show Try.prog.cellsOf 27 = 5 by kernel_rfl] at hl
  obtain ⟨c0, c1, c2, c3, c4, rfl⟩ := five_of hl
  obtain ⟨y0, k0⟩ := field_one hn hf 0 _ 9 0 _ _ rfl rfl rfl (by kernel_rfl) rfl
  obtain ⟨y1, k1⟩ := field_one hn hf 1 _ 22 1 _ _ rfl rfl rfl (by kernel_rfl) rfl
  obtain ⟨y2, k2⟩ := field_at hn hf 2 _ rfl
  have k2 : DataW.trod enc Try.prog W 0 (fun _ => true) true m 24 [c2, c3] = some y2 := by
    have e : Try.prog.cellsOf 24 = 2 := by kernel_rfl
    simpa [e] using k2
  obtain ⟨y3, k3⟩ := field_one hn hf 3 _ 25 4 _ _ rfl rfl rfl (by kernel_rfl) rfl
  obtain ⟨l0, rfl, b0⟩ := leaf_str Try.underlying9 k0
  obtain ⟨l1, b1, g1⟩ := openS_Str k1
  obtain ⟨⟨v0, v1⟩, e2, b2, b3⟩ := open_Version k2
  obtain ⟨l4, b4, g4⟩ := openS_Need k3
  simp only [cVersion] at e2
  injection e2 with e2 e3
  injection e3 with e3 _
  subst e2 e3
  exact ⟨⟨l0, l1, ⟨v0, v1⟩, l4⟩, ⟨c1, c4, rfl, sliceAt_of_flat cStr_len b1, sliceAt_of_flat cNeed_len b4⟩, b0, g1, ⟨b2, b3⟩, g4⟩
set_option maxRecDepth 100000 in
theorem argS_Entry {base : Nat} {v : Value} {d : DataW H} {p : List MemPlace} (hval : Value.okWide Try.prog W .any base 37 v) (h : DataW.Trod enc Try.prog W 0 (fun _ => true) true 37 v d p) : ∃ l : List EntryD, SliceAt rEntry 5 0 W v l ∧ ∀ d ∈ l, okEntry d := by
  obtain ⟨a1, len, cap, rfl⟩ := okWide_slice Try.underlying37 hval
  obtain ⟨fuel, hf⟩ := h
  haveI : Inhabited EntryD := ⟨⟨[], [], ⟨0, 0⟩, []⟩⟩
  exact open_deep goodEntry (by decide) Try.underlying37 (by kernel_rfl) (fun _ _ _ h => openR_Entry h) hf
end
end Go.Proofs.Ytbofplofpggdlad
