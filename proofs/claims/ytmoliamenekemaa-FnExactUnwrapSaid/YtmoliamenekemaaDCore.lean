/- Core: how it reads, and what the laws' own helpers do with it. Written by gen/deep.py. -/
import Derived.Test.YtmoliamenekemaaRep
import Derived.Test.YtmoliamenekemaaTCoreE
namespace Go.Proofs.Ytmoliamenekemaa
set_option linter.unusedVariables false
set_option linter.unusedSimpArgs false
open Go.RowKit
def rCore : Nat → World → List Value → CoreD → Prop := fun F w cs x => ∃ v3, cs = [.string ⟨x.fKind.toArray⟩, .bool x.fOn, .bool x.fBroken, v3, .int .i64 x.fCount] ∧ SliceAt (rFlat cCell) 2 F w v3 x.fCells
theorem goodCore : Good rCore 5 := by
  refine ⟨?_, ?_, ?_⟩
  · rintro F w cs x ⟨v3, rfl, h3⟩; rfl
  · rintro F w w' cs x ⟨v3, rfl, h3⟩ hk; exact ⟨v3, rfl, h3.keep (good_flat cCell_len) hk⟩
  · rintro F F' w cs x ⟨v3, rfl, h3⟩ hF; exact ⟨v3, rfl, h3.mono (good_flat cCell_len) hF⟩
theorem coreAt_of {F : Nat} {w : World} {cs : List Value} {x : CoreD} (h : rCore F w cs x) : CoreAt w (.agg cs.toArray) x := by
  obtain ⟨v0, rfl, h0⟩ := h
  exact ⟨v0, rfl, flatAt_of_slice cCell_len (by decide) h0⟩
theorem ofCoreAt {w : World} {v : Value} {x : CoreD} (h : CoreAt w v x) : ValAt rCore 0 w v x := by
  obtain ⟨cv, rfl, h⟩ := h
  exact ⟨_, rfl, cv, rfl, sliceAt_of_flat cCell_len h⟩
theorem toCore_d (v : Value) (x : CoreD) (w : World) (hx : ValAt rCore 0 w v x) (hm : zCore x ≤ 2097152) : Calls Try.prog 38 #[v] w fun e w' => GivesV rCore x w e w' := by
  obtain ⟨cs, rfl, h⟩ := hx
  refine (toCore_any _ x w (coreAt_of h) (by unfold zCore at hm; omega)).mono ?_
  rintro e w' ⟨v, rfl, ⟨cv, rfl, ho⟩, hb⟩
  exact ⟨_, rfl, ⟨cv, rfl, sliceAt_of_owns cCell_len ho (by unfold zCore at hm; omega)⟩, hb⟩
theorem szCore_d (v : Value) (x : CoreD) (left : Int) (w : World) (hx : ValAt rCore 0 w v x) (hk : okCore x) (h0 : 0 ≤ left) (h1 : left ≤ 1099511627776) : Calls Try.prog 32 #[v, .int .i64 left] w fun e w' => SzF (zCore x) left w e w' := by
  obtain ⟨cs, rfl, h⟩ := hx
  exact szCore_any _ x left w (coreAt_of h) h0 h1 hk.1 hk.2.1
theorem eqCore_d (v u : Value) (x y : CoreD) (w : World) (hx : ValAt rCore 0 w v x) (hy : ValAt rCore 0 w u y) : Calls Try.prog 46 #[v, u] w fun e w' => e = .returned (.bool (decide (x = y))) ∧ Below w.heap.size w w' := by
  obtain ⟨cs, rfl, h⟩ := hx
  obtain ⟨cs2, rfl, h2⟩ := hy
  exact eqCore_any _ _ x y w (coreAt_of h) (coreAt_of h2)
end Go.Proofs.Ytmoliamenekemaa
