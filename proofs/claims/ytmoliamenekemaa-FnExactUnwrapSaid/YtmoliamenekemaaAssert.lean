/- One-valued assertions to interface types: where the methods are there, and where one is missing (a panic). -/
import Derived.Test.YtmoliamenekemaaLaw
import Derived.Stop.Asserts
namespace Go.Proofs.Ytmoliamenekemaa
set_option linter.unusedVariables false
open Go.RowKit
section
variable {P : Program} {t xT asserted E : TypeId} {want : Array (String × TypeId)}
theorem ta_has (hu : P.underlying asserted = some (.interface want)) (h : (P.info? t).map (fun i => (lacking want i.methods).isEmpty) = some true)
    (v : Value) (xT : TypeId) (w : World) : (Instr.typeAssert (.iface t v) xT asserted false).run P w = .ok (.iface t v) w := by
  obtain ⟨i, hi, hl⟩ := Option.map_eq_some_iff.1 h
  simp [Instr.typeAssert, run_underlying hu, typeInfo, hi, missingMethod_none (List.isEmpty_iff.1 hl)]
theorem ta_lacks (hu : P.underlying asserted = some (.interface want)) (h : (P.info? t).map (fun i => (lacking want i.methods).isEmpty) = some false) (hE : P.underlying P.rt.typeAssertionError = some (.pointer E)) :
    ∃ c : Array Value, ∀ (v : Value) (xT : TypeId) (w : World), (Instr.typeAssert (.iface t v) xT asserted false).run P w = .halt (.panic (.iface P.rt.typeAssertionError (.pointer (some ⟨w.heap.size, 0, none⟩)))) (w.alloc (.cells c E)) := by
  obtain ⟨i, hi, hl⟩ := Option.map_eq_some_iff.1 h
  obtain ⟨m, hm⟩ := missingMethod_some (want := want) (got := i.methods) (fun e => by rw [e] at hl; cases hl)
  refine ⟨#[.pointer none, typeHandle P t, typeHandle P asserted, strVal m], fun v xT w => ?_⟩
  simp [Instr.typeAssert, run_underlying hu, typeInfo, hi, hm, runtimePanic, elemOf, run_underlying hE, newVar, newRow, Value.cells, goPanic]

end
theorem cell_set_at {w : World} {b o : Nat} {u : Value} (hb : (w.cell? ⟨b, o, none⟩).isSome = true) : (w.setCell ⟨b, o, none⟩ u).cell? ⟨b, o, none⟩ = some u := by
  obtain ⟨x, hx⟩ := Option.isSome_iff_exists.1 hb
  exact World.cell?_setCell_same w _ _ hx
theorem cell_set_ne {w : World} {b i j : Nat} {u : Value} (h : i ≠ j) : (w.setCell ⟨b, i, none⟩ u).cell? ⟨b, j, none⟩ = w.cell? ⟨b, j, none⟩ := World.cell?_setCell_other (a := ⟨b, i, none⟩) (b := ⟨b, j, none⟩) (h := fun e => h (by injection e)) ..
theorem rtE : ∃ E, Try.prog.underlying Try.prog.rt.typeAssertionError = some (.pointer E) := ⟨176, by kernel_rfl⟩
def Has (I T : TypeId) : Prop := ∀ (v : Value) (xT : TypeId) (w : World), (Instr.typeAssert (.iface T v) xT I false).run Try.prog w = .ok (.iface T v) w
def Fails (I T : TypeId) : Prop := ∃ (c : Array Value) (E : TypeId), ∀ (v : Value) (xT : TypeId) (w : World), (Instr.typeAssert (.iface T v) xT I false).run Try.prog w = .halt (.panic (.iface Try.prog.rt.typeAssertionError (.pointer (some ⟨w.heap.size, 0, none⟩)))) (w.alloc (.cells c E))
theorem fails_of {I T : TypeId} {want : Array (String × TypeId)} (hu : Try.prog.underlying I = some (.interface want)) (h : (Try.prog.info? T).map (fun i => (lacking want i.methods).isEmpty) = some false) : Fails I T := by
  obtain ⟨E, hE⟩ := rtE
  obtain ⟨c, hc⟩ := ta_lacks (t := T) hu h hE
  exact ⟨c, E, hc⟩
def Panics (w : World) (e : Ending) (w' : World) : Prop := ∃ pv, e = .panicked [{ v := .iface Try.prog.rt.typeAssertionError pv, recovered := false }] ∧ Below w.heap.size w w'
end Go.Proofs.Ytmoliamenekemaa
