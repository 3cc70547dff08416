/- A variable of two numbers in a block of its own: how it reads behind calls and stores. -/
import Derived.Test.YtbofplofpggdlaaVer1
import Derived.Test.YtbofplofpggdlaaFlat
import Derived.Deep.AppendLies
namespace Go.Proofs.Ytbofplofpggdlaa
set_option linter.unusedVariables false
open Go.RowKit
/-- a variable of two numbers -/
structure Var2 (w : World) (b : Nat) (x y : Int) : Prop where
  lt : b < w.heap.size
  c0 : w.cell? ⟨b, 0, none⟩ = some (.int .i64 x)
  c1 : w.cell? ⟨b, 1, none⟩ = some (.int .i64 y)
  f0 : w.frozen? ⟨b, 0, none⟩ = false
  f1 : w.frozen? ⟨b, 1, none⟩ = false
theorem Var2.below {w w' : World} {b : Nat} {x y : Int} (h : Var2 w b x y) (hb : Below w.heap.size w w') : Var2 w' b x y :=
  ⟨Nat.lt_of_lt_of_le h.lt hb.size, (hb.cell (p := ⟨b, 0, none⟩) h.lt).trans h.c0, (hb.cell (p := ⟨b, 1, none⟩) h.lt).trans h.c1, (hb.frozen (p := ⟨b, 0, none⟩) h.lt).trans h.f0, (hb.frozen (p := ⟨b, 1, none⟩) h.lt).trans h.f1⟩
theorem Var2.alloc {w : World} {b : Nat} {x y : Int} (h : Var2 w b x y) (o : Obj) : Var2 (w.alloc o) b x y := h.below (box1 w o)
theorem Var2.new (w : World) (x y : Int) (t : TypeId) : Var2 (w.alloc (.cells #[.int .i64 x, .int .i64 y] t)) w.heap.size x y := ⟨by simp, by simp, by simp, by simp, by simp⟩
theorem bel_to {w w1 X : World} (h : Below w.heap.size w w1) (hb : Below w1.heap.size w1 X) : Below w.heap.size w X := h.trans (hb.mono h.size)
theorem belDr {B : Nat} {a w : World} (h : Below B a w) : Below B a w.drew := ⟨h.os, h.tape, h.output, h.size, h.block⟩
theorem Var2.drw {w : World} {b : Nat} {x y : Int} (h : Var2 w b x y) : Var2 w.drew b x y := ⟨h.lt, h.c0, h.c1, h.f0, h.f1⟩
theorem set_ne {w : World} {b c i j : Nat} {u : Value} (h : b ≠ c ∨ i ≠ j) : (w.setCell ⟨c, j, none⟩ u).cell? ⟨b, i, none⟩ = w.cell? ⟨b, i, none⟩ :=
  World.cell?_setCell_other (a := ⟨c, j, none⟩) (b := ⟨b, i, none⟩) (h := fun e => by injection e with e1 e2; rcases h with h | h <;> omega) ..
theorem set_at {w : World} {b i : Nat} {u x : Value} (h : w.cell? ⟨b, i, none⟩ = some x) : (w.setCell ⟨b, i, none⟩ u).cell? ⟨b, i, none⟩ = some u := World.cell?_setCell_same' w ⟨b, i, none⟩ u (by rw [h]; rfl)
theorem Var2.set {w : World} {b : Nat} {x y : Int} (h : Var2 w b x y) (x' y' : Int) : Var2 ((w.setCell ⟨b, 0, none⟩ (.int .i64 x')).setCell ⟨b, 1, none⟩ (.int .i64 y')) b x' y' := by
  obtain ⟨h1, h2, h3, h4, h5⟩ := h
  refine ⟨by simpa using h1, ?_, ?_, ?_, ?_⟩
  · rw [set_ne (Or.inr (by decide)), set_at h2]
  · exact set_at ((set_ne (Or.inr (by decide))).trans h3)
  · simpa using h4
  · simpa using h5
theorem Var2.other {w : World} {b c : Nat} {x y : Int} (h : Var2 w b x y) (hne : b ≠ c) (x' y' : Int) : Var2 ((w.setCell ⟨c, 0, none⟩ (.int .i64 x')).setCell ⟨c, 1, none⟩ (.int .i64 y')) b x y := by
  obtain ⟨h1, h2, h3, h4, h5⟩ := h
  refine ⟨by simpa using h1, ?_, ?_, ?_, ?_⟩
  · rw [set_ne (Or.inl hne), set_ne (Or.inl hne)]; exact h2
  · rw [set_ne (Or.inl hne), set_ne (Or.inl hne)]; exact h3
  · simpa using h4
  · simpa using h5
theorem Var2.grown {w w' : World} {b : Nat} {x y : Int} (h : Var2 w b x y) {r : Option Nat} (hg : w.grownBy w' r) (hne : some b ≠ r) : Var2 w' b x y :=
  ⟨Nat.lt_of_lt_of_le h.lt hg.size, (hg.cell_far ⟨b, 0, none⟩ h.lt hne).trans h.c0, (hg.cell_far ⟨b, 1, none⟩ h.lt hne).trans h.c1, (hg.frozen_far ⟨b, 0, none⟩ h.lt hne).trans h.f0, (hg.frozen_far ⟨b, 1, none⟩ h.lt hne).trans h.f1⟩
theorem Var2.set0 {w : World} {b : Nat} {x y : Int} (h : Var2 w b x y) (x' : Int) : Var2 (w.setCell ⟨b, 0, none⟩ (.int .i64 x')) b x' y := by
  obtain ⟨h1, h2, h3, h4, h5⟩ := h
  exact ⟨by simpa using h1, set_at h2, (set_ne (Or.inr (by decide))).trans h3, by simpa using h4, by simpa using h5⟩
theorem Var2.set1 {w : World} {b : Nat} {x y : Int} (h : Var2 w b x y) (y' : Int) : Var2 (w.setCell ⟨b, 1, none⟩ (.int .i64 y')) b x y' := by
  obtain ⟨h1, h2, h3, h4, h5⟩ := h
  exact ⟨by simpa using h1, (set_ne (Or.inr (by decide))).trans h2, set_at h3, by simpa using h4, by simpa using h5⟩
theorem Var2.one {w : World} {b c : Nat} {x y : Int} (h : Var2 w b x y) (hne : b ≠ c) (i : Nat) (u : Value) : Var2 (w.setCell ⟨c, i, none⟩ u) b x y := by
  obtain ⟨h1, h2, h3, h4, h5⟩ := h
  exact ⟨by simpa using h1, (set_ne (Or.inl hne)).trans h2, (set_ne (Or.inl hne)).trans h3, by simpa using h4, by simpa using h5⟩
end Go.Proofs.Ytbofplofpggdlaa
