/- What the walks of the exact laws use: rows of one's own in a range of blocks; what is marked; the law's own variables. -/
import Derived.Test.YtmoliamenekemaaFlat
import Derived.Deep.CutRange
namespace Go.Proofs.Ytmoliamenekemaa
set_option linter.unusedVariables false
open Go.RowKit
theorem below_step {w X w' : World} (h : Below w.heap.size w X) (hb : Below X.heap.size X w') : Below w.heap.size w w' := h.trans (hb.mono h.size)
theorem belA {w X : World} (h : Below w.heap.size w X) (o : Obj) : Below w.heap.size w (X.alloc o) := h.alloc h.size o
theorem allocK {X : World} {b o : Nat} {v : Value} (hlt : b < X.heap.size) (h : X.cell? ⟨b, o, none⟩ = some v) (ob : Obj) : (X.alloc ob).cell? ⟨b, o, none⟩ = some v :=
  (((Below.refl X.heap.size X).alloc (Nat.le_refl _) ob).cell (p := ⟨b, o, none⟩) hlt).trans h
theorem below_le {w X w' : World} (h : Below w.heap.size w X) (hb : Below X.heap.size X w') : w.heap.size ≤ X.heap.size := h.size
theorem below_to {w w1 X : World} (h : Below w.heap.size w w1) (hb : Below w1.heap.size w1 X) : Below w.heap.size w X := h.trans (hb.mono h.size)
theorem belD {B : Nat} {a w : World} (h : Below B a w) : Below B a w.drew := ⟨h.os, h.tape, h.output, h.size, h.block⟩
theorem belN {B : Nat} {a w : World} (h : Below B a w) (n : Nat) : Below B a (w.drewN n) := ⟨h.os, h.tape, h.output, h.size, h.block⟩
theorem maxlen_at {w w1 X : World} {n : Nat} {u : Value} (h : Below w.heap.size w w1) (hlt : n < w.heap.size) (hm : w.cell? ⟨n, 0, none⟩ = some u) (hb : Below w1.heap.size w1 X) : X.cell? ⟨n, 0, none⟩ = some u :=
  ((below_to h hb).cell (p := ⟨n, 0, none⟩) hlt).trans hm
theorem below_of_eq {P : Program} {f : FuncId} {args : Array Value} {w : World} {v : Value} (h : Calls P f args w fun e w' => e = .returned v ∧ w = w') : Calls P f args w fun e w' => e = .returned v ∧ Below w.heap.size w w' :=
  h.mono fun _ _ ⟨h1, h2⟩ => ⟨h1, by subst h2; exact Below.refl _ _⟩
theorem ownsF_all {α : Type} {f : α → List Value} {E k : Nat} {w w' : World} {B : Nat} {v : Value} {l : List α} (h : OwnsF f E k w B v l) (hb : Below w.heap.size w w') : OwnsF f E k w' B v l := ownsF_below h hb (Nat.le_refl _)
theorem below_list1 {w w1 : World} (h : Below w.heap.size w w1) : Below w.heap.size w w1 := h
theorem below_list2 {w w1 w2 : World} (h : Below w.heap.size w w1) (h2 : Below w1.heap.size w1 w2) : Below w.heap.size w w2 := h.trans (h2.mono h.size)
/-- nothing but blocks from lo on and below hi has turned -/
structure Betw (lo hi : Nat) (w w' : World) : Prop where
  os : w'.os = w.os
  tape : w'.tape = w.tape
  output : w'.output = w.output
  size : w.heap.size ≤ w'.heap.size
  block : ∀ k, k < w.heap.size → (k < lo ∨ hi ≤ k) → w'.heap[k]? = w.heap[k]?
theorem betw_below {lo hi : Nat} {c w w' : World} (h : Below c.heap.size c w) (hb : Betw lo hi w w') (hB : c.heap.size ≤ lo) : Below c.heap.size c w' :=
  h.trans ⟨hb.os, hb.tape, hb.output, hb.size, fun k hk => hb.block k (by have := h.size; omega) (Or.inl (by omega))⟩
theorem betw_cell {lo hi : Nat} {w w' : World} (hb : Betw lo hi w w') (n o : Nat) (hlt : n < w.heap.size) (hr : n < lo ∨ hi ≤ n) : w'.cell? ⟨n, o, none⟩ = w.cell? ⟨n, o, none⟩ :=
  World.cell?_of_block (hb.block n hlt hr)
def OwnR {α : Type} (f : α → List Value) (E k : Nat) (w : World) (lo hi : Nat) (v : Value) (l : List α) : Prop := OwnsF f E k w lo v l ∧ ∀ g, v.ownBlock = some g → g < hi
theorem ownR_of {α : Type} {f : α → List Value} {E k : Nat} {w : World} {lo : Nat} {v : Value} {l : List α} (h : OwnsF f E k w lo v l) : OwnR f E k w lo w.heap.size v l := ⟨h, fun g hg => (World.ownsRow.lt h g hg).2⟩
theorem ownR_below {α : Type} {f : α → List Value} {E k : Nat} {w w' : World} {lo hi B' : Nat} {v : Value} {l : List α} (h : OwnR f E k w lo hi v l) (hb : Below B' w w') (hB : w.heap.size ≤ B') : OwnR f E k w' lo hi v l := ⟨ownsF_below h.1 hb hB, h.2⟩
theorem ownR_at {α : Type} {f : α → List Value} {E k : Nat} {w : World} {lo hi : Nat} {v : Value} {l : List α} (h : OwnR f E k w lo hi v l) (hm : l.length ≤ 4194304) : FlatAt f k w v l := ownsF_at h.1 hm
theorem ownR_betw {α : Type} {f : α → List Value} {E k : Nat} {w w' : World} {lo hi lo2 hi2 : Nat} {v : Value} {l : List α} (h : OwnR f E k w lo hi v l) (hb : Betw lo2 hi2 w w') (hd : hi ≤ lo2 ∨ hi2 ≤ lo) : OwnR f E k w' lo hi v l := by
  refine ⟨⟨h.1.1, ?_⟩, h.2⟩
  rcases h.1.2 with h1 | ⟨g, cap, cur, rfl, h2, h3, h4⟩
  · exact Or.inl h1
  · have hg := h.2 g rfl
    exact Or.inr ⟨g, cap, cur, rfl, h2, (hb.block g (Array.getElem?_eq_some_iff.1 h3).1 (by omega)).trans h3, h4⟩
theorem own_lo {α : Type} {f : α → List Value} {E k : Nat} {w : World} {B : Nat} {v : Value} {l : List α} (ho : OwnsF f E k w B v l) : ∃ L, L = B ∧ OwnsF f E k w L v l := ⟨B, rfl, ho⟩
theorem mark_range {α : Type} {f : α → List Value} {E k : Nat} {P : Program} {F : FuncId} {args : Array Value} {w : World} {lo hi : Nat} {v : Value} {l l' : List α} {r : Ending} (hO : OwnR f E k w lo hi v l)
    (h : Calls P F args w fun e w' => e = r ∧ OwnsF f E k w' lo v l' ∧ w.grownBy w' v.ownBlock) : Calls P F args w fun e w' => e = r ∧ OwnR f E k w' lo hi v l' ∧ Betw lo hi w w' :=
  h.mono fun e w' ⟨h1, h2, h3⟩ => ⟨h1, ⟨h2, hO.2⟩, ⟨h3.os, h3.tape, h3.output, h3.size, fun k hk hr => h3.block k hk (fun e => by
    have a := (World.ownsRow.lt hO.1 k e.symm).1
    have b := hO.2 k e.symm
    omega)⟩⟩
end Go.Proofs.Ytmoliamenekemaa
