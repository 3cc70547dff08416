/- the model's l4Copy -/
import Derived.Test.YtcpbikilgacdlaaGreatCthM0
import Derived.StillTailTactics
import Derived.Deep.AppendLies
import Derived.Recover
import Derived.Defers
import Derived.Deep.RegionLaw
namespace Go.Proofs.YtcpbikilgacdlaaGreat
set_option linter.unusedVariables false
open Go.RowKit
structure Held where
 own : Nat → Prop
 P : World → Prop
 keep : ∀ {w w' : World} {r : Option Nat}, P w → w.grownBy w' r → (∀ g, r = some g → ¬ own g) → P w'
 lt : ∀ {w : World} {g : Nat}, P w → own g → g < w.heap.size
def hRow {α : Type} (f : α → List Value) (E k B : Nat) (v : Value) (l : List α) : Held :=
 ⟨fun g => v.ownBlock = some g, fun w => OwnsF f E k w B v l, fun {w w' r} h hg hne => World.ownsRow.kept h hg (by
  cases hv : v.ownBlock with
  | none => exact Or.inl rfl
  | some g => exact Or.inr fun e => hne g e.symm hv), fun {w g} h hg => (World.ownsRow.lt h g hg).2⟩
structure Bag (w : World) (N b : Nat) (v : Value) (l : List UInt8) (bs : List (Nat × List Value)) (rs : List Held) (wx : World) : Prop where
 os : wx.os = w.os
 tape : wx.tape = w.tape
 output : wx.output = w.output
 size : w.heap.size ≤ wx.heap.size
 block : ∀ k, k < N → k ≠ b → wx.heap[k]? = w.heap[k]?
 nw : N ≤ w.heap.size
 code : l = [] ∨ ∀ a n c, v = .slice (some a) n c → a.block < N
 cur : Cur wx b v l
 box : ∀ p ∈ bs, Bx wx p.1 p.2
 row : ∀ r ∈ rs, r.P wx
 geB : ∀ p ∈ bs, N ≤ p.1 ∧ p.1 ≠ b
 geR : ∀ r ∈ rs, ∀ g, r.own g → N ≤ g ∧ b < g
 sep : ∀ p ∈ bs, ∀ r ∈ rs, ¬ r.own p.1
 dis : bs.Pairwise (fun p q => p.1 ≠ q.1)
 rdis : rs.Pairwise (fun r s => ∀ g, r.own g → ¬ s.own g)
section
variable {w : World} {N b : Nat} {v : Value} {l : List UInt8} {bs : List (Nat × List Value)} {rs : List Held} {wx : World}
theorem Bag.grown (h : Bag w w.heap.size b v l bs rs wx) : w.grownBy wx (some b) := ⟨h.os, h.tape, h.output, h.size, fun k hk hne => h.block k hk (fun e => hne (by rw [e]))⟩
theorem Bag.bel (h : Bag w N b v l bs rs wx) (hb : N ≤ b) : Below N w wx := ⟨h.os, h.tape, h.output, h.size, fun k hk => h.block k hk (by omega)⟩
theorem bag_start (hC : Cur w b v l) : Bag w w.heap.size b v l [] [] w := by
 refine ⟨rfl, rfl, rfl, Nat.le_refl _, fun _ _ _ => rfl, Nat.le_refl _, ?_, hC, by simp, by simp, by simp, by simp, by simp, List.Pairwise.nil, List.Pairwise.nil⟩
 obtain ⟨_, _, hT, _, _, a, c, rfl, hr⟩ := hC
 refine hr.imp id ?_
 rintro ⟨cb, o, rfl, h1, _⟩ a' n' c' e
 injection e with e; injection e with e; subst e
 have := hT.lt; simp only; omega
theorem bag_code {w : World} {v : Value} {l : List UInt8} (hR : RowAt w v (Lib.byteCells l)) : l = [] ∨ ∀ a n c, v = .slice (some a) n c → a.block < w.heap.size := by
 obtain ⟨a, c, rfl, _, hr⟩ := hR
 rw [Lib.byteCells_length] at *
 rcases hr with h | ⟨b, o, rfl, h1, _⟩
 ·left; cases l with
  | nil => rfl
  | cons x r => simp [Lib.byteCells] at h
 ·right; intro a' n' c' e
  injection e with e; injection e with e; subst e; exact h1
theorem bag_new {w w1 w2 : World} {b : Nat} {v : Value} {l : List UInt8} {bs : List (Nat × List Value)} (hw1 : Below w.heap.size w w1) (hbs : ∀ p ∈ bs, Bx w1 p.1 p.2 ∧ w.heap.size ≤ p.1) (hd : bs.Pairwise (fun p q => p.1 ≠ q.1)) (hb : w1.heap.size ≤ b) (hB : Below w1.heap.size w1 w2) (hC : Cur w2 b v l)
  (hc : l = [] ∨ ∀ a n c, v = .slice (some a) n c → a.block < w.heap.size) : Bag w w.heap.size b v l bs [] w2 := by
 have h2 := belS hw1 hB
 refine ⟨h2.os, h2.tape, h2.output, h2.size, fun k hk _ => h2.block k hk, Nat.le_refl _, hc, hC, fun p hp => (hbs p hp).1.below hB, by simp, fun p hp => ⟨(hbs p hp).2, fun e => ?_⟩, by simp, by simp, hd, List.Pairwise.nil⟩
 have := (hbs p hp).1.lt; omega
theorem Bag.draw {w' : World} (h : Bag w N b v l bs rs wx) (hg : wx.grownBy w' (some b)) (hC : Cur w' b v l) : Bag w N b v l bs rs w' :=
 ⟨hg.os.trans h.os, hg.tape.trans h.tape, hg.output.trans h.output, Nat.le_trans h.size hg.size, fun k hk hne => (hg.block k (Nat.lt_of_lt_of_le (Nat.lt_of_lt_of_le hk h.nw) h.size) (fun e => hne (by injection e))).trans (h.block k hk hne), h.nw, h.code, hC,
  fun p hp => bx_gr (h.box p hp) hg (h.geB p hp).2, fun r hr => r.keep (h.row r hr) hg (fun g e => by injection e with e; subst e; intro ho; have := (h.geR r hr _ ho).2; omega), h.geB, h.geR, h.sep, h.dis, h.rdis⟩
theorem Bag.below {w' : World} (h : Bag w N b v l bs rs wx) (hb : Below wx.heap.size wx w') : Bag w N b v l bs rs w' :=
 ⟨hb.os.trans h.os, hb.tape.trans h.tape, hb.output.trans h.output, Nat.le_trans h.size hb.size, fun k hk hne => (hb.block k (Nat.lt_of_lt_of_le (Nat.lt_of_lt_of_le hk h.nw) h.size)).trans (h.block k hk hne), h.nw, h.code, h.cur.below hb h.cur.lt,
  fun p hp => (h.box p hp).below hb, fun r hr => r.keep (r := none) (h.row r hr) ⟨hb.os, hb.tape, hb.output, hb.size, fun k hk _ => hb.block k hk⟩ (by simp), h.geB, h.geR, h.sep, h.dis, h.rdis⟩
theorem Bag.drew (h : Bag w N b v l bs rs wx) : Bag w N b v l bs rs wx.drew := h.below ((Below.refl _ _).drew)
theorem Bag.past (h : Bag w N b v l bs rs wx) (o : Obj) : Bag w N b v l bs rs (wx.alloc o) := h.below (bx_box _ o)
theorem Bag.var (h : Bag w N b v l bs rs wx) (cs : List Value) (t : TypeId) : Bag w N b v l ((wx.heap.size, cs) :: bs) rs (wx.alloc (.cells cs.toArray t)) := by
 have h1 := h.past (.cells cs.toArray t)
 have hn : N ≤ wx.heap.size := Nat.le_trans h.nw h.size
 have hc := h.cur.lt
 refine ⟨h1.os, h1.tape, h1.output, h1.size, h1.block, h1.nw, h1.code, h1.cur, ?_, h1.row, ?_, h.geR, ?_, ?_, h.rdis⟩
 ·intro p hp
  rcases List.mem_cons.1 hp with rfl | hp
  ·exact Bx.new wx cs t
  ·exact h1.box p hp
 ·intro p hp
  rcases List.mem_cons.1 hp with rfl | hp
  ·exact ⟨hn, by simp only; omega⟩
  ·exact h.geB p hp
 ·intro p hp r hr ho
  rcases List.mem_cons.1 hp with rfl | hp
  ·have := r.lt (h.row r hr) ho; simp only at this; omega
  ·exact h.sep p hp r hr ho
 ·refine List.pairwise_cons.2 ⟨fun p hp e => ?_, h.dis⟩
  have := (h.box p hp).lt
  simp only at e; omega
theorem Bag.hold {F : Nat} (h : Bag w N b v l bs rs wx) (r : Held) (hP : r.P wx) (hF : ∀ g, r.own g → F ≤ g) (hw : w.heap.size ≤ F) (hb : b < F) (hbs : ∀ p ∈ bs, p.1 < F) (hrs : ∀ s ∈ rs, ∀ g, s.own g → g < F) : Bag w N b v l bs (r :: rs) wx := by
 refine ⟨h.os, h.tape, h.output, h.size, h.block, h.nw, h.code, h.cur, h.box, ?_, h.geB, ?_, ?_, h.dis, ?_⟩
 ·intro s hs
  rcases List.mem_cons.1 hs with rfl | hs
  ·exact hP
  ·exact h.row s hs
 ·intro s hs g hg
  rcases List.mem_cons.1 hs with rfl | hs
  ·have := hF g hg; have := h.nw; omega
  ·exact h.geR s hs g hg
 ·intro p hp s hs ho
  rcases List.mem_cons.1 hs with rfl | hs
  ·have := hF _ ho; have := hbs p hp; omega
  ·exact h.sep p hp s hs ho
 ·refine List.pairwise_cons.2 ⟨fun s hs g hg hg2 => ?_, h.rdis⟩
  have := hF g hg; have := hrs s hs g hg2; omega
theorem Bag.sizes (h : Bag w N b v l bs rs wx) : w.heap.size ≤ wx.heap.size ∧ b < wx.heap.size ∧ (∀ p ∈ bs, p.1 < wx.heap.size) ∧ (∀ s ∈ rs, ∀ g, s.own g → g < wx.heap.size) :=
 ⟨h.size, h.cur.lt, fun p hp => (h.box p hp).lt, fun s hs g hg => s.lt (h.row s hs) hg⟩
theorem Bag.made {w' : World} (h : Bag w N b v l bs rs wx) (hb : Below wx.heap.size wx w') (r : Held) (hP : r.P w') (hF : ∀ g, r.own g → wx.heap.size ≤ g) : Bag w N b v l bs (r :: rs) w' :=
 (h.below hb).hold r hP hF h.sizes.1 h.sizes.2.1 h.sizes.2.2.1 h.sizes.2.2.2
theorem Bag.less {bs' : List (Nat × List Value)} {rs' : List Held} (h : Bag w N b v l bs rs wx) (h1 : bs'.Sublist bs) (h2 : rs'.Sublist rs) : Bag w N b v l bs' rs' wx :=
 ⟨h.os, h.tape, h.output, h.size, h.block, h.nw, h.code, h.cur, fun p hp => h.box p (h1.subset hp), fun r hr => h.row r (h2.subset hr), fun p hp => h.geB p (h1.subset hp), fun r hr => h.geR r (h2.subset hr), fun p hp r hr => h.sep p (h1.subset hp) r (h2.subset hr), h.dis.sublist h1, h.rdis.sublist h2⟩
theorem Bag.set {B j : Nat} {cs : List Value} (h : Bag w N b v l bs rs wx) (i : Nat) (hi : bs[i]? = some (B, cs)) (hj : j < cs.length) (u : Value) : Bag w N b v l (bs.set i (B, cs.set j u)) rs (wx.setCell ⟨B, j, none⟩ u) := by
 obtain ⟨hlt, he⟩ := List.getElem?_eq_some_iff.1 hi
 have hm : (B, cs) ∈ bs := by rw [← he]; exact List.getElem_mem hlt
 have hB := h.geB _ hm
 simp only at hB
 have hk : wx.grownBy (wx.setCell ⟨B, j, none⟩ u) (some B) := ⟨rfl, rfl, rfl, by simp, fun k hk hne => Below.heap_setCell wx ⟨B, j, none⟩ u k (fun e => hne (by rw [e]))⟩
 have hne : ∀ p ∈ bs.set i (B, cs.set j u), (p = (B, cs.set j u)) ∨ (p ∈ bs ∧ p.1 ≠ B) := by
  intro p hp
  obtain ⟨k, hk, rfl⟩ := List.mem_iff_getElem.1 hp
  rw [List.length_set] at hk
  by_cases hki : k = i
  ·subst hki; left; simp
  ·right
   rw [List.getElem_set_ne (by omega)]
   refine ⟨List.getElem_mem hk, fun e => ?_⟩
   have hd := List.pairwise_iff_getElem.1 h.dis
   have e2 : (bs[i]).1 = B := by rw [he]
   rcases Nat.lt_or_ge k i with hlt2 | hge
   ·exact hd k i hk hlt hlt2 (by rw [e, e2])
   ·exact hd i k hlt hk (by omega) (by rw [e, e2])
 have hfst : (bs.set i (B, cs.set j u)).map Prod.fst = bs.map Prod.fst := by
  rw [List.map_set]
  refine List.ext_getElem (by simp) fun k h1 h2 => ?_
  rw [List.getElem_set]
  split
  ·rename_i e; subst e; simp [he]
  ·rfl
 refine ⟨h.os, h.tape, h.output, by simpa using h.size, ?_, h.nw, h.code, ?_, ?_, ?_, ?_, h.geR, ?_, ?_, h.rdis⟩
 ·intro k hk1 hk2
  rw [Below.heap_setCell wx ⟨B, j, none⟩ u k (fun e => by simp only at e; omega)]
  exact h.block k hk1 hk2
 ·obtain ⟨i0, h0, hT, h3, h4, a, c, e, hr⟩ := h.cur
  refine ⟨i0, h0, hT.grown hk (by omega), h3, h4, a, c, e, hr.imp id ?_⟩
  rintro ⟨cb, o, e1, e2, e3⟩
  refine ⟨cb, o, e1, e2, fun k hk1 => ?_⟩
  rw [← e3 k hk1]
  refine bx_set_ne (Or.inl ?_)
  rcases h.code with h5 | h5
  ·subst h5; simp at hk1
  ·have := h5 ⟨cb, o, none⟩ _ _ (by rw [e, e1]); simp only at this; omega
 ·intro p hp
  rcases hne p hp with rfl | ⟨h1, h2⟩
  ·exact (h.box _ hm).set j hj u
  ·exact (h.box p h1).other h2 j u
 ·intro r hr
  exact r.keep (h.row r hr) hk (fun g e => by injection e with e; subst e; exact h.sep _ hm r hr)
 ·intro p hp
  rcases hne p hp with rfl | ⟨h1, h2⟩
  ·exact hB
  ·exact h.geB p h1
 ·intro p hp r hr
  rcases hne p hp with rfl | ⟨h1, h2⟩
  ·exact h.sep _ hm r hr
  ·exact h.sep p h1 r hr
 ·have : (bs.map Prod.fst).Pairwise (· ≠ ·) := List.pairwise_map.2 h.dis
  rw [← hfst] at this
  exact List.pairwise_map.1 this
theorem Bag.app {α : Type} {f : α → List Value} {E k B : Nat} {u u' : Value} {x y : List α} {w' : World} (h : Bag w N b v l bs rs wx) (i : Nat) (hi : rs[i]? = some (hRow f E k B u x)) (hg : wx.grownBy w' u.ownBlock) (ho : OwnsF f E k w' B u' y) (hne : ∀ c, c < wx.heap.size → u.ownBlock ≠ some c → u'.ownBlock ≠ some c) :
  Bag w N b v l bs (rs.set i (hRow f E k B u' y)) w' := by
 obtain ⟨hlt, he⟩ := List.getElem?_eq_some_iff.1 hi
 have hm : hRow f E k B u x ∈ rs := by rw [← he]; exact List.getElem_mem hlt
 have hge : ∀ g, u.ownBlock = some g → N ≤ g ∧ b < g := fun g e => h.geR _ hm g e
 have hcl := h.cur.lt
 have hns : N ≤ wx.heap.size := Nat.le_trans h.nw h.size
 have hne2 : ∀ s ∈ rs.set i (hRow f E k B u' y), (s = hRow f E k B u' y) ∨ (s ∈ rs ∧ ∀ g, s.own g → ¬ (hRow f E k B u x).own g) := by
  intro s hs
  obtain ⟨j, hj, rfl⟩ := List.mem_iff_getElem.1 hs
  rw [List.length_set] at hj
  by_cases hji : j = i
  ·subst hji; left; simp
  ·right
   rw [List.getElem_set_ne (by omega)]
   refine ⟨List.getElem_mem hj, fun g h1 h2 => ?_⟩
   have hd := List.pairwise_iff_getElem.1 h.rdis
   rcases Nat.lt_or_ge j i with hlt2 | hge2
   ·exact hd j i hj hlt hlt2 g h1 (by rw [he]; exact h2)
   ·exact hd i j hlt hj (by omega) g (by rw [he]; exact h2) h1
 have hnew : ∀ g, (hRow f E k B u' y).own g → (u.ownBlock = some g) ∨ wx.heap.size ≤ g := by
  intro g hg2
  by_cases h1 : g < wx.heap.size
  ·left
   refine Classical.byContradiction fun h2 => ?_
   exact hne g h1 h2 hg2
  ·right; omega
 refine ⟨hg.os.trans h.os, hg.tape.trans h.tape, hg.output.trans h.output, Nat.le_trans h.size hg.size, ?_, h.nw, h.code, ?_, ?_, ?_, h.geB, ?_, ?_, h.dis, ?_⟩
 ·intro j h1 h2
  rw [hg.block j (by omega) (fun e => by have := (hge j e.symm).1; omega)]
  exact h.block j h1 h2
 ·exact cur_own h.cur hg (fun g e => (hge g e).2)
 ·intro p hp
  exact bx_own (h.box p hp) hg (h.sep p hp _ hm)
 ·intro s hs
  rcases hne2 s hs with rfl | ⟨h1, h2⟩
  ·exact ho
  ·exact s.keep (h.row s h1) hg (fun g e h3 => h2 g h3 e)
 ·intro s hs g hg2
  rcases hne2 s hs with rfl | ⟨h1, h2⟩
  ·rcases hnew g hg2 with h3 | h3
   ·exact hge g h3
   ·omega
  ·exact h.geR s h1 g hg2
 ·intro p hp s hs hg2
  rcases hne2 s hs with rfl | ⟨h1, h2⟩
  ·rcases hnew _ hg2 with h3 | h3
   ·exact h.sep p hp _ hm h3
   ·have := (h.box p hp).lt; omega
  ·exact h.sep p hp s h1 hg2
 ·rw [List.pairwise_iff_getElem]
  intro j1 j2 h1 h2 h12 g hg1 hg2
  rw [List.length_set] at h1 h2
  have hd := List.pairwise_iff_getElem.1 h.rdis
  rw [List.getElem_set] at hg1 hg2
  split at hg1 <;> split at hg2
  ·omega
  ·rename_i e1 e2
   subst e1
   rcases hnew _ hg1 with h3 | h3
   ·exact hd i j2 h1 h2 h12 g (by rw [he]; exact h3) hg2
   ·have := (rs[j2]).lt (h.row _ (List.getElem_mem h2)) hg2; omega
  ·rename_i e1 e2
   subst e2
   rcases hnew _ hg2 with h3 | h3
   ·exact hd j1 i h1 h2 h12 g hg1 (by rw [he]; exact h3)
   ·have := (rs[j1]).lt (h.row _ (List.getElem_mem h1)) hg1; omega
  ·exact hd j1 j2 h1 h2 h12 g hg1 hg2
end
structure LayerD where
 fName : List UInt8
 fCount : Int
deriving DecidableEq
def cLayer (d : LayerD) : List Value := [.string ⟨d.fName.toArray⟩, .int .i64 d.fCount]
theorem cLayer_len (d : LayerD) : (cLayer d).length = 2 := rfl
theorem cLayer_one (d : LayerD) : ∀ u ∈ cLayer d, u.oneCell' = true := by intro u hu; simp only [cLayer, List.mem_cons, List.not_mem_nil, or_false] at hu; rcases hu with rfl | rfl <;> rfl
def zLayer (d : LayerD) : Nat := d.fName.length
end Go.Proofs.YtcpbikilgacdlaaGreat
namespace Go.Proofs.YtcpbikilgacdlaaGreat
set_option linter.unusedVariables false
set_option linter.unusedSimpArgs false
open Go.RowKit
structure PartD where
 fCore : CoreD
 fLayers : List LayerD
deriving DecidableEq
def rPart : Nat → World → List Value → PartD → Prop := fun F w cs x => ∃ v3 v5, cs = [.string ⟨x.fCore.fKind.toArray⟩, .bool x.fCore.fOn, .bool x.fCore.fBroken, v3, .int .i64 x.fCore.fCount, v5] ∧ SliceAt (rFlat cCell) 2 F w v3 x.fCore.fCells ∧ SliceAt (rFlat cLayer) 2 F w v5 x.fLayers
theorem goodPart : Good rPart 6 := by
 refine ⟨?_, ?_, ?_⟩
 ·rintro F w cs x ⟨v3, v5, rfl, h3, h5⟩; rfl
 ·rintro F w w' cs x ⟨v3, v5, rfl, h3, h5⟩ hk; exact ⟨v3, v5, rfl, h3.keep (good_flat cCell_len) hk, h5.keep (good_flat cLayer_len) hk⟩
 ·rintro F F' w cs x ⟨v3, v5, rfl, h3, h5⟩ hF; exact ⟨v3, v5, rfl, h3.mono (good_flat cCell_len) hF, h5.mono (good_flat cLayer_len) hF⟩
def zPart (x : PartD) : Nat := zCore x.fCore + (x.fLayers.length + sumF zLayer x.fLayers)
end Go.Proofs.YtcpbikilgacdlaaGreat
namespace Go.Proofs.YtcpbikilgacdlaaGreat
set_option linter.unusedVariables false
open Go.RowKit
def layN : Nat → List UInt8
 | 0 => [112, 108, 97, 105, 110]
 | 1 => [114, 117, 110, 115]
 | 2 => [107, 101, 101, 112, 115]
 | 3 => [99, 111, 117, 110, 116, 115]
 | 4 => [108, 97, 122, 121]
 | 5 => [114, 101, 97, 100, 115]
 | 6 => [104, 101, 97, 114, 115]
 | 7 => [104, 101, 97, 108, 115]
 | 8 => [116, 119, 105, 99, 101]
 | _ => []
def needN : Nat → Int
 | 0 => 0
 | 1 => 1
 | 2 => 2
 | 3 => 2
 | 4 => 3
 | 5 => 2
 | 6 => 1
 | 7 => 1
 | 8 => 4
 | _ => 0
def giveN : Nat → Int
 | 0 => 0
 | 1 => 1
 | 2 => 2
 | 3 => 6
 | 4 => 3
 | 5 => 2
 | 6 => 9
 | 7 => 33
 | 8 => 4
 | _ => 0
def layI (s : List UInt8) : Int := findK (fun k => layN k == s) 0 9
def needI (i : Int) : Int := if i < 0 then 0 else needN i.toNat
def giveI (i : Int) : Int := if i < 0 then 0 else giveN i.toNat
def ndV (i : Int) : Value := .tuple #[.int .i64 (needI i), .bool (decide (0 ≤ i))]
def gvV (i : Int) : Value := .tuple #[.int .i64 (giveI i), .bool (decide (0 ≤ i))]
def l4V (i : Int) : Value := .tuple #[.int .i64 (needI i), .int .i64 (giveI i), .bool (decide (0 ≤ i))]
theorem l4V_yes {i : Int} {k : Nat} (h : (k : Int) = i) : Value.tuple #[.int .i64 (needN k), .int .i64 (giveN k), .bool true] = l4V i := by
 subst h; unfold l4V needI giveI; rw [if_neg (by omega), if_neg (by omega)]; simp
theorem l4V_no {i : Int} (h : (-1 : Int) = i) : Value.tuple #[.int .i64 0, .int .i64 0, .bool false] = l4V i := by subst h; rfl
theorem layI_none (l : List UInt8) (h : ∀ k, k < 9 → layN k ≠ l) : layI l = -1 := by
 have : ∀ n k, k + n ≤ 9 → findK (fun k => layN k == l) k n = -1 := by
  intro n
  induction n with
  | zero => intro k _; rfl
  | succ n ih =>
   intro k hk
   unfold findK
   rw [if_neg (by simpa using h k (by omega)), ih (k + 1) (by omega)]
 exact this 9 0 (by omega)
theorem layI_bd (l : List UInt8) : layI l = -1 ∨ ∃ j : Nat, layI l = j ∧ j < 9 ∧ layN j = l := by
 rcases findK_bd (fun k => layN k == l) 9 0 with h | ⟨j, h1, h2, h3⟩
 ·exact Or.inl h
 ·exact Or.inr ⟨j, h1, by omega, by simpa using h3⟩
theorem needN_face (j : Nat) : isF (needN j) = true := by unfold needN; split <;> rfl
theorem giveN_face (j : Nat) : isF (giveN j) = true := by unfold giveN; split <;> rfl
set_option maxHeartbeats 800000 in
theorem implLayerNeeds_any (s : ByteArray) (w : World) :
  Calls Tryz.prog 86 #[.string s] w fun e w' => e = .returned (ndV (layI s.data.toList)) ∧ w = w' := by
 by_cases h0 : s.toList = [112, 108, 97, 105, 110]
 ·rw [bytes_eq] at h0
  subst h0
  go_enter Tryz.func86, Tryz.ntmps86
  go_wp2
  go_ret2
  exact ⟨rfl, rfl⟩
 by_cases h1 : s.toList = [114, 117, 110, 115]
 ·rw [bytes_eq] at h1
  subst h1
  clear h0
  go_enter Tryz.func86, Tryz.ntmps86
  go_wp2
  go_ret2
  exact ⟨rfl, rfl⟩
 by_cases h2 : s.toList = [107, 101, 101, 112, 115]
 ·rw [bytes_eq] at h2
  subst h2
  clear h0 h1
  go_enter Tryz.func86, Tryz.ntmps86
  go_wp2
  go_ret2
  exact ⟨rfl, rfl⟩
 by_cases h3 : s.toList = [99, 111, 117, 110, 116, 115]
 ·rw [bytes_eq] at h3
  subst h3
  clear h0 h1 h2
  go_enter Tryz.func86, Tryz.ntmps86
  go_wp2
  go_ret2
  exact ⟨rfl, rfl⟩
 by_cases h4 : s.toList = [108, 97, 122, 121]
 ·rw [bytes_eq] at h4
  subst h4
  clear h0 h1 h2 h3
  go_enter Tryz.func86, Tryz.ntmps86
  go_wp2
  go_ret2
  exact ⟨rfl, rfl⟩
 by_cases h5 : s.toList = [114, 101, 97, 100, 115]
 ·rw [bytes_eq] at h5
  subst h5
  clear h0 h1 h2 h3 h4
  go_enter Tryz.func86, Tryz.ntmps86
  go_wp2
  go_ret2
  exact ⟨rfl, rfl⟩
 by_cases h6 : s.toList = [104, 101, 97, 114, 115]
 ·rw [bytes_eq] at h6
  subst h6
  clear h0 h1 h2 h3 h4 h5
  go_enter Tryz.func86, Tryz.ntmps86
  go_wp2
  go_ret2
  exact ⟨rfl, rfl⟩
 by_cases h7 : s.toList = [104, 101, 97, 108, 115]
 ·rw [bytes_eq] at h7
  subst h7
  clear h0 h1 h2 h3 h4 h5 h6
  go_enter Tryz.func86, Tryz.ntmps86
  go_wp2
  go_ret2
  exact ⟨rfl, rfl⟩
 by_cases h8 : s.toList = [116, 119, 105, 99, 101]
 ·rw [bytes_eq] at h8
  subst h8
  clear h0 h1 h2 h3 h4 h5 h6 h7
  go_enter Tryz.func86, Tryz.ntmps86
  go_wp2
  go_ret2
  exact ⟨rfl, rfl⟩
 have b0 : (s.toList == [112, 108, 97, 105, 110]) = false := by simpa using h0
 have b1 : (s.toList == [114, 117, 110, 115]) = false := by simpa using h1
 have b2 : (s.toList == [107, 101, 101, 112, 115]) = false := by simpa using h2
 have b3 : (s.toList == [99, 111, 117, 110, 116, 115]) = false := by simpa using h3
 have b4 : (s.toList == [108, 97, 122, 121]) = false := by simpa using h4
 have b5 : (s.toList == [114, 101, 97, 100, 115]) = false := by simpa using h5
 have b6 : (s.toList == [104, 101, 97, 114, 115]) = false := by simpa using h6
 have b7 : (s.toList == [104, 101, 97, 108, 115]) = false := by simpa using h7
 have b8 : (s.toList == [116, 119, 105, 99, 101]) = false := by simpa using h8
 have HN : layI s.data.toList = -1 := by
  rw [Lib.toList_data] at h0 h1 h2 h3 h4 h5 h6 h7 h8
  refine layI_none _ ?_
  intro k hk e
  rcases (show k = 0 ∨ k = 1 ∨ k = 2 ∨ k = 3 ∨ k = 4 ∨ k = 5 ∨ k = 6 ∨ k = 7 ∨ k = 8 by omega) with rfl | rfl | rfl | rfl | rfl | rfl | rfl | rfl | rfl
  ·exact h0 e.symm
  ·exact h1 e.symm
  ·exact h2 e.symm
  ·exact h3 e.symm
  ·exact h4 e.symm
  ·exact h5 e.symm
  ·exact h6 e.symm
  ·exact h7 e.symm
  ·exact h8 e.symm
 have HK := Lib.hid (show ndV (layI s.data.toList) = .tuple #[.int .i64 0, .bool false] by rw [HN]; rfl)
 clear h0 h1 h2 h3 h4 h5 h6 h7 h8 HN
 go_enter Tryz.func86, Tryz.ntmps86
 go_wp2
 go_ret2
 exact ⟨congrArg Ending.returned HK.out.symm, rfl⟩
set_option maxHeartbeats 800000 in
theorem implLayerGives_any (s : ByteArray) (w : World) :
  Calls Tryz.prog 100 #[.string s] w fun e w' => e = .returned (gvV (layI s.data.toList)) ∧ w = w' := by
 by_cases h0 : s.toList = [112, 108, 97, 105, 110]
 ·rw [bytes_eq] at h0
  subst h0
  go_enter Tryz.func100, Tryz.ntmps100
  go_wp2
  go_ret2
  exact ⟨rfl, rfl⟩
 by_cases h1 : s.toList = [114, 117, 110, 115]
 ·rw [bytes_eq] at h1
  subst h1
  clear h0
  go_enter Tryz.func100, Tryz.ntmps100
  go_wp2
  go_ret2
  exact ⟨rfl, rfl⟩
 by_cases h2 : s.toList = [107, 101, 101, 112, 115]
 ·rw [bytes_eq] at h2
  subst h2
  clear h0 h1
  go_enter Tryz.func100, Tryz.ntmps100
  go_wp2
  go_ret2
  exact ⟨rfl, rfl⟩
 by_cases h3 : s.toList = [99, 111, 117, 110, 116, 115]
 ·rw [bytes_eq] at h3
  subst h3
  clear h0 h1 h2
  go_enter Tryz.func100, Tryz.ntmps100
  go_wp2
  go_ret2
  exact ⟨rfl, rfl⟩
 by_cases h4 : s.toList = [108, 97, 122, 121]
 ·rw [bytes_eq] at h4
  subst h4
  clear h0 h1 h2 h3
  go_enter Tryz.func100, Tryz.ntmps100
  go_wp2
  go_ret2
  exact ⟨rfl, rfl⟩
 by_cases h5 : s.toList = [114, 101, 97, 100, 115]
 ·rw [bytes_eq] at h5
  subst h5
  clear h0 h1 h2 h3 h4
  go_enter Tryz.func100, Tryz.ntmps100
  go_wp2
  go_ret2
  exact ⟨rfl, rfl⟩
 by_cases h6 : s.toList = [104, 101, 97, 114, 115]
 ·rw [bytes_eq] at h6
  subst h6
  clear h0 h1 h2 h3 h4 h5
  go_enter Tryz.func100, Tryz.ntmps100
  go_wp2
  go_ret2
  exact ⟨rfl, rfl⟩
 by_cases h7 : s.toList = [104, 101, 97, 108, 115]
 ·rw [bytes_eq] at h7
  subst h7
  clear h0 h1 h2 h3 h4 h5 h6
  go_enter Tryz.func100, Tryz.ntmps100
  go_wp2
  go_ret2
  exact ⟨rfl, rfl⟩
 by_cases h8 : s.toList = [116, 119, 105, 99, 101]
 ·rw [bytes_eq] at h8
  subst h8
  clear h0 h1 h2 h3 h4 h5 h6 h7
  go_enter Tryz.func100, Tryz.ntmps100
  go_wp2
  go_ret2
  exact ⟨rfl, rfl⟩
 have b0 : (s.toList == [112, 108, 97, 105, 110]) = false := by simpa using h0
 have b1 : (s.toList == [114, 117, 110, 115]) = false := by simpa using h1
 have b2 : (s.toList == [107, 101, 101, 112, 115]) = false := by simpa using h2
 have b3 : (s.toList == [99, 111, 117, 110, 116, 115]) = false := by simpa using h3
 have b4 : (s.toList == [108, 97, 122, 121]) = false := by simpa using h4
 have b5 : (s.toList == [114, 101, 97, 100, 115]) = false := by simpa using h5
 have b6 : (s.toList == [104, 101, 97, 114, 115]) = false := by simpa using h6
 have b7 : (s.toList == [104, 101, 97, 108, 115]) = false := by simpa using h7
 have b8 : (s.toList == [116, 119, 105, 99, 101]) = false := by simpa using h8
 have HN : layI s.data.toList = -1 := by
  rw [Lib.toList_data] at h0 h1 h2 h3 h4 h5 h6 h7 h8
  refine layI_none _ ?_
  intro k hk e
  rcases (show k = 0 ∨ k = 1 ∨ k = 2 ∨ k = 3 ∨ k = 4 ∨ k = 5 ∨ k = 6 ∨ k = 7 ∨ k = 8 by omega) with rfl | rfl | rfl | rfl | rfl | rfl | rfl | rfl | rfl
  ·exact h0 e.symm
  ·exact h1 e.symm
  ·exact h2 e.symm
  ·exact h3 e.symm
  ·exact h4 e.symm
  ·exact h5 e.symm
  ·exact h6 e.symm
  ·exact h7 e.symm
  ·exact h8 e.symm
 have HK := Lib.hid (show gvV (layI s.data.toList) = .tuple #[.int .i64 0, .bool false] by rw [HN]; rfl)
 clear h0 h1 h2 h3 h4 h5 h6 h7 h8 HN
 go_enter Tryz.func100, Tryz.ntmps100
 go_wp2
 go_ret2
 exact ⟨congrArg Ending.returned HK.out.symm, rfl⟩
theorem lays_cell (w : World) (k : Nat) (hk : k < 9) : (w.alloc (.cells #[.string ⟨#[112, 108, 97, 105, 110]⟩, .string ⟨#[114, 117, 110, 115]⟩, .string ⟨#[107, 101, 101, 112, 115]⟩, .string ⟨#[99, 111, 117, 110, 116, 115]⟩, .string ⟨#[108, 97, 122, 121]⟩, .string ⟨#[114, 101, 97, 100, 115]⟩, .string ⟨#[104, 101, 97, 114, 115]⟩, .string ⟨#[104, 101, 97, 108, 115]⟩, .string ⟨#[116, 119, 105, 99, 101]⟩] 9)).cell? ⟨w.heap.size, k, none⟩ = some (.string ⟨(layN k).toArray⟩) := by
 rw [cell_of_row _ _ k _ 9 (0, 0) (heap_alloc_new w _)]
 rcases (show k = 0 ∨ k = 1 ∨ k = 2 ∨ k = 3 ∨ k = 4 ∨ k = 5 ∨ k = 6 ∨ k = 7 ∨ k = 8 by omega) with rfl | rfl | rfl | rfl | rfl | rfl | rfl | rfl | rfl <;> rfl
set_option maxHeartbeats 1600000 in
theorem l4Row_any (s : ByteArray) (w : World) :
  Calls Tryz.prog 109 #[.string s] w fun e w' => e = .returned (l4V (layI s.data.toList)) ∧ Below w.heap.size w w' := by
 have HD := Lib.hid (lays_cell w)
 go_enter Tryz.func109, Tryz.ntmps109
 go_wp2_with fail
 go_loop [6, 7, 11] (fun _ _ i => ∃ k : Nat, k ≤ 9 ∧ i = .int .i64 k ∧ findK (fun k => layN k == s.data.toList) k (9 - k) = layI s.data.toList) (fun _ _ i => 9 - (intOf i).toNat)
 case atStart => exact ⟨0, Nat.zero_le _, rfl, rfl⟩
 case round =>
  obtain ⟨k, hk, rfl, hf⟩ := hrel
  have HF := Lib.hid hf
  clear hf
  by_cases hlt : k < 9
  ·have d1 := HD.out k hlt
   cases heq : (layN k == s.data.toList) with
   | true =>
    have HR := Lib.hid (show (k : Int) = layI s.data.toList from by rw [← HF.out]; exact (findK_yes hlt heq).symm)
    have hbeq : (layN k == s.toList) = true := by rw [Lib.toList_data]; exact heq
    clear heq
    go_wp2_with fail
    rcases (show k = 0 ∨ k = 1 ∨ k = 2 ∨ k = 3 ∨ k = 4 ∨ k = 5 ∨ k = 6 ∨ k = 7 ∨ k = 8 by omega) with rfl | rfl | rfl | rfl | rfl | rfl | rfl | rfl | rfl
    all_goals go_region
    all_goals (try go_wp2_with fail)
    all_goals
     go_ret3
     exact ⟨congrArg Ending.returned (l4V_yes HR.out), by repeat (first | exact Below.refl _ _ | refine Below.alloc ?_ (by simp; try omega) _ | refine Below.drew ?_)⟩
   | false =>
    have HR := Lib.hid (show findK (fun k => layN k == s.data.toList) (k + 1) (9 - (k + 1)) = layI s.data.toList from by rw [← HF.out]; exact (findK_no hlt heq).symm)
    have hbeq : (layN k == s.toList) = false := by rw [Lib.toList_data]; exact heq
    clear heq
    go_wp2_with fail
    exact ⟨⟨k + 1, by omega, by go_num, HR.out⟩, by simp [intOf]; omega⟩
  ·have HR := Lib.hid (show (-1 : Int) = layI s.data.toList from by rw [← HF.out, show k = 9 by omega]; exact findK_end.symm)
   go_wp2_with fail
   go_ret3
   exact ⟨congrArg Ending.returned (l4V_no HR.out), by repeat (first | exact Below.refl _ _ | refine Below.alloc ?_ (by simp; try omega) _)⟩
set_option maxHeartbeats 800000 in
theorem specLayerNeeds_any (s : ByteArray) (w : World) :
  Calls Tryz.prog 103 #[.string s] w fun e w' => e = .returned (ndV (layI s.data.toList)) ∧ Below w.heap.size w w' := by
 have HR := Lib.hid (l4Row_any s)
 unfold l4V at HR
 unfold ndV
 generalize needI (layI s.data.toList) = n at *
 generalize giveI (layI s.data.toList) = g at *
 generalize decide (0 ≤ layI s.data.toList) = b at *
 go_enter Tryz.func103, Tryz.ntmps103
 go_wp2_with fail
 refine (HR.out w).mono ?_
 rintro e w1 ⟨rfl, hb⟩
 go_wp2_with fail
 go_ret2
 exact ⟨rfl, hb⟩
end Go.Proofs.YtcpbikilgacdlaaGreat
namespace Go.Proofs.YtcpbikilgacdlaaGreat
set_option linter.unusedVariables false
set_option linter.unusedSimpArgs false
open Go.RowKit
instance : Inhabited LayerD := ⟨⟨[], 0⟩⟩
def faceN (x : PartD) : Nat → Int
 | 0 => kfI (kindI x.fCore.fKind)
 | n + 1 => giveI (layI (x.fLayers.getD n default).fName)
def faceP (x : PartD) : Int := faceN x x.fLayers.length
theorem kfV_is (i : Int) : kfV i = .tuple #[.int .i64 (kfI i), .bool (decide (0 ≤ i))] := rfl
theorem gvV_is (i : Int) : gvV i = .tuple #[.int .i64 (giveI i), .bool (decide (0 ≤ i))] := rfl
theorem l4V_is (i : Int) : l4V i = .tuple #[.int .i64 (needI i), .int .i64 (giveI i), .bool (decide (0 ≤ i))] := rfl
theorem part_box (w : World) (o : Obj) : Below w.heap.size w (w.alloc o) := (Below.refl _ _).alloc (Nat.le_refl _) o
set_option maxRecDepth 100000 in
set_option maxHeartbeats 1600000 in
theorem implFaceOf_any (v : Value) (x : PartD) (w : World) (hx : ValAt rPart 0 w v x) :
  Calls Tryz.prog 48 #[v] w fun e w' => e = .returned (.int .i64 (faceP x)) ∧ Below w.heap.size w w' := by
 obtain ⟨_, rfl, hx⟩ := hx
 obtain ⟨⟨a0, a1, a2, a3, a4⟩, ls⟩ := x
 obtain ⟨v3, v5, rfl, h3, h5⟩ := hx
 simp only at h3 h5
 obtain ⟨ra, rc, rfl, _⟩ := sliceAt_len h3
 obtain ⟨sa, sc, rfl, hl⟩ := sliceAt_len h5
 unfold maxLen at hl
 have HK := Lib.hid (implKind_any ⟨a0.toArray⟩)
 simp only [kfV_is, List.toList_toArray] at HK
 clear h3
 cases ls with
 | nil =>
  have HF := Lib.hid (show faceP ⟨⟨a0, a1, a2, a3, a4⟩, []⟩ = kfI (kindI a0) from rfl)
  rw [HF.out]
  generalize kfI (kindI a0) = f at *
  generalize decide (0 ≤ kindI a0) = b at *
  clear h5
  go_enter Tryz.func48, Tryz.ntmps48
  go_wp2_with (first | (go_at_call 99; (with_reducible refine (HK.out _).mono ?_); rintro e w' ⟨rfl, rfl⟩))
  go_ret
  exact ⟨rfl, part_box w _⟩
 | cons y r =>
  obtain ⟨b, o, cs, rfl, hbw, hat, hd⟩ := sliceAt_cell h5 r.length (by simp)
  have HY := Lib.hid (show faceP ⟨⟨a0, a1, a2, a3, a4⟩, y :: r⟩ = giveI (layI ((y :: r)[r.length]'(by simp)).fName) from by
   unfold faceP faceN
   rw [show (y :: r).length = r.length + 1 from rfl]
   simp only
   rw [List.getD_eq_getElem?_getD, List.getElem?_eq_getElem (by simp)]; rfl)
  rw [HY.out]
  have HG := Lib.hid (implLayerGives_any ⟨((y :: r)[r.length]'(by simp)).fName.toArray⟩)
  generalize (y :: r)[r.length]'(by simp) = z at *
  obtain ⟨z0, z1⟩ := z
  simp only [rFlat, cLayer] at hat
  subst hat
  simp only [gvV_is, List.toList_toArray] at HG
  have d0 := hd 0 (by decide)
  simp only [List.getElem?_cons_zero, Nat.add_zero] at d0
  have hn : (y :: r).length = r.length + 1 := rfl
  rw [hn] at *
  have hl2 : r.length + 1 ≤ 9223372036854775807 := hl
  generalize giveI (layI z0) = f at *
  generalize decide (0 ≤ layI z0) = g at *
  generalize r.length = n at *
  clear hd h5 hn HK
  go_enter Tryz.func48, Tryz.ntmps48
  go_wp2_with (first | (go_at_call 100; (with_reducible refine (HG.out _).mono ?_); rintro e w' ⟨rfl, rfl⟩))
  go_ret
  exact ⟨rfl, part_box w _⟩
set_option maxRecDepth 100000 in
set_option maxHeartbeats 1600000 in
theorem l4Face_any (v : Value) (x : PartD) (n : Nat) (w : World) (hx : ValAt rPart 0 w v x) (hn : n ≤ x.fLayers.length) :
  Calls Tryz.prog 104 #[v, .int .i64 n] w fun e w' => e = .returned (.int .i64 (faceN x n)) ∧ Below w.heap.size w w' := by
 obtain ⟨_, rfl, hx⟩ := hx
 obtain ⟨⟨a0, a1, a2, a3, a4⟩, ls⟩ := x
 obtain ⟨v3, v5, rfl, h3, h5⟩ := hx
 simp only at h3 h5 hn
 obtain ⟨ra, rc, rfl, _⟩ := sliceAt_len h3
 obtain ⟨sa, sc, rfl, hl⟩ := sliceAt_len h5
 unfold maxLen at hl
 have HK := Lib.hid (specKind_any ⟨a0.toArray⟩)
 simp only [kfV_is, List.toList_toArray] at HK
 clear h3
 cases n with
 | zero =>
  have HF := Lib.hid (show faceN ⟨⟨a0, a1, a2, a3, a4⟩, ls⟩ 0 = kfI (kindI a0) from rfl)
  rw [HF.out]
  generalize kfI (kindI a0) = f at *
  generalize decide (0 ≤ kindI a0) = b at *
  clear h5 hn
  go_enter Tryz.func104, Tryz.ntmps104
  go_wp2_with fail
  refine (HK.out _).mono ?_
  rintro e w1 ⟨rfl, hb⟩
  have HB := Lib.hid (belS (part_box w _) hb)
  clear hb
  go_wp2_with fail
  go_ret
  exact ⟨rfl, HB.out⟩
 | succ n =>
  have hn2 : n < ls.length := hn
  obtain ⟨b, o, cs, rfl, hbw, hat, hd⟩ := sliceAt_cell h5 n hn2
  have HY := Lib.hid (show faceN ⟨⟨a0, a1, a2, a3, a4⟩, ls⟩ (n + 1) = giveI (layI (ls[n]).fName) from by
   unfold faceN
   simp only
   rw [List.getD_eq_getElem?_getD, List.getElem?_eq_getElem hn2]; rfl)
  rw [HY.out]
  have HG := Lib.hid (l4Row_any ⟨(ls[n]).fName.toArray⟩)
  generalize ls[n] = z at *
  obtain ⟨z0, z1⟩ := z
  simp only [rFlat, cLayer] at hat
  subst hat
  simp only [l4V_is, List.toList_toArray] at HG
  have d0 := hd 0 (by decide)
  simp only [List.getElem?_cons_zero, Nat.add_zero] at d0
  have hl2 : ls.length ≤ 9223372036854775807 := hl
  have hn3 : (n : Int) < (ls.length : Int) := by omega
  generalize giveI (layI z0) = f at *
  generalize needI (layI z0) = f2 at *
  generalize decide (0 ≤ layI z0) = g at *
  clear hd h5 hn HK
  go_enter Tryz.func104, Tryz.ntmps104
  go_wp2_with fail
  refine (HG.out _).mono ?_
  rintro e w1 ⟨rfl, hb⟩
  have HB := Lib.hid (belS (part_box w _) hb)
  clear hb
  go_wp2_with fail
  go_ret
  exact ⟨rfl, HB.out⟩
set_option maxRecDepth 100000 in
set_option maxHeartbeats 1600000 in
theorem specFaceOf_any (v : Value) (x : PartD) (w : World) (hx : ValAt rPart 0 w v x) :
  Calls Tryz.prog 62 #[v] w fun e w' => e = .returned (.int .i64 (faceP x)) ∧ Below w.heap.size w w' := by
 obtain ⟨_, rfl, hx⟩ := hx
 have HX := Lib.hid (fun o => goodPart.keep hx (kept_below (part_box w o) (Nat.le_refl _)))
 have HF := Lib.hid (fun o => l4Face_any _ x x.fLayers.length (w.alloc o) ⟨_, rfl, HX.out o⟩ (Nat.le_refl _))
 have HP := Lib.hid (show faceP x = faceN x x.fLayers.length from rfl)
 rw [HP.out]
 obtain ⟨⟨a0, a1, a2, a3, a4⟩, ls⟩ := x
 obtain ⟨v3, v5, rfl, h3, h5⟩ := hx
 simp only at h3 h5 HF
 obtain ⟨ra, rc, rfl, _⟩ := sliceAt_len h3
 obtain ⟨sa, sc, rfl, hl⟩ := sliceAt_len h5
 unfold maxLen at hl
 clear h3 h5 HX
 generalize faceN ⟨⟨a0, a1, a2, a3, a4⟩, ls⟩ ls.length = f at *
 go_enter Tryz.func62, Tryz.ntmps62
 go_wp2_with fail
 refine (HF.out _).mono ?_
 rintro e w1 ⟨rfl, hb⟩
 have HB := Lib.hid (belS (part_box w _) hb)
 clear hb
 go_wp2_with fail
 go_ret
 exact ⟨rfl, HB.out⟩
end Go.Proofs.YtcpbikilgacdlaaGreat
namespace Go.Proofs.YtcpbikilgacdlaaGreat
set_option linter.unusedVariables false
open Go.RowKit
theorem l2Has_0 (f : Int) (x : Bool) (h : hasI f 0 = x) (hf : isF f = true) (w : World) :
  Calls Tryz.prog 113 #[.int .i64 f, .int .i64 0] w fun e w' => e = .returned (.bool x) ∧ w = w' := l2Has_b f 0 x h hf (by decide) w
theorem l2Has_1 (f : Int) (x : Bool) (h : hasI f 1 = x) (hf : isF f = true) (w : World) :
  Calls Tryz.prog 113 #[.int .i64 f, .int .i64 1] w fun e w' => e = .returned (.bool x) ∧ w = w' := l2Has_b f 1 x h hf (by decide) w
set_option maxRecDepth 100000 in
set_option maxHeartbeats 6400000 in
theorem specIsCore_any (v : Value) (d : CoreD) (w : World) (hx : CoreAt w v d) (hs : ∀ c ∈ d.fCells, c.fKey.length ≤ maxLen) :
  Calls Tryz.prog 102 #[v] w fun e w' => e = .returned (.bool (coreB d)) ∧ Below w.heap.size w w' := by
 obtain ⟨cv, rfl, hx⟩ := hx
 have HKD := Lib.hid (specKind_b d.fKind)
 have HH0 := Lib.hid (l2Has_0 (kfI (kindI d.fKind)) _ rfl (kfI_face _))
 have HH1 := Lib.hid (l2Has_1 (kfI (kindI d.fKind)) _ rfl (kfI_face _))
 have HR := Lib.hid (show coreB d = (decide (0 ≤ kindI d.fKind) && cellsB d.fCells && (decide (d.fCells.length = 0) || hasI (kfI (kindI d.fKind)) 1) && (!(d.fOn || d.fBroken) || hasI (kfI (kindI d.fKind)) 0) && numB d.fCount && !(d.fOn && d.fBroken)) from rfl)
 generalize coreB d = res at *
 obtain ⟨kd, on, br, l, cnt⟩ := d
 unfold vCore
 simp only at *
 obtain ⟨a, c, rfl, hl⟩ := flatAt_len hx
 unfold maxLen at hl
 have HB0 := Lib.hid (show ∀ o, Below w.heap.size w (w.alloc o) from fun o => (Below.refl w.heap.size w).alloc (Nat.le_refl _) o)
 have HIC := Lib.hid (fun w0 hb => specIsCells_any _ l w0 (hx.below hb (Nat.le_refl _)) hs)
 clear hx hs
 have HK := Lib.hid (HKD.out _ rfl)
 generalize hasI (kfI (kindI kd)) 1 = h1 at *
 generalize hasI (kfI (kindI kd)) 0 = h0 at *
 generalize kfI (kindI kd) = f at *
 generalize decide (0 ≤ kindI kd) = kk at *
 generalize cellsB l = cb at *
 have HN0 := Lib.hid (show cnt < 0 → numB cnt = false from fun h => by simp [numB]; omega)
 have HN1 := Lib.hid (show 999 < cnt → numB cnt = false from fun h => by simp [numB]; omega)
 have HN2 := Lib.hid (show 0 ≤ cnt → cnt ≤ 999 → numB cnt = true from fun h h2 => by simp [numB]; omega)
 generalize numB cnt = nb at *
 clear HKD
 go_enter Tryz.func102, Tryz.ntmps102
 go_wp2_with fail
 refine (HK.out _).mono ?_
 rintro e w1 ⟨rfl, hb⟩
 have HB1 := Lib.hid ((HB0.out _).trans (hb.mono (HB0.out _).size))
 obtain ⟨hcc, _⟩ := bcell hb
 simp at hcc
 have hc0 := hcc w.heap.size 0 (by omega)
 have hc1 := hcc w.heap.size 1 (by omega)
 have hc2 := hcc w.heap.size 2 (by omega)
 have hc3 := hcc w.heap.size 3 (by omega)
 have hc4 := hcc w.heap.size 4 (by omega)
 simp at hc0 hc1 hc2 hc3 hc4
 have HLT := Lib.hid (show w.heap.size < w1.heap.size from by have := hb.size; simp at this; omega)
 clear hb hcc
 cases kk with
 | false =>
  go_wp2_with (first | (go_at_call 113; (with_reducible refine (HH0.out _).mono ?_); rintro e w' ⟨rfl, rfl⟩))
  go_ret
  exact ⟨ret_bool (by rw [HR.out]; rfl), HB1.out⟩
 | true =>
  go_wp2_with (first | (go_at_call 113; (with_reducible refine (HH0.out _).mono ?_); rintro e w' ⟨rfl, rfl⟩))
  refine (HIC.out _ HB1.out).mono ?_
  rintro e w2 ⟨rfl, hb⟩
  have HB := Lib.hid (HB1.out.trans (hb.mono HB1.out.size))
  have c0 := (hb.cell (p := ⟨w.heap.size, 0, none⟩) HLT.out).trans hc0
  have c1 := (hb.cell (p := ⟨w.heap.size, 1, none⟩) HLT.out).trans hc1
  have c2 := (hb.cell (p := ⟨w.heap.size, 2, none⟩) HLT.out).trans hc2
  have c3 := (hb.cell (p := ⟨w.heap.size, 3, none⟩) HLT.out).trans hc3
  have c4 := (hb.cell (p := ⟨w.heap.size, 4, none⟩) HLT.out).trans hc4
  clear hb hc0 hc1 hc2 hc3 hc4
  cases cb with
  | false =>
   go_wp2_with fail
   go_ret
   exact ⟨ret_bool (by rw [HR.out]; rfl), HB.out⟩
  | true =>
   by_cases hn : 0 < l.length
   ·have hg : decide ((0 : Int) < (l.length : Int)) = true := decide_eq_true (by omega)
    rw [show decide (l.length = 0) = false from decide_eq_false (by omega)] at HR
    cases h1 with
    | false =>
     go_wp2_with (first | (go_at_call 113; (with_reducible refine (HH1.out _).mono ?_); rintro e w' ⟨rfl, rfl⟩))
     go_ret
     exact ⟨ret_bool (by rw [HR.out]; rfl), HB.out⟩
    | true =>
     by_cases hv : cnt < 0
     ·rw [HN0.out hv] at HR
      go_wp2_with (first | (go_at_call 113; (with_reducible refine (HH1.out _).mono ?_); rintro e w' ⟨rfl, rfl⟩))
      go_ret
      exact ⟨ret_bool (by rw [HR.out]; cases on <;> cases br <;> cases h0 <;> rfl), HB.out⟩
     ·by_cases hv2 : 999 < cnt
      ·rw [HN1.out hv2] at HR
       go_wp2_with (first | (go_at_call 113; (with_reducible refine (HH1.out _).mono ?_); rintro e w' ⟨rfl, rfl⟩))
       go_ret
       exact ⟨ret_bool (by rw [HR.out]; cases on <;> cases br <;> cases h0 <;> rfl), HB.out⟩
      ·rw [HN2.out (by omega) (by omega)] at HR
       cases on <;> cases br <;> cases h0
       all_goals
        go_wp2_with (first | (go_at_call 113; (with_reducible refine (HH1.out _).mono ?_); rintro e w' ⟨rfl, rfl⟩))
        go_ret
        exact ⟨ret_bool (by rw [HR.out]; rfl), HB.out⟩
   ·have hg : decide ((0 : Int) < (l.length : Int)) = false := decide_eq_false (by omega)
    rw [show decide (l.length = 0) = true from decide_eq_true (by omega)] at HR
    have hg2 : (l.length : Int) ≤ 0 := by omega
    clear hn
    by_cases hv : cnt < 0
    ·rw [HN0.out hv] at HR
     go_wp2_with fail
     go_ret
     exact ⟨ret_bool (by rw [HR.out]; cases on <;> cases br <;> cases h0 <;> rfl), HB.out⟩
    ·by_cases hv2 : 999 < cnt
     ·rw [HN1.out hv2] at HR
      go_wp2_with fail
      go_ret
      exact ⟨ret_bool (by rw [HR.out]; cases on <;> cases br <;> cases h0 <;> rfl), HB.out⟩
     ·rw [HN2.out (by omega) (by omega)] at HR
      cases on <;> cases br <;> cases h0
      all_goals
       go_wp2_with fail
       go_ret
       exact ⟨ret_bool (by rw [HR.out]; rfl), HB.out⟩
end Go.Proofs.YtcpbikilgacdlaaGreat
namespace Go.Proofs.YtcpbikilgacdlaaGreat
set_option linter.unusedVariables false
set_option linter.unusedSimpArgs false
open Go.RowKit
def countedB (n : List UInt8) : Bool := n == [99, 111, 117, 110, 116, 115] || n == [104, 101, 97, 114, 115]
def cntB (y : LayerD) : Bool := if countedB y.fName = true then numB y.fCount else y.fCount == 0
def layOk (x : PartD) (i : Nat) : Bool := decide (0 ≤ layI (x.fLayers.getD i default).fName) && offersF (faceN x i) (needI (layI (x.fLayers.getD i default).fName)) && cntB (x.fLayers.getD i default)
def layTo (x : PartD) (k : Nat) : Bool := (List.range k).all (layOk x)
def partB (x : PartD) : Bool := coreB x.fCore && decide (x.fLayers.length ≤ 3) && layTo x x.fLayers.length
theorem layTo_succ (x : PartD) (k : Nat) : layTo x (k + 1) = (layTo x k && layOk x k) := by simp [layTo, List.range_succ, List.all_append]
theorem partB_bad {x : PartD} {k : Nat} (hk : k < x.fLayers.length) (h : layOk x k = false) : partB x = false := by
 have : layTo x x.fLayers.length = false := by
  unfold layTo
  rw [List.all_eq_false]
  exact ⟨k, List.mem_range.2 hk, by simp [h]⟩
 simp [partB, this]
theorem layOk_of (x : PartD) (i : Nat) (h : i < x.fLayers.length) (y : LayerD) (hy : x.fLayers[i] = y) : layOk x i = (decide (0 ≤ layI y.fName) && offersF (faceN x i) (needI (layI y.fName)) && cntB y) := by
 unfold layOk
 rw [List.getD_eq_getElem?_getD, List.getElem?_eq_getElem h, Option.getD_some, hy]
theorem faceN_take (c : CoreD) (l : List LayerD) (i : Nat) (h : i ≤ l.length) : faceP ⟨c, l.take i⟩ = faceN ⟨c, l⟩ i := by
 unfold faceP
 rw [show (⟨c, l.take i⟩ : PartD).fLayers.length = i by simp; omega]
 cases i with
 | zero => rfl
 | succ i =>
  unfold faceN
  simp only [List.getD_eq_getElem?_getD]
  rw [List.getElem?_take_of_lt (by omega)]
set_option maxRecDepth 100000 in
set_option maxHeartbeats 1600000 in
theorem insideOf_c (k : ByteArray) (on br : Bool) (ca sa : Option Addr) (cn cc sn sc : Nat) (ct : Int) (i : Nat) (w : World) (hi : i ≤ sc) (hs : i ≤ maxLen) :
  Calls Tryz.prog 87 #[.agg #[.string k, .bool on, .bool br, .slice ca cn cc, .int .i64 ct, .slice sa sn sc], .int .i64 i] w fun e w' => e = .returned (.agg #[.string k, .bool on, .bool br, .slice ca cn cc, .int .i64 ct, .slice sa i sc]) ∧ Below w.heap.size w w' := by
 unfold maxLen at hs
 go_enter Tryz.func87, Tryz.ntmps87
 go_wp2_with fail
 go_region
 all_goals (try go_wp2_with fail)
 all_goals
  refine bodyPost_ret (v := .agg #[.string k, .bool on, .bool br, .slice ca cn cc, .int .i64 ct, .slice sa i sc]) (by simp [results, Tryz.results87, go_sem]) rfl ⟨rfl, ?_⟩
  repeat (first | with_reducible exact Below.refl _ _ | with_reducible refine Below.alloc ?_ (by simp; try omega) _ | with_reducible refine Below.drew ?_ | with_reducible refine belD ?_)
set_option maxHeartbeats 1600000 in
theorem isLayerCount_c (n : List UInt8) (c : Int) (w : World) :
  Calls Tryz.prog 88 #[.agg #[.string ⟨n.toArray⟩, .int .i64 c]] w fun e w' => e = .returned (.bool (cntB ⟨n, c⟩)) ∧ Below w.heap.size w w' := by
 have HN := Lib.hid (isNumber_any c)
 by_cases h0 : n = [99, 111, 117, 110, 116, 115]
 ·subst h0
  have HR := Lib.hid (show cntB ⟨[99, 111, 117, 110, 116, 115], c⟩ = numB c from rfl)
  generalize numB c = b at *
  go_enter Tryz.func88, Tryz.ntmps88
  go_wp2_with (first | (go_at_call 92; (with_reducible refine (HN.out _).mono ?_); rintro e w' ⟨rfl, rfl⟩))
  go_ret
  exact ⟨ret_bool HR.out.symm, part_box w _⟩
 ·by_cases h1 : n = [104, 101, 97, 114, 115]
  ·subst h1
   have HR := Lib.hid (show cntB ⟨[104, 101, 97, 114, 115], c⟩ = numB c from rfl)
   generalize numB c = b at *
   clear h0
   go_enter Tryz.func88, Tryz.ntmps88
   go_wp2_with (first | (go_at_call 92; (with_reducible refine (HN.out _).mono ?_); rintro e w' ⟨rfl, rfl⟩))
   go_ret
   exact ⟨ret_bool HR.out.symm, part_box w _⟩
  ·have HR := Lib.hid (show cntB ⟨n, c⟩ = (c == 0) by unfold cntB countedB; simp [h0, h1])
   have g0 : (n == [99, 111, 117, 110, 116, 115]) = false := by simp [h0]
   have g1 : (n == [104, 101, 97, 114, 115]) = false := by simp [h1]
   clear h0 h1
   go_enter Tryz.func88, Tryz.ntmps88
   go_wp2_with (first | (go_at_call 92; (with_reducible refine (HN.out _).mono ?_); rintro e w' ⟨rfl, rfl⟩))
   go_ret
   exact ⟨ret_bool HR.out.symm, part_box w _⟩
set_option maxRecDepth 100000 in
set_option maxHeartbeats 3200000 in
theorem implIsPart_any (v : Value) (x : PartD) (w : World) (hx : ValAt rPart 0 w v x) (hs : ∀ c ∈ x.fCore.fCells, c.fKey.length ≤ maxLen) :
  Calls Tryz.prog 43 #[v] w fun e w' => e = .returned (.bool (partB x)) ∧ Below w.heap.size w w' := by
 obtain ⟨_, rfl, hx⟩ := hx
 have HX := Lib.hid hx
 have HBAD := Lib.hid (fun k => partB_bad (x := x) (k := k))
 have HOK := Lib.hid (fun i h y hy => layOk_of x i h y hy)
 have HSU := Lib.hid (layTo_succ x)
 have HFN := Lib.hid (faceN_take x.fCore x.fLayers)
 have HP := Lib.hid (show partB x = (coreB x.fCore && decide (x.fLayers.length ≤ 3) && layTo x x.fLayers.length) from rfl)
 obtain ⟨xc, ls⟩ := x
 obtain ⟨v3, v5, rfl, h3, h5⟩ := hx
 have HC := Lib.hid (fun W (hb : Below w.heap.size w W) => implIsCore_any (vCore xc v3) xc W ⟨v3, rfl, FlatAt.below (flatAt_of_slice cCell_len (by decide) h3) hb (Nat.le_refl _)⟩ hs)
 obtain ⟨a0, a1, a2, a3, a4⟩ := xc
 unfold vCore at HC
 simp only at h3 h5 HX HC HP HFN HBAD HOK
 obtain ⟨ra, rc, rfl, _⟩ := sliceAt_len h3
 obtain ⟨sa, sc, rfl, hl, hcap⟩ := sliceAt_cap h5
 have H5 := Lib.hid h5
 have H3 := Lib.hid h3
 unfold maxLen at hl
 have HB0 := Lib.hid (show ∀ o, Below w.heap.size w (w.alloc o) from fun o => part_box w o)
 have HS0 := Lib.hid (Bx.new w [.string ⟨a0.toArray⟩, .bool a1, .bool a2, .slice ra a3.length rc, .int .i64 a4, .slice sa ls.length sc] 37)
 clear h3 h5
 have HPB := Lib.hid (show partB ⟨⟨a0, a1, a2, a3, a4⟩, ls⟩ = partB ⟨⟨a0, a1, a2, a3, a4⟩, ls⟩ from rfl)
 generalize partB ⟨⟨a0, a1, a2, a3, a4⟩, ls⟩ = pb at *
 have HCB := Lib.hid (show coreB ⟨a0, a1, a2, a3, a4⟩ = coreB ⟨a0, a1, a2, a3, a4⟩ from rfl)
 generalize coreB ⟨a0, a1, a2, a3, a4⟩ = cb at *
 clear HPB HCB HX
 cases cb with
 | false =>
  have HR := Lib.hid (show pb = false by rw [HP.out]; rfl)
  go_enter Tryz.func43, Tryz.ntmps43
  go_wp2_with fail
  refine (HC.out _ (HB0.out _)).mono ?_
  rintro e w1 ⟨rfl, hb⟩
  have HB := Lib.hid (belS (HB0.out _) hb)
  clear hb
  go_wp2_with fail
  go_ret
  exact ⟨ret_bool HR.out.symm, HB.out⟩
 | true =>
  by_cases h3 : 3 < ls.length
  ·have HR := Lib.hid (show pb = false by rw [HP.out, show decide (ls.length ≤ 3) = false by simpa using h3]; rfl)
   go_enter Tryz.func43, Tryz.ntmps43
   go_wp2_with fail
   refine (HC.out _ (HB0.out _)).mono ?_
   rintro e w1 ⟨rfl, hb⟩
   have HB := Lib.hid (belS (HB0.out _) hb)
   have BX := Lib.hid (HS0.out.below hb)
   clear hb
   have e0 := BX.out.cell 0 (by simp)
   have e1 := BX.out.cell 1 (by simp)
   have e2 := BX.out.cell 2 (by simp)
   have e3 := BX.out.cell 3 (by simp)
   have e4 := BX.out.cell 4 (by simp)
   have e5 := BX.out.cell 5 (by simp)
   simp only [List.getElem_cons_zero, List.getElem_cons_succ] at e0 e1 e2 e3 e4 e5
   go_wp2_with fail
   go_ret
   exact ⟨ret_bool HR.out.symm, HB.out⟩
  ·have HR := Lib.hid (show pb = layTo ⟨⟨a0, a1, a2, a3, a4⟩, ls⟩ ls.length by rw [HP.out, show decide (ls.length ≤ 3) = true by simpa using h3]; simp)
   go_enter Tryz.func43, Tryz.ntmps43
   go_wp2_with fail
   refine (HC.out _ (HB0.out _)).mono ?_
   rintro e w1 ⟨rfl, hb⟩
   have HB := Lib.hid (belS (HB0.out _) hb)
   have BX := Lib.hid (HS0.out.below hb)
   clear hb
   have e0 := BX.out.cell 0 (by simp)
   have e1 := BX.out.cell 1 (by simp)
   have e2 := BX.out.cell 2 (by simp)
   have e3 := BX.out.cell 3 (by simp)
   have e4 := BX.out.cell 4 (by simp)
   have e5 := BX.out.cell 5 (by simp)
   simp only [List.getElem_cons_zero, List.getElem_cons_succ] at e0 e1 e2 e3 e4 e5
   go_wp2_with fail
   clear e0 e1 e2 e3 e4 e5
   go_loopw [3, 4, 20] (fun _ _ i wr => ∃ k : Nat, k ≤ ls.length ∧ i = .int .i64 k ∧ layTo ⟨⟨a0, a1, a2, a3, a4⟩, ls⟩ k = true ∧ Below w.heap.size w wr ∧ Bx wr w.heap.size [.string ⟨a0.toArray⟩, .bool a1, .bool a2, .slice ra a3.length rc, .int .i64 a4, .slice sa ls.length sc]) (fun _ _ i _ => ls.length - (intOf i).toNat)
   case atStart => exact ⟨0, Nat.zero_le _, rfl, rfl, HB.out, BX.out⟩
   case round =>
    obtain ⟨k, hk, rfl, ht, hbr, hbx⟩ := hrel
    have HT := Lib.hid ht
    have HBr := Lib.hid hbr
    have BXr := Lib.hid hbx
    have HXr := Lib.hid (SliceAt.below H5.out (good_flat cLayer_len) hbr (Nat.le_refl _))
    clear ht hbr hbx
    by_cases hlt : k < ls.length
    ·obtain ⟨b, o, cs, rfl, hbw, hat, hd⟩ := sliceAt_cell HXr.out k hlt
     have HLO := Lib.hid (HOK.out k hlt _ rfl)
     have HBD := Lib.hid (fun h => HBAD.out k hlt h)
     have HNX := Lib.hid (show layOk ⟨⟨a0, a1, a2, a3, a4⟩, ls⟩ k = true → layTo ⟨⟨a0, a1, a2, a3, a4⟩, ls⟩ (k + 1) = true from fun h => by rw [HSU.out, HT.out, h]; rfl)
     have HTK := Lib.hid (HFN.out k (Nat.le_of_lt hlt))
     have HFO := Lib.hid (fun W hW => implFaceOf_any (.agg #[.string ⟨a0.toArray⟩, .bool a1, .bool a2, .slice ra a3.length rc, .int .i64 a4, .slice (some ⟨b, o, none⟩) k sc]) ⟨⟨a0, a1, a2, a3, a4⟩, ls.take k⟩ W ⟨_, rfl, _, _, rfl, SliceAt.below H3.out (good_flat cCell_len) hW (Nat.le_refl _), sliceAt_take (SliceAt.below H5.out (good_flat cLayer_len) hW (Nat.le_refl _)) k (Nat.le_of_lt hlt) (by omega)⟩)
     rw [HTK.out] at HFO
     generalize ls[k] = z at *
     obtain ⟨z0, z1⟩ := z
     simp only [rFlat, cLayer] at hat HLO
     subst hat
     have d0 := hd 0 (by decide)
     have d1 := hd 1 (by decide)
     simp only [List.getElem?_cons_zero, List.getElem?_cons_succ, Nat.add_zero] at d0 d1
     have HLN := Lib.hid (implLayerNeeds_any ⟨z0.toArray⟩)
     simp only [ndV, List.toList_toArray] at HLN
     have HIO := Lib.hid (fun W => insideOf_c ⟨a0.toArray⟩ a1 a2 ra (some ⟨b, o, none⟩) a3.length rc ls.length sc a4 k W (by omega) (by unfold maxLen; omega))
     have HOF := Lib.hid (implOffers_any (faceN ⟨⟨a0, a1, a2, a3, a4⟩, ls⟩ k) (needI (layI z0)))
     have HIL := Lib.hid (isLayerCount_c z0 z1)
     have hkc : (k : Int) < (ls.length : Int) := by omega
     generalize layOk ⟨⟨a0, a1, a2, a3, a4⟩, ls⟩ k = lo at *
     generalize faceN ⟨⟨a0, a1, a2, a3, a4⟩, ls⟩ k = fc at *
     generalize needI (layI z0) = nd at *
     generalize offersF fc nd = ob at *
     generalize cntB ⟨z0, z1⟩ = cn at *
     generalize hge : decide (0 ≤ layI z0) = q at *
     clear hd hge HXr HTK
     have HW0 := Lib.hid (part_box wr (.cells #[.string ⟨z0.toArray⟩, .int .i64 z1] 86))
     have BL := Lib.hid (Bx.new wr [.string ⟨z0.toArray⟩, .int .i64 z1] 86)
     have BX1 := Lib.hid (BXr.out.alloc (.cells #[.string ⟨z0.toArray⟩, .int .i64 z1] 86))
     have HB1 := Lib.hid (belS HBr.out HW0.out)
     have e0 := BX1.out.cell 0 (by simp)
     have e1 := BX1.out.cell 1 (by simp)
     have e2 := BX1.out.cell 2 (by simp)
     have e3 := BX1.out.cell 3 (by simp)
     have e4 := BX1.out.cell 4 (by simp)
     have e5 := BX1.out.cell 5 (by simp)
     simp only [List.getElem_cons_zero, List.getElem_cons_succ] at e0 e1 e2 e3 e4 e5
     cases q with
     | false =>
      have HR2 := Lib.hid (show pb = false from HBD.out (by rw [HLO.out]; rfl))
      go_wp2_with (first | (go_at_call 86; (with_reducible refine (HLN.out _).mono ?_); rintro e w' ⟨rfl, rfl⟩))
      go_ret
      exact ⟨ret_bool HR2.out.symm, HB1.out⟩
     | true =>
      go_wp2_with (first | (go_at_call 86; (with_reducible refine (HLN.out _).mono ?_); rintro e w' ⟨rfl, rfl⟩))
      refine (HIO.out _).mono ?_
      rintro e w2 ⟨rfl, hb⟩
      have HB2 := Lib.hid (belS HB1.out hb)
      have BL2 := Lib.hid (BL.out.below hb)
      have BX2 := Lib.hid (BX1.out.below hb)
      clear hb
      clear e0 e1 e2 e3 e4 e5
      go_wp2_with fail
      refine (HFO.out _ HB2.out).mono ?_
      rintro e w3 ⟨rfl, hb⟩
      have HB3 := Lib.hid (belS HB2.out hb)
      have BL3 := Lib.hid (BL2.out.below hb)
      have BX3 := Lib.hid (BX2.out.below hb)
      clear hb
      have g0 := BL3.out.cell 0 (by simp)
      have g1 := BL3.out.cell 1 (by simp)
      simp only [List.getElem_cons_zero, List.getElem_cons_succ] at g0 g1
      cases ob with
      | false =>
       have HR2 := Lib.hid (show pb = false from HBD.out (by rw [HLO.out]; rfl))
       go_wp2_with (first | (go_at_call 47; (with_reducible refine (HOF.out _).mono ?_); rintro e w' ⟨rfl, rfl⟩))
       go_ret
       exact ⟨ret_bool HR2.out.symm, HB3.out⟩
      | true =>
       go_wp2_with (first | (go_at_call 47; (with_reducible refine (HOF.out _).mono ?_); rintro e w' ⟨rfl, rfl⟩))
       refine (HIL.out _).mono ?_
       rintro e w4 ⟨rfl, hb⟩
       have HB4 := Lib.hid (belS HB3.out hb)
       have BX4 := Lib.hid (BX3.out.below hb)
       clear hb g0 g1
       cases cn with
       | false =>
        have HR2 := Lib.hid (show pb = false from HBD.out (by rw [HLO.out]; rfl))
        go_wp2_with fail
        go_ret
        exact ⟨ret_bool HR2.out.symm, HB4.out⟩
       | true =>
        have HR2 := Lib.hid (HNX.out (by rw [HLO.out]; rfl))
        go_wp2_with fail
        exact ⟨⟨k + 1, by omega, by go_num, HR2.out, HB4.out, BX4.out⟩, by simp [intOf]; omega⟩
    ·have HR2 := Lib.hid (show pb = true by rw [HR.out]; have h := HT.out; rwa [show k = ls.length by omega] at h)
     go_wp2
     go_ret
     exact ⟨ret_bool HR2.out.symm, HBr.out⟩
theorem Bx.grown {w w' : World} {b : Nat} {cs : List Value} {r : Option Nat} (h : Bx w b cs) (hg : w.grownBy w' r) (hr : r ≠ some b) : Bx w' b cs :=
 ⟨Nat.lt_of_lt_of_le h.lt hg.size, fun j hj => (World.cell?_of_block (hg.block b h.lt (fun e => hr e.symm))).trans (h.cell j hj), fun j hj => (World.frozen?_of_block (hg.block b h.lt (fun e => hr e.symm))).trans (h.froz j hj)⟩
theorem Bx.belowK {w w' : World} {b B : Nat} {cs : List Value} (h : Bx w b cs) (hb : Below B w w') (hB : b < B) : Bx w' b cs :=
 ⟨Nat.lt_of_lt_of_le h.lt hb.size, fun j hj => (World.cell?_of_block (hb.block b hB)).trans (h.cell j hj), fun j hj => (World.frozen?_of_block (hb.block b hB)).trans (h.froz j hj)⟩
theorem Bx.put6 {w : World} {b : Nat} {c0 c1 c2 c3 c4 c5 : Value} (h : Bx w b [c0, c1, c2, c3, c4, c5]) (u0 u1 u2 u3 u4 u5 : Value) :
  Bx ((((((w.setCell ⟨b, 0, none⟩ u0).setCell ⟨b, 1, none⟩ u1).setCell ⟨b, 2, none⟩ u2).setCell ⟨b, 3, none⟩ u3).setCell ⟨b, 4, none⟩ u4).setCell ⟨b, 5, none⟩ u5) b [u0, u1, u2, u3, u4, u5] :=
 ((((((h.set 0 (by simp) u0).set 1 (by simp) u1).set 2 (by simp) u2).set 3 (by simp) u3).set 4 (by simp) u4).set 5 (by simp) u5)
theorem below_put6 {B : Nat} {a w : World} (h : Below B a w) (b : Nat) (hb : B ≤ b) (u0 u1 u2 u3 u4 u5 : Value) :
  Below B a ((((((w.setCell ⟨b, 0, none⟩ u0).setCell ⟨b, 1, none⟩ u1).setCell ⟨b, 2, none⟩ u2).setCell ⟨b, 3, none⟩ u3).setCell ⟨b, 4, none⟩ u4).setCell ⟨b, 5, none⟩ u5) :=
 ((((((h.setCell (p := ⟨b, 0, none⟩) hb u0).setCell (p := ⟨b, 1, none⟩) hb u1).setCell (p := ⟨b, 2, none⟩) hb u2).setCell (p := ⟨b, 3, none⟩) hb u3).setCell (p := ⟨b, 4, none⟩) hb u4).setCell (p := ⟨b, 5, none⟩) hb u5)
theorem ownsF_put6 {α : Type} {f : α → List Value} {E k : Nat} {w : World} {B : Nat} {v : Value} {l : List α} (h : OwnsF f E k w B v l) (b : Nat) (hb : b < B) (u0 u1 u2 u3 u4 u5 : Value) :
  OwnsF f E k ((((((w.setCell ⟨b, 0, none⟩ u0).setCell ⟨b, 1, none⟩ u1).setCell ⟨b, 2, none⟩ u2).setCell ⟨b, 3, none⟩ u3).setCell ⟨b, 4, none⟩ u4).setCell ⟨b, 5, none⟩ u5) B v l :=
 ownsF_set (ownsF_set (ownsF_set (ownsF_set (ownsF_set (ownsF_set h hb) hb) hb) hb) hb) hb
theorem Bx.dr {w : World} {b : Nat} {cs : List Value} (h : Bx w b cs) : Bx w.drew b cs := ⟨h.lt, h.cell, h.froz⟩
def oPart (w : World) (B : Nat) (cs : List Value) (x : PartD) : Prop := ∃ v3 v5, cs = [.string ⟨x.fCore.fKind.toArray⟩, .bool x.fCore.fOn, .bool x.fCore.fBroken, v3, .int .i64 x.fCore.fCount, v5] ∧ OwnsF cCell 139 2 w B v3 x.fCore.fCells ∧ OwnsF cLayer 86 2 w B v5 x.fLayers
structure SmallP (x : PartD) : Prop where
 z : zPart x ≤ 1048576
 kind : x.fCore.fKind.length ≤ 1048576
 cells : x.fCore.fCells.length ≤ 2097152
 keys : ∀ c ∈ x.fCore.fCells, c.fKey.length ≤ 1048576
 lays : x.fLayers.length ≤ 2097152
 names : ∀ y ∈ x.fLayers, y.fName.length ≤ 1048576
theorem smallP_of {x : PartD} (h : zPart x ≤ 1048576) : SmallP x := by
 unfold zPart zCore at h
 refine ⟨by unfold zPart zCore; exact h, by omega, by omega, fun c hc => ?_, by omega, fun y hy => ?_⟩
 ·have := sumF_mem zCell x.fCore.fCells c hc
  have h2 : c.fKey.length ≤ zCell c := by unfold zCell; omega
  omega
 ·have := sumF_mem zLayer x.fLayers y hy
  have h2 : y.fName.length ≤ zLayer y := by unfold zLayer; omega
  omega
def GivesOP (x : PartD) (w : World) (e : Ending) (w' : World) : Prop := ∃ cs, e = .returned (.agg cs.toArray) ∧ oPart w' w.heap.size cs x ∧ Below w.heap.size w w'
theorem oPart_r {w : World} {B : Nat} {cs : List Value} {x : PartD} (h : oPart w B cs x) (hs : SmallP x) : rPart B w cs x := by
 obtain ⟨v3, v5, rfl, h3, h5⟩ := h
 exact ⟨v3, v5, rfl, sliceAt_of_owns cCell_len h3 (Nat.le_trans hs.cells (by decide)), sliceAt_of_owns cLayer_len h5 (Nat.le_trans hs.lays (by decide))⟩
theorem infoLay : (Tryz.prog.info? 86).map (fun i => (i.zero, i.size, i.bytes)) = some (some (.agg #[.string ⟨#[]⟩, .int .i64 0]), 2, 24) := by kernel_rfl
theorem step_lays {ops : Array Oper} {o : Oper} {a : Act} {K : Act → World → Prop} {Q : Exit → Act → World → Prop} {E : Prop} (hgd : o.guard = none) (s x : Operand)
  (ho : o.op = .call { callee := .builtin .append, args := #[s, x], argTypes := #[35, 35] }) (B : Nat) (v : Value) (l : List LayerD) (y : LayerD) (w : World) (blk : Nat)
  (hs : a.eval s = v) (hO : OwnsF cLayer 86 2 w B v l) (hx : a.eval x = .slice (some ⟨blk, 0, none⟩) 1 1) (hc : ∀ j, j < 2 → w.cell? ⟨blk, j, none⟩ = (cLayer y)[j]?) (hl : l.length ≤ 4194304) (hB : B ≤ w.heap.size)
  (h : ∀ v' w', OwnsF cLayer 86 2 w' B v' (l ++ [y]) → w.grownBy w' v.ownBlock → K (a.put o.dst v') w') : if Region.wanted o (yielded ops a.tmps) = true then Oper.wp Tryz.prog o a w K Q else E := by
 obtain ⟨i0, hi, hz0, hz1, hz2⟩ := info_parts infoLay
 refine step_append_lies w hgd s x 35 ho B 86 i0 _ 2 24 Tryz.underlying35 hi hz0 hz1 hz2 rfl (by decide) v l.length (l.flatMap cLayer) hs hO ⟨blk, 0, none⟩ 1 1 (cLayer y) hx rfl ?_ (cLayer_one y) (by decide) (by unfold maxLen; omega) (by omega) hB _ rfl ?_
 ·intro j u hj
  have hj2 : j < 2 := (List.getElem?_eq_some_iff.1 hj).1
  rw [Addr.add_lit, Nat.zero_add, hc j hj2]; exact hj
 ·intro g cap w' h1 h2 _ _
  refine h _ w' ?_ h2
  unfold OwnsF; rw [List.flatMap_append, List.length_append]; simpa using h1
theorem cell_newL (w : World) (y : LayerD) (blk : Nat) (h : blk = w.heap.size) : ∀ j, j < 2 → (w.alloc (.cells #[.string ⟨y.fName.toArray⟩, .int .i64 y.fCount] 86)).cell? ⟨blk, j, none⟩ = (cLayer y)[j]? := by
 intro j hj
 subst h
 rw [cell_of_row _ _ _ _ 86 (0, 0) (heap_alloc_new w _)]
 rcases (show j = 0 ∨ j = 1 by omega) with rfl | rfl <;> rfl
set_option maxRecDepth 100000 in
set_option maxHeartbeats 3200000 in
theorem copyPart_c (v : Value) (x : PartD) (w : World) (hx : ValAt rPart 0 w v x) (hs : SmallP x) :
  Calls Tryz.prog 66 #[v] w fun e w' => GivesOP x w e w' := by
 obtain ⟨_, rfl, hx⟩ := hx
 obtain ⟨i0, hi, hz0, hz1, hz2⟩ := info_parts infoLay
 obtain ⟨xc, l⟩ := x
 obtain ⟨v3, v5, rfl, h3, h5⟩ := hx
 have HCC := Lib.hid (fun W (hb : Below w.heap.size w W) => copyCore_c (vCore xc v3) xc W ⟨v3, rfl, FlatAt.below (flatAt_of_slice cCell_len (by decide) h3) hb (Nat.le_refl _)⟩ hs.cells hs.keys hs.kind)
 unfold GivesCore OwnsCore at HCC
 have HS := Lib.hid hs.names
 have hm := hs.lays
 simp only at h3 h5 HS hm
 obtain ⟨ra, rc, rfl, _⟩ := sliceAt_len h3
 obtain ⟨sa, sc, rfl, hl⟩ := sliceAt_len h5
 have H5 := Lib.hid h5
 obtain ⟨kd, on, br, cl, cnt⟩ := xc
 unfold vCore at HCC
 simp only at HCC h3 ⊢
 clear h3 h5 hs
 unfold maxLen at hl
 have hb2 : i0.bytes * l.length ≤ 281474976710656 := by rw [hz2]; omega
 have HB2 := Lib.hid hb2
 have HM := Lib.hid (show l.length ≤ maxLen from by unfold maxLen; omega)
 clear hb2
 have BS := Lib.hid (bx_start2 w [.string ⟨kd.toArray⟩, .bool on, .bool br, .slice ra cl.length rc, .int .i64 cnt, .slice sa l.length sc] [.string ⟨#[]⟩, .bool false, .bool false, .slice none 0 0, .int .i64 0, .slice none 0 0] 37 37)
 go_enter Tryz.func66, Tryz.ntmps66
 go_wp2_with (refine wpList_make_own _ rfl _ _ 35 rfl (w.heap.size + 1 + 1) 86 i0 _ 2 Tryz.underlying35 hi hz0 hz1 .i64 .i64 _ l.length rfl rfl rfl HB2.out HM.out (by simp) ?_; intro w1 hown1 hgrow1; have BP := Lib.hid (BS.out.1.grown hgrow1 (by simp)); have BR := Lib.hid (BS.out.2.1.grown hgrow1 (by simp)); have e5 := BP.out.cell 5 (by simp); simp only [List.getElem_cons_zero, List.getElem_cons_succ] at e5)
 have HO0 := Lib.hid (show OwnsF cLayer 86 2 w1 (w.heap.size + 1 + 1) (.slice (some ⟨w.heap.size + 1 + 1, 0, none⟩) 0 l.length) (l.take 0) from by simpa [OwnsF] using hown1)
 have HW1 := Lib.hid (show Below w.heap.size w w1 from BS.out.2.2.trans ⟨hgrow1.os, hgrow1.tape, hgrow1.output, hgrow1.size, fun i hi => hgrow1.block i (by simp; omega) (by simp)⟩)
 have HS1 := Lib.hid (show w.heap.size + 1 + 1 ≤ w1.heap.size from by simpa using hgrow1.size)
 clear hown1 hgrow1 hz0 hz1 hz2 HB2 hi e5
 go_loopw [3, 5, 13] (fun u _ i wr => ∃ k : Nat, k ≤ l.length ∧ i = .int .i64 k ∧ OwnsF cLayer 86 2 wr (w.heap.size + 1 + 1) u (l.take k) ∧ Below (w.heap.size + 1 + 1) w1 wr) (fun _ _ i _ => l.length - (intOf i).toNat)
 case atStart => exact ⟨0, Nat.zero_le _, rfl, HO0.out, Below.refl _ _⟩
 case round =>
  obtain ⟨k, hk2, rfl, hO, hb⟩ := hrel
  have HO := Lib.hid hO
  have HB := Lib.hid hb
  have HBw := Lib.hid (show Below w.heap.size w wr from HW1.out.trans (hb.mono (by omega)))
  have HXr := Lib.hid (SliceAt.below H5.out (good_flat cLayer_len) HBw.out (Nat.le_refl _))
  have HLT := Lib.hid (show ∀ g, u3.ownBlock = some g → g < wr.heap.size from fun g h => (World.ownsRow.lt hO g h).2)
  have HSZ := Lib.hid (Nat.le_trans HS1.out hb.size)
  clear hO hb
  by_cases hlt : k < l.length
  ·obtain ⟨b, o, cs, rfl, hbl, hat, hd⟩ := sliceAt_cell HXr.out k hlt
   have HSN := Lib.hid (show l.take (k + 1) = l.take k ++ [l[k]] from by rw [List.take_succ_eq_append_getElem hlt])
   have hks := HS.out l[k] (List.getElem_mem hlt)
   generalize l[k] = p at *
   obtain ⟨a0, a1⟩ := p
   simp only [rFlat, cLayer] at hat
   subst hat
   have d0 := hd 0 (by decide)
   have d1 := hd 1 (by decide)
   simp only [List.getElem?_cons_zero, List.getElem?_cons_succ, Nat.add_zero] at d0 d1 hks
   have HCT := Lib.hid (fun W => copyText_any ⟨a0.toArray⟩ W (by rw [← size_list]; simp; omega))
   clear hks hd
   go_wp2_with fail
   go_region_held3 (fun w' => w'.cell? ⟨wr.heap.size, 0, none⟩ = some (.string ⟨a0.toArray⟩) ∧ w'.cell? ⟨wr.heap.size, 1, none⟩ = some (.int .i64 a1))
    (first
     | go_keep
     |(rw [hb1.cell (p := ⟨wr.heap.size, 0, none⟩) (by simp), hb1.cell (p := ⟨wr.heap.size, 1, none⟩) (by simp)]; assumption)
     |(rw [hg1.cell_far ⟨wr.heap.size, 0, none⟩ (by have := hb1.size; simp at *; omega) (by intro e; have := HLT.out _ e.symm; simp at this), hg1.cell_far ⟨wr.heap.size, 1, none⟩ (by have := hb1.size; simp at *; omega) (by intro e; have := HLT.out _ e.symm; simp at this)]; assumption))
    (first
     |(go_at_call 105; (with_reducible refine (HCT.out _).mono ?_); rintro e w2 ⟨rfl, hb1⟩)
     |(refine step_lays rfl _ _ rfl (w.heap.size + 1 + 1) u3 (l.take k) ⟨a0, a1⟩ _ w2.heap.size rfl (ownsF_alloc (ownsF_below (ownsF_drew (ownsF_alloc HO.out _)) hb1 (Nat.le_refl _)) _) rfl (cell_newL w2 ⟨a0, a1⟩ _ rfl) ?_ ?_ ?_; (simp; omega); (have h1 := hb1.size; have h2 := HSZ.out; simp at h1; simp; omega); intro v' w4 hO4 hg1))
   have HA := Lib.hid (((Below.refl wr.heap.size wr).alloc (Nat.le_refl _) (.cells #[.string ⟨a0.toArray⟩, .int .i64 a1] 86)).drew)
   have HA1 := Lib.hid ((HA.out.trans (hb1.mono HA.out.size)).alloc (HA.out.trans (hb1.mono HA.out.size)).size (.cells #[.string ⟨a0.toArray⟩, .int .i64 a1] 86))
   have HA2 := Lib.hid (HB.out.trans (HA1.out.mono (HSZ.out)))
   have HA3 := Lib.hid (below_appendF HA2.out (ownsF_alloc (ownsF_below (ownsF_drew (ownsF_alloc HO.out _)) hb1 (Nat.le_refl _)) _) hg1 (Nat.le_trans HS1.out HA2.out.size))
   have HO4 := Lib.hid hO4
   rename_i hheld
   clear hb1 hg1 hO4 hheld
   go_wp2_with fail
   exact ⟨⟨k + 1, by omega, by go_num, by rw [HSN.out]; exact HO4.out, HA3.out⟩, by simp [intOf]; omega⟩
  ·have HOl := Lib.hid (show OwnsF cLayer 86 2 wr (w.heap.size + 1 + 1) u3 l from by have h := HO.out; rw [List.take_of_length_le (by omega)] at h; exact h)
   obtain ⟨ua, uc, rfl⟩ := slice_of HOl.out
   have hsz := HSZ.out
   have BP2 := Lib.hid (BP.out.belowK HB.out (by omega))
   have BR2 := Lib.hid (BR.out.belowK HB.out (by omega))
   have q0 := BP2.out.cell 0 (by simp)
   have q1 := BP2.out.cell 1 (by simp)
   have q2 := BP2.out.cell 2 (by simp)
   have q3 := BP2.out.cell 3 (by simp)
   have q4 := BP2.out.cell 4 (by simp)
   have q5 := BP2.out.cell 5 (by simp)
   simp only [List.getElem_cons_zero, List.getElem_cons_succ] at q0 q1 q2 q3 q4 q5
   go_wp2_with fail
   refine (HCC.out _ HBw.out).mono ?_
   rintro e w5 ⟨_, rfl, ⟨cv, rfl, ho5⟩, hb5⟩
   obtain ⟨ga, gc, rfl⟩ := slice_of ho5
   have HB5 := Lib.hid hb5
   have HO5 := Lib.hid ho5
   have BR3 := Lib.hid (BR2.out.below hb5)
   clear hb5 ho5 q0 q1 q2 q3 q4 q5
   have r0 := BR3.out.cell 0 (by simp)
   have r1 := BR3.out.cell 1 (by simp)
   have r2 := BR3.out.cell 2 (by simp)
   have r3 := BR3.out.cell 3 (by simp)
   have r4 := BR3.out.cell 4 (by simp)
   have r5 := BR3.out.cell 5 (by simp)
   simp only [List.getElem_cons_zero, List.getElem_cons_succ] at r0 r1 r2 r3 r4 r5
   have z0 := BR3.out.froz 0 (by simp)
   have z1 := BR3.out.froz 1 (by simp)
   have z2 := BR3.out.froz 2 (by simp)
   have z3 := BR3.out.froz 3 (by simp)
   have z4 := BR3.out.froz 4 (by simp)
   have z5 := BR3.out.froz 5 (by simp)
   go_wp2_with fail
   clear r0 r1 r2 r3 r4 r5 z0 z1 z2 z3 z4 z5
   have BR4 := Lib.hid (BR3.out.put6 (.string ⟨kd.toArray⟩) (.bool on) (.bool br) (.slice ga cl.length gc) (.int .i64 cnt) (.slice ua l.length uc))
   have HB6 := Lib.hid (below_put6 (HBw.out.trans (HB5.out.mono HBw.out.size)) (w.heap.size + 1) (by omega) (.string ⟨kd.toArray⟩) (.bool on) (.bool br) (.slice ga cl.length gc) (.int .i64 cnt) (.slice ua l.length uc))
   have OC := Lib.hid (ownsF_put6 HO5.out (w.heap.size + 1) (by omega) (.string ⟨kd.toArray⟩) (.bool on) (.bool br) (.slice ga cl.length gc) (.int .i64 cnt) (.slice ua l.length uc))
   have OL := Lib.hid (ownsF_put6 (ownsF_below HOl.out HB5.out (Nat.le_refl _)) (w.heap.size + 1) (by omega) (.string ⟨kd.toArray⟩) (.bool on) (.bool br) (.slice ga cl.length gc) (.int .i64 cnt) (.slice ua l.length uc))
   generalize ((((((w5.setCell ⟨w.heap.size + 1, 0, none⟩ (.string ⟨kd.toArray⟩)).setCell ⟨w.heap.size + 1, 1, none⟩ (.bool on)).setCell ⟨w.heap.size + 1, 2, none⟩ (.bool br)).setCell ⟨w.heap.size + 1, 3, none⟩ (.slice ga cl.length gc)).setCell ⟨w.heap.size + 1, 4, none⟩ (.int .i64 cnt)).setCell ⟨w.heap.size + 1, 5, none⟩ (.slice ua l.length uc)) = WE at *
   have r0 := BR4.out.cell 0 (by simp)
   have r1 := BR4.out.cell 1 (by simp)
   have r2 := BR4.out.cell 2 (by simp)
   have r3 := BR4.out.cell 3 (by simp)
   have r4 := BR4.out.cell 4 (by simp)
   have r5 := BR4.out.cell 5 (by simp)
   simp only [List.getElem_cons_zero, List.getElem_cons_succ] at r0 r1 r2 r3 r4 r5
   exact bodyPost_ret (v := .agg #[.string ⟨kd.toArray⟩, .bool on, .bool br, .slice ga cl.length gc, .int .i64 cnt, .slice ua l.length uc]) (by simp [results, Tryz.results66, go_sem, r0, r1, r2, r3, r4, r5]) rfl ⟨_, rfl, ⟨_, _, rfl, ownsF_base OC.out (by omega), ownsF_base OL.out (by omega)⟩, HB6.out⟩
def partV (b : Nat) : Nat → Value
 | 0 => .iface 193 (.agg #[.pointer (some ⟨b, 0, none⟩)])
 | 1 => .iface 174 (.agg #[.pointer (some ⟨b, 0, none⟩), .pointer (some ⟨b, 0, none⟩)])
 | 2 => .iface 177 (.agg #[.pointer (some ⟨b, 0, none⟩), .pointer (some ⟨b, 0, none⟩)])
 | 3 => .iface 180 (.agg #[.pointer (some ⟨b, 0, none⟩), .pointer (some ⟨b, 0, none⟩), .pointer (some ⟨b, 0, none⟩)])
 | 4 => .iface 182 (.agg #[.pointer (some ⟨b, 0, none⟩), .pointer (some ⟨b, 0, none⟩), .pointer (some ⟨b, 0, none⟩)])
 | 5 => .iface 185 (.agg #[.pointer (some ⟨b, 0, none⟩), .pointer (some ⟨b, 0, none⟩), .pointer (some ⟨b, 0, none⟩)])
 | 6 => .iface 188 (.agg #[.pointer (some ⟨b, 0, none⟩), .pointer (some ⟨b, 0, none⟩), .pointer (some ⟨b, 0, none⟩), .pointer (some ⟨b, 0, none⟩)])
 | _ => .iface 191 (.agg #[.pointer (some ⟨b, 0, none⟩), .pointer (some ⟨b, 0, none⟩), .pointer (some ⟨b, 0, none⟩), .pointer (some ⟨b, 0, none⟩), .pointer (some ⟨b, 0, none⟩), .pointer (some ⟨b, 0, none⟩), .pointer (some ⟨b, 0, none⟩)])
set_option maxRecDepth 100000 in
set_option maxHeartbeats 1600000 in
theorem partOf_k (j : Nat) (hj : j < 8) (b : Nat) (w : World) (h : w.cell? ⟨b, 0, none⟩ = some (.string ⟨(kindN j).toArray⟩)) :
  Calls Tryz.prog 123 #[.pointer (some ⟨b, 0, none⟩)] w fun e w' => e = .returned (partV b j) ∧ Below w.heap.size w w' := by
 have hl0 := World.block_lt_of_cell? w _ h
 simp only at hl0
 have hn0 : ¬ b = w.heap.size := by omega
 rcases (show j = 0 ∨ j = 1 ∨ j = 2 ∨ j = 3 ∨ j = 4 ∨ j = 5 ∨ j = 6 ∨ j = 7 by omega) with rfl | rfl | rfl | rfl | rfl | rfl | rfl | rfl
 all_goals
  simp only [kindN] at h
  unfold partV
  go_enter Tryz.func123, Tryz.ntmps123
  go_wp2_with fail
  go_ret
  exact ⟨rfl, (Below.refl _ _).alloc (Nat.le_refl _) _⟩
theorem bel_dr {B : Nat} {a w : World} (h : Below B a w) : Below B a w.drew := ⟨h.os, h.tape, h.output, h.size, h.block⟩
theorem off_bits : ∀ a : Fin 64, offersF ((a : Nat) : Int) 0 = true ∧ offersF ((a : Nat) : Int) 1 = hasI ((a : Nat) : Int) 0 ∧ offersF ((a : Nat) : Int) 2 = hasI ((a : Nat) : Int) 1 ∧ offersF ((a : Nat) : Int) 4 = hasI ((a : Nat) : Int) 2 ∧ offersF ((a : Nat) : Int) 3 = (hasI ((a : Nat) : Int) 0 && hasI ((a : Nat) : Int) 1) := by decide +kernel
def Meets (I T : TypeId) (b : Bool) : Prop := match b with | true => Has I T | false => Fails I T
structure Ass (T : TypeId) (f : Int) : Prop where
 face : isF f = true
 run : Meets 206 T (offersF f 1)
 keep : Meets 210 T (offersF f 2)
 tell : Meets 222 T (offersF f 4)
 both : Meets 215 T (offersF f 3)
theorem as_run_k0 : Meets 206 193 (offersF 0 1) := (show offersF 0 1 = false by decide +kernel) ▸ (show Fails 206 193 from fails_of Tryz.underlying206 (by kernel_rfl))
theorem as_keep_k0 : Meets 210 193 (offersF 0 2) := (show offersF 0 2 = false by decide +kernel) ▸ (show Fails 210 193 from fails_of Tryz.underlying210 (by kernel_rfl))
theorem as_tell_k0 : Meets 222 193 (offersF 0 4) := (show offersF 0 4 = false by decide +kernel) ▸ (show Fails 222 193 from fails_of Tryz.underlying222 (by kernel_rfl))
theorem as_both_k0 : Meets 215 193 (offersF 0 3) := (show offersF 0 3 = false by decide +kernel) ▸ (show Fails 215 193 from fails_of Tryz.underlying215 (by kernel_rfl))
theorem ass_k0 : Ass 193 0 := ⟨by decide, as_run_k0, as_keep_k0, as_tell_k0, as_both_k0⟩
theorem fk_0 (b : Nat) : ∀ (fuel : Nat) (w : World), (method (fuel + 1) 193 (.agg #[.pointer (some ⟨b, 0, none⟩)]) "loop.example/g03016/impl.face").run Tryz.prog w = .ok (192, .agg #[.pointer (some ⟨b, 0, none⟩)]) w := by intro fuel w; kernel_rfl
theorem fn_0 (b : Nat) : ∀ (fuel : Nat) (w : World), (nilAhead (fuel + 1) 193 (.agg #[.pointer (some ⟨b, 0, none⟩)]) "loop.example/g03016/impl.face").run Tryz.prog w = .ok (some false) w := by intro fuel w; kernel_rfl
theorem as_run_k1 : Meets 206 174 (offersF 1 1) := (show offersF 1 1 = true by decide +kernel) ▸ (show Has 206 174 from ta_has Tryz.underlying206 (by kernel_rfl))
theorem as_keep_k1 : Meets 210 174 (offersF 1 2) := (show offersF 1 2 = false by decide +kernel) ▸ (show Fails 210 174 from fails_of Tryz.underlying210 (by kernel_rfl))
theorem as_tell_k1 : Meets 222 174 (offersF 1 4) := (show offersF 1 4 = false by decide +kernel) ▸ (show Fails 222 174 from fails_of Tryz.underlying222 (by kernel_rfl))
theorem as_both_k1 : Meets 215 174 (offersF 1 3) := (show offersF 1 3 = false by decide +kernel) ▸ (show Fails 215 174 from fails_of Tryz.underlying215 (by kernel_rfl))
theorem ass_k1 : Ass 174 1 := ⟨by decide, as_run_k1, as_keep_k1, as_tell_k1, as_both_k1⟩
theorem fk_1 (b : Nat) : ∀ (fuel : Nat) (w : World), (method (fuel + 1) 174 (.agg #[.pointer (some ⟨b, 0, none⟩), .pointer (some ⟨b, 0, none⟩)]) "loop.example/g03016/impl.face").run Tryz.prog w = .ok (192, .agg #[.pointer (some ⟨b, 0, none⟩)]) w := by intro fuel w; kernel_rfl
theorem fn_1 (b : Nat) : ∀ (fuel : Nat) (w : World), (nilAhead (fuel + 1) 174 (.agg #[.pointer (some ⟨b, 0, none⟩), .pointer (some ⟨b, 0, none⟩)]) "loop.example/g03016/impl.face").run Tryz.prog w = .ok (some false) w := by intro fuel w; kernel_rfl
theorem as_run_k2 : Meets 206 177 (offersF 2 1) := (show offersF 2 1 = false by decide +kernel) ▸ (show Fails 206 177 from fails_of Tryz.underlying206 (by kernel_rfl))
theorem as_keep_k2 : Meets 210 177 (offersF 2 2) := (show offersF 2 2 = true by decide +kernel) ▸ (show Has 210 177 from ta_has Tryz.underlying210 (by kernel_rfl))
theorem as_tell_k2 : Meets 222 177 (offersF 2 4) := (show offersF 2 4 = false by decide +kernel) ▸ (show Fails 222 177 from fails_of Tryz.underlying222 (by kernel_rfl))
theorem as_both_k2 : Meets 215 177 (offersF 2 3) := (show offersF 2 3 = false by decide +kernel) ▸ (show Fails 215 177 from fails_of Tryz.underlying215 (by kernel_rfl))
theorem ass_k2 : Ass 177 2 := ⟨by decide, as_run_k2, as_keep_k2, as_tell_k2, as_both_k2⟩
theorem fk_2 (b : Nat) : ∀ (fuel : Nat) (w : World), (method (fuel + 1) 177 (.agg #[.pointer (some ⟨b, 0, none⟩), .pointer (some ⟨b, 0, none⟩)]) "loop.example/g03016/impl.face").run Tryz.prog w = .ok (192, .agg #[.pointer (some ⟨b, 0, none⟩)]) w := by intro fuel w; kernel_rfl
theorem fn_2 (b : Nat) : ∀ (fuel : Nat) (w : World), (nilAhead (fuel + 1) 177 (.agg #[.pointer (some ⟨b, 0, none⟩), .pointer (some ⟨b, 0, none⟩)]) "loop.example/g03016/impl.face").run Tryz.prog w = .ok (some false) w := by intro fuel w; kernel_rfl
theorem as_run_k3 : Meets 206 180 (offersF 5 1) := (show offersF 5 1 = true by decide +kernel) ▸ (show Has 206 180 from ta_has Tryz.underlying206 (by kernel_rfl))
theorem as_keep_k3 : Meets 210 180 (offersF 5 2) := (show offersF 5 2 = false by decide +kernel) ▸ (show Fails 210 180 from fails_of Tryz.underlying210 (by kernel_rfl))
theorem as_tell_k3 : Meets 222 180 (offersF 5 4) := (show offersF 5 4 = true by decide +kernel) ▸ (show Has 222 180 from ta_has Tryz.underlying222 (by kernel_rfl))
theorem as_both_k3 : Meets 215 180 (offersF 5 3) := (show offersF 5 3 = false by decide +kernel) ▸ (show Fails 215 180 from fails_of Tryz.underlying215 (by kernel_rfl))
theorem ass_k3 : Ass 180 5 := ⟨by decide, as_run_k3, as_keep_k3, as_tell_k3, as_both_k3⟩
theorem fk_3 (b : Nat) : ∀ (fuel : Nat) (w : World), (method (fuel + 1) 180 (.agg #[.pointer (some ⟨b, 0, none⟩), .pointer (some ⟨b, 0, none⟩), .pointer (some ⟨b, 0, none⟩)]) "loop.example/g03016/impl.face").run Tryz.prog w = .ok (192, .agg #[.pointer (some ⟨b, 0, none⟩)]) w := by intro fuel w; kernel_rfl
theorem fn_3 (b : Nat) : ∀ (fuel : Nat) (w : World), (nilAhead (fuel + 1) 180 (.agg #[.pointer (some ⟨b, 0, none⟩), .pointer (some ⟨b, 0, none⟩), .pointer (some ⟨b, 0, none⟩)]) "loop.example/g03016/impl.face").run Tryz.prog w = .ok (some false) w := by intro fuel w; kernel_rfl
theorem as_run_k4 : Meets 206 182 (offersF 3 1) := (show offersF 3 1 = true by decide +kernel) ▸ (show Has 206 182 from ta_has Tryz.underlying206 (by kernel_rfl))
theorem as_keep_k4 : Meets 210 182 (offersF 3 2) := (show offersF 3 2 = true by decide +kernel) ▸ (show Has 210 182 from ta_has Tryz.underlying210 (by kernel_rfl))
theorem as_tell_k4 : Meets 222 182 (offersF 3 4) := (show offersF 3 4 = false by decide +kernel) ▸ (show Fails 222 182 from fails_of Tryz.underlying222 (by kernel_rfl))
theorem as_both_k4 : Meets 215 182 (offersF 3 3) := (show offersF 3 3 = true by decide +kernel) ▸ (show Has 215 182 from ta_has Tryz.underlying215 (by kernel_rfl))
theorem ass_k4 : Ass 182 3 := ⟨by decide, as_run_k4, as_keep_k4, as_tell_k4, as_both_k4⟩
theorem fk_4 (b : Nat) : ∀ (fuel : Nat) (w : World), (method (fuel + 1) 182 (.agg #[.pointer (some ⟨b, 0, none⟩), .pointer (some ⟨b, 0, none⟩), .pointer (some ⟨b, 0, none⟩)]) "loop.example/g03016/impl.face").run Tryz.prog w = .ok (192, .agg #[.pointer (some ⟨b, 0, none⟩)]) w := by intro fuel w; kernel_rfl
theorem fn_4 (b : Nat) : ∀ (fuel : Nat) (w : World), (nilAhead (fuel + 1) 182 (.agg #[.pointer (some ⟨b, 0, none⟩), .pointer (some ⟨b, 0, none⟩), .pointer (some ⟨b, 0, none⟩)]) "loop.example/g03016/impl.face").run Tryz.prog w = .ok (some false) w := by intro fuel w; kernel_rfl
theorem as_run_k5 : Meets 206 185 (offersF 9 1) := (show offersF 9 1 = true by decide +kernel) ▸ (show Has 206 185 from ta_has Tryz.underlying206 (by kernel_rfl))
theorem as_keep_k5 : Meets 210 185 (offersF 9 2) := (show offersF 9 2 = false by decide +kernel) ▸ (show Fails 210 185 from fails_of Tryz.underlying210 (by kernel_rfl))
theorem as_tell_k5 : Meets 222 185 (offersF 9 4) := (show offersF 9 4 = false by decide +kernel) ▸ (show Fails 222 185 from fails_of Tryz.underlying222 (by kernel_rfl))
theorem as_both_k5 : Meets 215 185 (offersF 9 3) := (show offersF 9 3 = false by decide +kernel) ▸ (show Fails 215 185 from fails_of Tryz.underlying215 (by kernel_rfl))
theorem ass_k5 : Ass 185 9 := ⟨by decide, as_run_k5, as_keep_k5, as_tell_k5, as_both_k5⟩
theorem fk_5 (b : Nat) : ∀ (fuel : Nat) (w : World), (method (fuel + 1) 185 (.agg #[.pointer (some ⟨b, 0, none⟩), .pointer (some ⟨b, 0, none⟩), .pointer (some ⟨b, 0, none⟩)]) "loop.example/g03016/impl.face").run Tryz.prog w = .ok (192, .agg #[.pointer (some ⟨b, 0, none⟩)]) w := by intro fuel w; kernel_rfl
theorem fn_5 (b : Nat) : ∀ (fuel : Nat) (w : World), (nilAhead (fuel + 1) 185 (.agg #[.pointer (some ⟨b, 0, none⟩), .pointer (some ⟨b, 0, none⟩), .pointer (some ⟨b, 0, none⟩)]) "loop.example/g03016/impl.face").run Tryz.prog w = .ok (some false) w := by intro fuel w; kernel_rfl
theorem as_run_k6 : Meets 206 188 (offersF 19 1) := (show offersF 19 1 = true by decide +kernel) ▸ (show Has 206 188 from ta_has Tryz.underlying206 (by kernel_rfl))
theorem as_keep_k6 : Meets 210 188 (offersF 19 2) := (show offersF 19 2 = true by decide +kernel) ▸ (show Has 210 188 from ta_has Tryz.underlying210 (by kernel_rfl))
theorem as_tell_k6 : Meets 222 188 (offersF 19 4) := (show offersF 19 4 = false by decide +kernel) ▸ (show Fails 222 188 from fails_of Tryz.underlying222 (by kernel_rfl))
theorem as_both_k6 : Meets 215 188 (offersF 19 3) := (show offersF 19 3 = true by decide +kernel) ▸ (show Has 215 188 from ta_has Tryz.underlying215 (by kernel_rfl))
theorem ass_k6 : Ass 188 19 := ⟨by decide, as_run_k6, as_keep_k6, as_tell_k6, as_both_k6⟩
theorem fk_6 (b : Nat) : ∀ (fuel : Nat) (w : World), (method (fuel + 1) 188 (.agg #[.pointer (some ⟨b, 0, none⟩), .pointer (some ⟨b, 0, none⟩), .pointer (some ⟨b, 0, none⟩), .pointer (some ⟨b, 0, none⟩)]) "loop.example/g03016/impl.face").run Tryz.prog w = .ok (192, .agg #[.pointer (some ⟨b, 0, none⟩)]) w := by intro fuel w; kernel_rfl
theorem fn_6 (b : Nat) : ∀ (fuel : Nat) (w : World), (nilAhead (fuel + 1) 188 (.agg #[.pointer (some ⟨b, 0, none⟩), .pointer (some ⟨b, 0, none⟩), .pointer (some ⟨b, 0, none⟩), .pointer (some ⟨b, 0, none⟩)]) "loop.example/g03016/impl.face").run Tryz.prog w = .ok (some false) w := by intro fuel w; kernel_rfl
theorem as_run_k7 : Meets 206 191 (offersF 63 1) := (show offersF 63 1 = true by decide +kernel) ▸ (show Has 206 191 from ta_has Tryz.underlying206 (by kernel_rfl))
theorem as_keep_k7 : Meets 210 191 (offersF 63 2) := (show offersF 63 2 = true by decide +kernel) ▸ (show Has 210 191 from ta_has Tryz.underlying210 (by kernel_rfl))
theorem as_tell_k7 : Meets 222 191 (offersF 63 4) := (show offersF 63 4 = true by decide +kernel) ▸ (show Has 222 191 from ta_has Tryz.underlying222 (by kernel_rfl))
theorem as_both_k7 : Meets 215 191 (offersF 63 3) := (show offersF 63 3 = true by decide +kernel) ▸ (show Has 215 191 from ta_has Tryz.underlying215 (by kernel_rfl))
theorem ass_k7 : Ass 191 63 := ⟨by decide, as_run_k7, as_keep_k7, as_tell_k7, as_both_k7⟩
theorem fk_7 (b : Nat) : ∀ (fuel : Nat) (w : World), (method (fuel + 1) 191 (.agg #[.pointer (some ⟨b, 0, none⟩), .pointer (some ⟨b, 0, none⟩), .pointer (some ⟨b, 0, none⟩), .pointer (some ⟨b, 0, none⟩), .pointer (some ⟨b, 0, none⟩), .pointer (some ⟨b, 0, none⟩), .pointer (some ⟨b, 0, none⟩)]) "loop.example/g03016/impl.face").run Tryz.prog w = .ok (192, .agg #[.pointer (some ⟨b, 0, none⟩)]) w := by intro fuel w; kernel_rfl
theorem fn_7 (b : Nat) : ∀ (fuel : Nat) (w : World), (nilAhead (fuel + 1) 191 (.agg #[.pointer (some ⟨b, 0, none⟩), .pointer (some ⟨b, 0, none⟩), .pointer (some ⟨b, 0, none⟩), .pointer (some ⟨b, 0, none⟩), .pointer (some ⟨b, 0, none⟩), .pointer (some ⟨b, 0, none⟩), .pointer (some ⟨b, 0, none⟩)]) "loop.example/g03016/impl.face").run Tryz.prog w = .ok (some false) w := by intro fuel w; kernel_rfl
theorem as_run_l0 : Meets 206 226 (offersF 0 1) := (show offersF 0 1 = false by decide +kernel) ▸ (show Fails 206 226 from fails_of Tryz.underlying206 (by kernel_rfl))
theorem as_keep_l0 : Meets 210 226 (offersF 0 2) := (show offersF 0 2 = false by decide +kernel) ▸ (show Fails 210 226 from fails_of Tryz.underlying210 (by kernel_rfl))
theorem as_tell_l0 : Meets 222 226 (offersF 0 4) := (show offersF 0 4 = false by decide +kernel) ▸ (show Fails 222 226 from fails_of Tryz.underlying222 (by kernel_rfl))
theorem as_both_l0 : Meets 215 226 (offersF 0 3) := (show offersF 0 3 = false by decide +kernel) ▸ (show Fails 215 226 from fails_of Tryz.underlying215 (by kernel_rfl))
theorem ass_l0 : Ass 226 0 := ⟨by decide, as_run_l0, as_keep_l0, as_tell_l0, as_both_l0⟩
theorem fl_0 (b o : Nat) : ∀ (fuel : Nat) (w : World), (method (fuel + 1) 226 (.agg #[.pointer (some ⟨b, o, none⟩)]) "loop.example/g03016/impl.face").run Tryz.prog w = .ok (230, .agg #[.pointer (some ⟨b, o, none⟩)]) w := by intro fuel w; kernel_rfl
theorem fm_0 (b o : Nat) : ∀ (fuel : Nat) (w : World), (nilAhead (fuel + 1) 226 (.agg #[.pointer (some ⟨b, o, none⟩)]) "loop.example/g03016/impl.face").run Tryz.prog w = .ok (some false) w := by intro fuel w; kernel_rfl
theorem as_run_l1 : Meets 206 208 (offersF 1 1) := (show offersF 1 1 = true by decide +kernel) ▸ (show Has 206 208 from ta_has Tryz.underlying206 (by kernel_rfl))
theorem as_keep_l1 : Meets 210 208 (offersF 1 2) := (show offersF 1 2 = false by decide +kernel) ▸ (show Fails 210 208 from fails_of Tryz.underlying210 (by kernel_rfl))
theorem as_tell_l1 : Meets 222 208 (offersF 1 4) := (show offersF 1 4 = false by decide +kernel) ▸ (show Fails 222 208 from fails_of Tryz.underlying222 (by kernel_rfl))
theorem as_both_l1 : Meets 215 208 (offersF 1 3) := (show offersF 1 3 = false by decide +kernel) ▸ (show Fails 215 208 from fails_of Tryz.underlying215 (by kernel_rfl))
theorem ass_l1 : Ass 208 1 := ⟨by decide, as_run_l1, as_keep_l1, as_tell_l1, as_both_l1⟩
theorem fl_1 (b o : Nat) (T : TypeId) (V : Value) : ∀ (fuel : Nat) (w : World), (method (fuel + 1) 208 (.agg #[.pointer (some ⟨b, o, none⟩), .iface T V]) "loop.example/g03016/impl.face").run Tryz.prog w = .ok (230, .agg #[.pointer (some ⟨b, o, none⟩)]) w := by intro fuel w; kernel_rfl
theorem fm_1 (b o : Nat) (T : TypeId) (V : Value) : ∀ (fuel : Nat) (w : World), (nilAhead (fuel + 1) 208 (.agg #[.pointer (some ⟨b, o, none⟩), .iface T V]) "loop.example/g03016/impl.face").run Tryz.prog w = .ok (some false) w := by intro fuel w; kernel_rfl
theorem as_run_l2 : Meets 206 212 (offersF 2 1) := (show offersF 2 1 = false by decide +kernel) ▸ (show Fails 206 212 from fails_of Tryz.underlying206 (by kernel_rfl))
theorem as_keep_l2 : Meets 210 212 (offersF 2 2) := (show offersF 2 2 = true by decide +kernel) ▸ (show Has 210 212 from ta_has Tryz.underlying210 (by kernel_rfl))
theorem as_tell_l2 : Meets 222 212 (offersF 2 4) := (show offersF 2 4 = false by decide +kernel) ▸ (show Fails 222 212 from fails_of Tryz.underlying222 (by kernel_rfl))
theorem as_both_l2 : Meets 215 212 (offersF 2 3) := (show offersF 2 3 = false by decide +kernel) ▸ (show Fails 215 212 from fails_of Tryz.underlying215 (by kernel_rfl))
theorem ass_l2 : Ass 212 2 := ⟨by decide, as_run_l2, as_keep_l2, as_tell_l2, as_both_l2⟩
theorem fl_2 (b o : Nat) (T : TypeId) (V : Value) : ∀ (fuel : Nat) (w : World), (method (fuel + 1) 212 (.agg #[.pointer (some ⟨b, o, none⟩), .iface T V]) "loop.example/g03016/impl.face").run Tryz.prog w = .ok (230, .agg #[.pointer (some ⟨b, o, none⟩)]) w := by intro fuel w; kernel_rfl
theorem fm_2 (b o : Nat) (T : TypeId) (V : Value) : ∀ (fuel : Nat) (w : World), (nilAhead (fuel + 1) 212 (.agg #[.pointer (some ⟨b, o, none⟩), .iface T V]) "loop.example/g03016/impl.face").run Tryz.prog w = .ok (some false) w := by intro fuel w; kernel_rfl
theorem as_run_l3 : Meets 206 213 (offersF 6 1) := (show offersF 6 1 = false by decide +kernel) ▸ (show Fails 206 213 from fails_of Tryz.underlying206 (by kernel_rfl))
theorem as_keep_l3 : Meets 210 213 (offersF 6 2) := (show offersF 6 2 = true by decide +kernel) ▸ (show Has 210 213 from ta_has Tryz.underlying210 (by kernel_rfl))
theorem as_tell_l3 : Meets 222 213 (offersF 6 4) := (show offersF 6 4 = true by decide +kernel) ▸ (show Has 222 213 from ta_has Tryz.underlying222 (by kernel_rfl))
theorem as_both_l3 : Meets 215 213 (offersF 6 3) := (show offersF 6 3 = false by decide +kernel) ▸ (show Fails 215 213 from fails_of Tryz.underlying215 (by kernel_rfl))
theorem ass_l3 : Ass 213 6 := ⟨by decide, as_run_l3, as_keep_l3, as_tell_l3, as_both_l3⟩
theorem fl_3 (b o : Nat) (T : TypeId) (V : Value) : ∀ (fuel : Nat) (w : World), (method (fuel + 1) 213 (.agg #[.pointer (some ⟨b, o, none⟩), .iface T V]) "loop.example/g03016/impl.face").run Tryz.prog w = .ok (230, .agg #[.pointer (some ⟨b, o, none⟩)]) w := by intro fuel w; kernel_rfl
theorem fm_3 (b o : Nat) (T : TypeId) (V : Value) : ∀ (fuel : Nat) (w : World), (nilAhead (fuel + 1) 213 (.agg #[.pointer (some ⟨b, o, none⟩), .iface T V]) "loop.example/g03016/impl.face").run Tryz.prog w = .ok (some false) w := by intro fuel w; kernel_rfl
theorem as_run_l4 : Meets 206 217 (offersF 3 1) := (show offersF 3 1 = true by decide +kernel) ▸ (show Has 206 217 from ta_has Tryz.underlying206 (by kernel_rfl))
theorem as_keep_l4 : Meets 210 217 (offersF 3 2) := (show offersF 3 2 = true by decide +kernel) ▸ (show Has 210 217 from ta_has Tryz.underlying210 (by kernel_rfl))
theorem as_tell_l4 : Meets 222 217 (offersF 3 4) := (show offersF 3 4 = false by decide +kernel) ▸ (show Fails 222 217 from fails_of Tryz.underlying222 (by kernel_rfl))
theorem as_both_l4 : Meets 215 217 (offersF 3 3) := (show offersF 3 3 = true by decide +kernel) ▸ (show Has 215 217 from ta_has Tryz.underlying215 (by kernel_rfl))
theorem ass_l4 : Ass 217 3 := ⟨by decide, as_run_l4, as_keep_l4, as_tell_l4, as_both_l4⟩
theorem fl_4 (b o : Nat) (T : TypeId) (V : Value) : ∀ (fuel : Nat) (w : World), (method (fuel + 1) 217 (.agg #[.pointer (some ⟨b, o, none⟩), .iface T V]) "loop.example/g03016/impl.face").run Tryz.prog w = .ok (230, .agg #[.pointer (some ⟨b, o, none⟩)]) w := by intro fuel w; kernel_rfl
theorem fm_4 (b o : Nat) (T : TypeId) (V : Value) : ∀ (fuel : Nat) (w : World), (nilAhead (fuel + 1) 217 (.agg #[.pointer (some ⟨b, o, none⟩), .iface T V]) "loop.example/g03016/impl.face").run Tryz.prog w = .ok (some false) w := by intro fuel w; kernel_rfl
theorem as_run_l5 : Meets 206 218 (offersF 2 1) := (show offersF 2 1 = false by decide +kernel) ▸ (show Fails 206 218 from fails_of Tryz.underlying206 (by kernel_rfl))
theorem as_keep_l5 : Meets 210 218 (offersF 2 2) := (show offersF 2 2 = true by decide +kernel) ▸ (show Has 210 218 from ta_has Tryz.underlying210 (by kernel_rfl))
theorem as_tell_l5 : Meets 222 218 (offersF 2 4) := (show offersF 2 4 = false by decide +kernel) ▸ (show Fails 222 218 from fails_of Tryz.underlying222 (by kernel_rfl))
theorem as_both_l5 : Meets 215 218 (offersF 2 3) := (show offersF 2 3 = false by decide +kernel) ▸ (show Fails 215 218 from fails_of Tryz.underlying215 (by kernel_rfl))
theorem ass_l5 : Ass 218 2 := ⟨by decide, as_run_l5, as_keep_l5, as_tell_l5, as_both_l5⟩
theorem fl_5 (b o : Nat) (T : TypeId) (V : Value) : ∀ (fuel : Nat) (w : World), (method (fuel + 1) 218 (.agg #[.pointer (some ⟨b, o, none⟩), .iface T V]) "loop.example/g03016/impl.face").run Tryz.prog w = .ok (230, .agg #[.pointer (some ⟨b, o, none⟩)]) w := by intro fuel w; kernel_rfl
theorem fm_5 (b o : Nat) (T : TypeId) (V : Value) : ∀ (fuel : Nat) (w : World), (nilAhead (fuel + 1) 218 (.agg #[.pointer (some ⟨b, o, none⟩), .iface T V]) "loop.example/g03016/impl.face").run Tryz.prog w = .ok (some false) w := by intro fuel w; kernel_rfl
theorem as_run_l6 : Meets 206 219 (offersF 9 1) := (show offersF 9 1 = true by decide +kernel) ▸ (show Has 206 219 from ta_has Tryz.underlying206 (by kernel_rfl))
theorem as_keep_l6 : Meets 210 219 (offersF 9 2) := (show offersF 9 2 = false by decide +kernel) ▸ (show Fails 210 219 from fails_of Tryz.underlying210 (by kernel_rfl))
theorem as_tell_l6 : Meets 222 219 (offersF 9 4) := (show offersF 9 4 = false by decide +kernel) ▸ (show Fails 222 219 from fails_of Tryz.underlying222 (by kernel_rfl))
theorem as_both_l6 : Meets 215 219 (offersF 9 3) := (show offersF 9 3 = false by decide +kernel) ▸ (show Fails 215 219 from fails_of Tryz.underlying215 (by kernel_rfl))
theorem ass_l6 : Ass 219 9 := ⟨by decide, as_run_l6, as_keep_l6, as_tell_l6, as_both_l6⟩
theorem fl_6 (b o : Nat) (T : TypeId) (V : Value) : ∀ (fuel : Nat) (w : World), (method (fuel + 1) 219 (.agg #[.pointer (some ⟨b, o, none⟩), .iface T V]) "loop.example/g03016/impl.face").run Tryz.prog w = .ok (230, .agg #[.pointer (some ⟨b, o, none⟩)]) w := by intro fuel w; kernel_rfl
theorem fm_6 (b o : Nat) (T : TypeId) (V : Value) : ∀ (fuel : Nat) (w : World), (nilAhead (fuel + 1) 219 (.agg #[.pointer (some ⟨b, o, none⟩), .iface T V]) "loop.example/g03016/impl.face").run Tryz.prog w = .ok (some false) w := by intro fuel w; kernel_rfl
theorem as_run_l7 : Meets 206 220 (offersF 33 1) := (show offersF 33 1 = true by decide +kernel) ▸ (show Has 206 220 from ta_has Tryz.underlying206 (by kernel_rfl))
theorem as_keep_l7 : Meets 210 220 (offersF 33 2) := (show offersF 33 2 = false by decide +kernel) ▸ (show Fails 210 220 from fails_of Tryz.underlying210 (by kernel_rfl))
theorem as_tell_l7 : Meets 222 220 (offersF 33 4) := (show offersF 33 4 = false by decide +kernel) ▸ (show Fails 222 220 from fails_of Tryz.underlying222 (by kernel_rfl))
theorem as_both_l7 : Meets 215 220 (offersF 33 3) := (show offersF 33 3 = false by decide +kernel) ▸ (show Fails 215 220 from fails_of Tryz.underlying215 (by kernel_rfl))
theorem ass_l7 : Ass 220 33 := ⟨by decide, as_run_l7, as_keep_l7, as_tell_l7, as_both_l7⟩
theorem fl_7 (b o : Nat) (T : TypeId) (V : Value) : ∀ (fuel : Nat) (w : World), (method (fuel + 1) 220 (.agg #[.pointer (some ⟨b, o, none⟩), .iface T V]) "loop.example/g03016/impl.face").run Tryz.prog w = .ok (230, .agg #[.pointer (some ⟨b, o, none⟩)]) w := by intro fuel w; kernel_rfl
theorem fm_7 (b o : Nat) (T : TypeId) (V : Value) : ∀ (fuel : Nat) (w : World), (nilAhead (fuel + 1) 220 (.agg #[.pointer (some ⟨b, o, none⟩), .iface T V]) "loop.example/g03016/impl.face").run Tryz.prog w = .ok (some false) w := by intro fuel w; kernel_rfl
theorem as_run_l8 : Meets 206 224 (offersF 4 1) := (show offersF 4 1 = false by decide +kernel) ▸ (show Fails 206 224 from fails_of Tryz.underlying206 (by kernel_rfl))
theorem as_keep_l8 : Meets 210 224 (offersF 4 2) := (show offersF 4 2 = false by decide +kernel) ▸ (show Fails 210 224 from fails_of Tryz.underlying210 (by kernel_rfl))
theorem as_tell_l8 : Meets 222 224 (offersF 4 4) := (show offersF 4 4 = true by decide +kernel) ▸ (show Has 222 224 from ta_has Tryz.underlying222 (by kernel_rfl))
theorem as_both_l8 : Meets 215 224 (offersF 4 3) := (show offersF 4 3 = false by decide +kernel) ▸ (show Fails 215 224 from fails_of Tryz.underlying215 (by kernel_rfl))
theorem ass_l8 : Ass 224 4 := ⟨by decide, as_run_l8, as_keep_l8, as_tell_l8, as_both_l8⟩
theorem fl_8 (b o : Nat) (T : TypeId) (V : Value) : ∀ (fuel : Nat) (w : World), (method (fuel + 1) 224 (.agg #[.pointer (some ⟨b, o, none⟩), .iface T V]) "loop.example/g03016/impl.face").run Tryz.prog w = .ok (230, .agg #[.pointer (some ⟨b, o, none⟩)]) w := by intro fuel w; kernel_rfl
theorem fm_8 (b o : Nat) (T : TypeId) (V : Value) : ∀ (fuel : Nat) (w : World), (nilAhead (fuel + 1) 224 (.agg #[.pointer (some ⟨b, o, none⟩), .iface T V]) "loop.example/g03016/impl.face").run Tryz.prog w = .ok (some false) w := by intro fuel w; kernel_rfl
def FaceAt (w : World) (T : TypeId) (V : Value) (f : Int) : Prop := ∃ (F : FuncId) (rcv : Value), (F = 192 ∨ F = 230) ∧ (∀ (fuel : Nat) (w : World), (method (fuel + 1) T V "loop.example/g03016/impl.face").run Tryz.prog w = .ok (F, rcv) w) ∧ (∀ (fuel : Nat) (w : World), (nilAhead (fuel + 1) T V "loop.example/g03016/impl.face").run Tryz.prog w = .ok (some false) w) ∧
 ∀ W, Below w.heap.size w W → Calls Tryz.prog F #[rcv] W fun e w' => e = .returned (.int .i64 f) ∧ Below W.heap.size W w'
theorem FaceAt.below {w w' : World} {T : TypeId} {V : Value} {f : Int} (h : FaceAt w T V f) (hb : Below w.heap.size w w') : FaceAt w' T V f := by
 obtain ⟨F, r, h0, h1, h2, h3⟩ := h
 exact ⟨F, r, h0, h1, h2, fun W hW => h3 W (belS hb hW)⟩
def IfaceAt (w : World) (v : Value) (f : Int) : Prop := ∃ T V, v = .iface T V ∧ FaceAt w T V f ∧ Ass T f
theorem IfaceAt.below {w w' : World} {v : Value} {f : Int} (h : IfaceAt w v f) (hb : Below w.heap.size w w') : IfaceAt w' v f := by
 obtain ⟨T, V, h1, h2, h3⟩ := h
 exact ⟨T, V, h1, h2.below hb, h3⟩
set_option maxHeartbeats 800000 in
theorem bodyName_c (b : Nat) (k : List UInt8) (w : World) (h : w.cell? ⟨b, 0, none⟩ = some (.string ⟨k.toArray⟩)) :
  Calls Tryz.prog 193 #[.agg #[.pointer (some ⟨b, 0, none⟩)]] w fun e w' => e = .returned (.string ⟨k.toArray⟩) ∧ Below w.heap.size w w' := by
 have hl := World.block_lt_of_cell? w _ h
 simp only at hl
 have hne : ¬ b = w.heap.size := by omega
 go_enter Tryz.func193, Tryz.ntmps193
 go_wp2_with fail
 go_ret
 exact ⟨rfl, part_box w _⟩
set_option maxHeartbeats 800000 in
theorem bodyFace_c (b : Nat) (k : List UInt8) (w : World) (h : w.cell? ⟨b, 0, none⟩ = some (.string ⟨k.toArray⟩)) :
  Calls Tryz.prog 192 #[.agg #[.pointer (some ⟨b, 0, none⟩)]] w fun e w' => e = .returned (.int .i64 (kfI (kindI k))) ∧ Below w.heap.size w w' := by
 have hl := World.block_lt_of_cell? w _ h
 simp only at hl
 have HN := Lib.hid (bodyName_c b k (w.alloc (.cells #[.pointer (some ⟨b, 0, none⟩)] 171)) (((part_box w _).cell (p := ⟨b, 0, none⟩) hl).trans h))
 have HK := Lib.hid (implKind_any ⟨k.toArray⟩)
 simp only [List.toList_toArray] at HK
 unfold kfV at HK
 generalize kfI (kindI k) = f at *
 generalize decide (0 ≤ kindI k) = q at *
 clear h
 go_enter Tryz.func192, Tryz.ntmps192
 go_wp2_with fail
 refine HN.out.mono ?_
 rintro e w1 ⟨rfl, hb⟩
 have HB := Lib.hid (belS (part_box w _) hb)
 clear hb
 go_wp2_with (first | (go_at_call 99; (with_reducible refine (HK.out _).mono ?_); rintro e w' ⟨rfl, rfl⟩))
 go_ret
 exact ⟨rfl, HB.out⟩
set_option maxHeartbeats 800000 in
theorem coverName_c (b o : Nat) (k : List UInt8) (w : World) (h : w.cell? ⟨b, o, none⟩ = some (.string ⟨k.toArray⟩)) :
  Calls Tryz.prog 231 #[.agg #[.pointer (some ⟨b, o, none⟩)]] w fun e w' => e = .returned (.string ⟨k.toArray⟩) ∧ Below w.heap.size w w' := by
 have hl := World.block_lt_of_cell? w _ h
 simp only at hl
 have hne : ¬ b = w.heap.size := by omega
 go_enter Tryz.func231, Tryz.ntmps231
 go_wp2_with fail
 go_ret
 exact ⟨rfl, part_box w _⟩
set_option maxHeartbeats 800000 in
theorem coverFace_c (b o : Nat) (k : List UInt8) (w : World) (h : w.cell? ⟨b, o, none⟩ = some (.string ⟨k.toArray⟩)) :
  Calls Tryz.prog 230 #[.agg #[.pointer (some ⟨b, o, none⟩)]] w fun e w' => e = .returned (.int .i64 (giveI (layI k))) ∧ Below w.heap.size w w' := by
 have hl := World.block_lt_of_cell? w _ h
 simp only at hl
 have HN := Lib.hid (coverName_c b o k (w.alloc (.cells #[.pointer (some ⟨b, o, none⟩)] 204)) (((part_box w _).cell (p := ⟨b, o, none⟩) hl).trans h))
 have HK := Lib.hid (implLayerGives_any ⟨k.toArray⟩)
 simp only [List.toList_toArray] at HK
 unfold gvV at HK
 generalize giveI (layI k) = f at *
 generalize decide (0 ≤ layI k) = q at *
 clear h
 go_enter Tryz.func230, Tryz.ntmps230
 go_wp2_with fail
 refine HN.out.mono ?_
 rintro e w1 ⟨rfl, hb⟩
 have HB := Lib.hid (belS (part_box w _) hb)
 clear hb
 go_wp2_with (first | (go_at_call 100; (with_reducible refine (HK.out _).mono ?_); rintro e w' ⟨rfl, rfl⟩))
 go_ret
 exact ⟨rfl, HB.out⟩
theorem faceAt_body {b : Nat} {k : List UInt8} {w : World} {T : TypeId} {V : Value} {f : Int} (h : w.cell? ⟨b, 0, none⟩ = some (.string ⟨k.toArray⟩)) (hf : kfI (kindI k) = f) (h1 : ∀ (fuel : Nat) (w : World), (method (fuel + 1) T V "loop.example/g03016/impl.face").run Tryz.prog w = .ok (192, .agg #[.pointer (some ⟨b, 0, none⟩)]) w)
  (h2 : ∀ (fuel : Nat) (w : World), (nilAhead (fuel + 1) T V "loop.example/g03016/impl.face").run Tryz.prog w = .ok (some false) w) : FaceAt w T V f := by
 subst hf
 exact ⟨_, _, Or.inl rfl, h1, h2, fun W hW => bodyFace_c b k W ((hW.cell (p := ⟨b, 0, none⟩) (World.block_lt_of_cell? w _ h)).trans h)⟩
theorem faceAt_cover {b o : Nat} {k : List UInt8} {w : World} {T : TypeId} {V : Value} {f : Int} (h : w.cell? ⟨b, o, none⟩ = some (.string ⟨k.toArray⟩)) (hf : giveI (layI k) = f) (h1 : ∀ (fuel : Nat) (w : World), (method (fuel + 1) T V "loop.example/g03016/impl.face").run Tryz.prog w = .ok (230, .agg #[.pointer (some ⟨b, o, none⟩)]) w)
  (h2 : ∀ (fuel : Nat) (w : World), (nilAhead (fuel + 1) T V "loop.example/g03016/impl.face").run Tryz.prog w = .ok (some false) w) : FaceAt w T V f := by
 subst hf
 exact ⟨_, _, Or.inr rfl, h1, h2, fun W hW => coverFace_c b o k W ((hW.cell (p := ⟨b, o, none⟩) (World.block_lt_of_cell? w _ h)).trans h)⟩
theorem iface_kind {b : Nat} {w : World} (j : Nat) (hj : j < 8) (h : w.cell? ⟨b, 0, none⟩ = some (.string ⟨(kindN j).toArray⟩)) : IfaceAt w (partV b j) (kfN j) := by
 rcases (show j = 0 ∨ j = 1 ∨ j = 2 ∨ j = 3 ∨ j = 4 ∨ j = 5 ∨ j = 6 ∨ j = 7 by omega) with rfl | rfl | rfl | rfl | rfl | rfl | rfl | rfl
 ·exact ⟨_, _, rfl, faceAt_body h (by decide +kernel) (fk_0 b) (fn_0 b), ass_k0⟩
 ·exact ⟨_, _, rfl, faceAt_body h (by decide +kernel) (fk_1 b) (fn_1 b), ass_k1⟩
 ·exact ⟨_, _, rfl, faceAt_body h (by decide +kernel) (fk_2 b) (fn_2 b), ass_k2⟩
 ·exact ⟨_, _, rfl, faceAt_body h (by decide +kernel) (fk_3 b) (fn_3 b), ass_k3⟩
 ·exact ⟨_, _, rfl, faceAt_body h (by decide +kernel) (fk_4 b) (fn_4 b), ass_k4⟩
 ·exact ⟨_, _, rfl, faceAt_body h (by decide +kernel) (fk_5 b) (fn_5 b), ass_k5⟩
 ·exact ⟨_, _, rfl, faceAt_body h (by decide +kernel) (fk_6 b) (fn_6 b), ass_k6⟩
 ·exact ⟨_, _, rfl, faceAt_body h (by decide +kernel) (fk_7 b) (fn_7 b), ass_k7⟩
def wrapV (b o : Nat) (v : Value) : Nat → Value
 | 0 => .iface 226 (.agg #[.pointer (some ⟨b, o, none⟩)])
 | 1 => .iface 208 (.agg #[.pointer (some ⟨b, o, none⟩), v])
 | 2 => .iface 212 (.agg #[.pointer (some ⟨b, o, none⟩), v])
 | 3 => .iface 213 (.agg #[.pointer (some ⟨b, o, none⟩), v])
 | 4 => .iface 217 (.agg #[.pointer (some ⟨b, o, none⟩), v])
 | 5 => .iface 218 (.agg #[.pointer (some ⟨b, o, none⟩), v])
 | 6 => .iface 219 (.agg #[.pointer (some ⟨b, o, none⟩), v])
 | 7 => .iface 220 (.agg #[.pointer (some ⟨b, o, none⟩), v])
 | _ => .iface 224 (.agg #[.pointer (some ⟨b, o, none⟩), v])
theorem iface_wrap {b o : Nat} {w : World} {T : TypeId} {V : Value} (i : Nat) (hi : i < 9) (h : w.cell? ⟨b, o, none⟩ = some (.string ⟨(layN i).toArray⟩)) : IfaceAt w (wrapV b o (.iface T V) i) (giveN i) := by
 rcases (show i = 0 ∨ i = 1 ∨ i = 2 ∨ i = 3 ∨ i = 4 ∨ i = 5 ∨ i = 6 ∨ i = 7 ∨ i = 8 by omega) with rfl | rfl | rfl | rfl | rfl | rfl | rfl | rfl | rfl
 ·exact ⟨_, _, rfl, faceAt_cover h (by decide +kernel) (fl_0 b o) (fm_0 b o), ass_l0⟩
 ·exact ⟨_, _, rfl, faceAt_cover h (by decide +kernel) (fl_1 b o T V) (fm_1 b o T V), ass_l1⟩
 ·exact ⟨_, _, rfl, faceAt_cover h (by decide +kernel) (fl_2 b o T V) (fm_2 b o T V), ass_l2⟩
 ·exact ⟨_, _, rfl, faceAt_cover h (by decide +kernel) (fl_3 b o T V) (fm_3 b o T V), ass_l3⟩
 ·exact ⟨_, _, rfl, faceAt_cover h (by decide +kernel) (fl_4 b o T V) (fm_4 b o T V), ass_l4⟩
 ·exact ⟨_, _, rfl, faceAt_cover h (by decide +kernel) (fl_5 b o T V) (fm_5 b o T V), ass_l5⟩
 ·exact ⟨_, _, rfl, faceAt_cover h (by decide +kernel) (fl_6 b o T V) (fm_6 b o T V), ass_l6⟩
 ·exact ⟨_, _, rfl, faceAt_cover h (by decide +kernel) (fl_7 b o T V) (fm_7 b o T V), ass_l7⟩
 ·exact ⟨_, _, rfl, faceAt_cover h (by decide +kernel) (fl_8 b o T V) (fm_8 b o T V), ass_l8⟩
set_option maxRecDepth 100000 in
set_option maxHeartbeats 1600000 in
theorem aw_0 (b o : Nat) (T : TypeId) (V : Value) (w : World) (h : w.cell? ⟨b, o, none⟩ = some (.string ⟨(layN 0).toArray⟩)) :
  Calls Tryz.prog 146 #[.iface T V, .pointer (some ⟨b, o, none⟩)] w fun e w' => e = .returned (wrapV b o (.iface T V) 0) ∧ Below w.heap.size w w' := by
 have hl0 := World.block_lt_of_cell? w _ h
 simp only at hl0
 have hn0 : ¬ b = w.heap.size := by omega
 simp only [layN] at h
 unfold wrapV
 go_enter Tryz.func146, Tryz.ntmps146
 go_wp2_with fail
 try go_region
 all_goals (try go_wp2_with fail)
 all_goals
  go_ret
  refine ⟨rfl, ?_⟩
  repeat (first | with_reducible exact Below.refl _ _ | with_reducible refine Below.alloc ?_ (by simp; try omega) _ | with_reducible refine bel_dr ?_)
set_option maxRecDepth 100000 in
set_option maxHeartbeats 1600000 in
theorem aw_1 (b o : Nat) (T : TypeId) (V : Value) (w : World) (h : w.cell? ⟨b, o, none⟩ = some (.string ⟨(layN 1).toArray⟩)) (hta : Has 206 T) :
  Calls Tryz.prog 146 #[.iface T V, .pointer (some ⟨b, o, none⟩)] w fun e w' => e = .returned (wrapV b o (.iface T V) 1) ∧ Below w.heap.size w w' := by
 have hl0 := World.block_lt_of_cell? w _ h
 simp only at hl0
 have hn0 : ¬ b = w.heap.size := by omega
 simp only [layN] at h
 unfold wrapV
 unfold Has at hta
 go_enter Tryz.func146, Tryz.ntmps146
 go_wp2_with fail
 try go_region
 all_goals (try go_wp2_with fail)
 all_goals
  go_ret
  refine ⟨rfl, ?_⟩
  repeat (first | with_reducible exact Below.refl _ _ | with_reducible refine Below.alloc ?_ (by simp; try omega) _ | with_reducible refine bel_dr ?_)
set_option maxRecDepth 100000 in
set_option maxHeartbeats 1600000 in
theorem awp_1 (b o : Nat) (T : TypeId) (V : Value) (w : World) (h : w.cell? ⟨b, o, none⟩ = some (.string ⟨(layN 1).toArray⟩)) (hta : Fails 206 T) :
  Calls Tryz.prog 146 #[.iface T V, .pointer (some ⟨b, o, none⟩)] w fun e w' => Panics w e w' := by
 have hl0 := World.block_lt_of_cell? w _ h
 simp only at hl0
 have hn0 : ¬ b = w.heap.size := by omega
 simp only [layN] at h
 obtain ⟨c, E, hta⟩ := hta
 go_enter Tryz.func146, Tryz.ntmps146
 go_wp2_with fail
 refine wp_region_any (by kernel_rfl) ?_
 change wpAny _ _ _ _ _ _ _ (World.drew _)
 refine wpAny_take (i := 1) (v := ?_) rfl (by kernel_rfl) (by kernel_rfl) (by kernel_rfl) (fun _ _ _ h => h) (Or.inl ⟨by rfl, ?_⟩) ?_
 rotate_left
 ·intro w; go_simp; try (with_reducible rfl)
 refine wpAny_ready (rs := [0, 2]) (by kernel_rfl) (by simp) ?_
 refine AllReady.cons rfl (fun K hK => ?_) ?_
 ·go_simp
  refine hK _ _ ?_
  clear hK K
  refine wpAny_ready (rs := [2]) (by kernel_rfl) (by simp) ?_
  refine AllReady.cons rfl (fun K hK => ?_) ?_
  ·go_simp
   exact ⟨rfl, _, rfl, by repeat (first | with_reducible exact Below.refl _ _ | with_reducible refine Below.alloc ?_ (by simp; try omega) _ | with_reducible refine Below.drew ?_ | with_reducible refine below_drewN ?_ _)⟩
  exact AllReady.nil
 refine AllReady.cons rfl (fun K hK => ?_) ?_
 ·go_simp
  exact ⟨rfl, _, rfl, by repeat (first | with_reducible exact Below.refl _ _ | with_reducible refine Below.alloc ?_ (by simp; try omega) _ | with_reducible refine Below.drew ?_ | with_reducible refine below_drewN ?_ _)⟩
 exact AllReady.nil
set_option maxRecDepth 100000 in
set_option maxHeartbeats 1600000 in
theorem aw_2 (b o : Nat) (T : TypeId) (V : Value) (w : World) (h : w.cell? ⟨b, o, none⟩ = some (.string ⟨(layN 2).toArray⟩)) (hta : Has 210 T) :
  Calls Tryz.prog 146 #[.iface T V, .pointer (some ⟨b, o, none⟩)] w fun e w' => e = .returned (wrapV b o (.iface T V) 2) ∧ Below w.heap.size w w' := by
 have hl0 := World.block_lt_of_cell? w _ h
 simp only at hl0
 have hn0 : ¬ b = w.heap.size := by omega
 simp only [layN] at h
 unfold wrapV
 unfold Has at hta
 go_enter Tryz.func146, Tryz.ntmps146
 go_wp2_with fail
 try go_region
 all_goals (try go_wp2_with fail)
 all_goals
  go_ret
  refine ⟨rfl, ?_⟩
  repeat (first | with_reducible exact Below.refl _ _ | with_reducible refine Below.alloc ?_ (by simp; try omega) _ | with_reducible refine bel_dr ?_)
set_option maxRecDepth 100000 in
set_option maxHeartbeats 1600000 in
theorem awp_2 (b o : Nat) (T : TypeId) (V : Value) (w : World) (h : w.cell? ⟨b, o, none⟩ = some (.string ⟨(layN 2).toArray⟩)) (hta : Fails 210 T) :
  Calls Tryz.prog 146 #[.iface T V, .pointer (some ⟨b, o, none⟩)] w fun e w' => Panics w e w' := by
 have hl0 := World.block_lt_of_cell? w _ h
 simp only at hl0
 have hn0 : ¬ b = w.heap.size := by omega
 simp only [layN] at h
 obtain ⟨c, E, hta⟩ := hta
 go_enter Tryz.func146, Tryz.ntmps146
 go_wp2_with fail
 refine wp_region_any (by kernel_rfl) ?_
 change wpAny _ _ _ _ _ _ _ (World.drew _)
 refine wpAny_take (i := 1) (v := ?_) rfl (by kernel_rfl) (by kernel_rfl) (by kernel_rfl) (fun _ _ _ h => h) (Or.inl ⟨by rfl, ?_⟩) ?_
 rotate_left
 ·intro w; go_simp; try (with_reducible rfl)
 refine wpAny_ready (rs := [0, 2]) (by kernel_rfl) (by simp) ?_
 refine AllReady.cons rfl (fun K hK => ?_) ?_
 ·go_simp
  refine hK _ _ ?_
  clear hK K
  refine wpAny_ready (rs := [2]) (by kernel_rfl) (by simp) ?_
  refine AllReady.cons rfl (fun K hK => ?_) ?_
  ·go_simp
   exact ⟨rfl, _, rfl, by repeat (first | with_reducible exact Below.refl _ _ | with_reducible refine Below.alloc ?_ (by simp; try omega) _ | with_reducible refine Below.drew ?_ | with_reducible refine below_drewN ?_ _)⟩
  exact AllReady.nil
 refine AllReady.cons rfl (fun K hK => ?_) ?_
 ·go_simp
  exact ⟨rfl, _, rfl, by repeat (first | with_reducible exact Below.refl _ _ | with_reducible refine Below.alloc ?_ (by simp; try omega) _ | with_reducible refine Below.drew ?_ | with_reducible refine below_drewN ?_ _)⟩
 exact AllReady.nil
set_option maxRecDepth 100000 in
set_option maxHeartbeats 1600000 in
theorem aw_3 (b o : Nat) (T : TypeId) (V : Value) (w : World) (h : w.cell? ⟨b, o, none⟩ = some (.string ⟨(layN 3).toArray⟩)) (hta : Has 210 T) :
  Calls Tryz.prog 146 #[.iface T V, .pointer (some ⟨b, o, none⟩)] w fun e w' => e = .returned (wrapV b o (.iface T V) 3) ∧ Below w.heap.size w w' := by
 have hl0 := World.block_lt_of_cell? w _ h
 simp only at hl0
 have hn0 : ¬ b = w.heap.size := by omega
 simp only [layN] at h
 unfold wrapV
 unfold Has at hta
 go_enter Tryz.func146, Tryz.ntmps146
 go_wp2_with fail
 try go_region
 all_goals (try go_wp2_with fail)
 all_goals
  go_ret
  refine ⟨rfl, ?_⟩
  repeat (first | with_reducible exact Below.refl _ _ | with_reducible refine Below.alloc ?_ (by simp; try omega) _ | with_reducible refine bel_dr ?_)
set_option maxRecDepth 100000 in
set_option maxHeartbeats 1600000 in
theorem awp_3 (b o : Nat) (T : TypeId) (V : Value) (w : World) (h : w.cell? ⟨b, o, none⟩ = some (.string ⟨(layN 3).toArray⟩)) (hta : Fails 210 T) :
  Calls Tryz.prog 146 #[.iface T V, .pointer (some ⟨b, o, none⟩)] w fun e w' => Panics w e w' := by
 have hl0 := World.block_lt_of_cell? w _ h
 simp only at hl0
 have hn0 : ¬ b = w.heap.size := by omega
 simp only [layN] at h
 obtain ⟨c, E, hta⟩ := hta
 go_enter Tryz.func146, Tryz.ntmps146
 go_wp2_with fail
 refine wp_region_any (by kernel_rfl) ?_
 change wpAny _ _ _ _ _ _ _ (World.drew _)
 refine wpAny_take (i := 1) (v := ?_) rfl (by kernel_rfl) (by kernel_rfl) (by kernel_rfl) (fun _ _ _ h => h) (Or.inl ⟨by rfl, ?_⟩) ?_
 rotate_left
 ·intro w; go_simp; try (with_reducible rfl)
 refine wpAny_ready (rs := [0, 2]) (by kernel_rfl) (by simp) ?_
 refine AllReady.cons rfl (fun K hK => ?_) ?_
 ·go_simp
  refine hK _ _ ?_
  clear hK K
  refine wpAny_ready (rs := [2]) (by kernel_rfl) (by simp) ?_
  refine AllReady.cons rfl (fun K hK => ?_) ?_
  ·go_simp
   exact ⟨rfl, _, rfl, by repeat (first | with_reducible exact Below.refl _ _ | with_reducible refine Below.alloc ?_ (by simp; try omega) _ | with_reducible refine Below.drew ?_ | with_reducible refine below_drewN ?_ _)⟩
  exact AllReady.nil
 refine AllReady.cons rfl (fun K hK => ?_) ?_
 ·go_simp
  exact ⟨rfl, _, rfl, by repeat (first | with_reducible exact Below.refl _ _ | with_reducible refine Below.alloc ?_ (by simp; try omega) _ | with_reducible refine Below.drew ?_ | with_reducible refine below_drewN ?_ _)⟩
 exact AllReady.nil
set_option maxRecDepth 100000 in
set_option maxHeartbeats 1600000 in
theorem aw_4 (b o : Nat) (T : TypeId) (V : Value) (w : World) (h : w.cell? ⟨b, o, none⟩ = some (.string ⟨(layN 4).toArray⟩)) (hta : Has 215 T) :
  Calls Tryz.prog 146 #[.iface T V, .pointer (some ⟨b, o, none⟩)] w fun e w' => e = .returned (wrapV b o (.iface T V) 4) ∧ Below w.heap.size w w' := by
 have hl0 := World.block_lt_of_cell? w _ h
 simp only at hl0
 have hn0 : ¬ b = w.heap.size := by omega
 simp only [layN] at h
 unfold wrapV
 unfold Has at hta
 go_enter Tryz.func146, Tryz.ntmps146
 go_wp2_with fail
 try go_region
 all_goals (try go_wp2_with fail)
 all_goals
  go_ret
  refine ⟨rfl, ?_⟩
  repeat (first | with_reducible exact Below.refl _ _ | with_reducible refine Below.alloc ?_ (by simp; try omega) _ | with_reducible refine bel_dr ?_)
set_option maxRecDepth 100000 in
set_option maxHeartbeats 1600000 in
theorem awp_4 (b o : Nat) (T : TypeId) (V : Value) (w : World) (h : w.cell? ⟨b, o, none⟩ = some (.string ⟨(layN 4).toArray⟩)) (hta : Fails 215 T) :
  Calls Tryz.prog 146 #[.iface T V, .pointer (some ⟨b, o, none⟩)] w fun e w' => Panics w e w' := by
 have hl0 := World.block_lt_of_cell? w _ h
 simp only at hl0
 have hn0 : ¬ b = w.heap.size := by omega
 simp only [layN] at h
 obtain ⟨c, E, hta⟩ := hta
 go_enter Tryz.func146, Tryz.ntmps146
 go_wp2_with fail
 refine wp_region_any (by kernel_rfl) ?_
 change wpAny _ _ _ _ _ _ _ (World.drew _)
 refine wpAny_take (i := 1) (v := ?_) rfl (by kernel_rfl) (by kernel_rfl) (by kernel_rfl) (fun _ _ _ h => h) (Or.inl ⟨by rfl, ?_⟩) ?_
 rotate_left
 ·intro w; go_simp; try (with_reducible rfl)
 refine wpAny_ready (rs := [0, 2]) (by kernel_rfl) (by simp) ?_
 refine AllReady.cons rfl (fun K hK => ?_) ?_
 ·go_simp
  refine hK _ _ ?_
  clear hK K
  refine wpAny_ready (rs := [2]) (by kernel_rfl) (by simp) ?_
  refine AllReady.cons rfl (fun K hK => ?_) ?_
  ·go_simp
   exact ⟨rfl, _, rfl, by repeat (first | with_reducible exact Below.refl _ _ | with_reducible refine Below.alloc ?_ (by simp; try omega) _ | with_reducible refine Below.drew ?_ | with_reducible refine below_drewN ?_ _)⟩
  exact AllReady.nil
 refine AllReady.cons rfl (fun K hK => ?_) ?_
 ·go_simp
  exact ⟨rfl, _, rfl, by repeat (first | with_reducible exact Below.refl _ _ | with_reducible refine Below.alloc ?_ (by simp; try omega) _ | with_reducible refine Below.drew ?_ | with_reducible refine below_drewN ?_ _)⟩
 exact AllReady.nil
set_option maxRecDepth 100000 in
set_option maxHeartbeats 1600000 in
theorem aw_5 (b o : Nat) (T : TypeId) (V : Value) (w : World) (h : w.cell? ⟨b, o, none⟩ = some (.string ⟨(layN 5).toArray⟩)) (hta : Has 210 T) :
  Calls Tryz.prog 146 #[.iface T V, .pointer (some ⟨b, o, none⟩)] w fun e w' => e = .returned (wrapV b o (.iface T V) 5) ∧ Below w.heap.size w w' := by
 have hl0 := World.block_lt_of_cell? w _ h
 simp only at hl0
 have hn0 : ¬ b = w.heap.size := by omega
 simp only [layN] at h
 unfold wrapV
 unfold Has at hta
 go_enter Tryz.func146, Tryz.ntmps146
 go_wp2_with fail
 try go_region
 all_goals (try go_wp2_with fail)
 all_goals
  go_ret
  refine ⟨rfl, ?_⟩
  repeat (first | with_reducible exact Below.refl _ _ | with_reducible refine Below.alloc ?_ (by simp; try omega) _ | with_reducible refine bel_dr ?_)
set_option maxRecDepth 100000 in
set_option maxHeartbeats 1600000 in
theorem awp_5 (b o : Nat) (T : TypeId) (V : Value) (w : World) (h : w.cell? ⟨b, o, none⟩ = some (.string ⟨(layN 5).toArray⟩)) (hta : Fails 210 T) :
  Calls Tryz.prog 146 #[.iface T V, .pointer (some ⟨b, o, none⟩)] w fun e w' => Panics w e w' := by
 have hl0 := World.block_lt_of_cell? w _ h
 simp only at hl0
 have hn0 : ¬ b = w.heap.size := by omega
 simp only [layN] at h
 obtain ⟨c, E, hta⟩ := hta
 go_enter Tryz.func146, Tryz.ntmps146
 go_wp2_with fail
 refine wp_region_any (by kernel_rfl) ?_
 change wpAny _ _ _ _ _ _ _ (World.drew _)
 refine wpAny_take (i := 1) (v := ?_) rfl (by kernel_rfl) (by kernel_rfl) (by kernel_rfl) (fun _ _ _ h => h) (Or.inl ⟨by rfl, ?_⟩) ?_
 rotate_left
 ·intro w; go_simp; try (with_reducible rfl)
 refine wpAny_ready (rs := [0, 2]) (by kernel_rfl) (by simp) ?_
 refine AllReady.cons rfl (fun K hK => ?_) ?_
 ·go_simp
  refine hK _ _ ?_
  clear hK K
  refine wpAny_ready (rs := [2]) (by kernel_rfl) (by simp) ?_
  refine AllReady.cons rfl (fun K hK => ?_) ?_
  ·go_simp
   exact ⟨rfl, _, rfl, by repeat (first | with_reducible exact Below.refl _ _ | with_reducible refine Below.alloc ?_ (by simp; try omega) _ | with_reducible refine Below.drew ?_ | with_reducible refine below_drewN ?_ _)⟩
  exact AllReady.nil
 refine AllReady.cons rfl (fun K hK => ?_) ?_
 ·go_simp
  exact ⟨rfl, _, rfl, by repeat (first | with_reducible exact Below.refl _ _ | with_reducible refine Below.alloc ?_ (by simp; try omega) _ | with_reducible refine Below.drew ?_ | with_reducible refine below_drewN ?_ _)⟩
 exact AllReady.nil
set_option maxRecDepth 100000 in
set_option maxHeartbeats 1600000 in
theorem aw_6 (b o : Nat) (T : TypeId) (V : Value) (w : World) (h : w.cell? ⟨b, o, none⟩ = some (.string ⟨(layN 6).toArray⟩)) (hta : Has 206 T) :
  Calls Tryz.prog 146 #[.iface T V, .pointer (some ⟨b, o, none⟩)] w fun e w' => e = .returned (wrapV b o (.iface T V) 6) ∧ Below w.heap.size w w' := by
 have hl0 := World.block_lt_of_cell? w _ h
 simp only at hl0
 have hn0 : ¬ b = w.heap.size := by omega
 simp only [layN] at h
 unfold wrapV
 unfold Has at hta
 go_enter Tryz.func146, Tryz.ntmps146
 go_wp2_with fail
 try go_region
 all_goals (try go_wp2_with fail)
 all_goals
  go_ret
  refine ⟨rfl, ?_⟩
  repeat (first | with_reducible exact Below.refl _ _ | with_reducible refine Below.alloc ?_ (by simp; try omega) _ | with_reducible refine bel_dr ?_)
set_option maxRecDepth 100000 in
set_option maxHeartbeats 1600000 in
theorem awp_6 (b o : Nat) (T : TypeId) (V : Value) (w : World) (h : w.cell? ⟨b, o, none⟩ = some (.string ⟨(layN 6).toArray⟩)) (hta : Fails 206 T) :
  Calls Tryz.prog 146 #[.iface T V, .pointer (some ⟨b, o, none⟩)] w fun e w' => Panics w e w' := by
 have hl0 := World.block_lt_of_cell? w _ h
 simp only at hl0
 have hn0 : ¬ b = w.heap.size := by omega
 simp only [layN] at h
 obtain ⟨c, E, hta⟩ := hta
 go_enter Tryz.func146, Tryz.ntmps146
 go_wp2_with fail
 refine wp_region_any (by kernel_rfl) ?_
 change wpAny _ _ _ _ _ _ _ (World.drew _)
 refine wpAny_take (i := 1) (v := ?_) rfl (by kernel_rfl) (by kernel_rfl) (by kernel_rfl) (fun _ _ _ h => h) (Or.inl ⟨by rfl, ?_⟩) ?_
 rotate_left
 ·intro w; go_simp; try (with_reducible rfl)
 refine wpAny_ready (rs := [0, 2]) (by kernel_rfl) (by simp) ?_
 refine AllReady.cons rfl (fun K hK => ?_) ?_
 ·go_simp
  refine hK _ _ ?_
  clear hK K
  refine wpAny_ready (rs := [2]) (by kernel_rfl) (by simp) ?_
  refine AllReady.cons rfl (fun K hK => ?_) ?_
  ·go_simp
   exact ⟨rfl, _, rfl, by repeat (first | with_reducible exact Below.refl _ _ | with_reducible refine Below.alloc ?_ (by simp; try omega) _ | with_reducible refine Below.drew ?_ | with_reducible refine below_drewN ?_ _)⟩
  exact AllReady.nil
 refine AllReady.cons rfl (fun K hK => ?_) ?_
 ·go_simp
  exact ⟨rfl, _, rfl, by repeat (first | with_reducible exact Below.refl _ _ | with_reducible refine Below.alloc ?_ (by simp; try omega) _ | with_reducible refine Below.drew ?_ | with_reducible refine below_drewN ?_ _)⟩
 exact AllReady.nil
set_option maxRecDepth 100000 in
set_option maxHeartbeats 1600000 in
theorem aw_7 (b o : Nat) (T : TypeId) (V : Value) (w : World) (h : w.cell? ⟨b, o, none⟩ = some (.string ⟨(layN 7).toArray⟩)) (hta : Has 206 T) :
  Calls Tryz.prog 146 #[.iface T V, .pointer (some ⟨b, o, none⟩)] w fun e w' => e = .returned (wrapV b o (.iface T V) 7) ∧ Below w.heap.size w w' := by
 have hl0 := World.block_lt_of_cell? w _ h
 simp only at hl0
 have hn0 : ¬ b = w.heap.size := by omega
 simp only [layN] at h
 unfold wrapV
 unfold Has at hta
 go_enter Tryz.func146, Tryz.ntmps146
 go_wp2_with fail
 try go_region
 all_goals (try go_wp2_with fail)
 all_goals
  go_ret
  refine ⟨rfl, ?_⟩
  repeat (first | with_reducible exact Below.refl _ _ | with_reducible refine Below.alloc ?_ (by simp; try omega) _ | with_reducible refine bel_dr ?_)
set_option maxRecDepth 100000 in
set_option maxHeartbeats 1600000 in
theorem awp_7 (b o : Nat) (T : TypeId) (V : Value) (w : World) (h : w.cell? ⟨b, o, none⟩ = some (.string ⟨(layN 7).toArray⟩)) (hta : Fails 206 T) :
  Calls Tryz.prog 146 #[.iface T V, .pointer (some ⟨b, o, none⟩)] w fun e w' => Panics w e w' := by
 have hl0 := World.block_lt_of_cell? w _ h
 simp only at hl0
 have hn0 : ¬ b = w.heap.size := by omega
 simp only [layN] at h
 obtain ⟨c, E, hta⟩ := hta
 go_enter Tryz.func146, Tryz.ntmps146
 go_wp2_with fail
 refine wp_region_any (by kernel_rfl) ?_
 change wpAny _ _ _ _ _ _ _ (World.drew _)
 refine wpAny_take (i := 1) (v := ?_) rfl (by kernel_rfl) (by kernel_rfl) (by kernel_rfl) (fun _ _ _ h => h) (Or.inl ⟨by rfl, ?_⟩) ?_
 rotate_left
 ·intro w; go_simp; try (with_reducible rfl)
 refine wpAny_ready (rs := [0, 2]) (by kernel_rfl) (by simp) ?_
 refine AllReady.cons rfl (fun K hK => ?_) ?_
 ·go_simp
  refine hK _ _ ?_
  clear hK K
  refine wpAny_ready (rs := [2]) (by kernel_rfl) (by simp) ?_
  refine AllReady.cons rfl (fun K hK => ?_) ?_
  ·go_simp
   exact ⟨rfl, _, rfl, by repeat (first | with_reducible exact Below.refl _ _ | with_reducible refine Below.alloc ?_ (by simp; try omega) _ | with_reducible refine Below.drew ?_ | with_reducible refine below_drewN ?_ _)⟩
  exact AllReady.nil
 refine AllReady.cons rfl (fun K hK => ?_) ?_
 ·go_simp
  exact ⟨rfl, _, rfl, by repeat (first | with_reducible exact Below.refl _ _ | with_reducible refine Below.alloc ?_ (by simp; try omega) _ | with_reducible refine Below.drew ?_ | with_reducible refine below_drewN ?_ _)⟩
 exact AllReady.nil
set_option maxRecDepth 100000 in
set_option maxHeartbeats 1600000 in
theorem aw_8 (b o : Nat) (T : TypeId) (V : Value) (w : World) (h : w.cell? ⟨b, o, none⟩ = some (.string ⟨(layN 8).toArray⟩)) (hta : Has 222 T) :
  Calls Tryz.prog 146 #[.iface T V, .pointer (some ⟨b, o, none⟩)] w fun e w' => e = .returned (wrapV b o (.iface T V) 8) ∧ Below w.heap.size w w' := by
 have hl0 := World.block_lt_of_cell? w _ h
 simp only at hl0
 have hn0 : ¬ b = w.heap.size := by omega
 simp only [layN] at h
 unfold wrapV
 unfold Has at hta
 go_enter Tryz.func146, Tryz.ntmps146
 go_wp2_with fail
 try go_region
 all_goals (try go_wp2_with fail)
 all_goals
  go_ret
  refine ⟨rfl, ?_⟩
  repeat (first | with_reducible exact Below.refl _ _ | with_reducible refine Below.alloc ?_ (by simp; try omega) _ | with_reducible refine bel_dr ?_)
set_option maxRecDepth 100000 in
set_option maxHeartbeats 1600000 in
theorem awp_8 (b o : Nat) (T : TypeId) (V : Value) (w : World) (h : w.cell? ⟨b, o, none⟩ = some (.string ⟨(layN 8).toArray⟩)) (hta : Fails 222 T) :
  Calls Tryz.prog 146 #[.iface T V, .pointer (some ⟨b, o, none⟩)] w fun e w' => Panics w e w' := by
 have hl0 := World.block_lt_of_cell? w _ h
 simp only at hl0
 have hn0 : ¬ b = w.heap.size := by omega
 simp only [layN] at h
 obtain ⟨c, E, hta⟩ := hta
 go_enter Tryz.func146, Tryz.ntmps146
 go_wp2_with fail
 refine wp_region_any (by kernel_rfl) ?_
 change wpAny _ _ _ _ _ _ _ (World.drew _)
 refine wpAny_take (i := 1) (v := ?_) rfl (by kernel_rfl) (by kernel_rfl) (by kernel_rfl) (fun _ _ _ h => h) (Or.inl ⟨by rfl, ?_⟩) ?_
 rotate_left
 ·intro w; go_simp; try (with_reducible rfl)
 refine wpAny_ready (rs := [0, 2]) (by kernel_rfl) (by simp) ?_
 refine AllReady.cons rfl (fun K hK => ?_) ?_
 ·go_simp
  refine hK _ _ ?_
  clear hK K
  refine wpAny_ready (rs := [2]) (by kernel_rfl) (by simp) ?_
  refine AllReady.cons rfl (fun K hK => ?_) ?_
  ·go_simp
   exact ⟨rfl, _, rfl, by repeat (first | with_reducible exact Below.refl _ _ | with_reducible refine Below.alloc ?_ (by simp; try omega) _ | with_reducible refine Below.drew ?_ | with_reducible refine below_drewN ?_ _)⟩
  exact AllReady.nil
 refine AllReady.cons rfl (fun K hK => ?_) ?_
 ·go_simp
  exact ⟨rfl, _, rfl, by repeat (first | with_reducible exact Below.refl _ _ | with_reducible refine Below.alloc ?_ (by simp; try omega) _ | with_reducible refine Below.drew ?_ | with_reducible refine below_drewN ?_ _)⟩
 exact AllReady.nil
structure BoxW (nl ni no nr b o : Nat) (k : List UInt8) (v : Value) (w : World) : Prop where
 l0 : w.cell? ⟨nl, 0, none⟩ = some (.pointer (some ⟨b, o, none⟩))
 n0 : w.cell? ⟨b, o, none⟩ = some (.string ⟨k.toArray⟩)
 i0 : w.cell? ⟨ni, 0, none⟩ = some v
 o0 : (w.cell? ⟨no, 0, none⟩).isSome = true
 oz : w.frozen? ⟨no, 0, none⟩ = false
 r : ∀ o, o < 5 → (w.cell? ⟨nr, o, none⟩).isSome = true
 z : ∀ o, o < 5 → w.frozen? ⟨nr, o, none⟩ = false
theorem some_lt {w : World} {n o : Nat} (h : (w.cell? ⟨n, o, none⟩).isSome = true) : n < w.heap.size := by
 obtain ⟨v, hv⟩ := Option.isSome_iff_exists.1 h
 exact World.block_lt_of_cell? w _ hv
theorem BoxW.below {nl ni no nr b o : Nat} {k : List UInt8} {v : Value} {w w' : World} (h : BoxW nl ni no nr b o k v w) (hb : Below w.heap.size w w') : BoxW nl ni no nr b o k v w' := by
 have hr := some_lt (h.r 0 (by decide))
 have ho := some_lt h.o0
 exact ⟨(hb.cell (p := ⟨nl, 0, none⟩) (World.block_lt_of_cell? w _ h.l0)).trans h.l0, (hb.cell (p := ⟨b, o, none⟩) (World.block_lt_of_cell? w _ h.n0)).trans h.n0, (hb.cell (p := ⟨ni, 0, none⟩) (World.block_lt_of_cell? w _ h.i0)).trans h.i0,
  by rw [hb.cell (p := ⟨no, 0, none⟩) ho]; exact h.o0, (hb.frozen (p := ⟨no, 0, none⟩) ho).trans h.oz, fun o ho => by rw [hb.cell (p := ⟨nr, o, none⟩) hr]; exact h.r o ho, fun o ho => (hb.frozen (p := ⟨nr, o, none⟩) hr).trans (h.z o ho)⟩
def putW (w : World) (no nr : Nat) (v : Value) (want had : Int) : World := (((((w.setCell ⟨no, 0, none⟩ v).setCell ⟨nr, 0, none⟩ (.int .i64 1)).setCell ⟨nr, 1, none⟩ (.int .i64 0)).setCell ⟨nr, 2, none⟩ (.string ⟨#[]⟩)).setCell ⟨nr, 3, none⟩ (.int .i64 want)).setCell ⟨nr, 4, none⟩ (.int .i64 had)
theorem catchW_idle (a1 a2 a3 a4 : Value) (w : World) :
  CallsD Tryz.prog 145 #[a1, a2, a3, a4] .returning w fun e u' w' => e = .returned (.tuple #[]) ∧ u' = .returning ∧ w' = w := by
 refine callsD_of_wpS Tryz.func145 rfl fun c₀ cs hu => ?_
 apply wpS_seq
 apply wpS_region
 simp [wpOpsS, go_sem, recoverD, hu, Tryz.ntmps145, Exit.thenS]
 refine wpS_cond (t := false) (by simp [Act.eval, Array.replicate]) ?_
 simp only [Bool.false_eq_true, if_false]
 refine wpS_of_wp (wp_skip ?_)
 cases c₀
 simp_all [bodyPostS, results, Tryz.results145]
set_option maxRecDepth 100000 in
set_option maxHeartbeats 1600000 in
theorem catchW (nl ni no nr b o : Nat) (k : List UInt8) (T : TypeId) (V : Value) (f : Int) (pv : Value) (w : World) (hf : FaceAt w T V f) (hb : BoxW nl ni no nr b o k (.iface T V) w) (hne : no ≠ nr) :
  CallsD Tryz.prog 145 #[.pointer (some ⟨nl, 0, none⟩), .pointer (some ⟨ni, 0, none⟩), .pointer (some ⟨no, 0, none⟩), .pointer (some ⟨nr, 0, none⟩)] (.panicking ({ v := .iface Tryz.prog.rt.typeAssertionError pv, recovered := false } :: [])) w fun e u' w' =>
   e = .returned (.tuple #[]) ∧ u' = .panicking ({ v := .iface Tryz.prog.rt.typeAssertionError pv, recovered := true } :: []) ∧ ∃ w1, Below w.heap.size w w1 ∧ w' = putW w1 no nr (.iface T V) (needI (layI k)) f := by
 have HX := Lib.hid hb
 have x0 := hb.l0
 have n0 := hb.n0
 have p0 := hb.i0
 have HW := Lib.hid (fun W => implLayerNeeds_any ⟨k.toArray⟩ W)
 simp only [List.toList_toArray, ndV] at HW
 obtain ⟨F, rcv, hF, hfm, hfn, HF0⟩ := hf
 have HF := Lib.hid HF0
 generalize needI (layI k) = want at *
 generalize decide (0 ≤ layI k) = q at *
 clear HF0 hb
 rcases hF with rfl | rfl
 all_goals
  refine callsD_of_wpS Tryz.func145 rfl fun c₀ cs hu => ?_
  apply wpS_seq
  apply wpS_region
  simp [wpOpsS, go_sem, recoverD, hu, Tryz.ntmps145, Exit.thenS]
  refine wpS_cond (t := true) (by simp [Act.eval, Array.replicate]) ?_
  simp only [if_true]
  refine wpS_of_wp ?_
  go_wp2_with (first | (go_at_call 86; (with_reducible refine (HW.out _).mono ?_); rintro e w' ⟨rfl, rfl⟩))
  go_region_with (first
   |((with_reducible refine (HF.out _ (by repeat (first | with_reducible exact Below.refl _ _ | with_reducible refine bel_dr ?_))).mono ?_); rintro e w1 ⟨rfl, hb1⟩; have HB1 := Lib.hid (show Below w.heap.size w w1 from ⟨hb1.os, hb1.tape, hb1.output, hb1.size, hb1.block⟩); clear hb1; have KR := Lib.hid (HX.out.below HB1.out); have k0 := KR.out.i0; have yo := KR.out.oz; obtain ⟨eo, fo⟩ := Option.isSome_iff_exists.1 KR.out.o0; have y0 := KR.out.z 0 (by decide); have y1 := KR.out.z 1 (by decide); have y2 := KR.out.z 2 (by decide); have y3 := KR.out.z 3 (by decide); have y4 := KR.out.z 4 (by decide); obtain ⟨e0, f0⟩ := Option.isSome_iff_exists.1 (KR.out.r 0 (by decide)); obtain ⟨e1, f1⟩ := Option.isSome_iff_exists.1 (KR.out.r 1 (by decide)); obtain ⟨e2, f2⟩ := Option.isSome_iff_exists.1 (KR.out.r 2 (by decide)); obtain ⟨e3, f3⟩ := Option.isSome_iff_exists.1 (KR.out.r 3 (by decide)); obtain ⟨e4, f4⟩ := Option.isSome_iff_exists.1 (KR.out.r 4 (by decide))))
  all_goals
   refine ⟨rfl, _, rfl, .tuple #[], ?_, rfl, rfl, w1, HB1.out, rfl⟩
   simp [results, Tryz.results145, go_sem]
theorem bx_dr {w : World} {b : Nat} {cs : List Value} (h : Bx w b cs) : Bx w.drew b cs := ⟨h.lt, h.cell, h.froz⟩
def OnlyN (K : Act → World → Prop) : Exit → Act → World → Prop
 | .normal, a, w => K a w
 | _, _, _ => False
theorem wp_only {P : Program} {c : Code} {Q : Exit → Act → World → Prop} {a : Act} {w : World} (h : c.wp P (OnlyN (Q .normal)) a w) : c.wp P Q a w :=
 wp_mono h (fun e a w hh => by cases e <;> first | exact hh | exact hh.elim)
def WrapRes (b o i : Nat) (v : Value) (f : Int) (w : World) (e : Ending) (w' : World) : Prop :=
 Below w.heap.size w w' ∧ ((offersF f (needN i) = true ∧ e = .returned (.tuple #[wrapV b o v i, vReply ⟨0, giveN i, [], 0, 0⟩])) ∨ (offersF f (needN i) = false ∧ e = .returned (.tuple #[v, vReply ⟨1, 0, [], needN i, f⟩])))
set_option maxRecDepth 100000 in
set_option maxHeartbeats 1600000 in
theorem wrapIn_ok (b o i : Nat) (hi : i < 9) (T : TypeId) (V : Value) (f : Int) (w : World) (h : w.cell? ⟨b, o, none⟩ = some (.string ⟨(layN i).toArray⟩)) (ho : offersF f (needN i) = true)
  (hA : ∀ W, Below w.heap.size w W → Calls Tryz.prog 146 #[.iface T V, .pointer (some ⟨b, o, none⟩)] W fun e w' => e = .returned (wrapV b o (.iface T V) i) ∧ Below W.heap.size W w') :
  Calls Tryz.prog 107 #[.iface T V, .pointer (some ⟨b, o, none⟩)] w fun e w' => WrapRes b o i (.iface T V) f w e w' := by
 have hl0 := World.block_lt_of_cell? w _ h
 obtain ⟨T', V', hv, hF, _⟩ := iface_wrap (T := T) (V := V) i hi h
 unfold WrapRes
 rw [hv] at hA ⊢
 obtain ⟨F, rcv, hFF, hfm, hfn, hFC⟩ := hF
 have HF := Lib.hid hFC
 have HA := Lib.hid hA
 have HO := Lib.hid ho
 generalize giveN i = g at *
 clear h hA ho hv hFC
 have hmf : ∀ (fn : Fn) (first cap : Array Value) (w : World), (Instr.makeFunc fn first cap).run Tryz.prog w = .ok (.func fn first cap) w := fun _ _ _ _ => rfl
 have BX := Lib.hid (bx_start3 (w.alloc (.cells #[.iface T V] 121)) [.pointer (some ⟨b, o, none⟩)] [.nilIface] [.int .i64 0, .int .i64 0, .string ⟨#[]⟩, .int .i64 0, .int .i64 0] 125 121 39)
 have HB3 := Lib.hid (belS (part_box w (.cells #[.iface T V] 121)) BX.out.2.2.2)
 rw [show (w.alloc (.cells #[.iface T V] 121)).heap.size = w.heap.size + 1 by simp] at BX
 rcases hFF with rfl | rfl
 all_goals
  go_enter_defers Tryz.func107, Tryz.ntmps107
  go_wp2_with fail
  refine (HA.out _ HB3.out).mono ?_
  rintro e w1 ⟨rfl, hb⟩
  have HB1 := Lib.hid (belS HB3.out hb)
  have BO := Lib.hid (BX.out.2.1.below hb)
  have BR := Lib.hid (BX.out.2.2.1.below hb)
  clear hb HA
  have c0 := BO.out.cell 0 (by simp)
  simp only [List.getElem_cons_zero, List.getElem_cons_succ] at c0
  have z0 := BO.out.froz 0 (by simp)
  go_wp2_with fail
  have BO2 := Lib.hid (bx_dr (BO.out.set 0 (by simp) (.iface T' V')))
  have BR2 := Lib.hid (bx_dr (BR.out.other (c := w.heap.size + 1 + 1) (by omega) 0 (.iface T' V')))
  have HB2 := Lib.hid (bel_dr (HB1.out.setCell (p := ⟨w.heap.size + 1 + 1, 0, none⟩) (by simp; omega) (.iface T' V')))
  simp only [List.set_cons_zero] at BO2
  clear c0 z0
  have c0 := BO2.out.cell 0 (by simp)
  simp only [List.getElem_cons_zero, List.getElem_cons_succ] at c0
  have z0 := BO2.out.froz 0 (by simp)
  have r0 := BR2.out.cell 0 (by simp)
  have r1 := BR2.out.cell 1 (by simp)
  have r2 := BR2.out.cell 2 (by simp)
  have r3 := BR2.out.cell 3 (by simp)
  have r4 := BR2.out.cell 4 (by simp)
  simp only [List.getElem_cons_zero, List.getElem_cons_succ] at r0 r1 r2 r3 r4
  have y0 := BR2.out.froz 0 (by simp)
  have y1 := BR2.out.froz 1 (by simp)
  have y2 := BR2.out.froz 2 (by simp)
  have y3 := BR2.out.froz 3 (by simp)
  have y4 := BR2.out.froz 4 (by simp)
  refine wp_only ?_
  go_region_with (first
   |((with_reducible refine (HF.out _ (by repeat (first | with_reducible exact HB1.out | refine bel_dr ?_ | refine Below.setCell ?_ (by simp; try omega) _))).mono ?_); rintro e w2 ⟨rfl, hb2⟩; have HB3 := Lib.hid (show Below w.heap.size w w2 from by first | exact belS HB2.out hb2 | exact belS (HB2.out.setCell (p := ⟨w.heap.size + 1 + 1, 0, none⟩) (by simp; omega) (.iface T' V')) hb2); have BO3 := Lib.hid (show Bx w2 (w.heap.size + 1 + 1) [.iface T' V'] from by first | exact BO2.out.below hb2 | exact (BO2.out.set 0 (by simp) (.iface T' V')).below hb2); have BR3 := Lib.hid (show Bx w2 (w.heap.size + 1 + 1 + 1) [.int .i64 0, .int .i64 0, .string ⟨#[]⟩, .int .i64 0, .int .i64 0] from by first | exact BR2.out.below hb2 | exact (BR2.out.other (c := w.heap.size + 1 + 1) (by omega) 0 (.iface T' V')).below hb2); have c3 := BO3.out.cell 0 (by simp); have z3 := BO3.out.froz 0 (by simp); have r3 := BR3.out.cell 0 (by simp); have r4 := BR3.out.cell 1 (by simp); have r5 := BR3.out.cell 2 (by simp); have r6 := BR3.out.cell 3 (by simp); have r7 := BR3.out.cell 4 (by simp); have y5 := BR3.out.froz 0 (by simp); have y6 := BR3.out.froz 1 (by simp); have y7 := BR3.out.froz 2 (by simp); have y8 := BR3.out.froz 3 (by simp); have y9 := BR3.out.froz 4 (by simp); simp only [List.getElem_cons_zero, List.getElem_cons_succ] at c3 r3 r4 r5 r6 r7))
  all_goals unfold OnlyN
  all_goals go_wp2_with fail
  all_goals
   change Leaves _ _ _ _ _ _ _
   refine leaves_cons (f := 145) (args := #[.pointer (some ⟨w.heap.size + 1, 0, none⟩), .pointer (some ⟨w.heap.size, 0, none⟩), .pointer (some ⟨w.heap.size + 1 + 1, 0, none⟩), .pointer (some ⟨w.heap.size + 1 + 1 + 1, 0, none⟩)]) (by simp) (by simp [go_sem]) ?_
   refine (catchW_idle _ _ _ _ _).mono ?_
   rintro e u' w'' ⟨rfl, rfl, rfl⟩
   simp [Leaves, settle, results, Tryz.results107, go_sem, cell_set_at, cell_set_ne, c3, r3, r4, r5, r6, r7]
   refine ⟨?_, Or.inl ⟨HO.out, rfl⟩⟩
   repeat (first | with_reducible exact HB3.out | refine Below.setCell ?_ (by simp; try omega) _)
set_option maxRecDepth 100000 in
set_option maxHeartbeats 1600000 in
theorem wrapIn_fail (b o i : Nat) (hi : i < 9) (T : TypeId) (V : Value) (f : Int) (w : World) (h : w.cell? ⟨b, o, none⟩ = some (.string ⟨(layN i).toArray⟩)) (ho : offersF f (needN i) = false) (hF : FaceAt w T V f)
  (hA : ∀ W, Below w.heap.size w W → Calls Tryz.prog 146 #[.iface T V, .pointer (some ⟨b, o, none⟩)] W fun e w' => Panics W e w') :
  Calls Tryz.prog 107 #[.iface T V, .pointer (some ⟨b, o, none⟩)] w fun e w' => WrapRes b o i (.iface T V) f w e w' := by
 have hl0 := World.block_lt_of_cell? w _ h
 simp only at hl0
 unfold WrapRes
 have HX := Lib.hid h
 have HF := Lib.hid hF
 have HA := Lib.hid hA
 have HO := Lib.hid ho
 have HN := Lib.hid (show needI (layI (layN i)) = needN i from by
  rcases (show i = 0 ∨ i = 1 ∨ i = 2 ∨ i = 3 ∨ i = 4 ∨ i = 5 ∨ i = 6 ∨ i = 7 ∨ i = 8 by omega) with rfl | rfl | rfl | rfl | rfl | rfl | rfl | rfl | rfl <;> decide +kernel)
 clear h hA ho hF
 have hmf : ∀ (fn : Fn) (first cap : Array Value) (w : World), (Instr.makeFunc fn first cap).run Tryz.prog w = .ok (.func fn first cap) w := fun _ _ _ _ => rfl
 have BI := Lib.hid (Bx.new w [.iface T V] 121)
 have BX := Lib.hid (bx_start3 (w.alloc (.cells #[.iface T V] 121)) [.pointer (some ⟨b, o, none⟩)] [.nilIface] [.int .i64 0, .int .i64 0, .string ⟨#[]⟩, .int .i64 0, .int .i64 0] 125 121 39)
 have HB3 := Lib.hid (belS (part_box w (.cells #[.iface T V] 121)) BX.out.2.2.2)
 have BI2 := Lib.hid (BI.out.below BX.out.2.2.2)
 rw [show (w.alloc (.cells #[.iface T V] 121)).heap.size = w.heap.size + 1 by simp] at BX
 go_enter_defers Tryz.func107, Tryz.ntmps107
 go_wp2_with fail
 refine (HA.out _ HB3.out).mono ?_
 rintro e w1 ⟨pv, rfl, hb⟩
 have HB1 := Lib.hid (belS HB3.out hb)
 have BI3 := Lib.hid (BI2.out.below hb)
 have BL := Lib.hid (BX.out.1.below hb)
 have BO := Lib.hid (BX.out.2.1.below hb)
 have BR := Lib.hid (BX.out.2.2.1.below hb)
 clear hb HA
 have HBW := Lib.hid (show BoxW (w.heap.size + 1) w.heap.size (w.heap.size + 1 + 1) (w.heap.size + 1 + 1 + 1) b o (layN i) (.iface T V) w1 from
  ⟨BL.out.cell 0 (by simp), (HB1.out.cell (p := ⟨b, o, none⟩) hl0).trans HX.out, BI3.out.cell 0 (by simp), by rw [BO.out.cell 0 (by simp)]; rfl, BO.out.froz 0 (by simp),
   fun j hj => by rw [BR.out.cell j (by simpa using hj)]; rfl, fun j hj => BR.out.froz j (by simpa using hj)⟩)
 clear BI BI2 BI3 BL BO BR BX HX
 refine leaves_cons (f := 145) (args := #[.pointer (some ⟨w.heap.size + 1, 0, none⟩), .pointer (some ⟨w.heap.size, 0, none⟩), .pointer (some ⟨w.heap.size + 1 + 1, 0, none⟩), .pointer (some ⟨w.heap.size + 1 + 1 + 1, 0, none⟩)]) (by simp) (by simp [go_sem]) ?_
 refine (catchW _ _ _ _ b o (layN i) T V f pv _ (HF.out.below HB1.out) HBW.out (by omega)).mono ?_
 rintro e u' w'' ⟨rfl, rfl, w2, hb2, rfl⟩
 have HB2 := Lib.hid (belS HB1.out hb2)
 have KR := Lib.hid (HBW.out.below hb2)
 obtain ⟨eo, fo⟩ := Option.isSome_iff_exists.1 KR.out.o0
 obtain ⟨e0, f0⟩ := Option.isSome_iff_exists.1 (KR.out.r 0 (by decide))
 obtain ⟨e1, f1⟩ := Option.isSome_iff_exists.1 (KR.out.r 1 (by decide))
 obtain ⟨e2, f2⟩ := Option.isSome_iff_exists.1 (KR.out.r 2 (by decide))
 obtain ⟨e3, f3⟩ := Option.isSome_iff_exists.1 (KR.out.r 3 (by decide))
 obtain ⟨e4, f4⟩ := Option.isSome_iff_exists.1 (KR.out.r 4 (by decide))
 rw [HN.out]
 unfold putW vReply
 generalize needN i = want at *
 clear hb2 HBW KR
 simp [Leaves, settle, results, Tryz.results107, go_sem, cell_set_at, cell_set_ne, bx_set_ne, fo, f0, f1, f2, f3, f4]
 refine ⟨?_, HO.out⟩
 repeat (first | with_reducible exact HB2.out | refine Below.setCell ?_ (by simp; try omega) _)
theorem wrapIn_c (b o i : Nat) (hi : i < 9) (v : Value) (f : Int) (w : World) (h : w.cell? ⟨b, o, none⟩ = some (.string ⟨(layN i).toArray⟩)) (hv : IfaceAt w v f) :
  Calls Tryz.prog 107 #[v, .pointer (some ⟨b, o, none⟩)] w fun e w' => WrapRes b o i v f w e w' := by
 obtain ⟨T, V, rfl, hF, hA⟩ := hv
 have hl0 := World.block_lt_of_cell? w _ h
 have hW : ∀ W, Below w.heap.size w W → W.cell? ⟨b, o, none⟩ = some (.string ⟨(layN i).toArray⟩) := fun W hb => (hb.cell (p := ⟨b, o, none⟩) hl0).trans h
 obtain ⟨hf, hr, hk, ht, hbo⟩ := hA
 have h0 : offersF f 0 = true := by
  obtain ⟨F, rfl⟩ := isF_fin hf
  exact (off_bits F).1
 rcases (show i = 0 ∨ i = 1 ∨ i = 2 ∨ i = 3 ∨ i = 4 ∨ i = 5 ∨ i = 6 ∨ i = 7 ∨ i = 8 by omega) with rfl | rfl | rfl | rfl | rfl | rfl | rfl | rfl | rfl
 ·exact wrapIn_ok b o 0 (by decide) T V f w h h0 (fun W hb => aw_0 b o T V W (hW W hb))
 ·cases hq : offersF f 1 with
  | true => rw [hq] at hr; exact wrapIn_ok b o 1 (by decide) T V f w h hq (fun W hb => aw_1 b o T V W (hW W hb) hr)
  | false => rw [hq] at hr; exact wrapIn_fail b o 1 (by decide) T V f w h hq hF (fun W hb => awp_1 b o T V W (hW W hb) hr)
 ·cases hq : offersF f 2 with
  | true => rw [hq] at hk; exact wrapIn_ok b o 2 (by decide) T V f w h hq (fun W hb => aw_2 b o T V W (hW W hb) hk)
  | false => rw [hq] at hk; exact wrapIn_fail b o 2 (by decide) T V f w h hq hF (fun W hb => awp_2 b o T V W (hW W hb) hk)
 ·cases hq : offersF f 2 with
  | true => rw [hq] at hk; exact wrapIn_ok b o 3 (by decide) T V f w h hq (fun W hb => aw_3 b o T V W (hW W hb) hk)
  | false => rw [hq] at hk; exact wrapIn_fail b o 3 (by decide) T V f w h hq hF (fun W hb => awp_3 b o T V W (hW W hb) hk)
 ·cases hq : offersF f 3 with
  | true => rw [hq] at hbo; exact wrapIn_ok b o 4 (by decide) T V f w h hq (fun W hb => aw_4 b o T V W (hW W hb) hbo)
  | false => rw [hq] at hbo; exact wrapIn_fail b o 4 (by decide) T V f w h hq hF (fun W hb => awp_4 b o T V W (hW W hb) hbo)
 ·cases hq : offersF f 2 with
  | true => rw [hq] at hk; exact wrapIn_ok b o 5 (by decide) T V f w h hq (fun W hb => aw_5 b o T V W (hW W hb) hk)
  | false => rw [hq] at hk; exact wrapIn_fail b o 5 (by decide) T V f w h hq hF (fun W hb => awp_5 b o T V W (hW W hb) hk)
 ·cases hq : offersF f 1 with
  | true => rw [hq] at hr; exact wrapIn_ok b o 6 (by decide) T V f w h hq (fun W hb => aw_6 b o T V W (hW W hb) hr)
  | false => rw [hq] at hr; exact wrapIn_fail b o 6 (by decide) T V f w h hq hF (fun W hb => awp_6 b o T V W (hW W hb) hr)
 ·cases hq : offersF f 1 with
  | true => rw [hq] at hr; exact wrapIn_ok b o 7 (by decide) T V f w h hq (fun W hb => aw_7 b o T V W (hW W hb) hr)
  | false => rw [hq] at hr; exact wrapIn_fail b o 7 (by decide) T V f w h hq hF (fun W hb => awp_7 b o T V W (hW W hb) hr)
 ·cases hq : offersF f 4 with
  | true => rw [hq] at ht; exact wrapIn_ok b o 8 (by decide) T V f w h hq (fun W hb => aw_8 b o T V W (hW W hb) ht)
  | false => rw [hq] at ht; exact wrapIn_fail b o 8 (by decide) T V f w h hq hF (fun W hb => awp_8 b o T V W (hW W hb) ht)
theorem partB_lay {x : PartD} (h : partB x = true) (k : Nat) (hk : k < x.fLayers.length) : layOk x k = true := by
 cases hq : layOk x k with
 | true => rfl
 | false => rw [partB_bad hk hq] at h; cases h
theorem partB_core {x : PartD} (h : partB x = true) : coreB x.fCore = true := by
 simp only [partB, Bool.and_eq_true] at h; exact h.1.1
theorem partB_len {x : PartD} (h : partB x = true) : x.fLayers.length ≤ 3 := by
 simp only [partB, Bool.and_eq_true, decide_eq_true_iff] at h; exact h.1.2
theorem coreB_kindP {d : CoreD} (h : coreB d = true) : ∃ j : Nat, kindI d.fKind = j ∧ j < 8 ∧ kindN j = d.fKind := by
 have h0 : 0 ≤ kindI d.fKind := by
  simp only [coreB, Bool.and_eq_true, decide_eq_true_iff] at h; exact h.1.1.1.1.1
 rcases kindI_bd d.fKind with h1 | h1
 ·omega
 ·exact h1
theorem faceN_succ (x : PartD) (k : Nat) (hk : k < x.fLayers.length) : faceN x (k + 1) = giveI (layI (x.fLayers[k]).fName) := by
 show giveI (layI (x.fLayers.getD k default).fName) = _
 rw [List.getD_eq_getElem?_getD, List.getElem?_eq_getElem hk]; rfl
def Whole (x : PartD) (k : Nat) (w : World) (v : Value) : Prop := IfaceAt w v (faceN x k)
set_option maxRecDepth 100000 in
set_option maxHeartbeats 3200000 in
theorem wholePart_c (b0 : Nat) (cs : List Value) (x : PartD) (w : World) (hx : rPart 0 w cs x) (hb : Bx w b0 cs) (hp : partB x = true) :
  Calls Tryz.prog 108 #[.pointer (some ⟨b0, 0, none⟩)] w fun e w' => ∃ v, e = .returned v ∧ IfaceAt w' v (faceP x) ∧ Below w.heap.size w w' := by
 have HLK := Lib.hid (fun k hk => partB_lay hp k hk)
 have HOK := Lib.hid (fun i h y hy => layOk_of x i h y hy)
 have HFS := Lib.hid (faceN_succ x)
 have HFP := Lib.hid (show faceP x = faceN x x.fLayers.length from rfl)
 obtain ⟨j, hj1, hj2, hj3⟩ := coreB_kindP (partB_core hp)
 have H0 := Lib.hid (show faceN x 0 = kfN j by unfold faceN kfI; rw [hj1, if_neg (by omega)]; rfl)
 obtain ⟨xc, ls⟩ := x
 obtain ⟨v3, v5, rfl, h3, h5⟩ := hx
 simp only at h3 h5 hj3 HLK HOK HFS HFP
 obtain ⟨sa, sc, rfl, hl, hcap⟩ := sliceAt_cap h5
 have H5 := Lib.hid h5
 have BX := Lib.hid hb
 have HK := Lib.hid (show w.cell? ⟨b0, 0, none⟩ = some (.string ⟨(kindN j).toArray⟩) by have h := hb.cell 0 (by simp); rw [hj3]; exact h)
 have HPO := Lib.hid (partOf_k j hj2 b0 w HK.out)
 unfold maxLen at hl
 clear h3 h5 hp hj1 hj3 hb
 go_enter Tryz.func108, Tryz.ntmps108
 go_wp2_with fail
 refine HPO.out.mono ?_
 rintro e w1 ⟨rfl, hb⟩
 have HB1 := Lib.hid hb
 have BX1 := Lib.hid (BX.out.below hb)
 have HI := Lib.hid (show IfaceAt w1 (partV b0 j) (faceN ⟨xc, ls⟩ 0) by rw [H0.out]; exact iface_kind j hj2 ((hb.cell (p := ⟨b0, 0, none⟩) BX.out.lt).trans HK.out))
 generalize partV b0 j = pv at *
 clear hb
 have e5 := BX1.out.cell 5 (by simp)
 simp only [List.getElem_cons_zero, List.getElem_cons_succ] at e5
 go_wp2_with fail
 clear e5
 go_loopw [3, 4, 14] (fun u3 _ i wr => ∃ k : Nat, k ≤ ls.length ∧ i = .int .i64 k ∧ Whole ⟨xc, ls⟩ k wr u3 ∧ Below w.heap.size w wr) (fun _ _ i _ => ls.length - (intOf i).toNat)
 case atStart => exact ⟨0, Nat.zero_le _, rfl, HI.out, HB1.out⟩
 case round =>
  obtain ⟨k, hk, rfl, ht, hbr⟩ := hrel
  have HT := Lib.hid ht
  have HBr := Lib.hid hbr
  have BXr := Lib.hid (BX.out.below hbr)
  have HXr := Lib.hid (SliceAt.below H5.out (good_flat cLayer_len) hbr (Nat.le_refl _))
  clear ht hbr
  by_cases hlt : k < ls.length
  ·obtain ⟨b, o, cs, rfl, hbw, hat, hd⟩ := sliceAt_cell HXr.out k hlt
   have HO1 := Lib.hid (HLK.out k hlt)
   have HO2 := Lib.hid (HOK.out k hlt _ rfl)
   have HF1 := Lib.hid (HFS.out k hlt)
   have d0 := hd 0 (by decide)
   generalize ls[k] = z at *
   obtain ⟨z0, z1⟩ := z
   simp only [rFlat, cLayer] at hat HO2 HF1
   subst hat
   simp only [List.getElem?_cons_zero, Nat.add_zero] at d0
   have hh := HO1.out
   rw [HO2.out] at hh
   simp only [Bool.and_eq_true, decide_eq_true_iff] at hh
   obtain ⟨⟨hh1, hh2⟩, _⟩ := hh
   obtain ⟨q, hq1, hq2, hq3⟩ : ∃ q : Nat, layI z0 = q ∧ q < 9 ∧ layN q = z0 := by
    rcases layI_bd z0 with h1 | h1
    ·omega
    ·exact h1
   subst hq3
   have hn : needI (layI (layN q)) = needN q := by rw [hq1]; unfold needI; rw [if_neg (by omega)]; rfl
   have hg : giveI (layI (layN q)) = giveN q := by rw [hq1]; unfold giveI; rw [if_neg (by omega)]; rfl
   have HW := Lib.hid (wrapIn_c b (o + k * 2) q hq2 u3 (faceN ⟨xc, ls⟩ k) wr d0 HT.out)
   have HOF := Lib.hid (show offersF (faceN ⟨xc, ls⟩ k) (needN q) = true by rw [← hn]; exact hh2)
   have HGV := Lib.hid (show faceN ⟨xc, ls⟩ (k + 1) = giveN q by rw [HF1.out, hg])
   have D0 := Lib.hid d0
   have hkc : (k : Int) < (ls.length : Int) := by omega
   have e5 := BXr.out.cell 5 (by simp)
   simp only [List.getElem_cons_zero, List.getElem_cons_succ] at e5
   obtain ⟨T, V, hu, hu2⟩ := HT.out
   have HU := Lib.hid hu
   clear hd HXr hh1 hh2 hq1 hn hg d0 HO1 HO2 HF1 HLK HOK HFS hu hu2
   go_wp2_with fail
   refine HW.out.mono ?_
   rintro e w2 ⟨hb2, hres⟩
   obtain rfl : e = .returned (.tuple #[wrapV b (o + k * 2) u3 q, vReply ⟨0, giveN q, [], 0, 0⟩]) := by
    rcases hres with ⟨_, h⟩ | ⟨h, _⟩
    ·exact h
    ·rw [HOF.out] at h; cases h
   have HB2 := Lib.hid (belS HBr.out hb2)
   have HWW := Lib.hid (show Whole ⟨xc, ls⟩ (k + 1) w2 (wrapV b (o + k * 2) u3 q) by
    unfold Whole
    rw [HGV.out, HU.out]
    exact iface_wrap q hq2 ((hb2.cell (p := ⟨b, o + k * 2, none⟩) hbw).trans D0.out))
   generalize wrapV b (o + k * 2) u3 q = nv at *
   unfold vReply
   clear hb2 hres e5
   go_wp2_with fail
   exact ⟨⟨k + 1, by omega, by go_num, HWW.out, HB2.out⟩, by simp [intOf]; omega⟩
  ·have HR := Lib.hid (show IfaceAt wr u3 (faceP ⟨xc, ls⟩) by rw [HFP.out]; have h := HT.out; rwa [show k = ls.length by omega] at h)
   go_wp2
   go_ret
   exact ⟨u3, rfl, HR.out, HBr.out⟩
theorem Bx.put5 {w : World} {b : Nat} {c0 c1 c2 c3 c4 : Value} (h : Bx w b [c0, c1, c2, c3, c4]) (u0 u1 u2 u3 u4 : Value) :
  Bx (((((w.setCell ⟨b, 0, none⟩ u0).setCell ⟨b, 1, none⟩ u1).setCell ⟨b, 2, none⟩ u2).setCell ⟨b, 3, none⟩ u3).setCell ⟨b, 4, none⟩ u4) b [u0, u1, u2, u3, u4] :=
 (((((h.set 0 (by simp) u0).set 1 (by simp) u1).set 2 (by simp) u2).set 3 (by simp) u3).set 4 (by simp) u4)
theorem Bx.put5o {w : World} {b c : Nat} {cs : List Value} (h : Bx w b cs) (hne : b ≠ c) (u0 u1 u2 u3 u4 : Value) :
  Bx (((((w.setCell ⟨c, 0, none⟩ u0).setCell ⟨c, 1, none⟩ u1).setCell ⟨c, 2, none⟩ u2).setCell ⟨c, 3, none⟩ u3).setCell ⟨c, 4, none⟩ u4) b cs :=
 (((((h.other hne 0 u0).other hne 1 u1).other hne 2 u2).other hne 3 u3).other hne 4 u4)
theorem Bx.put6o {w : World} {b c : Nat} {cs : List Value} (h : Bx w b cs) (hne : b ≠ c) (u0 u1 u2 u3 u4 u5 : Value) :
  Bx ((((((w.setCell ⟨c, 0, none⟩ u0).setCell ⟨c, 1, none⟩ u1).setCell ⟨c, 2, none⟩ u2).setCell ⟨c, 3, none⟩ u3).setCell ⟨c, 4, none⟩ u4).setCell ⟨c, 5, none⟩ u5) b cs :=
 ((((((h.other hne 0 u0).other hne 1 u1).other hne 2 u2).other hne 3 u3).other hne 4 u4).other hne 5 u5)
theorem below_put5 {B : Nat} {a w : World} (h : Below B a w) (b : Nat) (hb : B ≤ b) (u0 u1 u2 u3 u4 : Value) :
  Below B a (((((w.setCell ⟨b, 0, none⟩ u0).setCell ⟨b, 1, none⟩ u1).setCell ⟨b, 2, none⟩ u2).setCell ⟨b, 3, none⟩ u3).setCell ⟨b, 4, none⟩ u4) :=
 (((((h.setCell (p := ⟨b, 0, none⟩) hb u0).setCell (p := ⟨b, 1, none⟩) hb u1).setCell (p := ⟨b, 2, none⟩) hb u2).setCell (p := ⟨b, 3, none⟩) hb u3).setCell (p := ⟨b, 4, none⟩) hb u4)
theorem ownsF_put5 {α : Type} {f : α → List Value} {E k : Nat} {w : World} {B : Nat} {v : Value} {l : List α} (h : OwnsF f E k w B v l) (b : Nat) (hb : b < B) (u0 u1 u2 u3 u4 : Value) :
  OwnsF f E k (((((w.setCell ⟨b, 0, none⟩ u0).setCell ⟨b, 1, none⟩ u1).setCell ⟨b, 2, none⟩ u2).setCell ⟨b, 3, none⟩ u3).setCell ⟨b, 4, none⟩ u4) B v l :=
 ownsF_set (ownsF_set (ownsF_set (ownsF_set (ownsF_set h hb) hb) hb) hb) hb
def wrapI (x : PartD) (s : List UInt8) : Int :=
 if partB x = true ∧ 0 ≤ layI s then (if x.fLayers.length = 3 then 5 else if offersF (faceP x) (needI (layI s)) = true then 0 else 1) else 7
def wrapP (x : PartD) (s : List UInt8) : PartD := if wrapI x s = 0 then ⟨x.fCore, x.fLayers ++ [⟨s, 0⟩]⟩ else x
def wrapR (x : PartD) (s : List UInt8) : ReplyD := ⟨wrapI x s, if wrapI x s = 0 then giveI (layI s) else 0, [], if wrapI x s = 1 then needI (layI s) else 0, if wrapI x s = 1 then faceP x else 0⟩
def GivesOPR (x : PartD) (r : ReplyD) (w : World) (e : Ending) (w' : World) : Prop := ∃ cs, e = .returned (.tuple #[.agg cs.toArray, vReply r]) ∧ oPart w' w.heap.size cs x ∧ Below w.heap.size w w'
theorem wrap_bad {x : PartD} {s : List UInt8} (h : ¬ (partB x = true ∧ 0 ≤ layI s)) : wrapP x s = x ∧ wrapR x s = ⟨7, 0, [], 0, 0⟩ := by
 have hi : wrapI x s = 7 := if_neg h
 unfold wrapP wrapR; rw [hi]; exact ⟨rfl, rfl⟩
theorem wrap_full {x : PartD} {s : List UInt8} (h : partB x = true ∧ 0 ≤ layI s) (h3 : x.fLayers.length = 3) : wrapP x s = x ∧ wrapR x s = ⟨5, 0, [], 0, 0⟩ := by
 have hi : wrapI x s = 5 := by unfold wrapI; rw [if_pos h, if_pos h3]
 unfold wrapP wrapR; rw [hi]; exact ⟨rfl, rfl⟩
theorem wrap_ok {x : PartD} {s : List UInt8} (h : partB x = true ∧ 0 ≤ layI s) (h3 : ¬ x.fLayers.length = 3) (ho : offersF (faceP x) (needI (layI s)) = true) : wrapP x s = ⟨x.fCore, x.fLayers ++ [⟨s, 0⟩]⟩ ∧ wrapR x s = ⟨0, giveI (layI s), [], 0, 0⟩ := by
 have hi : wrapI x s = 0 := by unfold wrapI; rw [if_pos h, if_neg h3, if_pos ho]
 unfold wrapP wrapR; rw [hi]; exact ⟨rfl, rfl⟩
theorem wrap_fail {x : PartD} {s : List UInt8} (h : partB x = true ∧ 0 ≤ layI s) (h3 : ¬ x.fLayers.length = 3) (ho : offersF (faceP x) (needI (layI s)) = false) : wrapP x s = x ∧ wrapR x s = ⟨1, 0, [], needI (layI s), faceP x⟩ := by
 have hi : wrapI x s = 1 := by unfold wrapI; rw [if_pos h, if_neg h3, if_neg (by simp [ho])]
 unfold wrapP wrapR; rw [hi]; exact ⟨rfl, rfl⟩
theorem sumF_le {α : Type} (f : α → Nat) (b : Nat) (l : List α) (h : ∀ a ∈ l, f a ≤ b) : sumF f l ≤ l.length * b := by
 induction l with
 | nil => simp [sumF]
 | cons x r ih =>
  have h1 := ih (fun a ha => h a (List.mem_cons_of_mem _ ha))
  have h2 := h x (List.mem_cons_self ..)
  simp only [sumF, List.length_cons, Nat.add_mul, Nat.one_mul]; omega
theorem layN_len (k : Nat) : (layN k).length ≤ 6 := by unfold layN; split <;> decide
theorem kindN_len (k : Nat) : (kindN k).length ≤ 6 := by unfold kindN; split <;> decide
theorem partB_small {x : PartD} (h : partB x = true) : zPart x ≤ 100 := by
 have hc := partB_core h
 have hl := partB_len h
 obtain ⟨j, _, _, hj⟩ := coreB_kindP hc
 have h1 : x.fCore.fKind.length ≤ 6 := by rw [← hj]; exact kindN_len j
 have hcb : cellsB x.fCore.fCells = true := by simp only [coreB, Bool.and_eq_true] at hc; exact hc.1.1.1.1.2
 have h2 := cellsB_len hcb
 have h3 := sumF_le zCell 8 x.fCore.fCells (fun c hc => by have h9 := (cellsB_mem hcb c hc).1; simp only [nameB, Bool.and_eq_true, decide_eq_true_iff] at h9; exact h9.1.1.2)
 have h4 := sumF_le zLayer 6 x.fLayers (fun y hy => by
  obtain ⟨i, hi, rfl⟩ := List.mem_iff_getElem.1 hy
  have h5 := partB_lay h i hi
  rw [layOk_of x i hi _ rfl] at h5
  simp only [Bool.and_eq_true, decide_eq_true_iff] at h5
  rcases layI_bd (x.fLayers[i]).fName with h6 | ⟨q, _, _, h7⟩
  ·omega
  ·show (x.fLayers[i]).fName.length ≤ 6
   rw [← h7]; exact layN_len q)
 have h5 : x.fCore.fCells.length * 8 ≤ 32 := by omega
 unfold zPart zCore
 omega
theorem wrapP_small {x : PartD} (hs : SmallP x) (s : List UInt8) : SmallP (wrapP x s) := by
 by_cases h : wrapI x s = 0
 ·have h1 : partB x = true ∧ 0 ≤ layI s := by
   by_cases h1 : partB x = true ∧ 0 ≤ layI s
   ·exact h1
   ·rw [wrapI, if_neg h1] at h; cases h
  have h2 := partB_small h1.1
  have h3 : s.length ≤ 6 := by
   rcases layI_bd s with h6 | ⟨q, _, _, h7⟩
   ·omega
   ·rw [← h7]; exact layN_len q
  have h4 : ∀ (a : List LayerD), sumF zLayer (a ++ [⟨s, 0⟩]) = sumF zLayer a + s.length := by
   intro a
   induction a with
   | nil => simp [sumF, zLayer]
   | cons y r ih => simp only [List.cons_append, sumF, ih]; omega
  unfold wrapP
  rw [if_pos h]
  refine smallP_of ?_
  unfold zPart zCore at h2 ⊢
  simp only [h4, List.length_append, List.length_cons, List.length_nil]
  omega
 ·unfold wrapP; rw [if_neg h]; exact hs
theorem append_lay {ops : Array Oper} {rest : List Oper} {o : Oper} {a : Act} {Q : Exit → Act → World → Prop} (hgd : o.guard = none) (s x : Operand)
  (ho : o.op = .call { callee := .builtin .append, args := #[s, x], argTypes := #[35, 35] }) (B : Nat) (v : Value) (l : List LayerD) (y : LayerD) (w : World) (blk : Nat)
  (hs : a.eval s = v) (hO : OwnsF cLayer 86 2 w B v l) (hx : a.eval x = .slice (some ⟨blk, 0, none⟩) 1 1) (hc : ∀ j, j < 2 → w.cell? ⟨blk, j, none⟩ = (cLayer y)[j]?) (hl : l.length ≤ 4194304) (hB : B ≤ w.heap.size)
  (h : ∀ v' w', OwnsF cLayer 86 2 w' B v' (l ++ [y]) → w.grownBy w' v.ownBlock → wpList Tryz.prog ops Q rest (a.put o.dst v') w') : wpList Tryz.prog ops Q (o :: rest) a w :=
 append_flat cLayer_len cLayer_one infoLay rfl (by decide) (by decide) Tryz.underlying35 hgd s x ho B v l y w blk hs hO hx hc hl hB h
theorem ownsF_setNe {α : Type} {f : α → List Value} {E k : Nat} {w : World} {B : Nat} {v : Value} {l : List α} {p : Addr} {u : Value} (h : OwnsF f E k w B v l) (hp : v.ownBlock ≠ some p.block) : OwnsF f E k (w.setCell p u) B v l :=
 World.ownsRow.kept h (row := some p.block) ⟨rfl, rfl, rfl, by simp, fun i hi hne => Below.heap_setCell w p u i (fun e => hne (by rw [e]))⟩ (Or.inr hp)
theorem slice_lenW {α : Type} {f : α → List Value} {E k : Nat} {w : World} {B m : Nat} {v : Value} {l : List α} (h : OwnsF f E k w B v l) (hm : l.length = m) : ∃ a c, v = .slice a m c := by
 subst hm; exact slice_of h
theorem lay_not_bool {w : World} {N b : Nat} {v : Value} {l : List LayerD} {x : Bool} (h : OwnsF cLayer 86 2 w N v l) (hl : 0 < l.length) (hb : w.cell? ⟨b, 1, none⟩ = some (.bool x)) : v.ownBlock ≠ some b := by
 rcases h.2 with ⟨rfl, _⟩ | ⟨g, cap, cur, rfl, _⟩
 ·simp [Value.ownBlock]
 ·intro e
  simp [Value.ownBlock] at e
  subst e
  have h1 := World.ownsRow.cellAt h 1 (by omega)
  rw [hb] at h1
  cases l with
  | nil => simp at hl
  | cons d r => simp [cLayer] at h1
theorem wrapP_core (p : PartD) (s : List UInt8) : (wrapP p s).fCore = p.fCore := by unfold wrapP; split <;> rfl
set_option maxRecDepth 100000 in
set_option maxHeartbeats 3200000 in
theorem specIsPart_any (v : Value) (x : PartD) (w : World) (hx : ValAt rPart 0 w v x) (hs : ∀ c ∈ x.fCore.fCells, c.fKey.length ≤ maxLen) :
  Calls Tryz.prog 50 #[v] w fun e w' => e = .returned (.bool (partB x)) ∧ Below w.heap.size w w' := by
 obtain ⟨_, rfl, hx⟩ := hx
 have HX := Lib.hid hx
 have HBAD := Lib.hid (fun k => partB_bad (x := x) (k := k))
 have HOK := Lib.hid (fun i h y hy => layOk_of x i h y hy)
 have HSU := Lib.hid (layTo_succ x)
 have HFN := Lib.hid (faceN_take x.fCore x.fLayers)
 have HP := Lib.hid (show partB x = (coreB x.fCore && decide (x.fLayers.length ≤ 3) && layTo x x.fLayers.length) from rfl)
 obtain ⟨xc, ls⟩ := x
 obtain ⟨v3, v5, rfl, h3, h5⟩ := hx
 have HC := Lib.hid (fun W (hb : Below w.heap.size w W) => specIsCore_any (vCore xc v3) xc W ⟨v3, rfl, FlatAt.below (flatAt_of_slice cCell_len (by decide) h3) hb (Nat.le_refl _)⟩ hs)
 obtain ⟨a0, a1, a2, a3, a4⟩ := xc
 unfold vCore at HC
 simp only at h3 h5 HX HC HP HFN HBAD HOK
 obtain ⟨ra, rc, rfl, _⟩ := sliceAt_len h3
 obtain ⟨sa, sc, rfl, hl, hcap⟩ := sliceAt_cap h5
 have H5 := Lib.hid h5
 have H3 := Lib.hid h3
 unfold maxLen at hl
 have HB0 := Lib.hid (show ∀ o, Below w.heap.size w (w.alloc o) from fun o => part_box w o)
 have HS0 := Lib.hid (Bx.new w [.string ⟨a0.toArray⟩, .bool a1, .bool a2, .slice ra a3.length rc, .int .i64 a4, .slice sa ls.length sc] 37)
 clear h3 h5
 have HPB := Lib.hid (show partB ⟨⟨a0, a1, a2, a3, a4⟩, ls⟩ = partB ⟨⟨a0, a1, a2, a3, a4⟩, ls⟩ from rfl)
 generalize partB ⟨⟨a0, a1, a2, a3, a4⟩, ls⟩ = pb at *
 have HCB := Lib.hid (show coreB ⟨a0, a1, a2, a3, a4⟩ = coreB ⟨a0, a1, a2, a3, a4⟩ from rfl)
 generalize coreB ⟨a0, a1, a2, a3, a4⟩ = cb at *
 clear HPB HCB HX
 cases cb with
 | false =>
  have HR := Lib.hid (show pb = false by rw [HP.out]; rfl)
  go_enter Tryz.func50, Tryz.ntmps50
  go_wp2_with fail
  refine (HC.out _ (HB0.out _)).mono ?_
  rintro e w1 ⟨rfl, hb⟩
  have HB := Lib.hid (belS (HB0.out _) hb)
  clear hb
  go_wp2_with fail
  go_ret
  exact ⟨ret_bool HR.out.symm, HB.out⟩
 | true =>
  by_cases h3 : 3 < ls.length
  ·have HR := Lib.hid (show pb = false by rw [HP.out, show decide (ls.length ≤ 3) = false by simpa using h3]; rfl)
   go_enter Tryz.func50, Tryz.ntmps50
   go_wp2_with fail
   refine (HC.out _ (HB0.out _)).mono ?_
   rintro e w1 ⟨rfl, hb⟩
   have HB := Lib.hid (belS (HB0.out _) hb)
   have BX := Lib.hid (HS0.out.below hb)
   clear hb
   have e0 := BX.out.cell 0 (by simp)
   have e1 := BX.out.cell 1 (by simp)
   have e2 := BX.out.cell 2 (by simp)
   have e3 := BX.out.cell 3 (by simp)
   have e4 := BX.out.cell 4 (by simp)
   have e5 := BX.out.cell 5 (by simp)
   simp only [List.getElem_cons_zero, List.getElem_cons_succ] at e0 e1 e2 e3 e4 e5
   go_wp2_with fail
   go_ret
   exact ⟨ret_bool HR.out.symm, HB.out⟩
  ·have HR := Lib.hid (show pb = layTo ⟨⟨a0, a1, a2, a3, a4⟩, ls⟩ ls.length by rw [HP.out, show decide (ls.length ≤ 3) = true by simpa using h3]; simp)
   go_enter Tryz.func50, Tryz.ntmps50
   go_wp2_with fail
   refine (HC.out _ (HB0.out _)).mono ?_
   rintro e w1 ⟨rfl, hb⟩
   have HB := Lib.hid (belS (HB0.out _) hb)
   have BX := Lib.hid (HS0.out.below hb)
   clear hb
   have e0 := BX.out.cell 0 (by simp)
   have e1 := BX.out.cell 1 (by simp)
   have e2 := BX.out.cell 2 (by simp)
   have e3 := BX.out.cell 3 (by simp)
   have e4 := BX.out.cell 4 (by simp)
   have e5 := BX.out.cell 5 (by simp)
   simp only [List.getElem_cons_zero, List.getElem_cons_succ] at e0 e1 e2 e3 e4 e5
   go_wp2_with fail
   clear e0 e1 e2 e3 e4 e5
   go_loopw [3, 4, 21] (fun _ _ i wr => ∃ k : Nat, k ≤ ls.length ∧ i = .int .i64 k ∧ layTo ⟨⟨a0, a1, a2, a3, a4⟩, ls⟩ k = true ∧ Below w.heap.size w wr ∧ Bx wr w.heap.size [.string ⟨a0.toArray⟩, .bool a1, .bool a2, .slice ra a3.length rc, .int .i64 a4, .slice sa ls.length sc]) (fun _ _ i _ => ls.length - (intOf i).toNat)
   case atStart => exact ⟨0, Nat.zero_le _, rfl, rfl, HB.out, BX.out⟩
   case round =>
    obtain ⟨k, hk, rfl, ht, hbr, hbx⟩ := hrel
    have HT := Lib.hid ht
    have HBr := Lib.hid hbr
    have BXr := Lib.hid hbx
    have HXr := Lib.hid (SliceAt.below H5.out (good_flat cLayer_len) hbr (Nat.le_refl _))
    clear ht hbr hbx
    by_cases hlt : k < ls.length
    ·obtain ⟨b, o, cs, rfl, hbw, hat, hd⟩ := sliceAt_cell HXr.out k hlt
     have HLO := Lib.hid (HOK.out k hlt _ rfl)
     have HBD := Lib.hid (fun h => HBAD.out k hlt h)
     have HNX := Lib.hid (show layOk ⟨⟨a0, a1, a2, a3, a4⟩, ls⟩ k = true → layTo ⟨⟨a0, a1, a2, a3, a4⟩, ls⟩ (k + 1) = true from fun h => by rw [HSU.out, HT.out, h]; rfl)
     have HFO := Lib.hid (fun W hW => l4Face_any (.agg #[.string ⟨a0.toArray⟩, .bool a1, .bool a2, .slice ra a3.length rc, .int .i64 a4, .slice (some ⟨b, o, none⟩) ls.length sc]) ⟨⟨a0, a1, a2, a3, a4⟩, ls⟩ k W ⟨_, rfl, _, _, rfl, SliceAt.below H3.out (good_flat cCell_len) hW (Nat.le_refl _), SliceAt.below H5.out (good_flat cLayer_len) hW (Nat.le_refl _)⟩ (Nat.le_of_lt hlt))
     generalize ls[k] = z at *
     obtain ⟨z0, z1⟩ := z
     simp only [rFlat, cLayer] at hat HLO
     subst hat
     have d0 := hd 0 (by decide)
     have d1 := hd 1 (by decide)
     simp only [List.getElem?_cons_zero, List.getElem?_cons_succ, Nat.add_zero] at d0 d1
     have HLN := Lib.hid (specLayerNeeds_any ⟨z0.toArray⟩)
     simp only [ndV, List.toList_toArray] at HLN
     have HOF := Lib.hid (specOffers_any (faceN ⟨⟨a0, a1, a2, a3, a4⟩, ls⟩ k) (needI (layI z0)))
     have hkc : (k : Int) < (ls.length : Int) := by omega
     generalize layOk ⟨⟨a0, a1, a2, a3, a4⟩, ls⟩ k = lo at *
     generalize faceN ⟨⟨a0, a1, a2, a3, a4⟩, ls⟩ k = fc at *
     generalize needI (layI z0) = nd at *
     generalize offersF fc nd = ob at *
     generalize hge : decide (0 ≤ layI z0) = q at *
     clear hd hge HXr
     have HW0 := Lib.hid (part_box wr (.cells #[.string ⟨z0.toArray⟩, .int .i64 z1] 86))
     have BL := Lib.hid (Bx.new wr [.string ⟨z0.toArray⟩, .int .i64 z1] 86)
     have BX1 := Lib.hid (BXr.out.alloc (.cells #[.string ⟨z0.toArray⟩, .int .i64 z1] 86))
     have HB1 := Lib.hid (belS HBr.out HW0.out)
     by_cases h0 : z0 = [99, 111, 117, 110, 116, 115]
     ·subst h0
      have HCD := Lib.hid (show countedB [99, 111, 117, 110, 116, 115] = true from rfl)
      have HCN := Lib.hid (show True from trivial)
      have e0 := BX1.out.cell 0 (by simp)
      have e1 := BX1.out.cell 1 (by simp)
      have e2 := BX1.out.cell 2 (by simp)
      have e3 := BX1.out.cell 3 (by simp)
      have e4 := BX1.out.cell 4 (by simp)
      have e5 := BX1.out.cell 5 (by simp)
      simp only [List.getElem_cons_zero, List.getElem_cons_succ] at e0 e1 e2 e3 e4 e5
      go_wp2_with fail
      refine (HLN.out _).mono ?_
      rintro e w2 ⟨rfl, hb⟩
      have HB2 := Lib.hid (belS HB1.out hb)
      have BL2 := Lib.hid (BL.out.below hb)
      have BX2 := Lib.hid (BX1.out.below hb)
      clear hb
      clear e0 e1 e2 e3 e4 e5
      have e0 := BX2.out.cell 0 (by simp)
      have e1 := BX2.out.cell 1 (by simp)
      have e2 := BX2.out.cell 2 (by simp)
      have e3 := BX2.out.cell 3 (by simp)
      have e4 := BX2.out.cell 4 (by simp)
      have e5 := BX2.out.cell 5 (by simp)
      simp only [List.getElem_cons_zero, List.getElem_cons_succ] at e0 e1 e2 e3 e4 e5
      have g0 := BL2.out.cell 0 (by simp)
      have g1 := BL2.out.cell 1 (by simp)
      simp only [List.getElem_cons_zero, List.getElem_cons_succ] at g0 g1
      cases q with
      | false =>
       have HR2 := Lib.hid (show pb = false from HBD.out (by rw [HLO.out]; rfl))
       go_wp2_with fail
       go_ret
       exact ⟨ret_bool HR2.out.symm, HB2.out⟩
      | true =>
       go_wp2_with fail
       refine (HFO.out _ HB2.out).mono ?_
       rintro e w3 ⟨rfl, hb⟩
       have HB3 := Lib.hid (belS HB2.out hb)
       have BL3 := Lib.hid (BL2.out.below hb)
       have BX3 := Lib.hid (BX2.out.below hb)
       clear hb
       clear e0 e1 e2 e3 e4 e5 g0 g1
       have g0 := BL3.out.cell 0 (by simp)
       have g1 := BL3.out.cell 1 (by simp)
       simp only [List.getElem_cons_zero, List.getElem_cons_succ] at g0 g1
       cases ob with
       | false =>
        have HR2 := Lib.hid (show pb = false from HBD.out (by rw [HLO.out]; rfl))
        go_wp2_with (first | (go_at_call 61; (with_reducible refine (HOF.out _).mono ?_); rintro e w' ⟨rfl, rfl⟩))
        go_ret
        exact ⟨ret_bool HR2.out.symm, HB3.out⟩
       | true =>
        by_cases hc0 : z1 < 0
        ·skip
         have HR2 := Lib.hid (show pb = false from HBD.out (by rw [HLO.out]; unfold cntB; rw [HCD.out]; simp [numB]; omega))
         go_wp2_with (first | (go_at_call 61; (with_reducible refine (HOF.out _).mono ?_); rintro e w' ⟨rfl, rfl⟩))
         go_ret
         exact ⟨ret_bool HR2.out.symm, HB3.out⟩
        ·by_cases hc9 : 999 < z1
         ·skip
          have HR2 := Lib.hid (show pb = false from HBD.out (by rw [HLO.out]; unfold cntB; rw [HCD.out]; simp [numB]; omega))
          go_wp2_with (first | (go_at_call 61; (with_reducible refine (HOF.out _).mono ?_); rintro e w' ⟨rfl, rfl⟩))
          go_ret
          exact ⟨ret_bool HR2.out.symm, HB3.out⟩
         ·have HR2 := Lib.hid (HNX.out (by rw [HLO.out]; unfold cntB; rw [HCD.out]; simp [numB]; omega))
          by_cases hcp : 0 < z1
          ·go_wp2_with (first | (go_at_call 61; (with_reducible refine (HOF.out _).mono ?_); rintro e w' ⟨rfl, rfl⟩))
           exact ⟨⟨k + 1, by omega, by go_num, HR2.out, HB3.out, BX3.out⟩, by simp [intOf]; omega⟩
          ·go_wp2_with (first | (go_at_call 61; (with_reducible refine (HOF.out _).mono ?_); rintro e w' ⟨rfl, rfl⟩))
           exact ⟨⟨k + 1, by omega, by go_num, HR2.out, HB3.out, BX3.out⟩, by simp [intOf]; omega⟩
     ·by_cases h1 : z0 = [104, 101, 97, 114, 115]
      ·subst h1
       clear h0
       have HCD := Lib.hid (show countedB [104, 101, 97, 114, 115] = true from rfl)
       have e0 := BX1.out.cell 0 (by simp)
       have e1 := BX1.out.cell 1 (by simp)
       have e2 := BX1.out.cell 2 (by simp)
       have e3 := BX1.out.cell 3 (by simp)
       have e4 := BX1.out.cell 4 (by simp)
       have e5 := BX1.out.cell 5 (by simp)
       simp only [List.getElem_cons_zero, List.getElem_cons_succ] at e0 e1 e2 e3 e4 e5
       go_wp2_with fail
       refine (HLN.out _).mono ?_
       rintro e w2 ⟨rfl, hb⟩
       have HB2 := Lib.hid (belS HB1.out hb)
       have BL2 := Lib.hid (BL.out.below hb)
       have BX2 := Lib.hid (BX1.out.below hb)
       clear hb
       clear e0 e1 e2 e3 e4 e5
       have e0 := BX2.out.cell 0 (by simp)
       have e1 := BX2.out.cell 1 (by simp)
       have e2 := BX2.out.cell 2 (by simp)
       have e3 := BX2.out.cell 3 (by simp)
       have e4 := BX2.out.cell 4 (by simp)
       have e5 := BX2.out.cell 5 (by simp)
       simp only [List.getElem_cons_zero, List.getElem_cons_succ] at e0 e1 e2 e3 e4 e5
       have g0 := BL2.out.cell 0 (by simp)
       have g1 := BL2.out.cell 1 (by simp)
       simp only [List.getElem_cons_zero, List.getElem_cons_succ] at g0 g1
       cases q with
       | false =>
        have HR2 := Lib.hid (show pb = false from HBD.out (by rw [HLO.out]; rfl))
        go_wp2_with fail
        go_ret
        exact ⟨ret_bool HR2.out.symm, HB2.out⟩
       | true =>
        go_wp2_with fail
        refine (HFO.out _ HB2.out).mono ?_
        rintro e w3 ⟨rfl, hb⟩
        have HB3 := Lib.hid (belS HB2.out hb)
        have BL3 := Lib.hid (BL2.out.below hb)
        have BX3 := Lib.hid (BX2.out.below hb)
        clear hb
        clear e0 e1 e2 e3 e4 e5 g0 g1
        have g0 := BL3.out.cell 0 (by simp)
        have g1 := BL3.out.cell 1 (by simp)
        simp only [List.getElem_cons_zero, List.getElem_cons_succ] at g0 g1
        cases ob with
        | false =>
         have HR2 := Lib.hid (show pb = false from HBD.out (by rw [HLO.out]; rfl))
         go_wp2_with (first | (go_at_call 61; (with_reducible refine (HOF.out _).mono ?_); rintro e w' ⟨rfl, rfl⟩))
         go_ret
         exact ⟨ret_bool HR2.out.symm, HB3.out⟩
        | true =>
         by_cases hc0 : z1 < 0
         ·skip
          have HR2 := Lib.hid (show pb = false from HBD.out (by rw [HLO.out]; unfold cntB; rw [HCD.out]; simp [numB]; omega))
          go_wp2_with (first | (go_at_call 61; (with_reducible refine (HOF.out _).mono ?_); rintro e w' ⟨rfl, rfl⟩))
          go_ret
          exact ⟨ret_bool HR2.out.symm, HB3.out⟩
         ·by_cases hc9 : 999 < z1
          ·skip
           have HR2 := Lib.hid (show pb = false from HBD.out (by rw [HLO.out]; unfold cntB; rw [HCD.out]; simp [numB]; omega))
           go_wp2_with (first | (go_at_call 61; (with_reducible refine (HOF.out _).mono ?_); rintro e w' ⟨rfl, rfl⟩))
           go_ret
           exact ⟨ret_bool HR2.out.symm, HB3.out⟩
          ·have HR2 := Lib.hid (HNX.out (by rw [HLO.out]; unfold cntB; rw [HCD.out]; simp [numB]; omega))
           by_cases hcp : 0 < z1
           ·go_wp2_with (first | (go_at_call 61; (with_reducible refine (HOF.out _).mono ?_); rintro e w' ⟨rfl, rfl⟩))
            exact ⟨⟨k + 1, by omega, by go_num, HR2.out, HB3.out, BX3.out⟩, by simp [intOf]; omega⟩
           ·go_wp2_with (first | (go_at_call 61; (with_reducible refine (HOF.out _).mono ?_); rintro e w' ⟨rfl, rfl⟩))
            exact ⟨⟨k + 1, by omega, by go_num, HR2.out, HB3.out, BX3.out⟩, by simp [intOf]; omega⟩
      ·have HCD := Lib.hid (show countedB z0 = false by simp [countedB, h0, h1])
       have k0 : (z0 == [99, 111, 117, 110, 116, 115]) = false := by simp [h0]
       have k1 : (z0 == [104, 101, 97, 114, 115]) = false := by simp [h1]
       clear h0 h1
       have e0 := BX1.out.cell 0 (by simp)
       have e1 := BX1.out.cell 1 (by simp)
       have e2 := BX1.out.cell 2 (by simp)
       have e3 := BX1.out.cell 3 (by simp)
       have e4 := BX1.out.cell 4 (by simp)
       have e5 := BX1.out.cell 5 (by simp)
       simp only [List.getElem_cons_zero, List.getElem_cons_succ] at e0 e1 e2 e3 e4 e5
       go_wp2_with fail
       refine (HLN.out _).mono ?_
       rintro e w2 ⟨rfl, hb⟩
       have HB2 := Lib.hid (belS HB1.out hb)
       have BL2 := Lib.hid (BL.out.below hb)
       have BX2 := Lib.hid (BX1.out.below hb)
       clear hb
       clear e0 e1 e2 e3 e4 e5
       have e0 := BX2.out.cell 0 (by simp)
       have e1 := BX2.out.cell 1 (by simp)
       have e2 := BX2.out.cell 2 (by simp)
       have e3 := BX2.out.cell 3 (by simp)
       have e4 := BX2.out.cell 4 (by simp)
       have e5 := BX2.out.cell 5 (by simp)
       simp only [List.getElem_cons_zero, List.getElem_cons_succ] at e0 e1 e2 e3 e4 e5
       have g0 := BL2.out.cell 0 (by simp)
       have g1 := BL2.out.cell 1 (by simp)
       simp only [List.getElem_cons_zero, List.getElem_cons_succ] at g0 g1
       cases q with
       | false =>
        have HR2 := Lib.hid (show pb = false from HBD.out (by rw [HLO.out]; rfl))
        go_wp2_with fail
        go_ret
        exact ⟨ret_bool HR2.out.symm, HB2.out⟩
       | true =>
        go_wp2_with fail
        refine (HFO.out _ HB2.out).mono ?_
        rintro e w3 ⟨rfl, hb⟩
        have HB3 := Lib.hid (belS HB2.out hb)
        have BL3 := Lib.hid (BL2.out.below hb)
        have BX3 := Lib.hid (BX2.out.below hb)
        clear hb
        clear e0 e1 e2 e3 e4 e5 g0 g1
        have g0 := BL3.out.cell 0 (by simp)
        have g1 := BL3.out.cell 1 (by simp)
        simp only [List.getElem_cons_zero, List.getElem_cons_succ] at g0 g1
        cases ob with
        | false =>
         have HR2 := Lib.hid (show pb = false from HBD.out (by rw [HLO.out]; rfl))
         go_wp2_with (first | (go_at_call 61; (with_reducible refine (HOF.out _).mono ?_); rintro e w' ⟨rfl, rfl⟩))
         go_ret
         exact ⟨ret_bool HR2.out.symm, HB3.out⟩
        | true =>
         by_cases hc0 : z1 < 0
         ·skip
          have HR2 := Lib.hid (show pb = false from HBD.out (by rw [HLO.out]; unfold cntB; rw [HCD.out]; simp; omega))
          go_wp2_with (first | (go_at_call 61; (with_reducible refine (HOF.out _).mono ?_); rintro e w' ⟨rfl, rfl⟩))
          go_ret
          exact ⟨ret_bool HR2.out.symm, HB3.out⟩
         ·by_cases hc9 : 999 < z1
          ·skip
           have HR2 := Lib.hid (show pb = false from HBD.out (by rw [HLO.out]; unfold cntB; rw [HCD.out]; simp; omega))
           go_wp2_with (first | (go_at_call 61; (with_reducible refine (HOF.out _).mono ?_); rintro e w' ⟨rfl, rfl⟩))
           go_ret
           exact ⟨ret_bool HR2.out.symm, HB3.out⟩
          ·by_cases hcp : 0 < z1
           ·skip
            have HR2 := Lib.hid (show pb = false from HBD.out (by rw [HLO.out]; unfold cntB; rw [HCD.out]; simp; omega))
            go_wp2_with (first | (go_at_call 61; (with_reducible refine (HOF.out _).mono ?_); rintro e w' ⟨rfl, rfl⟩))
            go_ret
            exact ⟨ret_bool HR2.out.symm, HB3.out⟩
           ·have HR2 := Lib.hid (HNX.out (by rw [HLO.out]; unfold cntB; rw [HCD.out]; simp; omega))
            go_wp2_with (first | (go_at_call 61; (with_reducible refine (HOF.out _).mono ?_); rintro e w' ⟨rfl, rfl⟩))
            exact ⟨⟨k + 1, by omega, by go_num, HR2.out, HB3.out, BX3.out⟩, by simp [intOf]; omega⟩
    ·have HR2 := Lib.hid (show pb = true by rw [HR.out]; have h := HT.out; rwa [show k = ls.length by omega] at h)
     go_wp2
     go_ret
     exact ⟨ret_bool HR2.out.symm, HBr.out⟩
set_option maxRecDepth 100000 in
set_option maxHeartbeats 3200000 in
theorem l3Copy_any (v : Value) (d : CoreD) (w : World) (hx : CoreAt w v d) (hm : d.fCells.length ≤ 2097152) :
  Calls Tryz.prog 74 #[v] w fun e w' => GivesCore d w e w' := by
 obtain ⟨cv, rfl, hx⟩ := hx
 obtain ⟨i0, hi, hz0, hz1, hz2⟩ := info_parts cell_info
 obtain ⟨kd, on, br, l, cnt⟩ := d
 unfold vCore
 simp only at *
 have HX := Lib.hid hx
 obtain ⟨a, c, rfl, hml⟩ := flatAt_len hx
 clear hx
 have HB3 := Lib.hid (show ∀ o1 o2 o3, Below w.heap.size w (((w.alloc o1).alloc o2).alloc o3) from fun o1 o2 o3 => (((Below.refl _ _).alloc (Nat.le_refl _) _).alloc (by simp) _).alloc (by simp; omega) _)
 have HO3 := Lib.hid (show ∀ o1 o2, OwnsF cCell 139 2 (((w.alloc o1).alloc o2).alloc (.cells #[] 139)) (w.heap.size + 1 + 1) (.slice (some ⟨w.heap.size + 1 + 1, 0, none⟩) 0 0) [] from fun o1 o2 => by have h := ownsF_new cCell 139 2 ((w.alloc o1).alloc o2); simpa using h)
 cases a with
 | none =>
  have hl0 : l = [] := by
   obtain ⟨a', c', e, _, _, h⟩ := HX.out
   injection e with e1 e2
   rcases h with h | ⟨b, o, rfl, _⟩
   ·exact List.eq_nil_of_length_eq_zero h
   ·simp at e1
  subst hl0
  simp only [List.length_nil] at *
  go_enter Tryz.func74, Tryz.ntmps74
  go_wp2_with fail
  refine bodyPost_ret (v := .agg #[.string ⟨kd.toArray⟩, .bool on, .bool br, .slice (some ⟨w.heap.size + 1 + 1, 0, none⟩) 0 0, .int .i64 cnt]) (by simp [results, Tryz.results74, go_sem, cell_set_at, cell_set_ne]) rfl ?_
  exact ⟨_, rfl, ⟨_, rfl, ownsF_base (HO3.out _ _) (by omega)⟩, HB3.out _ _ _⟩
 | some ad =>
  have HN := Lib.hid (fun o1 o2 o3 => show ∀ j u, (l.flatMap cCell)[j]? = some u → (((w.alloc o1).alloc o2).alloc o3).cell? (ad.add j) = some u from fun j u hj => by
   have h9 := HX.out.below (HB3.out o1 o2 o3) (Nat.le_refl _)
   obtain ⟨a', c', e, _, _, h⟩ := h9
   injection e with e1 e2
   have hjl : j < (l.flatMap cCell).length := (List.getElem?_eq_some_iff.1 hj).1
   rw [flat_len cCell 2 cCell_len] at hjl
   rcases h with h | ⟨b, o, rfl, _, h⟩
   ·omega
   ·injection e1 with e1
    subst e1
    rw [Addr.add_lit, h j hjl]; exact hj)
  have h1c : ∀ u ∈ l.flatMap cCell, u.oneCell' = true := fun u hu => by
   obtain ⟨y, _, hy⟩ := List.mem_flatMap.1 hu
   exact cCell_one y u hy
  have hfl := flat_len cCell 2 cCell_len l
  have H1 := Lib.hid h1c
  have HFL := Lib.hid hfl
  clear h1c hfl
  go_enter Tryz.func74, Tryz.ntmps74
  go_wp2_with (at_builtin; refine wpList_append_own _ rfl _ _ 32 rfl (w.heap.size + 1 + 1) 139 i0 _ 2 24 Tryz.underlying32 hi hz0 hz1 hz2 rfl (by decide) (.slice (some ⟨w.heap.size + 1 + 1, 0, none⟩) 0 0) 0 [] (by rfl) (HO3.out _ _) ad l.length c (l.flatMap cCell) (by rfl) HFL.out (HN.out _ _ _) H1.out (by unfold maxLen; omega) (by omega) (by simp; try omega) ?_; intro v' w' ho hgr hnil; clear hnil; have q0 : w'.cell? ⟨w.heap.size, 0, none⟩ = some (.string ⟨kd.toArray⟩) := (hgr.cell_far ⟨w.heap.size, 0, none⟩ (by simp <;> omega) (by simp [Value.ownBlock] <;> omega)).trans (by simp [go_sem]); have q1 : w'.cell? ⟨w.heap.size, 1, none⟩ = some (.bool on) := (hgr.cell_far ⟨w.heap.size, 1, none⟩ (by simp <;> omega) (by simp [Value.ownBlock] <;> omega)).trans (by simp [go_sem]); have q2 : w'.cell? ⟨w.heap.size, 2, none⟩ = some (.bool br) := (hgr.cell_far ⟨w.heap.size, 2, none⟩ (by simp <;> omega) (by simp [Value.ownBlock] <;> omega)).trans (by simp [go_sem]); have q3 : w'.cell? ⟨w.heap.size, 3, none⟩ = some (.slice (some ad) l.length c) := (hgr.cell_far ⟨w.heap.size, 3, none⟩ (by simp <;> omega) (by simp [Value.ownBlock] <;> omega)).trans (by simp [go_sem]); have q4 : w'.cell? ⟨w.heap.size, 4, none⟩ = some (.int .i64 cnt) := (hgr.cell_far ⟨w.heap.size, 4, none⟩ (by simp <;> omega) (by simp [Value.ownBlock] <;> omega)).trans (by simp [go_sem]); have r0 : w'.cell? ⟨w.heap.size + 1, 0, none⟩ = some (.string ⟨#[]⟩) := (hgr.cell_far ⟨w.heap.size + 1, 0, none⟩ (by simp <;> omega) (by simp [Value.ownBlock] <;> omega)).trans (by simp [go_sem]); have r1 : w'.cell? ⟨w.heap.size + 1, 1, none⟩ = some (.bool false) := (hgr.cell_far ⟨w.heap.size + 1, 1, none⟩ (by simp <;> omega) (by simp [Value.ownBlock] <;> omega)).trans (by simp [go_sem]); have r2 : w'.cell? ⟨w.heap.size + 1, 2, none⟩ = some (.bool false) := (hgr.cell_far ⟨w.heap.size + 1, 2, none⟩ (by simp <;> omega) (by simp [Value.ownBlock] <;> omega)).trans (by simp [go_sem]); have r3 : w'.cell? ⟨w.heap.size + 1, 3, none⟩ = some (.slice none 0 0) := (hgr.cell_far ⟨w.heap.size + 1, 3, none⟩ (by simp <;> omega) (by simp [Value.ownBlock] <;> omega)).trans (by simp [go_sem]); have r4 : w'.cell? ⟨w.heap.size + 1, 4, none⟩ = some (.int .i64 0) := (hgr.cell_far ⟨w.heap.size + 1, 4, none⟩ (by simp <;> omega) (by simp [Value.ownBlock] <;> omega)).trans (by simp [go_sem]); have y0 : ∀ o, w'.frozen? ⟨w.heap.size, o, none⟩ = false := (fun o => (hgr.frozen_far ⟨w.heap.size, o, none⟩ (by simp <;> omega) (by simp [Value.ownBlock] <;> omega)).trans (by simp [go_sem])); have y1 : ∀ o, w'.frozen? ⟨w.heap.size + 1, o, none⟩ = false := (fun o => (hgr.frozen_far ⟨w.heap.size + 1, o, none⟩ (by simp <;> omega) (by simp [Value.ownBlock] <;> omega)).trans (by simp [go_sem])); have HG := Lib.hid hgr; have HO := Lib.hid (show OwnsF cCell 139 2 w' (w.heap.size + 1 + 1) v' l from by simpa [OwnsF] using ho); obtain ⟨ua, uc, rfl⟩ := slice_of HO.out)
  refine bodyPost_ret (v := .agg #[.string ⟨kd.toArray⟩, .bool on, .bool br, .slice ua l.length uc, .int .i64 cnt]) (by simp [results, Tryz.results74, go_sem, cell_set_at, cell_set_ne, q0, q1, q2, q3, q4, r0, r1, r2, r3, r4]) rfl ?_
  refine ⟨_, rfl, ⟨_, rfl, ?_⟩, ?_⟩
  ·refine ownsF_base (B := w.heap.size + 1 + 1) ?_ (by omega)
   repeat (with_reducible refine ownsF_set ?_ (by simp; try omega))
   exact HO.out
  ·repeat (with_reducible refine Below.setCell ?_ (by simp; try omega) _)
   exact (HB3.out _ _ _).grown HG.out (by simp; omega) (fun k h => by simp [Value.ownBlock] at h; omega)
structure Cop (w : World) (cs zs : List Value) (w' : World) : Prop where
 b : Below w.heap.size w w'
 p : Bx w' w.heap.size cs
 r : Bx w' (w.heap.size + 1) zs
theorem Cop.below {w w1 w2 : World} {cs zs : List Value} (h : Cop w cs zs w1) (hb : Below w1.heap.size w1 w2) : Cop w cs zs w2 := ⟨belS h.b hb, h.p.below hb, h.r.below hb⟩
theorem Cop.alloc {w w1 : World} {cs zs : List Value} (h : Cop w cs zs w1) (o : Obj) : Cop w cs zs (w1.alloc o) := h.below (bx_box w1 o)
theorem Cop.drw {w w1 : World} {cs zs : List Value} (h : Cop w cs zs w1) : Cop w cs zs w1.drew := ⟨⟨h.b.os, h.b.tape, h.b.output, h.b.size, h.b.block⟩, h.p.dr, h.r.dr⟩
theorem Cop.grown {w w1 w2 : World} {cs zs : List Value} {r : Option Nat} (h : Cop w cs zs w1) (hg : w1.grownBy w2 r) (hr : ∀ g, r = some g → w.heap.size + 1 < g) : Cop w cs zs w2 :=
 ⟨h.b.grown hg h.b.size (fun g e => by have := hr g e; omega), h.p.grown hg (fun e => by have := hr _ e; omega), h.r.grown hg (fun e => by have := hr _ e; omega)⟩
theorem step_laysZ {ops : Array Oper} {o : Oper} {a : Act} {K : Act → World → Prop} {Q : Exit → Act → World → Prop} {E : Prop} (hgd : o.guard = none) (s x : Operand)
  (ho : o.op = .call { callee := .builtin .append, args := #[s, x], argTypes := #[35, 35] }) (g cp : Nat) (w : World) (ad : Option Addr) (c : Nat)
  (hs : a.eval s = .slice (some ⟨g, 0, none⟩) 0 cp) (hx : a.eval x = .slice ad 0 c)
  (h : K (a.put o.dst (.slice (some ⟨g, 0, none⟩) 0 cp)) w) : if Region.wanted o (yielded ops a.tmps) = true then Oper.wp Tryz.prog o a w K Q else E := by
 have hw : Region.wanted o (yielded ops a.tmps) = true := by simp [Region.wanted, hgd]
 rw [if_pos hw]
 have hr : (Builtin.append_ #[35, 35] o.type #[.slice (some ⟨g, 0, none⟩) 0 cp, .slice ad 0 c]).run Tryz.prog w = .ok (.slice (some ⟨g, 0, none⟩) 0 cp) w := by
  cases ad <;> simp [Builtin.append_, go_sem]
 unfold Oper.wp execOp
 simp only [ho, resolve, invoke, builtin, Sem.run_bind, Sem.run_pure, Result.andThen_ok, List.map_toArray, List.map_cons, List.map_nil, hs, hx, hr]
 exact h
theorem step_laysN {ops : Array Oper} {o : Oper} {a : Act} {K : Act → World → Prop} {Q : Exit → Act → World → Prop} {E : Prop} (hgd : o.guard = none) (s x : Operand)
  (ho : o.op = .call { callee := .builtin .append, args := #[s, x], argTypes := #[35, 35] }) (B : Nat) (v : Value) (y : List LayerD) (w : World) (ad : Option Addr) (c : Nat)
  (hs : a.eval s = v) (hO : OwnsF cLayer 86 2 w B v []) (hx : a.eval x = .slice ad y.length c) (hy : SliceAt (rFlat cLayer) 2 0 w (.slice ad y.length c) y) (hv : ∃ g cp, v = .slice (some ⟨g, 0, none⟩) 0 cp) (hm : y.length ≤ 2097152) (hB : B ≤ w.heap.size)
  (h : ∀ v' w', OwnsF cLayer 86 2 w' B v' y → w.grownBy w' v.ownBlock → K (a.put o.dst v') w') : if Region.wanted o (yielded ops a.tmps) = true then Oper.wp Tryz.prog o a w K Q else E := by
 by_cases hl : 0 < y.length
 case neg =>
  obtain rfl : y = [] := List.eq_nil_of_length_eq_zero (by omega)
  obtain ⟨g, cp, rfl⟩ := hv
  exact step_laysZ hgd s x ho g cp w ad c hs hx (h _ _ hO (grownBy_refl _ _))
 obtain ⟨i0, hi, hz0, hz1, hz2⟩ := info_parts infoLay
 obtain ⟨a', c', e, hlen, hml, hy⟩ := flatAt_of_slice cLayer_len (by decide) hy
 injection e with e1 e2 e3
 subst e1
 rcases hy with hy | ⟨b, o', rfl, hlt, hy⟩
 ·omega
 ·refine step_append_lies w hgd s x 35 ho B 86 i0 _ 2 24 Tryz.underlying35 hi hz0 hz1 hz2 rfl (by decide) v 0 [] hs (by simpa [OwnsF] using hO) ⟨b, o', none⟩ y.length c (y.flatMap cLayer) hx hlen ?_ ?_ hl (by unfold maxLen; omega) (by omega) hB _ rfl ?_
  ·intro j u hj
   have hj2 : j < y.length * 2 := by rw [← hlen]; exact (List.getElem?_eq_some_iff.1 hj).1
   rw [Addr.add_lit, hy j hj2]; exact hj
  ·intro u hu
   obtain ⟨d, _, hd⟩ := List.mem_flatMap.1 hu
   exact cLayer_one d u hd
  ·intro g cap w' h1 h2 _ _
   refine h _ w' ?_ h2
   unfold OwnsF
   simpa using h1
theorem l4_end {w w4 : World} {kd : List UInt8} {on br : Bool} {cl : List CellD} {cnt : Int} {l : List LayerD} {ga ua : Option Addr} {gc uc : Nat} {cs : List Value} {c0 c1 c2 c3 c4 c5 : Value} (h : Cop w cs [c0, c1, c2, c3, c4, c5] w4)
  (hc : OwnsF cCell 139 2 w4 (w.heap.size + 1 + 1) (.slice ga cl.length gc) cl) (hl : OwnsF cLayer 86 2 w4 (w.heap.size + 1 + 1) (.slice ua l.length uc) l) (hmc : cl.length ≤ 2097152) (hm : l.length ≤ 2097152) :
  Bx ((((((w4.setCell ⟨w.heap.size + 1, 0, none⟩ (.string ⟨kd.toArray⟩)).setCell ⟨w.heap.size + 1, 1, none⟩ (.bool on)).setCell ⟨w.heap.size + 1, 2, none⟩ (.bool br)).setCell ⟨w.heap.size + 1, 3, none⟩ (.slice ga cl.length gc)).setCell ⟨w.heap.size + 1, 4, none⟩ (.int .i64 cnt)).setCell ⟨w.heap.size + 1, 5, none⟩ (.slice ua l.length uc)) (w.heap.size + 1) [.string ⟨kd.toArray⟩, .bool on, .bool br, .slice ga cl.length gc, .int .i64 cnt, .slice ua l.length uc] ∧
  oPart ((((((w4.setCell ⟨w.heap.size + 1, 0, none⟩ (.string ⟨kd.toArray⟩)).setCell ⟨w.heap.size + 1, 1, none⟩ (.bool on)).setCell ⟨w.heap.size + 1, 2, none⟩ (.bool br)).setCell ⟨w.heap.size + 1, 3, none⟩ (.slice ga cl.length gc)).setCell ⟨w.heap.size + 1, 4, none⟩ (.int .i64 cnt)).setCell ⟨w.heap.size + 1, 5, none⟩ (.slice ua l.length uc)) w.heap.size [.string ⟨kd.toArray⟩, .bool on, .bool br, .slice ga cl.length gc, .int .i64 cnt, .slice ua l.length uc] ⟨⟨kd, on, br, cl, cnt⟩, l⟩ ∧
  Below w.heap.size w ((((((w4.setCell ⟨w.heap.size + 1, 0, none⟩ (.string ⟨kd.toArray⟩)).setCell ⟨w.heap.size + 1, 1, none⟩ (.bool on)).setCell ⟨w.heap.size + 1, 2, none⟩ (.bool br)).setCell ⟨w.heap.size + 1, 3, none⟩ (.slice ga cl.length gc)).setCell ⟨w.heap.size + 1, 4, none⟩ (.int .i64 cnt)).setCell ⟨w.heap.size + 1, 5, none⟩ (.slice ua l.length uc)) := by
 refine ⟨h.r.put6 _ _ _ _ _ _, ⟨_, _, rfl, ?_, ?_⟩, below_put6 h.b (w.heap.size + 1) (by omega) _ _ _ _ _ _⟩
 ·exact ownsF_base (ownsF_put6 hc (w.heap.size + 1) (by omega) _ _ _ _ _ _) (by omega)
 ·exact ownsF_base (ownsF_put6 hl (w.heap.size + 1) (by omega) _ _ _ _ _ _) (by omega)
set_option maxRecDepth 100000 in
set_option maxHeartbeats 3200000 in
theorem l4Copy_own (v : Value) (x : PartD) (w : World) (hx : ValAt rPart 0 w v x) (hs : SmallP x) :
  Calls Tryz.prog 59 #[v] w fun e w' => GivesOP x w e w' := by
 obtain ⟨_, rfl, hx⟩ := hx
 obtain ⟨xc, l⟩ := x
 obtain ⟨v3, v5, rfl, h3, h5⟩ := hx
 have HCC := Lib.hid (fun W (hb : Below w.heap.size w W) => l3Copy_any (vCore xc v3) xc W ⟨v3, rfl, FlatAt.below (flatAt_of_slice cCell_len (by decide) h3) hb (Nat.le_refl _)⟩ hs.cells)
 unfold GivesCore OwnsCore at HCC
 have hm := hs.lays
 have hmc := hs.cells
 simp only at h3 h5 hm
 obtain ⟨ra, rc, rfl, _⟩ := sliceAt_len h3
 obtain ⟨sa, sc, rfl, hl⟩ := sliceAt_len h5
 have H5 := Lib.hid h5
 obtain ⟨kd, on, br, cl, cnt⟩ := xc
 unfold vCore at HCC
 simp only at HCC h3 hmc ⊢
 clear h3 h5 hs
 unfold maxLen at hl
 have BS := Lib.hid (bx_start2 w [.string ⟨kd.toArray⟩, .bool on, .bool br, .slice ra cl.length rc, .int .i64 cnt, .slice sa l.length sc] [.string ⟨#[]⟩, .bool false, .bool false, .slice none 0 0, .int .i64 0, .slice none 0 0] 37 37)
 have CS := Lib.hid (Cop.drw ⟨BS.out.2.2, BS.out.1, BS.out.2.1⟩)
 go_enter Tryz.func59, Tryz.ntmps59
 go_wp2_with fail
 have HO0 := Lib.hid (show ∀ o1 o2, OwnsF cLayer 86 2 (((w.alloc o1).alloc o2).drew.alloc (.cells #[] 86)) (w.heap.size + 1 + 1) (.slice (some ⟨w.heap.size + 1 + 1, 0, none⟩) 0 0) [] from fun o1 o2 => by have h := ownsF_new cLayer 86 2 ((w.alloc o1).alloc o2).drew; simpa using h)
 have q0 := CS.out.p.cell 0 (by simp)
 have q1 := CS.out.p.cell 1 (by simp)
 have q2 := CS.out.p.cell 2 (by simp)
 have q3 := CS.out.p.cell 3 (by simp)
 have q4 := CS.out.p.cell 4 (by simp)
 have q5 := CS.out.p.cell 5 (by simp)
 simp only [List.getElem_cons_zero, List.getElem_cons_succ] at q0 q1 q2 q3 q4 q5
 refine wp_region_any (by kernel_rfl) ?_
 change wpAny _ _ _ _ _ _ _ (World.drew _)
 refine wpAny_take (i := 0) (v := ?_) rfl (by kernel_rfl) (by kernel_rfl) (by kernel_rfl) (fun _ _ _ h => h) (Or.inl ⟨by rfl, ?_⟩) ?_
 rotate_left
 ·intro w; go_simp; try (with_reducible rfl)
 refine wpAny_take (i := 4) (v := ?_) rfl (by kernel_rfl) (by kernel_rfl) (by kernel_rfl) (fun _ _ _ h => h) (Or.inl ⟨by rfl, ?_⟩) ?_
 rotate_left
 ·intro w; go_simp; try (with_reducible rfl)
 -- GENERATED by gen/ch4cp.py
 refine wpAny_ready (rs := [1, 3, 5]) (by kernel_rfl) (by simp) ?_
 refine AllReady.cons rfl (fun K hK => ?_) ?_
 ·go_simp
  refine hK _ _ ?_
  clear hK K
  refine wpAny_ready (rs := [2, 3, 5]) (by kernel_rfl) (by simp) ?_
  refine AllReady.cons rfl (fun K hK => ?_) ?_
  ·go_simp
   refine (HCC.out _ CS.out.b).mono ?_
   rintro e w2 ⟨_, rfl, ⟨cv, rfl, ho5⟩, hb5⟩
   obtain ⟨ga, gc, rfl⟩ := slice_of ho5
   have HC5 := Lib.hid (CS.out.below hb5)
   have lp := HC5.out.p.lt
   have lr := HC5.out.r.lt
   have np : ¬ w.heap.size = w2.heap.size := by omega
   have nr : ¬ w.heap.size + 1 = w2.heap.size := by omega
   have q0 := HC5.out.p.cell 0 (by simp)
   have q1 := HC5.out.p.cell 1 (by simp)
   have q2 := HC5.out.p.cell 2 (by simp)
   have q3 := HC5.out.p.cell 3 (by simp)
   have q4 := HC5.out.p.cell 4 (by simp)
   have q5 := HC5.out.p.cell 5 (by simp)
   have r0 := HC5.out.r.cell 0 (by simp)
   have z0 := HC5.out.r.froz 0 (by simp)
   have r1 := HC5.out.r.cell 1 (by simp)
   have z1 := HC5.out.r.froz 1 (by simp)
   have r2 := HC5.out.r.cell 2 (by simp)
   have z2 := HC5.out.r.froz 2 (by simp)
   have r3 := HC5.out.r.cell 3 (by simp)
   have z3 := HC5.out.r.froz 3 (by simp)
   have r4 := HC5.out.r.cell 4 (by simp)
   have z4 := HC5.out.r.froz 4 (by simp)
   have r5 := HC5.out.r.cell 5 (by simp)
   have z5 := HC5.out.r.froz 5 (by simp)
   simp only [List.getElem_cons_zero, List.getElem_cons_succ] at q0 q1 q2 q3 q4 q5 r0 r1 r2 r3 r4 r5
   refine hK _ _ ?_
   clear hK K
   refine wpAny_ready (rs := [3, 5]) (by kernel_rfl) (by simp) ?_
   refine AllReady.cons rfl (fun K hK => ?_) ?_
   ·go_simp
    refine hK _ _ ?_
    clear hK K
    refine wpAny_ready (rs := [5]) (by kernel_rfl) (by simp) ?_
    refine AllReady.cons rfl (fun K hK => ?_) ?_
    ·go_simp
     refine hK _ _ ?_
     clear hK K
     refine wpAny_ready (rs := [6]) (by kernel_rfl) (by simp) ?_
     refine AllReady.cons rfl (fun K hK => ?_) ?_
     ·have P1 := ownsF_base (B' := w.heap.size + 1 + 1) (ownsF_new cLayer 86 2 w2) HC5.out.r.lt
      have P2 := HC5.out.alloc (.cells #[] 86)
      have P3 := SliceAt.below H5.out (good_flat cLayer_len) P2.b (Nat.le_refl _)
      have P4 := P2.r.lt
      refine step_laysN rfl _ _ rfl (w.heap.size + 1 + 1) _ l _ sa sc ?_ P1 ?_ P3 ⟨_, _, rfl⟩ hm P4 ?_
      ·simp [Act.eval, Act.put]
      ·simp [Act.eval, Act.put]
      intro v4 w4 hO4 hg4
      obtain ⟨ua, uc, rfl⟩ := slice_of hO4
      have HC6 := Lib.hid (P2.grown hg4 (fun g hg => (World.ownsRow.lt P1 g hg).1))
      have lp := HC6.out.p.lt
      have lr := HC6.out.r.lt
      have np : ¬ w.heap.size = w4.heap.size := by omega
      have nr : ¬ w.heap.size + 1 = w4.heap.size := by omega
      have q0 := HC6.out.p.cell 0 (by simp)
      have q1 := HC6.out.p.cell 1 (by simp)
      have q2 := HC6.out.p.cell 2 (by simp)
      have q3 := HC6.out.p.cell 3 (by simp)
      have q4 := HC6.out.p.cell 4 (by simp)
      have q5 := HC6.out.p.cell 5 (by simp)
      have r0 := HC6.out.r.cell 0 (by simp)
      have z0 := HC6.out.r.froz 0 (by simp)
      have r1 := HC6.out.r.cell 1 (by simp)
      have z1 := HC6.out.r.froz 1 (by simp)
      have r2 := HC6.out.r.cell 2 (by simp)
      have z2 := HC6.out.r.froz 2 (by simp)
      have r3 := HC6.out.r.cell 3 (by simp)
      have z3 := HC6.out.r.froz 3 (by simp)
      have r4 := HC6.out.r.cell 4 (by simp)
      have z4 := HC6.out.r.froz 4 (by simp)
      have r5 := HC6.out.r.cell 5 (by simp)
      have z5 := HC6.out.r.froz 5 (by simp)
      simp only [List.getElem_cons_zero, List.getElem_cons_succ] at q0 q1 q2 q3 q4 q5 r0 r1 r2 r3 r4 r5
      refine hK _ _ ?_
      clear hK K
      refine wpAny_ready (rs := [7]) (by kernel_rfl) (by simp) ?_
      refine AllReady.cons rfl (fun K hK => ?_) ?_
      ·go_simp
       refine hK _ _ ?_
       clear hK K
       refine wpAny_ready (rs := [8]) (by kernel_rfl) (by simp) ?_
       refine AllReady.cons rfl (fun K hK => ?_) ?_
       ·go_simp
        refine hK _ _ ?_
        clear hK K
        refine wpAny_done (by kernel_rfl) ?_ _
        have OC0 := ownsF_keptF (ownsF_alloc ho5 _) P1 hg4 (by decide)
        have E6 := l4_end (kd := kd) (on := on) (br := br) (cnt := cnt) HC6.out (ownsF_base OC0 (by have h1 := CS.out.b.size; simp at h1 ⊢; try omega)) hO4 hmc hm
        clear q0 r0 z0 q1 r1 z1 q2 r2 z2 q3 r3 z3 q4 r4 z4 q5 r5 z5
        generalize ((((((w4.setCell ⟨w.heap.size + 1, 0, none⟩ (.string ⟨kd.toArray⟩)).setCell ⟨w.heap.size + 1, 1, none⟩ (.bool on)).setCell ⟨w.heap.size + 1, 2, none⟩ (.bool br)).setCell ⟨w.heap.size + 1, 3, none⟩ (.slice ga cl.length gc)).setCell ⟨w.heap.size + 1, 4, none⟩ (.int .i64 cnt)).setCell ⟨w.heap.size + 1, 5, none⟩ (.slice ua l.length uc)) = WE at *
        go_wp2_with fail
        obtain ⟨BE, RE, HE⟩ := E6
        have e0 := BE.cell 0 (by simp)
        have e1 := BE.cell 1 (by simp)
        have e2 := BE.cell 2 (by simp)
        have e3 := BE.cell 3 (by simp)
        have e4 := BE.cell 4 (by simp)
        have e5 := BE.cell 5 (by simp)
        simp only [List.getElem_cons_zero, List.getElem_cons_succ] at e0 e1 e2 e3 e4 e5
        exact bodyPost_ret (v := .agg #[.string ⟨kd.toArray⟩, .bool on, .bool br, .slice ga cl.length gc, .int .i64 cnt, .slice ua l.length uc]) (by simp [results, Tryz.results59, go_sem, e0, e1, e2, e3, e4, e5]) rfl ⟨_, rfl, RE, HE⟩
       exact AllReady.nil
      exact AllReady.nil
     exact AllReady.nil
    exact AllReady.nil
   refine AllReady.cons rfl (fun K hK => ?_) ?_
   ·go_simp
    refine hK _ _ ?_
    clear hK K
    refine wpAny_ready (rs := [3]) (by kernel_rfl) (by simp) ?_
    refine AllReady.cons rfl (fun K hK => ?_) ?_
    ·go_simp
     refine hK _ _ ?_
     clear hK K
     refine wpAny_ready (rs := [6]) (by kernel_rfl) (by simp) ?_
     refine AllReady.cons rfl (fun K hK => ?_) ?_
     ·have P1 := ownsF_base (B' := w.heap.size + 1 + 1) (ownsF_new cLayer 86 2 w2) HC5.out.r.lt
      have P2 := HC5.out.alloc (.cells #[] 86)
      have P3 := SliceAt.below H5.out (good_flat cLayer_len) P2.b (Nat.le_refl _)
      have P4 := P2.r.lt
      refine step_laysN rfl _ _ rfl (w.heap.size + 1 + 1) _ l _ sa sc ?_ P1 ?_ P3 ⟨_, _, rfl⟩ hm P4 ?_
      ·simp [Act.eval, Act.put]
      ·simp [Act.eval, Act.put]
      intro v4 w4 hO4 hg4
      obtain ⟨ua, uc, rfl⟩ := slice_of hO4
      have HC6 := Lib.hid (P2.grown hg4 (fun g hg => (World.ownsRow.lt P1 g hg).1))
      have lp := HC6.out.p.lt
      have lr := HC6.out.r.lt
      have np : ¬ w.heap.size = w4.heap.size := by omega
      have nr : ¬ w.heap.size + 1 = w4.heap.size := by omega
      have q0 := HC6.out.p.cell 0 (by simp)
      have q1 := HC6.out.p.cell 1 (by simp)
      have q2 := HC6.out.p.cell 2 (by simp)
      have q3 := HC6.out.p.cell 3 (by simp)
      have q4 := HC6.out.p.cell 4 (by simp)
      have q5 := HC6.out.p.cell 5 (by simp)
      have r0 := HC6.out.r.cell 0 (by simp)
      have z0 := HC6.out.r.froz 0 (by simp)
      have r1 := HC6.out.r.cell 1 (by simp)
      have z1 := HC6.out.r.froz 1 (by simp)
      have r2 := HC6.out.r.cell 2 (by simp)
      have z2 := HC6.out.r.froz 2 (by simp)
      have r3 := HC6.out.r.cell 3 (by simp)
      have z3 := HC6.out.r.froz 3 (by simp)
      have r4 := HC6.out.r.cell 4 (by simp)
      have z4 := HC6.out.r.froz 4 (by simp)
      have r5 := HC6.out.r.cell 5 (by simp)
      have z5 := HC6.out.r.froz 5 (by simp)
      simp only [List.getElem_cons_zero, List.getElem_cons_succ] at q0 q1 q2 q3 q4 q5 r0 r1 r2 r3 r4 r5
      refine hK _ _ ?_
      clear hK K
      refine wpAny_ready (rs := [7]) (by kernel_rfl) (by simp) ?_
      refine AllReady.cons rfl (fun K hK => ?_) ?_
      ·go_simp
       refine hK _ _ ?_
       clear hK K
       refine wpAny_ready (rs := [8]) (by kernel_rfl) (by simp) ?_
       refine AllReady.cons rfl (fun K hK => ?_) ?_
       ·go_simp
        refine hK _ _ ?_
        clear hK K
        refine wpAny_done (by kernel_rfl) ?_ _
        have OC0 := ownsF_keptF (ownsF_alloc ho5 _) P1 hg4 (by decide)
        have E6 := l4_end (kd := kd) (on := on) (br := br) (cnt := cnt) HC6.out (ownsF_base OC0 (by have h1 := CS.out.b.size; simp at h1 ⊢; try omega)) hO4 hmc hm
        clear q0 r0 z0 q1 r1 z1 q2 r2 z2 q3 r3 z3 q4 r4 z4 q5 r5 z5
        generalize ((((((w4.setCell ⟨w.heap.size + 1, 0, none⟩ (.string ⟨kd.toArray⟩)).setCell ⟨w.heap.size + 1, 1, none⟩ (.bool on)).setCell ⟨w.heap.size + 1, 2, none⟩ (.bool br)).setCell ⟨w.heap.size + 1, 3, none⟩ (.slice ga cl.length gc)).setCell ⟨w.heap.size + 1, 4, none⟩ (.int .i64 cnt)).setCell ⟨w.heap.size + 1, 5, none⟩ (.slice ua l.length uc)) = WE at *
        go_wp2_with fail
        obtain ⟨BE, RE, HE⟩ := E6
        have e0 := BE.cell 0 (by simp)
        have e1 := BE.cell 1 (by simp)
        have e2 := BE.cell 2 (by simp)
        have e3 := BE.cell 3 (by simp)
        have e4 := BE.cell 4 (by simp)
        have e5 := BE.cell 5 (by simp)
        simp only [List.getElem_cons_zero, List.getElem_cons_succ] at e0 e1 e2 e3 e4 e5
        exact bodyPost_ret (v := .agg #[.string ⟨kd.toArray⟩, .bool on, .bool br, .slice ga cl.length gc, .int .i64 cnt, .slice ua l.length uc]) (by simp [results, Tryz.results59, go_sem, e0, e1, e2, e3, e4, e5]) rfl ⟨_, rfl, RE, HE⟩
       exact AllReady.nil
      exact AllReady.nil
     exact AllReady.nil
    exact AllReady.nil
   exact AllReady.nil
  refine AllReady.cons rfl (fun K hK => ?_) ?_
  ·go_simp
   refine hK _ _ ?_
   clear hK K
   refine wpAny_ready (rs := [2, 5]) (by kernel_rfl) (by simp) ?_
   refine AllReady.cons rfl (fun K hK => ?_) ?_
   ·go_simp
    refine (HCC.out _ (CS.out.alloc _).b).mono ?_
    rintro e w2 ⟨_, rfl, ⟨cv, rfl, ho5⟩, hb5⟩
    obtain ⟨ga, gc, rfl⟩ := slice_of ho5
    have HC5 := Lib.hid ((CS.out.alloc _).below hb5)
    have lp := HC5.out.p.lt
    have lr := HC5.out.r.lt
    have np : ¬ w.heap.size = w2.heap.size := by omega
    have nr : ¬ w.heap.size + 1 = w2.heap.size := by omega
    have q0 := HC5.out.p.cell 0 (by simp)
    have q1 := HC5.out.p.cell 1 (by simp)
    have q2 := HC5.out.p.cell 2 (by simp)
    have q3 := HC5.out.p.cell 3 (by simp)
    have q4 := HC5.out.p.cell 4 (by simp)
    have q5 := HC5.out.p.cell 5 (by simp)
    have r0 := HC5.out.r.cell 0 (by simp)
    have z0 := HC5.out.r.froz 0 (by simp)
    have r1 := HC5.out.r.cell 1 (by simp)
    have z1 := HC5.out.r.froz 1 (by simp)
    have r2 := HC5.out.r.cell 2 (by simp)
    have z2 := HC5.out.r.froz 2 (by simp)
    have r3 := HC5.out.r.cell 3 (by simp)
    have z3 := HC5.out.r.froz 3 (by simp)
    have r4 := HC5.out.r.cell 4 (by simp)
    have z4 := HC5.out.r.froz 4 (by simp)
    have r5 := HC5.out.r.cell 5 (by simp)
    have z5 := HC5.out.r.froz 5 (by simp)
    simp only [List.getElem_cons_zero, List.getElem_cons_succ] at q0 q1 q2 q3 q4 q5 r0 r1 r2 r3 r4 r5
    refine hK _ _ ?_
    clear hK K
    refine wpAny_ready (rs := [5]) (by kernel_rfl) (by simp) ?_
    refine AllReady.cons rfl (fun K hK => ?_) ?_
    ·go_simp
     refine hK _ _ ?_
     clear hK K
     refine wpAny_ready (rs := [6]) (by kernel_rfl) (by simp) ?_
     refine AllReady.cons rfl (fun K hK => ?_) ?_
     ·have P1 := ownsF_below (HO0.out _ _) hb5 (Nat.le_refl _)
      have P2 := HC5.out
      have P3 := SliceAt.below H5.out (good_flat cLayer_len) P2.b (Nat.le_refl _)
      have P4 := P2.r.lt
      refine step_laysN rfl _ _ rfl (w.heap.size + 1 + 1) _ l _ sa sc ?_ P1 ?_ P3 ⟨_, _, rfl⟩ hm P4 ?_
      ·simp [Act.eval, Act.put]
      ·simp [Act.eval, Act.put]
      intro v4 w4 hO4 hg4
      obtain ⟨ua, uc, rfl⟩ := slice_of hO4
      have HC6 := Lib.hid (P2.grown hg4 (fun g hg => (World.ownsRow.lt P1 g hg).1))
      have lp := HC6.out.p.lt
      have lr := HC6.out.r.lt
      have np : ¬ w.heap.size = w4.heap.size := by omega
      have nr : ¬ w.heap.size + 1 = w4.heap.size := by omega
      have q0 := HC6.out.p.cell 0 (by simp)
      have q1 := HC6.out.p.cell 1 (by simp)
      have q2 := HC6.out.p.cell 2 (by simp)
      have q3 := HC6.out.p.cell 3 (by simp)
      have q4 := HC6.out.p.cell 4 (by simp)
      have q5 := HC6.out.p.cell 5 (by simp)
      have r0 := HC6.out.r.cell 0 (by simp)
      have z0 := HC6.out.r.froz 0 (by simp)
      have r1 := HC6.out.r.cell 1 (by simp)
      have z1 := HC6.out.r.froz 1 (by simp)
      have r2 := HC6.out.r.cell 2 (by simp)
      have z2 := HC6.out.r.froz 2 (by simp)
      have r3 := HC6.out.r.cell 3 (by simp)
      have z3 := HC6.out.r.froz 3 (by simp)
      have r4 := HC6.out.r.cell 4 (by simp)
      have z4 := HC6.out.r.froz 4 (by simp)
      have r5 := HC6.out.r.cell 5 (by simp)
      have z5 := HC6.out.r.froz 5 (by simp)
      simp only [List.getElem_cons_zero, List.getElem_cons_succ] at q0 q1 q2 q3 q4 q5 r0 r1 r2 r3 r4 r5
      refine hK _ _ ?_
      clear hK K
      refine wpAny_ready (rs := [7]) (by kernel_rfl) (by simp) ?_
      refine AllReady.cons rfl (fun K hK => ?_) ?_
      ·go_simp
       refine hK _ _ ?_
       clear hK K
       refine wpAny_ready (rs := [8]) (by kernel_rfl) (by simp) ?_
       refine AllReady.cons rfl (fun K hK => ?_) ?_
       ·go_simp
        refine hK _ _ ?_
        clear hK K
        refine wpAny_done (by kernel_rfl) ?_ _
        have OC0 := ownsF_keptF ho5 P1 hg4 (by decide)
        have E6 := l4_end (kd := kd) (on := on) (br := br) (cnt := cnt) HC6.out (ownsF_base OC0 (by have h1 := CS.out.b.size; simp at h1 ⊢; try omega)) hO4 hmc hm
        clear q0 r0 z0 q1 r1 z1 q2 r2 z2 q3 r3 z3 q4 r4 z4 q5 r5 z5
        generalize ((((((w4.setCell ⟨w.heap.size + 1, 0, none⟩ (.string ⟨kd.toArray⟩)).setCell ⟨w.heap.size + 1, 1, none⟩ (.bool on)).setCell ⟨w.heap.size + 1, 2, none⟩ (.bool br)).setCell ⟨w.heap.size + 1, 3, none⟩ (.slice ga cl.length gc)).setCell ⟨w.heap.size + 1, 4, none⟩ (.int .i64 cnt)).setCell ⟨w.heap.size + 1, 5, none⟩ (.slice ua l.length uc)) = WE at *
        go_wp2_with fail
        obtain ⟨BE, RE, HE⟩ := E6
        have e0 := BE.cell 0 (by simp)
        have e1 := BE.cell 1 (by simp)
        have e2 := BE.cell 2 (by simp)
        have e3 := BE.cell 3 (by simp)
        have e4 := BE.cell 4 (by simp)
        have e5 := BE.cell 5 (by simp)
        simp only [List.getElem_cons_zero, List.getElem_cons_succ] at e0 e1 e2 e3 e4 e5
        exact bodyPost_ret (v := .agg #[.string ⟨kd.toArray⟩, .bool on, .bool br, .slice ga cl.length gc, .int .i64 cnt, .slice ua l.length uc]) (by simp [results, Tryz.results59, go_sem, e0, e1, e2, e3, e4, e5]) rfl ⟨_, rfl, RE, HE⟩
       exact AllReady.nil
      exact AllReady.nil
     exact AllReady.nil
    exact AllReady.nil
   refine AllReady.cons rfl (fun K hK => ?_) ?_
   ·go_simp
    refine hK _ _ ?_
    clear hK K
    refine wpAny_ready (rs := [2]) (by kernel_rfl) (by simp) ?_
    refine AllReady.cons rfl (fun K hK => ?_) ?_
    ·go_simp
     refine (HCC.out _ (CS.out.alloc _).b).mono ?_
     rintro e w2 ⟨_, rfl, ⟨cv, rfl, ho5⟩, hb5⟩
     obtain ⟨ga, gc, rfl⟩ := slice_of ho5
     have HC5 := Lib.hid ((CS.out.alloc _).below hb5)
     have lp := HC5.out.p.lt
     have lr := HC5.out.r.lt
     have np : ¬ w.heap.size = w2.heap.size := by omega
     have nr : ¬ w.heap.size + 1 = w2.heap.size := by omega
     have q0 := HC5.out.p.cell 0 (by simp)
     have q1 := HC5.out.p.cell 1 (by simp)
     have q2 := HC5.out.p.cell 2 (by simp)
     have q3 := HC5.out.p.cell 3 (by simp)
     have q4 := HC5.out.p.cell 4 (by simp)
     have q5 := HC5.out.p.cell 5 (by simp)
     have r0 := HC5.out.r.cell 0 (by simp)
     have z0 := HC5.out.r.froz 0 (by simp)
     have r1 := HC5.out.r.cell 1 (by simp)
     have z1 := HC5.out.r.froz 1 (by simp)
     have r2 := HC5.out.r.cell 2 (by simp)
     have z2 := HC5.out.r.froz 2 (by simp)
     have r3 := HC5.out.r.cell 3 (by simp)
     have z3 := HC5.out.r.froz 3 (by simp)
     have r4 := HC5.out.r.cell 4 (by simp)
     have z4 := HC5.out.r.froz 4 (by simp)
     have r5 := HC5.out.r.cell 5 (by simp)
     have z5 := HC5.out.r.froz 5 (by simp)
     simp only [List.getElem_cons_zero, List.getElem_cons_succ] at q0 q1 q2 q3 q4 q5 r0 r1 r2 r3 r4 r5
     refine hK _ _ ?_
     clear hK K
     refine wpAny_ready (rs := [6]) (by kernel_rfl) (by simp) ?_
     refine AllReady.cons rfl (fun K hK => ?_) ?_
     ·have P1 := ownsF_below (HO0.out _ _) hb5 (Nat.le_refl _)
      have P2 := HC5.out
      have P3 := SliceAt.below H5.out (good_flat cLayer_len) P2.b (Nat.le_refl _)
      have P4 := P2.r.lt
      refine step_laysN rfl _ _ rfl (w.heap.size + 1 + 1) _ l _ sa sc ?_ P1 ?_ P3 ⟨_, _, rfl⟩ hm P4 ?_
      ·simp [Act.eval, Act.put]
      ·simp [Act.eval, Act.put]
      intro v4 w4 hO4 hg4
      obtain ⟨ua, uc, rfl⟩ := slice_of hO4
      have HC6 := Lib.hid (P2.grown hg4 (fun g hg => (World.ownsRow.lt P1 g hg).1))
      have lp := HC6.out.p.lt
      have lr := HC6.out.r.lt
      have np : ¬ w.heap.size = w4.heap.size := by omega
      have nr : ¬ w.heap.size + 1 = w4.heap.size := by omega
      have q0 := HC6.out.p.cell 0 (by simp)
      have q1 := HC6.out.p.cell 1 (by simp)
      have q2 := HC6.out.p.cell 2 (by simp)
      have q3 := HC6.out.p.cell 3 (by simp)
      have q4 := HC6.out.p.cell 4 (by simp)
      have q5 := HC6.out.p.cell 5 (by simp)
      have r0 := HC6.out.r.cell 0 (by simp)
      have z0 := HC6.out.r.froz 0 (by simp)
      have r1 := HC6.out.r.cell 1 (by simp)
      have z1 := HC6.out.r.froz 1 (by simp)
      have r2 := HC6.out.r.cell 2 (by simp)
      have z2 := HC6.out.r.froz 2 (by simp)
      have r3 := HC6.out.r.cell 3 (by simp)
      have z3 := HC6.out.r.froz 3 (by simp)
      have r4 := HC6.out.r.cell 4 (by simp)
      have z4 := HC6.out.r.froz 4 (by simp)
      have r5 := HC6.out.r.cell 5 (by simp)
      have z5 := HC6.out.r.froz 5 (by simp)
      simp only [List.getElem_cons_zero, List.getElem_cons_succ] at q0 q1 q2 q3 q4 q5 r0 r1 r2 r3 r4 r5
      refine hK _ _ ?_
      clear hK K
      refine wpAny_ready (rs := [7]) (by kernel_rfl) (by simp) ?_
      refine AllReady.cons rfl (fun K hK => ?_) ?_
      ·go_simp
       refine hK _ _ ?_
       clear hK K
       refine wpAny_ready (rs := [8]) (by kernel_rfl) (by simp) ?_
       refine AllReady.cons rfl (fun K hK => ?_) ?_
       ·go_simp
        refine hK _ _ ?_
        clear hK K
        refine wpAny_done (by kernel_rfl) ?_ _
        have OC0 := ownsF_keptF ho5 P1 hg4 (by decide)
        have E6 := l4_end (kd := kd) (on := on) (br := br) (cnt := cnt) HC6.out (ownsF_base OC0 (by have h1 := CS.out.b.size; simp at h1 ⊢; try omega)) hO4 hmc hm
        clear q0 r0 z0 q1 r1 z1 q2 r2 z2 q3 r3 z3 q4 r4 z4 q5 r5 z5
        generalize ((((((w4.setCell ⟨w.heap.size + 1, 0, none⟩ (.string ⟨kd.toArray⟩)).setCell ⟨w.heap.size + 1, 1, none⟩ (.bool on)).setCell ⟨w.heap.size + 1, 2, none⟩ (.bool br)).setCell ⟨w.heap.size + 1, 3, none⟩ (.slice ga cl.length gc)).setCell ⟨w.heap.size + 1, 4, none⟩ (.int .i64 cnt)).setCell ⟨w.heap.size + 1, 5, none⟩ (.slice ua l.length uc)) = WE at *
        go_wp2_with fail
        obtain ⟨BE, RE, HE⟩ := E6
        have e0 := BE.cell 0 (by simp)
        have e1 := BE.cell 1 (by simp)
        have e2 := BE.cell 2 (by simp)
        have e3 := BE.cell 3 (by simp)
        have e4 := BE.cell 4 (by simp)
        have e5 := BE.cell 5 (by simp)
        simp only [List.getElem_cons_zero, List.getElem_cons_succ] at e0 e1 e2 e3 e4 e5
        exact bodyPost_ret (v := .agg #[.string ⟨kd.toArray⟩, .bool on, .bool br, .slice ga cl.length gc, .int .i64 cnt, .slice ua l.length uc]) (by simp [results, Tryz.results59, go_sem, e0, e1, e2, e3, e4, e5]) rfl ⟨_, rfl, RE, HE⟩
       exact AllReady.nil
      exact AllReady.nil
     exact AllReady.nil
    exact AllReady.nil
   exact AllReady.nil
  refine AllReady.cons rfl (fun K hK => ?_) ?_
  ·go_simp
   refine hK _ _ ?_
   clear hK K
   refine wpAny_ready (rs := [2, 3]) (by kernel_rfl) (by simp) ?_
   refine AllReady.cons rfl (fun K hK => ?_) ?_
   ·go_simp
    refine (HCC.out _ CS.out.b).mono ?_
    rintro e w2 ⟨_, rfl, ⟨cv, rfl, ho5⟩, hb5⟩
    obtain ⟨ga, gc, rfl⟩ := slice_of ho5
    have HC5 := Lib.hid (CS.out.below hb5)
    have lp := HC5.out.p.lt
    have lr := HC5.out.r.lt
    have np : ¬ w.heap.size = w2.heap.size := by omega
    have nr : ¬ w.heap.size + 1 = w2.heap.size := by omega
    have q0 := HC5.out.p.cell 0 (by simp)
    have q1 := HC5.out.p.cell 1 (by simp)
    have q2 := HC5.out.p.cell 2 (by simp)
    have q3 := HC5.out.p.cell 3 (by simp)
    have q4 := HC5.out.p.cell 4 (by simp)
    have q5 := HC5.out.p.cell 5 (by simp)
    have r0 := HC5.out.r.cell 0 (by simp)
    have z0 := HC5.out.r.froz 0 (by simp)
    have r1 := HC5.out.r.cell 1 (by simp)
    have z1 := HC5.out.r.froz 1 (by simp)
    have r2 := HC5.out.r.cell 2 (by simp)
    have z2 := HC5.out.r.froz 2 (by simp)
    have r3 := HC5.out.r.cell 3 (by simp)
    have z3 := HC5.out.r.froz 3 (by simp)
    have r4 := HC5.out.r.cell 4 (by simp)
    have z4 := HC5.out.r.froz 4 (by simp)
    have r5 := HC5.out.r.cell 5 (by simp)
    have z5 := HC5.out.r.froz 5 (by simp)
    simp only [List.getElem_cons_zero, List.getElem_cons_succ] at q0 q1 q2 q3 q4 q5 r0 r1 r2 r3 r4 r5
    refine hK _ _ ?_
    clear hK K
    refine wpAny_ready (rs := [3]) (by kernel_rfl) (by simp) ?_
    refine AllReady.cons rfl (fun K hK => ?_) ?_
    ·go_simp
     refine hK _ _ ?_
     clear hK K
     refine wpAny_ready (rs := [6]) (by kernel_rfl) (by simp) ?_
     refine AllReady.cons rfl (fun K hK => ?_) ?_
     ·have P1 := ownsF_base (B' := w.heap.size + 1 + 1) (ownsF_new cLayer 86 2 w2) HC5.out.r.lt
      have P2 := HC5.out.alloc (.cells #[] 86)
      have P3 := SliceAt.below H5.out (good_flat cLayer_len) P2.b (Nat.le_refl _)
      have P4 := P2.r.lt
      refine step_laysN rfl _ _ rfl (w.heap.size + 1 + 1) _ l _ sa sc ?_ P1 ?_ P3 ⟨_, _, rfl⟩ hm P4 ?_
      ·simp [Act.eval, Act.put]
      ·simp [Act.eval, Act.put]
      intro v4 w4 hO4 hg4
      obtain ⟨ua, uc, rfl⟩ := slice_of hO4
      have HC6 := Lib.hid (P2.grown hg4 (fun g hg => (World.ownsRow.lt P1 g hg).1))
      have lp := HC6.out.p.lt
      have lr := HC6.out.r.lt
      have np : ¬ w.heap.size = w4.heap.size := by omega
      have nr : ¬ w.heap.size + 1 = w4.heap.size := by omega
      have q0 := HC6.out.p.cell 0 (by simp)
      have q1 := HC6.out.p.cell 1 (by simp)
      have q2 := HC6.out.p.cell 2 (by simp)
      have q3 := HC6.out.p.cell 3 (by simp)
      have q4 := HC6.out.p.cell 4 (by simp)
      have q5 := HC6.out.p.cell 5 (by simp)
      have r0 := HC6.out.r.cell 0 (by simp)
      have z0 := HC6.out.r.froz 0 (by simp)
      have r1 := HC6.out.r.cell 1 (by simp)
      have z1 := HC6.out.r.froz 1 (by simp)
      have r2 := HC6.out.r.cell 2 (by simp)
      have z2 := HC6.out.r.froz 2 (by simp)
      have r3 := HC6.out.r.cell 3 (by simp)
      have z3 := HC6.out.r.froz 3 (by simp)
      have r4 := HC6.out.r.cell 4 (by simp)
      have z4 := HC6.out.r.froz 4 (by simp)
      have r5 := HC6.out.r.cell 5 (by simp)
      have z5 := HC6.out.r.froz 5 (by simp)
      simp only [List.getElem_cons_zero, List.getElem_cons_succ] at q0 q1 q2 q3 q4 q5 r0 r1 r2 r3 r4 r5
      refine hK _ _ ?_
      clear hK K
      refine wpAny_ready (rs := [7]) (by kernel_rfl) (by simp) ?_
      refine AllReady.cons rfl (fun K hK => ?_) ?_
      ·go_simp
       refine hK _ _ ?_
       clear hK K
       refine wpAny_ready (rs := [8]) (by kernel_rfl) (by simp) ?_
       refine AllReady.cons rfl (fun K hK => ?_) ?_
       ·go_simp
        refine hK _ _ ?_
        clear hK K
        refine wpAny_done (by kernel_rfl) ?_ _
        have OC0 := ownsF_keptF (ownsF_alloc ho5 _) P1 hg4 (by decide)
        have E6 := l4_end (kd := kd) (on := on) (br := br) (cnt := cnt) HC6.out (ownsF_base OC0 (by have h1 := CS.out.b.size; simp at h1 ⊢; try omega)) hO4 hmc hm
        clear q0 r0 z0 q1 r1 z1 q2 r2 z2 q3 r3 z3 q4 r4 z4 q5 r5 z5
        generalize ((((((w4.setCell ⟨w.heap.size + 1, 0, none⟩ (.string ⟨kd.toArray⟩)).setCell ⟨w.heap.size + 1, 1, none⟩ (.bool on)).setCell ⟨w.heap.size + 1, 2, none⟩ (.bool br)).setCell ⟨w.heap.size + 1, 3, none⟩ (.slice ga cl.length gc)).setCell ⟨w.heap.size + 1, 4, none⟩ (.int .i64 cnt)).setCell ⟨w.heap.size + 1, 5, none⟩ (.slice ua l.length uc)) = WE at *
        go_wp2_with fail
        obtain ⟨BE, RE, HE⟩ := E6
        have e0 := BE.cell 0 (by simp)
        have e1 := BE.cell 1 (by simp)
        have e2 := BE.cell 2 (by simp)
        have e3 := BE.cell 3 (by simp)
        have e4 := BE.cell 4 (by simp)
        have e5 := BE.cell 5 (by simp)
        simp only [List.getElem_cons_zero, List.getElem_cons_succ] at e0 e1 e2 e3 e4 e5
        exact bodyPost_ret (v := .agg #[.string ⟨kd.toArray⟩, .bool on, .bool br, .slice ga cl.length gc, .int .i64 cnt, .slice ua l.length uc]) (by simp [results, Tryz.results59, go_sem, e0, e1, e2, e3, e4, e5]) rfl ⟨_, rfl, RE, HE⟩
       exact AllReady.nil
      exact AllReady.nil
     exact AllReady.nil
    exact AllReady.nil
   refine AllReady.cons rfl (fun K hK => ?_) ?_
   ·go_simp
    refine hK _ _ ?_
    clear hK K
    refine wpAny_ready (rs := [2]) (by kernel_rfl) (by simp) ?_
    refine AllReady.cons rfl (fun K hK => ?_) ?_
    ·go_simp
     refine (HCC.out _ (CS.out.alloc _).b).mono ?_
     rintro e w2 ⟨_, rfl, ⟨cv, rfl, ho5⟩, hb5⟩
     obtain ⟨ga, gc, rfl⟩ := slice_of ho5
     have HC5 := Lib.hid ((CS.out.alloc _).below hb5)
     have lp := HC5.out.p.lt
     have lr := HC5.out.r.lt
     have np : ¬ w.heap.size = w2.heap.size := by omega
     have nr : ¬ w.heap.size + 1 = w2.heap.size := by omega
     have q0 := HC5.out.p.cell 0 (by simp)
     have q1 := HC5.out.p.cell 1 (by simp)
     have q2 := HC5.out.p.cell 2 (by simp)
     have q3 := HC5.out.p.cell 3 (by simp)
     have q4 := HC5.out.p.cell 4 (by simp)
     have q5 := HC5.out.p.cell 5 (by simp)
     have r0 := HC5.out.r.cell 0 (by simp)
     have z0 := HC5.out.r.froz 0 (by simp)
     have r1 := HC5.out.r.cell 1 (by simp)
     have z1 := HC5.out.r.froz 1 (by simp)
     have r2 := HC5.out.r.cell 2 (by simp)
     have z2 := HC5.out.r.froz 2 (by simp)
     have r3 := HC5.out.r.cell 3 (by simp)
     have z3 := HC5.out.r.froz 3 (by simp)
     have r4 := HC5.out.r.cell 4 (by simp)
     have z4 := HC5.out.r.froz 4 (by simp)
     have r5 := HC5.out.r.cell 5 (by simp)
     have z5 := HC5.out.r.froz 5 (by simp)
     simp only [List.getElem_cons_zero, List.getElem_cons_succ] at q0 q1 q2 q3 q4 q5 r0 r1 r2 r3 r4 r5
     refine hK _ _ ?_
     clear hK K
     refine wpAny_ready (rs := [6]) (by kernel_rfl) (by simp) ?_
     refine AllReady.cons rfl (fun K hK => ?_) ?_
     ·have P1 := ownsF_below (HO0.out _ _) hb5 (Nat.le_refl _)
      have P2 := HC5.out
      have P3 := SliceAt.below H5.out (good_flat cLayer_len) P2.b (Nat.le_refl _)
      have P4 := P2.r.lt
      refine step_laysN rfl _ _ rfl (w.heap.size + 1 + 1) _ l _ sa sc ?_ P1 ?_ P3 ⟨_, _, rfl⟩ hm P4 ?_
      ·simp [Act.eval, Act.put]
      ·simp [Act.eval, Act.put]
      intro v4 w4 hO4 hg4
      obtain ⟨ua, uc, rfl⟩ := slice_of hO4
      have HC6 := Lib.hid (P2.grown hg4 (fun g hg => (World.ownsRow.lt P1 g hg).1))
      have lp := HC6.out.p.lt
      have lr := HC6.out.r.lt
      have np : ¬ w.heap.size = w4.heap.size := by omega
      have nr : ¬ w.heap.size + 1 = w4.heap.size := by omega
      have q0 := HC6.out.p.cell 0 (by simp)
      have q1 := HC6.out.p.cell 1 (by simp)
      have q2 := HC6.out.p.cell 2 (by simp)
      have q3 := HC6.out.p.cell 3 (by simp)
      have q4 := HC6.out.p.cell 4 (by simp)
      have q5 := HC6.out.p.cell 5 (by simp)
      have r0 := HC6.out.r.cell 0 (by simp)
      have z0 := HC6.out.r.froz 0 (by simp)
      have r1 := HC6.out.r.cell 1 (by simp)
      have z1 := HC6.out.r.froz 1 (by simp)
      have r2 := HC6.out.r.cell 2 (by simp)
      have z2 := HC6.out.r.froz 2 (by simp)
      have r3 := HC6.out.r.cell 3 (by simp)
      have z3 := HC6.out.r.froz 3 (by simp)
      have r4 := HC6.out.r.cell 4 (by simp)
      have z4 := HC6.out.r.froz 4 (by simp)
      have r5 := HC6.out.r.cell 5 (by simp)
      have z5 := HC6.out.r.froz 5 (by simp)
      simp only [List.getElem_cons_zero, List.getElem_cons_succ] at q0 q1 q2 q3 q4 q5 r0 r1 r2 r3 r4 r5
      refine hK _ _ ?_
      clear hK K
      refine wpAny_ready (rs := [7]) (by kernel_rfl) (by simp) ?_
      refine AllReady.cons rfl (fun K hK => ?_) ?_
      ·go_simp
       refine hK _ _ ?_
       clear hK K
       refine wpAny_ready (rs := [8]) (by kernel_rfl) (by simp) ?_
       refine AllReady.cons rfl (fun K hK => ?_) ?_
       ·go_simp
        refine hK _ _ ?_
        clear hK K
        refine wpAny_done (by kernel_rfl) ?_ _
        have OC0 := ownsF_keptF ho5 P1 hg4 (by decide)
        have E6 := l4_end (kd := kd) (on := on) (br := br) (cnt := cnt) HC6.out (ownsF_base OC0 (by have h1 := CS.out.b.size; simp at h1 ⊢; try omega)) hO4 hmc hm
        clear q0 r0 z0 q1 r1 z1 q2 r2 z2 q3 r3 z3 q4 r4 z4 q5 r5 z5
        generalize ((((((w4.setCell ⟨w.heap.size + 1, 0, none⟩ (.string ⟨kd.toArray⟩)).setCell ⟨w.heap.size + 1, 1, none⟩ (.bool on)).setCell ⟨w.heap.size + 1, 2, none⟩ (.bool br)).setCell ⟨w.heap.size + 1, 3, none⟩ (.slice ga cl.length gc)).setCell ⟨w.heap.size + 1, 4, none⟩ (.int .i64 cnt)).setCell ⟨w.heap.size + 1, 5, none⟩ (.slice ua l.length uc)) = WE at *
        go_wp2_with fail
        obtain ⟨BE, RE, HE⟩ := E6
        have e0 := BE.cell 0 (by simp)
        have e1 := BE.cell 1 (by simp)
        have e2 := BE.cell 2 (by simp)
        have e3 := BE.cell 3 (by simp)
        have e4 := BE.cell 4 (by simp)
        have e5 := BE.cell 5 (by simp)
        simp only [List.getElem_cons_zero, List.getElem_cons_succ] at e0 e1 e2 e3 e4 e5
        exact bodyPost_ret (v := .agg #[.string ⟨kd.toArray⟩, .bool on, .bool br, .slice ga cl.length gc, .int .i64 cnt, .slice ua l.length uc]) (by simp [results, Tryz.results59, go_sem, e0, e1, e2, e3, e4, e5]) rfl ⟨_, rfl, RE, HE⟩
       exact AllReady.nil
      exact AllReady.nil
     exact AllReady.nil
    exact AllReady.nil
   exact AllReady.nil
  exact AllReady.nil
 refine AllReady.cons rfl (fun K hK => ?_) ?_
 ·go_simp
  refine hK _ _ ?_
  clear hK K
  refine wpAny_ready (rs := [1, 5]) (by kernel_rfl) (by simp) ?_
  refine AllReady.cons rfl (fun K hK => ?_) ?_
  ·go_simp
   refine hK _ _ ?_
   clear hK K
   refine wpAny_ready (rs := [2, 5]) (by kernel_rfl) (by simp) ?_
   refine AllReady.cons rfl (fun K hK => ?_) ?_
   ·go_simp
    refine (HCC.out _ (CS.out.alloc _).b).mono ?_
    rintro e w2 ⟨_, rfl, ⟨cv, rfl, ho5⟩, hb5⟩
    obtain ⟨ga, gc, rfl⟩ := slice_of ho5
    have HC5 := Lib.hid ((CS.out.alloc _).below hb5)
    have lp := HC5.out.p.lt
    have lr := HC5.out.r.lt
    have np : ¬ w.heap.size = w2.heap.size := by omega
    have nr : ¬ w.heap.size + 1 = w2.heap.size := by omega
    have q0 := HC5.out.p.cell 0 (by simp)
    have q1 := HC5.out.p.cell 1 (by simp)
    have q2 := HC5.out.p.cell 2 (by simp)
    have q3 := HC5.out.p.cell 3 (by simp)
    have q4 := HC5.out.p.cell 4 (by simp)
    have q5 := HC5.out.p.cell 5 (by simp)
    have r0 := HC5.out.r.cell 0 (by simp)
    have z0 := HC5.out.r.froz 0 (by simp)
    have r1 := HC5.out.r.cell 1 (by simp)
    have z1 := HC5.out.r.froz 1 (by simp)
    have r2 := HC5.out.r.cell 2 (by simp)
    have z2 := HC5.out.r.froz 2 (by simp)
    have r3 := HC5.out.r.cell 3 (by simp)
    have z3 := HC5.out.r.froz 3 (by simp)
    have r4 := HC5.out.r.cell 4 (by simp)
    have z4 := HC5.out.r.froz 4 (by simp)
    have r5 := HC5.out.r.cell 5 (by simp)
    have z5 := HC5.out.r.froz 5 (by simp)
    simp only [List.getElem_cons_zero, List.getElem_cons_succ] at q0 q1 q2 q3 q4 q5 r0 r1 r2 r3 r4 r5
    refine hK _ _ ?_
    clear hK K
    refine wpAny_ready (rs := [5]) (by kernel_rfl) (by simp) ?_
    refine AllReady.cons rfl (fun K hK => ?_) ?_
    ·go_simp
     refine hK _ _ ?_
     clear hK K
     refine wpAny_ready (rs := [6]) (by kernel_rfl) (by simp) ?_
     refine AllReady.cons rfl (fun K hK => ?_) ?_
     ·have P1 := ownsF_below (HO0.out _ _) hb5 (Nat.le_refl _)
      have P2 := HC5.out
      have P3 := SliceAt.below H5.out (good_flat cLayer_len) P2.b (Nat.le_refl _)
      have P4 := P2.r.lt
      refine step_laysN rfl _ _ rfl (w.heap.size + 1 + 1) _ l _ sa sc ?_ P1 ?_ P3 ⟨_, _, rfl⟩ hm P4 ?_
      ·simp [Act.eval, Act.put]
      ·simp [Act.eval, Act.put]
      intro v4 w4 hO4 hg4
      obtain ⟨ua, uc, rfl⟩ := slice_of hO4
      have HC6 := Lib.hid (P2.grown hg4 (fun g hg => (World.ownsRow.lt P1 g hg).1))
      have lp := HC6.out.p.lt
      have lr := HC6.out.r.lt
      have np : ¬ w.heap.size = w4.heap.size := by omega
      have nr : ¬ w.heap.size + 1 = w4.heap.size := by omega
      have q0 := HC6.out.p.cell 0 (by simp)
      have q1 := HC6.out.p.cell 1 (by simp)
      have q2 := HC6.out.p.cell 2 (by simp)
      have q3 := HC6.out.p.cell 3 (by simp)
      have q4 := HC6.out.p.cell 4 (by simp)
      have q5 := HC6.out.p.cell 5 (by simp)
      have r0 := HC6.out.r.cell 0 (by simp)
      have z0 := HC6.out.r.froz 0 (by simp)
      have r1 := HC6.out.r.cell 1 (by simp)
      have z1 := HC6.out.r.froz 1 (by simp)
      have r2 := HC6.out.r.cell 2 (by simp)
      have z2 := HC6.out.r.froz 2 (by simp)
      have r3 := HC6.out.r.cell 3 (by simp)
      have z3 := HC6.out.r.froz 3 (by simp)
      have r4 := HC6.out.r.cell 4 (by simp)
      have z4 := HC6.out.r.froz 4 (by simp)
      have r5 := HC6.out.r.cell 5 (by simp)
      have z5 := HC6.out.r.froz 5 (by simp)
      simp only [List.getElem_cons_zero, List.getElem_cons_succ] at q0 q1 q2 q3 q4 q5 r0 r1 r2 r3 r4 r5
      refine hK _ _ ?_
      clear hK K
      refine wpAny_ready (rs := [7]) (by kernel_rfl) (by simp) ?_
      refine AllReady.cons rfl (fun K hK => ?_) ?_
      ·go_simp
       refine hK _ _ ?_
       clear hK K
       refine wpAny_ready (rs := [8]) (by kernel_rfl) (by simp) ?_
       refine AllReady.cons rfl (fun K hK => ?_) ?_
       ·go_simp
        refine hK _ _ ?_
        clear hK K
        refine wpAny_done (by kernel_rfl) ?_ _
        have OC0 := ownsF_keptF ho5 P1 hg4 (by decide)
        have E6 := l4_end (kd := kd) (on := on) (br := br) (cnt := cnt) HC6.out (ownsF_base OC0 (by have h1 := CS.out.b.size; simp at h1 ⊢; try omega)) hO4 hmc hm
        clear q0 r0 z0 q1 r1 z1 q2 r2 z2 q3 r3 z3 q4 r4 z4 q5 r5 z5
        generalize ((((((w4.setCell ⟨w.heap.size + 1, 0, none⟩ (.string ⟨kd.toArray⟩)).setCell ⟨w.heap.size + 1, 1, none⟩ (.bool on)).setCell ⟨w.heap.size + 1, 2, none⟩ (.bool br)).setCell ⟨w.heap.size + 1, 3, none⟩ (.slice ga cl.length gc)).setCell ⟨w.heap.size + 1, 4, none⟩ (.int .i64 cnt)).setCell ⟨w.heap.size + 1, 5, none⟩ (.slice ua l.length uc)) = WE at *
        go_wp2_with fail
        obtain ⟨BE, RE, HE⟩ := E6
        have e0 := BE.cell 0 (by simp)
        have e1 := BE.cell 1 (by simp)
        have e2 := BE.cell 2 (by simp)
        have e3 := BE.cell 3 (by simp)
        have e4 := BE.cell 4 (by simp)
        have e5 := BE.cell 5 (by simp)
        simp only [List.getElem_cons_zero, List.getElem_cons_succ] at e0 e1 e2 e3 e4 e5
        exact bodyPost_ret (v := .agg #[.string ⟨kd.toArray⟩, .bool on, .bool br, .slice ga cl.length gc, .int .i64 cnt, .slice ua l.length uc]) (by simp [results, Tryz.results59, go_sem, e0, e1, e2, e3, e4, e5]) rfl ⟨_, rfl, RE, HE⟩
       exact AllReady.nil
      exact AllReady.nil
     exact AllReady.nil
    exact AllReady.nil
   refine AllReady.cons rfl (fun K hK => ?_) ?_
   ·go_simp
    refine hK _ _ ?_
    clear hK K
    refine wpAny_ready (rs := [2]) (by kernel_rfl) (by simp) ?_
    refine AllReady.cons rfl (fun K hK => ?_) ?_
    ·go_simp
     refine (HCC.out _ (CS.out.alloc _).b).mono ?_
     rintro e w2 ⟨_, rfl, ⟨cv, rfl, ho5⟩, hb5⟩
     obtain ⟨ga, gc, rfl⟩ := slice_of ho5
     have HC5 := Lib.hid ((CS.out.alloc _).below hb5)
     have lp := HC5.out.p.lt
     have lr := HC5.out.r.lt
     have np : ¬ w.heap.size = w2.heap.size := by omega
     have nr : ¬ w.heap.size + 1 = w2.heap.size := by omega
     have q0 := HC5.out.p.cell 0 (by simp)
     have q1 := HC5.out.p.cell 1 (by simp)
     have q2 := HC5.out.p.cell 2 (by simp)
     have q3 := HC5.out.p.cell 3 (by simp)
     have q4 := HC5.out.p.cell 4 (by simp)
     have q5 := HC5.out.p.cell 5 (by simp)
     have r0 := HC5.out.r.cell 0 (by simp)
     have z0 := HC5.out.r.froz 0 (by simp)
     have r1 := HC5.out.r.cell 1 (by simp)
     have z1 := HC5.out.r.froz 1 (by simp)
     have r2 := HC5.out.r.cell 2 (by simp)
     have z2 := HC5.out.r.froz 2 (by simp)
     have r3 := HC5.out.r.cell 3 (by simp)
     have z3 := HC5.out.r.froz 3 (by simp)
     have r4 := HC5.out.r.cell 4 (by simp)
     have z4 := HC5.out.r.froz 4 (by simp)
     have r5 := HC5.out.r.cell 5 (by simp)
     have z5 := HC5.out.r.froz 5 (by simp)
     simp only [List.getElem_cons_zero, List.getElem_cons_succ] at q0 q1 q2 q3 q4 q5 r0 r1 r2 r3 r4 r5
     refine hK _ _ ?_
     clear hK K
     refine wpAny_ready (rs := [6]) (by kernel_rfl) (by simp) ?_
     refine AllReady.cons rfl (fun K hK => ?_) ?_
     ·have P1 := ownsF_below (HO0.out _ _) hb5 (Nat.le_refl _)
      have P2 := HC5.out
      have P3 := SliceAt.below H5.out (good_flat cLayer_len) P2.b (Nat.le_refl _)
      have P4 := P2.r.lt
      refine step_laysN rfl _ _ rfl (w.heap.size + 1 + 1) _ l _ sa sc ?_ P1 ?_ P3 ⟨_, _, rfl⟩ hm P4 ?_
      ·simp [Act.eval, Act.put]
      ·simp [Act.eval, Act.put]
      intro v4 w4 hO4 hg4
      obtain ⟨ua, uc, rfl⟩ := slice_of hO4
      have HC6 := Lib.hid (P2.grown hg4 (fun g hg => (World.ownsRow.lt P1 g hg).1))
      have lp := HC6.out.p.lt
      have lr := HC6.out.r.lt
      have np : ¬ w.heap.size = w4.heap.size := by omega
      have nr : ¬ w.heap.size + 1 = w4.heap.size := by omega
      have q0 := HC6.out.p.cell 0 (by simp)
      have q1 := HC6.out.p.cell 1 (by simp)
      have q2 := HC6.out.p.cell 2 (by simp)
      have q3 := HC6.out.p.cell 3 (by simp)
      have q4 := HC6.out.p.cell 4 (by simp)
      have q5 := HC6.out.p.cell 5 (by simp)
      have r0 := HC6.out.r.cell 0 (by simp)
      have z0 := HC6.out.r.froz 0 (by simp)
      have r1 := HC6.out.r.cell 1 (by simp)
      have z1 := HC6.out.r.froz 1 (by simp)
      have r2 := HC6.out.r.cell 2 (by simp)
      have z2 := HC6.out.r.froz 2 (by simp)
      have r3 := HC6.out.r.cell 3 (by simp)
      have z3 := HC6.out.r.froz 3 (by simp)
      have r4 := HC6.out.r.cell 4 (by simp)
      have z4 := HC6.out.r.froz 4 (by simp)
      have r5 := HC6.out.r.cell 5 (by simp)
      have z5 := HC6.out.r.froz 5 (by simp)
      simp only [List.getElem_cons_zero, List.getElem_cons_succ] at q0 q1 q2 q3 q4 q5 r0 r1 r2 r3 r4 r5
      refine hK _ _ ?_
      clear hK K
      refine wpAny_ready (rs := [7]) (by kernel_rfl) (by simp) ?_
      refine AllReady.cons rfl (fun K hK => ?_) ?_
      ·go_simp
       refine hK _ _ ?_
       clear hK K
       refine wpAny_ready (rs := [8]) (by kernel_rfl) (by simp) ?_
       refine AllReady.cons rfl (fun K hK => ?_) ?_
       ·go_simp
        refine hK _ _ ?_
        clear hK K
        refine wpAny_done (by kernel_rfl) ?_ _
        have OC0 := ownsF_keptF ho5 P1 hg4 (by decide)
        have E6 := l4_end (kd := kd) (on := on) (br := br) (cnt := cnt) HC6.out (ownsF_base OC0 (by have h1 := CS.out.b.size; simp at h1 ⊢; try omega)) hO4 hmc hm
        clear q0 r0 z0 q1 r1 z1 q2 r2 z2 q3 r3 z3 q4 r4 z4 q5 r5 z5
        generalize ((((((w4.setCell ⟨w.heap.size + 1, 0, none⟩ (.string ⟨kd.toArray⟩)).setCell ⟨w.heap.size + 1, 1, none⟩ (.bool on)).setCell ⟨w.heap.size + 1, 2, none⟩ (.bool br)).setCell ⟨w.heap.size + 1, 3, none⟩ (.slice ga cl.length gc)).setCell ⟨w.heap.size + 1, 4, none⟩ (.int .i64 cnt)).setCell ⟨w.heap.size + 1, 5, none⟩ (.slice ua l.length uc)) = WE at *
        go_wp2_with fail
        obtain ⟨BE, RE, HE⟩ := E6
        have e0 := BE.cell 0 (by simp)
        have e1 := BE.cell 1 (by simp)
        have e2 := BE.cell 2 (by simp)
        have e3 := BE.cell 3 (by simp)
        have e4 := BE.cell 4 (by simp)
        have e5 := BE.cell 5 (by simp)
        simp only [List.getElem_cons_zero, List.getElem_cons_succ] at e0 e1 e2 e3 e4 e5
        exact bodyPost_ret (v := .agg #[.string ⟨kd.toArray⟩, .bool on, .bool br, .slice ga cl.length gc, .int .i64 cnt, .slice ua l.length uc]) (by simp [results, Tryz.results59, go_sem, e0, e1, e2, e3, e4, e5]) rfl ⟨_, rfl, RE, HE⟩
       exact AllReady.nil
      exact AllReady.nil
     exact AllReady.nil
    exact AllReady.nil
   exact AllReady.nil
  refine AllReady.cons rfl (fun K hK => ?_) ?_
  ·go_simp
   refine hK _ _ ?_
   clear hK K
   refine wpAny_ready (rs := [1]) (by kernel_rfl) (by simp) ?_
   refine AllReady.cons rfl (fun K hK => ?_) ?_
   ·go_simp
    refine hK _ _ ?_
    clear hK K
    refine wpAny_ready (rs := [2]) (by kernel_rfl) (by simp) ?_
    refine AllReady.cons rfl (fun K hK => ?_) ?_
    ·go_simp
     refine (HCC.out _ (CS.out.alloc _).b).mono ?_
     rintro e w2 ⟨_, rfl, ⟨cv, rfl, ho5⟩, hb5⟩
     obtain ⟨ga, gc, rfl⟩ := slice_of ho5
     have HC5 := Lib.hid ((CS.out.alloc _).below hb5)
     have lp := HC5.out.p.lt
     have lr := HC5.out.r.lt
     have np : ¬ w.heap.size = w2.heap.size := by omega
     have nr : ¬ w.heap.size + 1 = w2.heap.size := by omega
     have q0 := HC5.out.p.cell 0 (by simp)
     have q1 := HC5.out.p.cell 1 (by simp)
     have q2 := HC5.out.p.cell 2 (by simp)
     have q3 := HC5.out.p.cell 3 (by simp)
     have q4 := HC5.out.p.cell 4 (by simp)
     have q5 := HC5.out.p.cell 5 (by simp)
     have r0 := HC5.out.r.cell 0 (by simp)
     have z0 := HC5.out.r.froz 0 (by simp)
     have r1 := HC5.out.r.cell 1 (by simp)
     have z1 := HC5.out.r.froz 1 (by simp)
     have r2 := HC5.out.r.cell 2 (by simp)
     have z2 := HC5.out.r.froz 2 (by simp)
     have r3 := HC5.out.r.cell 3 (by simp)
     have z3 := HC5.out.r.froz 3 (by simp)
     have r4 := HC5.out.r.cell 4 (by simp)
     have z4 := HC5.out.r.froz 4 (by simp)
     have r5 := HC5.out.r.cell 5 (by simp)
     have z5 := HC5.out.r.froz 5 (by simp)
     simp only [List.getElem_cons_zero, List.getElem_cons_succ] at q0 q1 q2 q3 q4 q5 r0 r1 r2 r3 r4 r5
     refine hK _ _ ?_
     clear hK K
     refine wpAny_ready (rs := [6]) (by kernel_rfl) (by simp) ?_
     refine AllReady.cons rfl (fun K hK => ?_) ?_
     ·have P1 := ownsF_below (HO0.out _ _) hb5 (Nat.le_refl _)
      have P2 := HC5.out
      have P3 := SliceAt.below H5.out (good_flat cLayer_len) P2.b (Nat.le_refl _)
      have P4 := P2.r.lt
      refine step_laysN rfl _ _ rfl (w.heap.size + 1 + 1) _ l _ sa sc ?_ P1 ?_ P3 ⟨_, _, rfl⟩ hm P4 ?_
      ·simp [Act.eval, Act.put]
      ·simp [Act.eval, Act.put]
      intro v4 w4 hO4 hg4
      obtain ⟨ua, uc, rfl⟩ := slice_of hO4
      have HC6 := Lib.hid (P2.grown hg4 (fun g hg => (World.ownsRow.lt P1 g hg).1))
      have lp := HC6.out.p.lt
      have lr := HC6.out.r.lt
      have np : ¬ w.heap.size = w4.heap.size := by omega
      have nr : ¬ w.heap.size + 1 = w4.heap.size := by omega
      have q0 := HC6.out.p.cell 0 (by simp)
      have q1 := HC6.out.p.cell 1 (by simp)
      have q2 := HC6.out.p.cell 2 (by simp)
      have q3 := HC6.out.p.cell 3 (by simp)
      have q4 := HC6.out.p.cell 4 (by simp)
      have q5 := HC6.out.p.cell 5 (by simp)
      have r0 := HC6.out.r.cell 0 (by simp)
      have z0 := HC6.out.r.froz 0 (by simp)
      have r1 := HC6.out.r.cell 1 (by simp)
      have z1 := HC6.out.r.froz 1 (by simp)
      have r2 := HC6.out.r.cell 2 (by simp)
      have z2 := HC6.out.r.froz 2 (by simp)
      have r3 := HC6.out.r.cell 3 (by simp)
      have z3 := HC6.out.r.froz 3 (by simp)
      have r4 := HC6.out.r.cell 4 (by simp)
      have z4 := HC6.out.r.froz 4 (by simp)
      have r5 := HC6.out.r.cell 5 (by simp)
      have z5 := HC6.out.r.froz 5 (by simp)
      simp only [List.getElem_cons_zero, List.getElem_cons_succ] at q0 q1 q2 q3 q4 q5 r0 r1 r2 r3 r4 r5
      refine hK _ _ ?_
      clear hK K
      refine wpAny_ready (rs := [7]) (by kernel_rfl) (by simp) ?_
      refine AllReady.cons rfl (fun K hK => ?_) ?_
      ·go_simp
       refine hK _ _ ?_
       clear hK K
       refine wpAny_ready (rs := [8]) (by kernel_rfl) (by simp) ?_
       refine AllReady.cons rfl (fun K hK => ?_) ?_
       ·go_simp
        refine hK _ _ ?_
        clear hK K
        refine wpAny_done (by kernel_rfl) ?_ _
        have OC0 := ownsF_keptF ho5 P1 hg4 (by decide)
        have E6 := l4_end (kd := kd) (on := on) (br := br) (cnt := cnt) HC6.out (ownsF_base OC0 (by have h1 := CS.out.b.size; simp at h1 ⊢; try omega)) hO4 hmc hm
        clear q0 r0 z0 q1 r1 z1 q2 r2 z2 q3 r3 z3 q4 r4 z4 q5 r5 z5
        generalize ((((((w4.setCell ⟨w.heap.size + 1, 0, none⟩ (.string ⟨kd.toArray⟩)).setCell ⟨w.heap.size + 1, 1, none⟩ (.bool on)).setCell ⟨w.heap.size + 1, 2, none⟩ (.bool br)).setCell ⟨w.heap.size + 1, 3, none⟩ (.slice ga cl.length gc)).setCell ⟨w.heap.size + 1, 4, none⟩ (.int .i64 cnt)).setCell ⟨w.heap.size + 1, 5, none⟩ (.slice ua l.length uc)) = WE at *
        go_wp2_with fail
        obtain ⟨BE, RE, HE⟩ := E6
        have e0 := BE.cell 0 (by simp)
        have e1 := BE.cell 1 (by simp)
        have e2 := BE.cell 2 (by simp)
        have e3 := BE.cell 3 (by simp)
        have e4 := BE.cell 4 (by simp)
        have e5 := BE.cell 5 (by simp)
        simp only [List.getElem_cons_zero, List.getElem_cons_succ] at e0 e1 e2 e3 e4 e5
        exact bodyPost_ret (v := .agg #[.string ⟨kd.toArray⟩, .bool on, .bool br, .slice ga cl.length gc, .int .i64 cnt, .slice ua l.length uc]) (by simp [results, Tryz.results59, go_sem, e0, e1, e2, e3, e4, e5]) rfl ⟨_, rfl, RE, HE⟩
       exact AllReady.nil
      exact AllReady.nil
     exact AllReady.nil
    exact AllReady.nil
   exact AllReady.nil
  exact AllReady.nil
 refine AllReady.cons rfl (fun K hK => ?_) ?_
 ·go_simp
  refine hK _ _ ?_
  clear hK K
  refine wpAny_ready (rs := [1, 3]) (by kernel_rfl) (by simp) ?_
  refine AllReady.cons rfl (fun K hK => ?_) ?_
  ·go_simp
   refine hK _ _ ?_
   clear hK K
   refine wpAny_ready (rs := [2, 3]) (by kernel_rfl) (by simp) ?_
   refine AllReady.cons rfl (fun K hK => ?_) ?_
   ·go_simp
    refine (HCC.out _ CS.out.b).mono ?_
    rintro e w2 ⟨_, rfl, ⟨cv, rfl, ho5⟩, hb5⟩
    obtain ⟨ga, gc, rfl⟩ := slice_of ho5
    have HC5 := Lib.hid (CS.out.below hb5)
    have lp := HC5.out.p.lt
    have lr := HC5.out.r.lt
    have np : ¬ w.heap.size = w2.heap.size := by omega
    have nr : ¬ w.heap.size + 1 = w2.heap.size := by omega
    have q0 := HC5.out.p.cell 0 (by simp)
    have q1 := HC5.out.p.cell 1 (by simp)
    have q2 := HC5.out.p.cell 2 (by simp)
    have q3 := HC5.out.p.cell 3 (by simp)
    have q4 := HC5.out.p.cell 4 (by simp)
    have q5 := HC5.out.p.cell 5 (by simp)
    have r0 := HC5.out.r.cell 0 (by simp)
    have z0 := HC5.out.r.froz 0 (by simp)
    have r1 := HC5.out.r.cell 1 (by simp)
    have z1 := HC5.out.r.froz 1 (by simp)
    have r2 := HC5.out.r.cell 2 (by simp)
    have z2 := HC5.out.r.froz 2 (by simp)
    have r3 := HC5.out.r.cell 3 (by simp)
    have z3 := HC5.out.r.froz 3 (by simp)
    have r4 := HC5.out.r.cell 4 (by simp)
    have z4 := HC5.out.r.froz 4 (by simp)
    have r5 := HC5.out.r.cell 5 (by simp)
    have z5 := HC5.out.r.froz 5 (by simp)
    simp only [List.getElem_cons_zero, List.getElem_cons_succ] at q0 q1 q2 q3 q4 q5 r0 r1 r2 r3 r4 r5
    refine hK _ _ ?_
    clear hK K
    refine wpAny_ready (rs := [3]) (by kernel_rfl) (by simp) ?_
    refine AllReady.cons rfl (fun K hK => ?_) ?_
    ·go_simp
     refine hK _ _ ?_
     clear hK K
     refine wpAny_ready (rs := [6]) (by kernel_rfl) (by simp) ?_
     refine AllReady.cons rfl (fun K hK => ?_) ?_
     ·have P1 := ownsF_base (B' := w.heap.size + 1 + 1) (ownsF_new cLayer 86 2 w2) HC5.out.r.lt
      have P2 := HC5.out.alloc (.cells #[] 86)
      have P3 := SliceAt.below H5.out (good_flat cLayer_len) P2.b (Nat.le_refl _)
      have P4 := P2.r.lt
      refine step_laysN rfl _ _ rfl (w.heap.size + 1 + 1) _ l _ sa sc ?_ P1 ?_ P3 ⟨_, _, rfl⟩ hm P4 ?_
      ·simp [Act.eval, Act.put]
      ·simp [Act.eval, Act.put]
      intro v4 w4 hO4 hg4
      obtain ⟨ua, uc, rfl⟩ := slice_of hO4
      have HC6 := Lib.hid (P2.grown hg4 (fun g hg => (World.ownsRow.lt P1 g hg).1))
      have lp := HC6.out.p.lt
      have lr := HC6.out.r.lt
      have np : ¬ w.heap.size = w4.heap.size := by omega
      have nr : ¬ w.heap.size + 1 = w4.heap.size := by omega
      have q0 := HC6.out.p.cell 0 (by simp)
      have q1 := HC6.out.p.cell 1 (by simp)
      have q2 := HC6.out.p.cell 2 (by simp)
      have q3 := HC6.out.p.cell 3 (by simp)
      have q4 := HC6.out.p.cell 4 (by simp)
      have q5 := HC6.out.p.cell 5 (by simp)
      have r0 := HC6.out.r.cell 0 (by simp)
      have z0 := HC6.out.r.froz 0 (by simp)
      have r1 := HC6.out.r.cell 1 (by simp)
      have z1 := HC6.out.r.froz 1 (by simp)
      have r2 := HC6.out.r.cell 2 (by simp)
      have z2 := HC6.out.r.froz 2 (by simp)
      have r3 := HC6.out.r.cell 3 (by simp)
      have z3 := HC6.out.r.froz 3 (by simp)
      have r4 := HC6.out.r.cell 4 (by simp)
      have z4 := HC6.out.r.froz 4 (by simp)
      have r5 := HC6.out.r.cell 5 (by simp)
      have z5 := HC6.out.r.froz 5 (by simp)
      simp only [List.getElem_cons_zero, List.getElem_cons_succ] at q0 q1 q2 q3 q4 q5 r0 r1 r2 r3 r4 r5
      refine hK _ _ ?_
      clear hK K
      refine wpAny_ready (rs := [7]) (by kernel_rfl) (by simp) ?_
      refine AllReady.cons rfl (fun K hK => ?_) ?_
      ·go_simp
       refine hK _ _ ?_
       clear hK K
       refine wpAny_ready (rs := [8]) (by kernel_rfl) (by simp) ?_
       refine AllReady.cons rfl (fun K hK => ?_) ?_
       ·go_simp
        refine hK _ _ ?_
        clear hK K
        refine wpAny_done (by kernel_rfl) ?_ _
        have OC0 := ownsF_keptF (ownsF_alloc ho5 _) P1 hg4 (by decide)
        have E6 := l4_end (kd := kd) (on := on) (br := br) (cnt := cnt) HC6.out (ownsF_base OC0 (by have h1 := CS.out.b.size; simp at h1 ⊢; try omega)) hO4 hmc hm
        clear q0 r0 z0 q1 r1 z1 q2 r2 z2 q3 r3 z3 q4 r4 z4 q5 r5 z5
        generalize ((((((w4.setCell ⟨w.heap.size + 1, 0, none⟩ (.string ⟨kd.toArray⟩)).setCell ⟨w.heap.size + 1, 1, none⟩ (.bool on)).setCell ⟨w.heap.size + 1, 2, none⟩ (.bool br)).setCell ⟨w.heap.size + 1, 3, none⟩ (.slice ga cl.length gc)).setCell ⟨w.heap.size + 1, 4, none⟩ (.int .i64 cnt)).setCell ⟨w.heap.size + 1, 5, none⟩ (.slice ua l.length uc)) = WE at *
        go_wp2_with fail
        obtain ⟨BE, RE, HE⟩ := E6
        have e0 := BE.cell 0 (by simp)
        have e1 := BE.cell 1 (by simp)
        have e2 := BE.cell 2 (by simp)
        have e3 := BE.cell 3 (by simp)
        have e4 := BE.cell 4 (by simp)
        have e5 := BE.cell 5 (by simp)
        simp only [List.getElem_cons_zero, List.getElem_cons_succ] at e0 e1 e2 e3 e4 e5
        exact bodyPost_ret (v := .agg #[.string ⟨kd.toArray⟩, .bool on, .bool br, .slice ga cl.length gc, .int .i64 cnt, .slice ua l.length uc]) (by simp [results, Tryz.results59, go_sem, e0, e1, e2, e3, e4, e5]) rfl ⟨_, rfl, RE, HE⟩
       exact AllReady.nil
      exact AllReady.nil
     exact AllReady.nil
    exact AllReady.nil
   refine AllReady.cons rfl (fun K hK => ?_) ?_
   ·go_simp
    refine hK _ _ ?_
    clear hK K
    refine wpAny_ready (rs := [2]) (by kernel_rfl) (by simp) ?_
    refine AllReady.cons rfl (fun K hK => ?_) ?_
    ·go_simp
     refine (HCC.out _ (CS.out.alloc _).b).mono ?_
     rintro e w2 ⟨_, rfl, ⟨cv, rfl, ho5⟩, hb5⟩
     obtain ⟨ga, gc, rfl⟩ := slice_of ho5
     have HC5 := Lib.hid ((CS.out.alloc _).below hb5)
     have lp := HC5.out.p.lt
     have lr := HC5.out.r.lt
     have np : ¬ w.heap.size = w2.heap.size := by omega
     have nr : ¬ w.heap.size + 1 = w2.heap.size := by omega
     have q0 := HC5.out.p.cell 0 (by simp)
     have q1 := HC5.out.p.cell 1 (by simp)
     have q2 := HC5.out.p.cell 2 (by simp)
     have q3 := HC5.out.p.cell 3 (by simp)
     have q4 := HC5.out.p.cell 4 (by simp)
     have q5 := HC5.out.p.cell 5 (by simp)
     have r0 := HC5.out.r.cell 0 (by simp)
     have z0 := HC5.out.r.froz 0 (by simp)
     have r1 := HC5.out.r.cell 1 (by simp)
     have z1 := HC5.out.r.froz 1 (by simp)
     have r2 := HC5.out.r.cell 2 (by simp)
     have z2 := HC5.out.r.froz 2 (by simp)
     have r3 := HC5.out.r.cell 3 (by simp)
     have z3 := HC5.out.r.froz 3 (by simp)
     have r4 := HC5.out.r.cell 4 (by simp)
     have z4 := HC5.out.r.froz 4 (by simp)
     have r5 := HC5.out.r.cell 5 (by simp)
     have z5 := HC5.out.r.froz 5 (by simp)
     simp only [List.getElem_cons_zero, List.getElem_cons_succ] at q0 q1 q2 q3 q4 q5 r0 r1 r2 r3 r4 r5
     refine hK _ _ ?_
     clear hK K
     refine wpAny_ready (rs := [6]) (by kernel_rfl) (by simp) ?_
     refine AllReady.cons rfl (fun K hK => ?_) ?_
     ·have P1 := ownsF_below (HO0.out _ _) hb5 (Nat.le_refl _)
      have P2 := HC5.out
      have P3 := SliceAt.below H5.out (good_flat cLayer_len) P2.b (Nat.le_refl _)
      have P4 := P2.r.lt
      refine step_laysN rfl _ _ rfl (w.heap.size + 1 + 1) _ l _ sa sc ?_ P1 ?_ P3 ⟨_, _, rfl⟩ hm P4 ?_
      ·simp [Act.eval, Act.put]
      ·simp [Act.eval, Act.put]
      intro v4 w4 hO4 hg4
      obtain ⟨ua, uc, rfl⟩ := slice_of hO4
      have HC6 := Lib.hid (P2.grown hg4 (fun g hg => (World.ownsRow.lt P1 g hg).1))
      have lp := HC6.out.p.lt
      have lr := HC6.out.r.lt
      have np : ¬ w.heap.size = w4.heap.size := by omega
      have nr : ¬ w.heap.size + 1 = w4.heap.size := by omega
      have q0 := HC6.out.p.cell 0 (by simp)
      have q1 := HC6.out.p.cell 1 (by simp)
      have q2 := HC6.out.p.cell 2 (by simp)
      have q3 := HC6.out.p.cell 3 (by simp)
      have q4 := HC6.out.p.cell 4 (by simp)
      have q5 := HC6.out.p.cell 5 (by simp)
      have r0 := HC6.out.r.cell 0 (by simp)
      have z0 := HC6.out.r.froz 0 (by simp)
      have r1 := HC6.out.r.cell 1 (by simp)
      have z1 := HC6.out.r.froz 1 (by simp)
      have r2 := HC6.out.r.cell 2 (by simp)
      have z2 := HC6.out.r.froz 2 (by simp)
      have r3 := HC6.out.r.cell 3 (by simp)
      have z3 := HC6.out.r.froz 3 (by simp)
      have r4 := HC6.out.r.cell 4 (by simp)
      have z4 := HC6.out.r.froz 4 (by simp)
      have r5 := HC6.out.r.cell 5 (by simp)
      have z5 := HC6.out.r.froz 5 (by simp)
      simp only [List.getElem_cons_zero, List.getElem_cons_succ] at q0 q1 q2 q3 q4 q5 r0 r1 r2 r3 r4 r5
      refine hK _ _ ?_
      clear hK K
      refine wpAny_ready (rs := [7]) (by kernel_rfl) (by simp) ?_
      refine AllReady.cons rfl (fun K hK => ?_) ?_
      ·go_simp
       refine hK _ _ ?_
       clear hK K
       refine wpAny_ready (rs := [8]) (by kernel_rfl) (by simp) ?_
       refine AllReady.cons rfl (fun K hK => ?_) ?_
       ·go_simp
        refine hK _ _ ?_
        clear hK K
        refine wpAny_done (by kernel_rfl) ?_ _
        have OC0 := ownsF_keptF ho5 P1 hg4 (by decide)
        have E6 := l4_end (kd := kd) (on := on) (br := br) (cnt := cnt) HC6.out (ownsF_base OC0 (by have h1 := CS.out.b.size; simp at h1 ⊢; try omega)) hO4 hmc hm
        clear q0 r0 z0 q1 r1 z1 q2 r2 z2 q3 r3 z3 q4 r4 z4 q5 r5 z5
        generalize ((((((w4.setCell ⟨w.heap.size + 1, 0, none⟩ (.string ⟨kd.toArray⟩)).setCell ⟨w.heap.size + 1, 1, none⟩ (.bool on)).setCell ⟨w.heap.size + 1, 2, none⟩ (.bool br)).setCell ⟨w.heap.size + 1, 3, none⟩ (.slice ga cl.length gc)).setCell ⟨w.heap.size + 1, 4, none⟩ (.int .i64 cnt)).setCell ⟨w.heap.size + 1, 5, none⟩ (.slice ua l.length uc)) = WE at *
        go_wp2_with fail
        obtain ⟨BE, RE, HE⟩ := E6
        have e0 := BE.cell 0 (by simp)
        have e1 := BE.cell 1 (by simp)
        have e2 := BE.cell 2 (by simp)
        have e3 := BE.cell 3 (by simp)
        have e4 := BE.cell 4 (by simp)
        have e5 := BE.cell 5 (by simp)
        simp only [List.getElem_cons_zero, List.getElem_cons_succ] at e0 e1 e2 e3 e4 e5
        exact bodyPost_ret (v := .agg #[.string ⟨kd.toArray⟩, .bool on, .bool br, .slice ga cl.length gc, .int .i64 cnt, .slice ua l.length uc]) (by simp [results, Tryz.results59, go_sem, e0, e1, e2, e3, e4, e5]) rfl ⟨_, rfl, RE, HE⟩
       exact AllReady.nil
      exact AllReady.nil
     exact AllReady.nil
    exact AllReady.nil
   exact AllReady.nil
  refine AllReady.cons rfl (fun K hK => ?_) ?_
  ·go_simp
   refine hK _ _ ?_
   clear hK K
   refine wpAny_ready (rs := [1]) (by kernel_rfl) (by simp) ?_
   refine AllReady.cons rfl (fun K hK => ?_) ?_
   ·go_simp
    refine hK _ _ ?_
    clear hK K
    refine wpAny_ready (rs := [2]) (by kernel_rfl) (by simp) ?_
    refine AllReady.cons rfl (fun K hK => ?_) ?_
    ·go_simp
     refine (HCC.out _ (CS.out.alloc _).b).mono ?_
     rintro e w2 ⟨_, rfl, ⟨cv, rfl, ho5⟩, hb5⟩
     obtain ⟨ga, gc, rfl⟩ := slice_of ho5
     have HC5 := Lib.hid ((CS.out.alloc _).below hb5)
     have lp := HC5.out.p.lt
     have lr := HC5.out.r.lt
     have np : ¬ w.heap.size = w2.heap.size := by omega
     have nr : ¬ w.heap.size + 1 = w2.heap.size := by omega
     have q0 := HC5.out.p.cell 0 (by simp)
     have q1 := HC5.out.p.cell 1 (by simp)
     have q2 := HC5.out.p.cell 2 (by simp)
     have q3 := HC5.out.p.cell 3 (by simp)
     have q4 := HC5.out.p.cell 4 (by simp)
     have q5 := HC5.out.p.cell 5 (by simp)
     have r0 := HC5.out.r.cell 0 (by simp)
     have z0 := HC5.out.r.froz 0 (by simp)
     have r1 := HC5.out.r.cell 1 (by simp)
     have z1 := HC5.out.r.froz 1 (by simp)
     have r2 := HC5.out.r.cell 2 (by simp)
     have z2 := HC5.out.r.froz 2 (by simp)
     have r3 := HC5.out.r.cell 3 (by simp)
     have z3 := HC5.out.r.froz 3 (by simp)
     have r4 := HC5.out.r.cell 4 (by simp)
     have z4 := HC5.out.r.froz 4 (by simp)
     have r5 := HC5.out.r.cell 5 (by simp)
     have z5 := HC5.out.r.froz 5 (by simp)
     simp only [List.getElem_cons_zero, List.getElem_cons_succ] at q0 q1 q2 q3 q4 q5 r0 r1 r2 r3 r4 r5
     refine hK _ _ ?_
     clear hK K
     refine wpAny_ready (rs := [6]) (by kernel_rfl) (by simp) ?_
     refine AllReady.cons rfl (fun K hK => ?_) ?_
     ·have P1 := ownsF_below (HO0.out _ _) hb5 (Nat.le_refl _)
      have P2 := HC5.out
      have P3 := SliceAt.below H5.out (good_flat cLayer_len) P2.b (Nat.le_refl _)
      have P4 := P2.r.lt
      refine step_laysN rfl _ _ rfl (w.heap.size + 1 + 1) _ l _ sa sc ?_ P1 ?_ P3 ⟨_, _, rfl⟩ hm P4 ?_
      ·simp [Act.eval, Act.put]
      ·simp [Act.eval, Act.put]
      intro v4 w4 hO4 hg4
      obtain ⟨ua, uc, rfl⟩ := slice_of hO4
      have HC6 := Lib.hid (P2.grown hg4 (fun g hg => (World.ownsRow.lt P1 g hg).1))
      have lp := HC6.out.p.lt
      have lr := HC6.out.r.lt
      have np : ¬ w.heap.size = w4.heap.size := by omega
      have nr : ¬ w.heap.size + 1 = w4.heap.size := by omega
      have q0 := HC6.out.p.cell 0 (by simp)
      have q1 := HC6.out.p.cell 1 (by simp)
      have q2 := HC6.out.p.cell 2 (by simp)
      have q3 := HC6.out.p.cell 3 (by simp)
      have q4 := HC6.out.p.cell 4 (by simp)
      have q5 := HC6.out.p.cell 5 (by simp)
      have r0 := HC6.out.r.cell 0 (by simp)
      have z0 := HC6.out.r.froz 0 (by simp)
      have r1 := HC6.out.r.cell 1 (by simp)
      have z1 := HC6.out.r.froz 1 (by simp)
      have r2 := HC6.out.r.cell 2 (by simp)
      have z2 := HC6.out.r.froz 2 (by simp)
      have r3 := HC6.out.r.cell 3 (by simp)
      have z3 := HC6.out.r.froz 3 (by simp)
      have r4 := HC6.out.r.cell 4 (by simp)
      have z4 := HC6.out.r.froz 4 (by simp)
      have r5 := HC6.out.r.cell 5 (by simp)
      have z5 := HC6.out.r.froz 5 (by simp)
      simp only [List.getElem_cons_zero, List.getElem_cons_succ] at q0 q1 q2 q3 q4 q5 r0 r1 r2 r3 r4 r5
      refine hK _ _ ?_
      clear hK K
      refine wpAny_ready (rs := [7]) (by kernel_rfl) (by simp) ?_
      refine AllReady.cons rfl (fun K hK => ?_) ?_
      ·go_simp
       refine hK _ _ ?_
       clear hK K
       refine wpAny_ready (rs := [8]) (by kernel_rfl) (by simp) ?_
       refine AllReady.cons rfl (fun K hK => ?_) ?_
       ·go_simp
        refine hK _ _ ?_
        clear hK K
        refine wpAny_done (by kernel_rfl) ?_ _
        have OC0 := ownsF_keptF ho5 P1 hg4 (by decide)
        have E6 := l4_end (kd := kd) (on := on) (br := br) (cnt := cnt) HC6.out (ownsF_base OC0 (by have h1 := CS.out.b.size; simp at h1 ⊢; try omega)) hO4 hmc hm
        clear q0 r0 z0 q1 r1 z1 q2 r2 z2 q3 r3 z3 q4 r4 z4 q5 r5 z5
        generalize ((((((w4.setCell ⟨w.heap.size + 1, 0, none⟩ (.string ⟨kd.toArray⟩)).setCell ⟨w.heap.size + 1, 1, none⟩ (.bool on)).setCell ⟨w.heap.size + 1, 2, none⟩ (.bool br)).setCell ⟨w.heap.size + 1, 3, none⟩ (.slice ga cl.length gc)).setCell ⟨w.heap.size + 1, 4, none⟩ (.int .i64 cnt)).setCell ⟨w.heap.size + 1, 5, none⟩ (.slice ua l.length uc)) = WE at *
        go_wp2_with fail
        obtain ⟨BE, RE, HE⟩ := E6
        have e0 := BE.cell 0 (by simp)
        have e1 := BE.cell 1 (by simp)
        have e2 := BE.cell 2 (by simp)
        have e3 := BE.cell 3 (by simp)
        have e4 := BE.cell 4 (by simp)
        have e5 := BE.cell 5 (by simp)
        simp only [List.getElem_cons_zero, List.getElem_cons_succ] at e0 e1 e2 e3 e4 e5
        exact bodyPost_ret (v := .agg #[.string ⟨kd.toArray⟩, .bool on, .bool br, .slice ga cl.length gc, .int .i64 cnt, .slice ua l.length uc]) (by simp [results, Tryz.results59, go_sem, e0, e1, e2, e3, e4, e5]) rfl ⟨_, rfl, RE, HE⟩
       exact AllReady.nil
      exact AllReady.nil
     exact AllReady.nil
    exact AllReady.nil
   exact AllReady.nil
  exact AllReady.nil
 exact AllReady.nil
end Go.Proofs.YtcpbikilgacdlaaGreat
