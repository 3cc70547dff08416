/- Rows of structs that hold rows themselves: how they read, and what keeps them. -/
import Derived.Test.YtmoliamenekemaaFlat
namespace Go.Proofs.Ytmoliamenekemaa
set_option linter.unusedVariables false
open Go.RowKit
/-- nothing in the blocks from F on has turned -/
structure Kept (F : Nat) (w w' : World) : Prop where
  size : w.heap.size ≤ w'.heap.size
  block : ∀ k, F ≤ k → k < w.heap.size → w'.heap[k]? = w.heap[k]?
theorem Kept.refl (F : Nat) (w : World) : Kept F w w := ⟨Nat.le_refl _, fun _ _ _ => rfl⟩
theorem Kept.trans {F : Nat} {a b c : World} (h : Kept F a b) (k : Kept F b c) : Kept F a c :=
  ⟨Nat.le_trans h.size k.size, fun i hF hi => (k.block i hF (Nat.lt_of_lt_of_le hi h.size)).trans (h.block i hF hi)⟩
theorem Kept.mono {F F' : Nat} {a b : World} (h : Kept F a b) (hF : F ≤ F') : Kept F' a b := ⟨h.size, fun i h1 hi => h.block i (Nat.le_trans hF h1) hi⟩
theorem kept_below {B F : Nat} {w w' : World} (h : Below B w w') (hB : w.heap.size ≤ B) : Kept F w w' := ⟨h.size, fun i _ hi => h.block i (Nat.lt_of_lt_of_le hi hB)⟩
theorem Kept.thenB {B F : Nat} {a w w' : World} (k : Kept F a w) (h : Below B w w') (hB : w.heap.size ≤ B) : Kept F a w' := k.trans (kept_below h hB)
theorem Kept.alloc {F : Nat} {a w : World} (h : Kept F a w) (o : Obj) : Kept F a (w.alloc o) := h.trans (kept_below ((Below.refl w.heap.size w).alloc (Nat.le_refl _) o) (Nat.le_refl _))
theorem Kept.setCell {F : Nat} {a w : World} (h : Kept F a w) {p : Addr} (hp : p.block < F) (u : Value) : Kept F a (w.setCell p u) :=
  ⟨by simpa using h.size, fun i hF hi => (Below.heap_setCell w p u i (by omega)).trans (h.block i hF hi)⟩
theorem Kept.drew {F : Nat} {a w : World} (h : Kept F a w) : Kept F a w.drew := ⟨h.size, h.block⟩
theorem Kept.drewN {F : Nat} {a w : World} (h : Kept F a w) (n : Nat) : Kept F a (w.drewN n) := ⟨h.size, h.block⟩
theorem Kept.grown {F : Nat} {a w w' : World} {r : Option Nat} (h : Kept F a w) (hg : w.grownBy w' r) (hr : ∀ b, r = some b → b < F) : Kept F a w' :=
  h.trans ⟨hg.size, fun i hF hi => hg.block i hi (fun e => by have := hr i e.symm; omega)⟩
theorem Kept.cell {F : Nat} {w w' : World} (h : Kept F w w') (b o : Nat) (h1 : F ≤ b) (h2 : b < w.heap.size) : w'.cell? ⟨b, o, none⟩ = w.cell? ⟨b, o, none⟩ := World.cell?_of_block (h.block b h1 h2)
/-- what a reading of k cells must bear -/
structure Good {α : Type} (R : Nat → World → List Value → α → Prop) (k : Nat) : Prop where
  len : ∀ {F w cs x}, R F w cs x → cs.length = k
  keep : ∀ {F w w' cs x}, R F w cs x → Kept F w w' → R F w' cs x
  mono : ∀ {F F' w cs x}, R F w cs x → F' ≤ F → R F' w cs x
def rFlat {α : Type} (f : α → List Value) : Nat → World → List Value → α → Prop := fun _ _ cs x => cs = f x
theorem good_flat {α : Type} {f : α → List Value} {k : Nat} (hk : ∀ x, (f x).length = k) : Good (rFlat f) k :=
  ⟨fun h => by rw [h]; exact hk _, fun h _ => h, fun h _ => h⟩
/-- the slice v reads, in world w, as the elements l; what it holds lies in blocks from F on -/
def SliceAt {α : Type} (R : Nat → World → List Value → α → Prop) (k F : Nat) (w : World) (v : Value) (l : List α) : Prop :=
  ∃ a c, v = .slice a l.length (l.length + c) ∧ l.length ≤ maxLen ∧ (l.length = 0 ∨ ∃ b o, a = some ⟨b, o, none⟩ ∧ F ≤ b ∧ b < w.heap.size ∧ ∀ (i : Nat) (h : i < l.length), ∃ cs, R F w cs l[i] ∧ ∀ j, j < k → w.cell? ⟨b, o + i * k + j, none⟩ = cs[j]?)
section
variable {α : Type} {R : Nat → World → List Value → α → Prop} {k : Nat}
theorem SliceAt.keep {F : Nat} {w w' : World} {v : Value} {l : List α} (h : SliceAt R k F w v l) (g : Good R k) (hk : Kept F w w') : SliceAt R k F w' v l := by
  obtain ⟨a, c, rfl, hl, h⟩ := h
  refine ⟨a, c, rfl, hl, h.imp id ?_⟩
  rintro ⟨b, o, rfl, hF, hlt, hc⟩
  refine ⟨b, o, rfl, hF, Nat.lt_of_lt_of_le hlt hk.size, fun i hi => ?_⟩
  obtain ⟨cs, h1, h2⟩ := hc i hi
  exact ⟨cs, g.keep h1 hk, fun j hj => (hk.cell b _ hF hlt).trans (h2 j hj)⟩
theorem SliceAt.below {F B : Nat} {w w' : World} {v : Value} {l : List α} (h : SliceAt R k F w v l) (g : Good R k) (hb : Below B w w') (hB : w.heap.size ≤ B) : SliceAt R k F w' v l := h.keep g (kept_below hb hB)
theorem SliceAt.mono {F F' : Nat} {w : World} {v : Value} {l : List α} (h : SliceAt R k F w v l) (g : Good R k) (hF : F' ≤ F) : SliceAt R k F' w v l := by
  obtain ⟨a, c, rfl, hl, h⟩ := h
  refine ⟨a, c, rfl, hl, h.imp id ?_⟩
  rintro ⟨b, o, rfl, hF2, hlt, hc⟩
  refine ⟨b, o, rfl, Nat.le_trans hF hF2, hlt, fun i hi => ?_⟩
  obtain ⟨cs, h1, h2⟩ := hc i hi
  exact ⟨cs, g.mono h1 hF, h2⟩
theorem sliceAt_len {F : Nat} {w : World} {v : Value} {l : List α} (h : SliceAt R k F w v l) : ∃ a c, v = .slice a l.length c ∧ l.length ≤ maxLen := by
  obtain ⟨a, c, rfl, hl, _⟩ := h; exact ⟨a, _, rfl, hl⟩
theorem sliceAt_cap {F : Nat} {w : World} {v : Value} {l : List α} (h : SliceAt R k F w v l) : ∃ a c, v = .slice a l.length c ∧ l.length ≤ maxLen ∧ l.length ≤ c := by
  obtain ⟨a, c, rfl, hl, _⟩ := h; exact ⟨a, _, rfl, hl, by omega⟩
theorem sliceAt_cell {F : Nat} {w : World} {a : Option Addr} {n c : Nat} {l : List α} (h : SliceAt R k F w (.slice a n c) l) (i : Nat) (hi : i < l.length) :
    ∃ b o cs, a = some ⟨b, o, none⟩ ∧ b < w.heap.size ∧ R F w cs l[i] ∧ ∀ j, j < k → w.cell? ⟨b, o + i * k + j, none⟩ = cs[j]? := by
  obtain ⟨a', c', e, hl, h⟩ := h
  injection e with e1 e2 e3
  subst e1
  rcases h with h | ⟨b, o, rfl, _, hlt, hc⟩
  · omega
  · obtain ⟨cs, h1, h2⟩ := hc i hi
    exact ⟨b, o, cs, rfl, hlt, h1, h2⟩
theorem sliceAt_nil (F : Nat) (w : World) : SliceAt R k F w (.slice none 0 0) ([] : List α) := ⟨none, 0, rfl, Nat.zero_le _, Or.inl rfl⟩
/-- a beginning of a slice -/
theorem sliceAt_take {F : Nat} {w : World} {a : Option Addr} {n c c' : Nat} {l : List α} (h : SliceAt R k F w (.slice a n c) l) (m : Nat) (hm : m ≤ l.length) (hc' : m ≤ c') : SliceAt R k F w (.slice a m c') (l.take m) := by
  obtain ⟨a', c2, e, hl, h⟩ := h
  injection e with e1 e2 e3
  subst e1
  have hlen : (l.take m).length = m := by rw [List.length_take]; omega
  refine ⟨a, c' - m, by rw [hlen, Nat.add_sub_of_le hc'], by omega, ?_⟩
  rcases h with h | ⟨b, o, rfl, hF, hlt, hc⟩
  · exact Or.inl (by omega)
  · refine Or.inr ⟨b, o, rfl, hF, hlt, fun i hi => ?_⟩
    have hi2 : i < l.length := by omega
    obtain ⟨cs, h1, h2⟩ := hc i hi2
    exact ⟨cs, by rw [List.getElem_take]; exact h1, h2⟩
/-- the cells xs hold the elements l, one behind the other -/
def Cells (R : Nat → World → List Value → α → Prop) (k F : Nat) (w : World) (xs : List Value) (l : List α) : Prop := ∀ (i : Nat) (h : i < l.length), ∃ cs, R F w cs l[i] ∧ ∀ j, j < k → xs[i * k + j]? = cs[j]?
theorem Cells.keep {F : Nat} {w w' : World} {xs : List Value} {l : List α} (h : Cells R k F w xs l) (g : Good R k) (hk : Kept F w w') : Cells R k F w' xs l := by
  intro i hi
  obtain ⟨cs, h1, h2⟩ := h i hi
  exact ⟨cs, g.keep h1 hk, h2⟩
theorem Cells.nil (F : Nat) (w : World) (xs : List Value) : Cells R k F w xs ([] : List α) := fun i hi => absurd hi (Nat.not_lt_zero _)
theorem Cells.snoc {F : Nat} {w : World} {xs ys : List Value} {l : List α} {x : α} {cs : List Value} (h : Cells R k F w xs l) (hx : R F w cs x) (h1 : ∀ i, i < l.length * k → ys[i]? = xs[i]?) (h2 : ∀ j, j < k → ys[l.length * k + j]? = cs[j]?) : Cells R k F w ys (l ++ [x]) := by
  intro i hi
  by_cases hlt : i < l.length
  · obtain ⟨cs', e1, e2⟩ := h i hlt
    refine ⟨cs', by rw [List.getElem_append_left hlt]; exact e1, fun j hj => ?_⟩
    rw [h1 _ ?_]
    · exact e2 j hj
    · have h3 : (i + 1) * k ≤ l.length * k := Nat.mul_le_mul_right k hlt
      rw [Nat.succ_mul] at h3; omega
  · have hi2 : i = l.length := by simp at hi; omega
    subst hi2
    exact ⟨cs, by simpa using hx, h2⟩
theorem sliceAt_of_row {F E : Nat} {w : World} {B : Nat} {v : Value} {xs : List Value} {l : List α} (h : w.ownsRow B E k v l.length xs) (hc : Cells R k F w xs l) (hF : F ≤ B) (hm : l.length ≤ 4194304) : SliceAt R k F w v l := by
  have hl := h.1
  rcases h.2 with ⟨rfl, hn⟩ | ⟨g, cap, cur, rfl, hb, hg, hn, hc2, hs, ht⟩
  · exact ⟨none, 0, by rw [hn], by unfold maxLen; omega, Or.inl hn⟩
  · refine ⟨_, _, cap_eq _ hn, by unfold maxLen; omega, Or.inr ⟨g, 0, rfl, by omega, (Array.getElem?_eq_some_iff.1 hg).1, fun i hi => ?_⟩⟩
    obtain ⟨cs, e1, e2⟩ := hc i hi
    refine ⟨cs, e1, fun j hj => ?_⟩
    rw [Nat.zero_add, World.ownsRow.cellAt h (i * k + j) ?_]
    · exact e2 j hj
    · have h3 : (i + 1) * k ≤ l.length * k := Nat.mul_le_mul_right k hi
      rw [Nat.succ_mul] at h3; omega
end
section
variable {α : Type} {f : α → List Value} {k : Nat}
theorem sliceAt_of_flat {w : World} {v : Value} {l : List α} (hk : ∀ x, (f x).length = k) (h : FlatAt f k w v l) : SliceAt (rFlat f) k 0 w v l := by
  obtain ⟨a, c, rfl, hl, hm, h⟩ := h
  refine ⟨a, c, rfl, hm, h.imp id ?_⟩
  rintro ⟨b, o, rfl, hlt, hc⟩
  refine ⟨b, o, rfl, Nat.zero_le _, hlt, fun i hi => ⟨f l[i], rfl, fun j hj => ?_⟩⟩
  rw [Nat.add_assoc, hc (i * k + j) ?_, flat_get f k hk l i hi j hj]
  have h3 : (i + 1) * k ≤ l.length * k := Nat.mul_le_mul_right k hi
  rw [Nat.succ_mul] at h3; omega
theorem flatAt_of_slice {F : Nat} {w : World} {v : Value} {l : List α} (hk : ∀ x, (f x).length = k) (hk0 : 0 < k) (h : SliceAt (rFlat f) k F w v l) : FlatAt f k w v l := by
  obtain ⟨a, c, rfl, hm, h⟩ := h
  refine ⟨a, c, rfl, flat_len f k hk l, hm, h.imp id ?_⟩
  rintro ⟨b, o, rfl, _, hlt, hc⟩
  refine ⟨b, o, rfl, hlt, fun i hi => ?_⟩
  have hq : i / k < l.length := Nat.div_lt_of_lt_mul (by rw [Nat.mul_comm]; exact hi)
  have hr : i % k < k := Nat.mod_lt _ hk0
  obtain ⟨cs, h1, h2⟩ := hc (i / k) hq
  have h3 := h2 (i % k) hr
  have e1 : i / k * k + i % k = i := by rw [Nat.mul_comm]; exact Nat.div_add_mod i k
  rw [show o + i / k * k + i % k = o + i by omega] at h3
  rw [h3, ← e1, flat_get f k hk l (i / k) hq (i % k) hr, h1, e1]
theorem sliceAt_of_owns {E : Nat} {w : World} {B : Nat} {v : Value} {l : List α} (hk : ∀ x, (f x).length = k) (h : OwnsF f E k w B v l) (hm : l.length ≤ 4194304) : SliceAt (rFlat f) k B w v l := by
  refine sliceAt_of_row h (fun i hi => ⟨f l[i], rfl, fun j hj => flat_get f k hk l i hi j hj⟩) (Nat.le_refl _) hm
end
/-- texts as rows of one cell -/
def cStr (s : List UInt8) : List Value := [strV s]
theorem cStr_len (s : List UInt8) : (cStr s).length = 1 := rfl
theorem cStr_map (l : List (List UInt8)) : l.flatMap cStr = l.map strV := by induction l with | nil => rfl | cons a r ih => simp [cStr, ih]
abbrev rStr := rFlat cStr
theorem good_str : Good rStr 1 := good_flat cStr_len
theorem flat_of_row {w : World} {v : Value} {l : List (List UInt8)} (h : RowAt w v (l.map strV)) : FlatAt cStr 1 w v l := by
  obtain ⟨a, c, rfl, hl, h⟩ := h
  rw [List.length_map] at *
  refine ⟨a, c, rfl, by rw [cStr_map, List.length_map, Nat.mul_one], hl, h.imp (fun e => by simpa using congrArg List.length e) ?_⟩
  rintro ⟨b, o, rfl, hlt, hc⟩
  exact ⟨b, o, rfl, hlt, fun i hi => by rw [cStr_map]; exact hc i (by simpa using hi)⟩
theorem row_of_flat {w : World} {v : Value} {l : List (List UInt8)} (h : FlatAt cStr 1 w v l) : RowAt w v (l.map strV) := by
  obtain ⟨a, c, rfl, hl, hm, h⟩ := h
  refine ⟨a, c, by rw [List.length_map], by rw [List.length_map]; exact hm, ?_⟩
  rw [List.length_map]
  refine h.imp (fun e => by rw [List.eq_nil_of_length_eq_zero e]; rfl) ?_
  rintro ⟨b, o, rfl, hlt, hc⟩
  exact ⟨b, o, rfl, hlt, fun i hi => by rw [hc i (by omega), cStr_map]⟩
theorem row_of_slice {F : Nat} {w : World} {v : Value} {l : List (List UInt8)} (h : SliceAt rStr 1 F w v l) : RowAt w v (l.map strV) := row_of_flat (flatAt_of_slice cStr_len (by decide) h)
theorem slice_of_row {w : World} {v : Value} {l : List (List UInt8)} (h : RowAt w v (l.map strV)) : SliceAt rStr 1 0 w v l := sliceAt_of_flat cStr_len (flat_of_row h)
theorem slice_of_owns {w : World} {B : Nat} {v : Value} {l : List (List UInt8)} (h : Owns w B v l) (hm : l.length ≤ 4194304) : SliceAt rStr 1 B w v l :=
  sliceAt_of_owns (E := 9) cStr_len (by unfold OwnsF; rw [cStr_map]; exact h) hm
theorem belS {w X w' : World} (h : Below w.heap.size w X) (hb : Below X.heap.size X w') : Below w.heap.size w w' := h.trans (hb.mono h.size)
theorem bcellR {W w1 : World} (hb : Below W.heap.size W w1) : (∀ b o, b < W.heap.size → w1.cell? ⟨b, o, none⟩ = W.cell? ⟨b, o, none⟩) ∧ (∀ b o, b < W.heap.size → w1.frozen? ⟨b, o, none⟩ = W.frozen? ⟨b, o, none⟩) :=
  ⟨fun b o h => hb.cell (p := ⟨b, o, none⟩) h, fun b o h => hb.frozen (p := ⟨b, o, none⟩) h⟩
/-- a variable in a block of its own, of the cells cs -/
structure Bx (w : World) (b : Nat) (cs : List Value) : Prop where
  lt : b < w.heap.size
  cell : ∀ j (h : j < cs.length), w.cell? ⟨b, j, none⟩ = some (cs[j]'h)
  froz : ∀ j, j < cs.length → w.frozen? ⟨b, j, none⟩ = false
theorem Bx.below {w w' : World} {b : Nat} {cs : List Value} (h : Bx w b cs) (hb : Below w.heap.size w w') : Bx w' b cs :=
  ⟨Nat.lt_of_lt_of_le h.lt hb.size, fun j hj => (hb.cell (p := ⟨b, j, none⟩) h.lt).trans (h.cell j hj), fun j hj => (hb.frozen (p := ⟨b, j, none⟩) h.lt).trans (h.froz j hj)⟩
theorem bx_set_ne {w : World} {b c i j : Nat} {u : Value} (h : b ≠ c ∨ i ≠ j) : (w.setCell ⟨c, j, none⟩ u).cell? ⟨b, i, none⟩ = w.cell? ⟨b, i, none⟩ :=
  World.cell?_setCell_other (a := ⟨c, j, none⟩) (b := ⟨b, i, none⟩) (h := fun e => by injection e with e1 e2; rcases h with h | h <;> omega) ..
theorem Bx.set {w : World} {b : Nat} {cs : List Value} (h : Bx w b cs) (j : Nat) (hj : j < cs.length) (u : Value) : Bx (w.setCell ⟨b, j, none⟩ u) b (cs.set j u) := by
  refine ⟨by simpa using h.lt, fun i hi => ?_, fun i hi => ?_⟩
  · have hi2 : i < cs.length := by rwa [List.length_set] at hi
    by_cases hij : i = j
    · subst hij
      rw [World.cell?_setCell_same' w ⟨b, i, none⟩ u (by rw [h.cell i hi2]; rfl)]; simp
    · rw [bx_set_ne (Or.inr hij), h.cell i hi2, List.getElem_set_ne (by omega)]
  · rw [List.length_set] at hi
    simpa using h.froz i hi
theorem Bx.other {w : World} {b c : Nat} {cs : List Value} (h : Bx w b cs) (hne : b ≠ c) (j : Nat) (u : Value) : Bx (w.setCell ⟨c, j, none⟩ u) b cs :=
  ⟨by simpa using h.lt, fun i hi => (bx_set_ne (Or.inl hne)).trans (h.cell i hi), fun i hi => by simpa using h.froz i hi⟩
theorem Bx.new (w : World) (cs : List Value) (t : TypeId) : Bx (w.alloc (.cells cs.toArray t)) w.heap.size cs :=
  ⟨by simp, fun j hj => by rw [cell_of_row _ _ j _ t (0, 0) (heap_alloc_new w _)]; simp [List.getElem?_eq_getElem hj], fun j hj => by simp⟩
theorem bx_box (w : World) (o : Obj) : Below w.heap.size w (w.alloc o) := (Below.refl _ _).alloc (Nat.le_refl _) o
theorem Bx.alloc {w : World} {b : Nat} {cs : List Value} (h : Bx w b cs) (o : Obj) : Bx (w.alloc o) b cs := h.below (bx_box w o)
theorem bx_start1 (w : World) (c1 : List Value) (t1 : TypeId) : Bx (w.alloc (.cells c1.toArray t1)) w.heap.size c1 ∧ Below w.heap.size w (w.alloc (.cells c1.toArray t1)) := ⟨Bx.new w c1 t1, bx_box w _⟩
theorem bx_start2 (w : World) (c1 c2 : List Value) (t1 t2 : TypeId) : Bx ((w.alloc (.cells c1.toArray t1)).alloc (.cells c2.toArray t2)) w.heap.size c1 ∧ Bx ((w.alloc (.cells c1.toArray t1)).alloc (.cells c2.toArray t2)) (w.heap.size + 1) c2 ∧ Below w.heap.size w ((w.alloc (.cells c1.toArray t1)).alloc (.cells c2.toArray t2)) := by
  have h := Bx.new (w.alloc (.cells c1.toArray t1)) c2 t2
  rw [show (w.alloc (.cells c1.toArray t1)).heap.size = w.heap.size + 1 by simp] at h
  exact ⟨(Bx.new w c1 t1).alloc _, h, belS (bx_box w _) (bx_box _ _)⟩
theorem bx_start3 (w : World) (c1 c2 c3 : List Value) (t1 t2 t3 : TypeId) : Bx (((w.alloc (.cells c1.toArray t1)).alloc (.cells c2.toArray t2)).alloc (.cells c3.toArray t3)) w.heap.size c1 ∧ Bx (((w.alloc (.cells c1.toArray t1)).alloc (.cells c2.toArray t2)).alloc (.cells c3.toArray t3)) (w.heap.size + 1) c2 ∧ Bx (((w.alloc (.cells c1.toArray t1)).alloc (.cells c2.toArray t2)).alloc (.cells c3.toArray t3)) (w.heap.size + 1 + 1) c3 ∧ Below w.heap.size w (((w.alloc (.cells c1.toArray t1)).alloc (.cells c2.toArray t2)).alloc (.cells c3.toArray t3)) := by
  obtain ⟨h1, h2, h3⟩ := bx_start2 w c1 c2 t1 t2
  have h := Bx.new ((w.alloc (.cells c1.toArray t1)).alloc (.cells c2.toArray t2)) c3 t3
  rw [show ((w.alloc (.cells c1.toArray t1)).alloc (.cells c2.toArray t2)).heap.size = w.heap.size + 1 + 1 by simp] at h
  exact ⟨h1.alloc _, h2.alloc _, h, belS h3 (bx_box _ _)⟩
/-- a struct by its value -/
def ValAt {α : Type} (R : Nat → World → List Value → α → Prop) (F : Nat) (w : World) (v : Value) (x : α) : Prop := ∃ cs, v = .agg cs.toArray ∧ R F w cs x
theorem ValAt.keep {α : Type} {R : Nat → World → List Value → α → Prop} {k F : Nat} {w w' : World} {v : Value} {x : α} (h : ValAt R F w v x) (g : Good R k) (hk : Kept F w w') : ValAt R F w' v x := by
  obtain ⟨cs, rfl, h⟩ := h; exact ⟨cs, rfl, g.keep h hk⟩
theorem ValAt.below {α : Type} {R : Nat → World → List Value → α → Prop} {k F B : Nat} {w w' : World} {v : Value} {x : α} (h : ValAt R F w v x) (g : Good R k) (hb : Below B w w') (hB : w.heap.size ≤ B) : ValAt R F w' v x := h.keep g (kept_below hb hB)
/-- a new struct, or a new slice, that reads as x -/
def GivesV {α : Type} (R : Nat → World → List Value → α → Prop) (x : α) (w : World) (e : Ending) (w' : World) : Prop := ∃ cs, e = .returned (.agg cs.toArray) ∧ R w.heap.size w' cs x ∧ Below w.heap.size w w'
def GivesS {α : Type} (R : Nat → World → List Value → α → Prop) (k : Nat) (l : List α) (w : World) (e : Ending) (w' : World) : Prop := ∃ v, e = .returned v ∧ SliceAt R k w.heap.size w' v l ∧ Below w.heap.size w w'
theorem slice_of {α : Type} {f : α → List Value} {E k : Nat} {w : World} {B : Nat} {v : Value} {l : List α} (h : OwnsF f E k w B v l) : ∃ a c, v = .slice a l.length c := by
  rcases h.2 with ⟨rfl, hn⟩ | ⟨g, cap, cur, rfl, _⟩
  · exact ⟨none, 0, by rw [hn]⟩
  · exact ⟨_, _, rfl⟩
theorem sumF_take_le {α : Type} (sz : α → Nat) (x : List α) (m : Nat) : sumF sz (x.take m) ≤ sumF sz x := by
  induction x generalizing m with
  | nil => simp [sumF]
  | cons a r ih => cases m with
    | zero => simp [sumF]
    | succ m => have := ih m; simp only [List.take_succ_cons, sumF]; omega
theorem total_sum (l : List (List UInt8)) : total l = sumF List.length l := by induction l with | nil => rfl | cons a r ih => simp only [total, sumF, ih]
end Go.Proofs.Ytmoliamenekemaa
