/- Arguments opened: structs by value, slices of structs. -/
import Derived.Test.YtmoliamenekemaaFlat
import Derived.Test.YtmoliamenekemaaLaw
import Derived.Test.YtmoliamenekemaaTCell
import Derived.Deep.Slices
namespace Go.Proofs.Ytmoliamenekemaa
set_option linter.unusedVariables false
open Go.ChangeShapes Go.WideShapes Go.ChangeAt Go.RowKit Go.WideMaps Go.WideElems
open Go.Deep
section
variable {H : Type} {enc : TypeId × Value → H} {P : Program} {W : World}
theorem leaf_str {n : Nat} {t : TypeId} {c : Value} {x : DataW H × List MemPlace} (ht : P.underlying t = some .string) (h : DataW.trod enc P W 0 (fun _ => true) true n t [c] = some x) : ∃ l : List UInt8, c = .string ⟨l.toArray⟩ ∧ l.length ≤ maxLen := by
  obtain ⟨s, h1, _, h3⟩ := DataW.trod_string ht h
  injection h1 with h1
  exact ⟨s.data.toList, by rw [h1], by rw [Array.length_toList]; exact h3⟩
theorem leaf_int {n : Nat} {t : TypeId} {c : Value} {x : DataW H × List MemPlace} (ht : P.underlying t = some (.int .i64)) (h : DataW.trod enc P W 0 (fun _ => true) true n t [c] = some x) : ∃ z : Int, c = .int .i64 z ∧ -9223372036854775808 ≤ z ∧ z ≤ 9223372036854775807 := by
  obtain ⟨z, h1, _, h3⟩ := DataW.trod_int ht h
  injection h1 with h1
  exact ⟨z, h1, bounds_i64 h3⟩
theorem leaf_bool {n : Nat} {t : TypeId} {c : Value} {x : DataW H × List MemPlace} (ht : P.underlying t = some .bool) (h : DataW.trod enc P W 0 (fun _ => true) true n t [c] = some x) : ∃ b : Bool, c = .bool b := by
  obtain ⟨b, h1, _⟩ := DataW.trod_bool ht h
  injection h1 with h1
  exact ⟨b, h1⟩
theorem field_at {fs : Array Field} {n : Nat} {cs : List Value} {xs : List (DataW H × List MemPlace)} (hl : xs.length = fs.size)
    (hf : ∀ (i : Nat) (f : Field), fs[i]? = some f → DataW.trod enc P W 0 (fun _ => true) true n f.type ((cs.drop f.offset).take (P.cellsOf f.type)) = xs[i]?) (i : Nat) (f : Field) (h : fs[i]? = some f) :
    ∃ x, DataW.trod enc P W 0 (fun _ => true) true n f.type ((cs.drop f.offset).take (P.cellsOf f.type)) = some x := by
  have hi : i < fs.size := (Array.getElem?_eq_some_iff.1 h).1
  exact ⟨xs[i]'(by omega), by rw [hf i f h, List.getElem?_eq_getElem]⟩
theorem field_one {fs : Array Field} {n : Nat} {cs : List Value} {xs : List (DataW H × List MemPlace)} (hl : xs.length = fs.size)
    (hf : ∀ (i : Nat) (f : Field), fs[i]? = some f → DataW.trod enc P W 0 (fun _ => true) true n f.type ((cs.drop f.offset).take (P.cellsOf f.type)) = xs[i]?) (i : Nat) (f : Field) (T o : Nat) (c : Value) (r : List Value) (h : fs[i]? = some f) (hT : f.type = T) (ho : f.offset = o) (hc : P.cellsOf T = 1) (hd : cs.drop o = c :: r) :
    ∃ x, DataW.trod enc P W 0 (fun _ => true) true n T [c] = some x := by
  obtain ⟨x, hx⟩ := field_at hl hf i f h
  subst hT; subst ho
  rw [hc, hd] at hx
  exact ⟨x, hx⟩
/-- a slice of structs of texts and numbers -/
theorem open_flat {α : Type} [Inhabited α] {f : α → List Value} {k : Nat} {G : α → Prop} (hk : ∀ x, (f x).length = k) (hk0 : 0 < k) {t e : TypeId} {n : Nat} {v : Value} {x : DataW H × List MemPlace} (ht : P.underlying t = some (.slice e)) (hc : P.cellsOf e = k)
    (hel : ∀ n cs x, DataW.trod enc P W 0 (fun _ => true) true n e cs = some x → ∃ d, cs = f d ∧ G d) (h : DataW.trod enc P W 0 (fun _ => true) true n t [v] = some x) :
    ∃ l : List α, FlatAt f k W v l ∧ ∀ d ∈ l, G d := by
  rcases open_slice ht h with ⟨h0, _⟩ | ⟨a, len, cap, m, n', D, Pl, hcs, _, hl, hm, hmm, _, hx⟩
  · injection h0 with h0
    subst h0
    exact ⟨[], ⟨none, 0, rfl, by simp, Nat.zero_le _, Or.inl rfl⟩, by simp⟩
  · injection hcs with hcs
    subst hcs
    simp only [if_true] at hmm
    subst hmm
    obtain ⟨F, hF⟩ := choose_lt (α := α) (p := fun i d => (∀ j, j < k → W.cell? ((a.add (i * k)).add j) = (f d)[j]?) ∧ G d) (n := m) (fun i hi => by
      obtain ⟨cs', h1, h2⟩ := hx i hi
      obtain ⟨d, rfl, hg⟩ := hel _ _ _ h2
      rw [hc] at h1
      obtain ⟨_, _, h3⟩ := World.cells?_some h1
      exact ⟨d, h3, hg⟩)
    refine ⟨(List.range len).map F, ?_, ?_⟩
    · obtain ⟨ab, ao, spot⟩ := a
      refine ⟨some ⟨ab, ao, spot⟩, m - len, by simp; omega, by rw [flat_len f k hk, List.length_map], by simp; omega, ?_⟩
      rcases Nat.eq_zero_or_pos len with h0 | hpos
      · left; simp [h0]
      · right
        have g0 := (hF 0 (by omega)).1 0 hk0
        have hlen0 : 0 < (f (F 0)).length := by rw [hk]; exact hk0
        rw [List.getElem?_eq_getElem hlen0] at g0
        have hspot : spot = none := by
          have := World.cell?_spot g0
          simpa [Addr.add] using this
        subst hspot
        have hlt : ab < W.heap.size := by
          simp only [Addr.add_lit, Nat.zero_mul, Nat.add_zero] at g0
          exact World.block_lt_of_cell? W _ g0
        refine ⟨ab, ao, rfl, hlt, fun i hi => ?_⟩
        rw [List.length_map, List.length_range] at hi
        have hq : i / k < len := Nat.div_lt_of_lt_mul (by rw [Nat.mul_comm]; exact hi)
        have hr : i % k < k := Nat.mod_lt _ hk0
        have h1 := (hF (i / k) (by omega)).1 (i % k) hr
        rw [Addr.add_lit, Addr.add_lit] at h1
        have e1 : i / k * k + i % k = i := by rw [Nat.mul_comm]; exact Nat.div_add_mod i k
        rw [show ao + i / k * k + i % k = ao + i by omega] at h1
        rw [h1, ← e1, flat_get f k hk _ (i / k) (by simpa using hq) (i % k) hr]
        simp [e1]
    · intro d hd
      obtain ⟨i, hi, rfl⟩ := List.mem_map.1 hd
      exact (hF i (by have := List.mem_range.1 hi; omega)).2
theorem two_of {α : Type} {l : List α} (h : l.length = 2) : ∃ a b, l = [a, b] := by match l, h with | [a, b], _ => exact ⟨a, b, rfl⟩
theorem three_of {α : Type} {l : List α} (h : l.length = 3) : ∃ a b c, l = [a, b, c] := by match l, h with | [a, b, c], _ => exact ⟨a, b, c, rfl⟩
theorem four_of {α : Type} {l : List α} (h : l.length = 4) : ∃ a b c d, l = [a, b, c, d] := by match l, h with | [a, b, c, d], _ => exact ⟨a, b, c, d, rfl⟩
theorem five_of {α : Type} {l : List α} (h : l.length = 5) : ∃ a b c d e, l = [a, b, c, d, e] := by match l, h with | [a, b, c, d, e], _ => exact ⟨a, b, c, d, e, rfl⟩
end
section
variable {H : Type} {enc : TypeId × Value → H} {W : World}
set_option maxRecDepth 100000 in
theorem open_Cell {n : Nat} {cs : List Value} {x : DataW H × List MemPlace} (h : DataW.trod enc Try.prog W 0 (fun _ => true) true n 114 cs = some x) : ∃ d : CellD, cs = cCell d ∧ okCell d := by
  obtain ⟨xs, m, rfl, _, hl, hn, hf⟩ := DataW.trod_struct Try.underlying114 h
  rw [show Try.prog.cellsOf 114 = 2 by kernel_rfl] at hl
  obtain ⟨c0, c1, rfl⟩ := two_of hl
  obtain ⟨y0, k0⟩ := field_one hn hf 0 _ 9 0 _ _ rfl rfl rfl (by kernel_rfl) rfl
  obtain ⟨y1, k1⟩ := field_one hn hf 1 _ 3 1 _ _ rfl rfl rfl (by kernel_rfl) rfl
  obtain ⟨l0, rfl, b0⟩ := leaf_str Try.underlying9 k0
  obtain ⟨l1, rfl, b1⟩ := leaf_int Try.underlying3 k1
  exact ⟨⟨l0, l1⟩, rfl, b0, b1⟩
set_option maxRecDepth 100000 in
theorem openS_Cell {n : Nat} {v : Value} {x : DataW H × List MemPlace} (h : DataW.trod enc Try.prog W 0 (fun _ => true) true n 22 [v] = some x) : ∃ l : List CellD, FlatAt cCell 2 W v l ∧ ∀ d ∈ l, okCell d :=
  haveI : Inhabited CellD := ⟨⟨[], 0⟩⟩
  open_flat cCell_len (by decide) Try.underlying22 (by kernel_rfl) (fun _ _ _ h => open_Cell h) h
set_option maxRecDepth 100000 in
theorem argS_Cell {base : Nat} {v : Value} {d : DataW H} {p : List MemPlace} (hval : Value.okWide Try.prog W .any base 22 v) (h : DataW.Trod enc Try.prog W 0 (fun _ => true) true 22 v d p) : ∃ l : List CellD, FlatAt cCell 2 W v l ∧ ∀ d ∈ l, okCell d := by
  obtain ⟨a1, len, cap, rfl⟩ := okWide_slice Try.underlying22 hval
  obtain ⟨fuel, hf⟩ := h
  exact openS_Cell hf
end
end Go.Proofs.Ytmoliamenekemaa
