/- Arguments opened: slices of structs that hold rows themselves. -/
import Derived.Test.YtmoliamenekemaaRep
import Derived.Test.YtmoliamenekemaaOpen
namespace Go.Proofs.Ytmoliamenekemaa
set_option linter.unusedVariables false
open Go.ChangeShapes Go.WideShapes Go.ChangeAt Go.RowKit Go.WideMaps Go.WideElems
open Go.Deep
section
variable {H : Type} {enc : TypeId × Value → H} {P : Program} {W : World}
theorem open_deep {α : Type} [Inhabited α] {R : Nat → World → List Value → α → Prop} {k : Nat} {G : α → Prop} (hg : Good R k) (hk0 : 0 < k) {t e : TypeId} {n : Nat} {v : Value} {x : DataW H × List MemPlace} (ht : P.underlying t = some (.slice e)) (hc : P.cellsOf e = k)
    (hel : ∀ n cs x, DataW.trod enc P W 0 (fun _ => true) true n e cs = some x → ∃ d, R 0 W cs d ∧ G d) (h : DataW.trod enc P W 0 (fun _ => true) true n t [v] = some x) :
    ∃ l : List α, SliceAt R k 0 W v l ∧ ∀ d ∈ l, G d := by
  rcases open_slice ht h with ⟨h0, _⟩ | ⟨a, len, cap, m, n', D, Pl, hcs, _, hl, hm, hmm, _, hx⟩
  · injection h0 with h0
    subst h0
    exact ⟨[], sliceAt_nil _ _, by simp⟩
  · injection hcs with hcs
    subst hcs
    simp only [if_true] at hmm
    subst hmm
    obtain ⟨F, hF⟩ := choose_lt (α := α) (p := fun i d => (∃ cs, R 0 W cs d ∧ ∀ j, j < k → W.cell? ((a.add (i * k)).add j) = cs[j]?) ∧ G d) (n := m) (fun i hi => by
      obtain ⟨cs', h1, h2⟩ := hx i hi
      obtain ⟨d, hr, hg2⟩ := hel _ _ _ h2
      rw [hc] at h1
      obtain ⟨_, _, h3⟩ := World.cells?_some h1
      exact ⟨d, ⟨cs', hr, h3⟩, hg2⟩)
    refine ⟨(List.range len).map F, ?_, ?_⟩
    · obtain ⟨ab, ao, spot⟩ := a
      refine ⟨some ⟨ab, ao, spot⟩, m - len, by simp; omega, by simp; omega, ?_⟩
      rcases Nat.eq_zero_or_pos len with h0 | hpos
      · left; simp [h0]
      · right
        obtain ⟨cs0, r0, g0⟩ := (hF 0 (by omega)).1
        have g0 := g0 0 hk0
        have hlen0 : 0 < cs0.length := by rw [hg.len r0]; exact hk0
        rw [List.getElem?_eq_getElem hlen0] at g0
        have hspot : spot = none := by
          have := World.cell?_spot g0
          simpa [Addr.add] using this
        subst hspot
        have hlt : ab < W.heap.size := by
          simp only [Addr.add_lit, Nat.zero_mul, Nat.add_zero] at g0
          exact World.block_lt_of_cell? W _ g0
        refine ⟨ab, ao, rfl, Nat.zero_le _, hlt, fun i hi => ?_⟩
        have hi2 : i < len := by simpa using hi
        obtain ⟨cs, r1, g1⟩ := (hF i (by omega)).1
        refine ⟨cs, by simpa using r1, fun j hj => ?_⟩
        have h2 := g1 j hj
        rw [Addr.add_lit, Addr.add_lit] at h2
        exact h2
    · intro d hd
      obtain ⟨i, hi, rfl⟩ := List.mem_map.1 hd
      exact (hF i (by have := List.mem_range.1 hi; omega)).2
end
end Go.Proofs.Ytmoliamenekemaa
