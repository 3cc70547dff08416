/- Cells, plain: which lists are cells. -/
import Derived.Test.YtmoliamenekemaaTCell
import Derived.Test.YtmoliamenekemaaL01b
namespace Go.Proofs.Ytmoliamenekemaa
set_option linter.unusedVariables false
open Go.RowKit
instance : Inhabited CellD := ⟨⟨[], 0⟩⟩
def numB (n : Int) : Bool := decide (0 ≤ n) && decide (n ≤ 999)
def okAt (l : List CellD) (i : Nat) : Bool := nameB (l.getD i default).fKey && numB (l.getD i default).fValue && (decide (i = 0) || Op.bytesLess (l.getD (i - 1) default).fKey (l.getD i default).fKey)
def okTo (l : List CellD) (k : Nat) : Bool := (List.range k).all (okAt l)
def cellsB (l : List CellD) : Bool := decide (l.length ≤ 4) && okTo l l.length
theorem okTo_zero (l : List CellD) : okTo l 0 = true := rfl
theorem okTo_succ (l : List CellD) (k : Nat) : okTo l (k + 1) = (okTo l k && okAt l k) := by simp [okTo, List.range_succ]
theorem okTo_le (l : List CellD) (k m : Nat) (h : k ≤ m) (hm : okTo l m = true) : okTo l k = true := by
  unfold okTo at *
  rw [List.all_eq_true] at *
  intro i hi
  exact hm i (by rw [List.mem_range] at *; omega)
theorem okTo_at (l : List CellD) (k i : Nat) (h : okTo l k = true) (hi : i < k) : okAt l i = true := by
  unfold okTo at h; rw [List.all_eq_true] at h; exact h i (by rw [List.mem_range]; exact hi)
theorem cellsB_bad (l : List CellD) (k : Nat) (hk : k < l.length) (h : okAt l k = false) : cellsB l = false := by
  cases hc : cellsB l with
  | false => rfl
  | true =>
    simp only [cellsB, Bool.and_eq_true] at hc
    rw [okTo_at l _ k hc.2 hk] at h; exact absurd h (by simp)
theorem cellsB_long (l : List CellD) (h : 4 < l.length) : cellsB l = false := by unfold cellsB; rw [show decide (l.length ≤ 4) = false by simpa using h]; rfl
theorem cellsB_end (l : List CellD) (h : okTo l l.length = true) : cellsB l = decide (l.length ≤ 4) := by unfold cellsB; rw [h, Bool.and_true]
theorem cellsB_len {l : List CellD} (h : cellsB l = true) : l.length ≤ 4 := by simp only [cellsB, Bool.and_eq_true, decide_eq_true_iff] at h; exact h.1
theorem cellsB_mem {l : List CellD} (h : cellsB l = true) : ∀ d ∈ l, nameB d.fKey = true ∧ numB d.fValue = true := by
  intro d hd
  obtain ⟨i, hi, rfl⟩ := List.mem_iff_getElem.1 hd
  simp only [cellsB, Bool.and_eq_true] at h
  have := okTo_at l _ i h.2 hi
  simp only [okAt, Bool.and_eq_true] at this
  rw [List.getD_eq_getElem?_getD, List.getElem?_eq_getElem hi] at this
  exact this.1
theorem getD_at (l : List CellD) (i : Nat) (h : i < l.length) : l.getD i default = l[i] := by rw [List.getD_eq_getElem?_getD, List.getElem?_eq_getElem h]; rfl
theorem okAt_of (l : List CellD) (i : Nat) (h : i < l.length) (x y z : Bool) (hx : nameB (l[i]).fKey = x) (hy : numB (l[i]).fValue = y) (hz : (decide (i = 0) || Op.bytesLess (l.getD (i - 1) default).fKey (l[i]).fKey) = z) : okAt l i = (x && y && z) := by
  unfold okAt; rw [getD_at l i h, hx, hy, hz]
/-- a cell as a text -/
theorem cell_info : (Try.prog.info? 115).map (fun i => (i.zero, i.size, i.bytes)) = some (some (.agg #[.string ⟨#[]⟩, .int .i64 0]), 2, 24) := by kernel_rfl
theorem cell_newC (w : World) (y : CellD) (blk : Nat) (h : blk = w.heap.size) : ∀ j, j < 2 → (w.alloc (.cells #[.string ⟨y.fKey.toArray⟩, .int .i64 y.fValue] 115)).cell? ⟨blk, j, none⟩ = (cCell y)[j]? := by
  subst h
  intro j hj
  rw [cell_of_row _ _ _ _ 115 (0, 0) (heap_alloc_new w _)]
  simp [cCell]
end Go.Proofs.Ytmoliamenekemaa
