/- Contracts of chapter 3: the program's FormatCells. -/
import Derived.Test.YtmgfokikkhfibabCells1
import Derived.Deep.AppendLies
namespace Go.Proofs.Ytmgfokikkhfibab
set_option linter.unusedVariables false
open Go.RowKit
/-- append of one text to a row of one's own, at a step of a region that draws -/
theorem step_strs {ops : Array Oper} {o : Oper} {a : Act} {K : Act → World → Prop} {Q : Exit → Act → World → Prop} {E : Prop} (hgd : o.guard = none) (s x : Operand)
    (ho : o.op = .call { callee := .builtin .append, args := #[s, x], argTypes := #[59, 59] }) (B : Nat) (v : Value) (xs : List (List UInt8)) (y : List UInt8) (w : World) (blk : Nat)
    (hs : a.eval s = v) (hO : Owns w B v xs) (hx : a.eval x = .slice (some ⟨blk, 0, none⟩) 1 1) (hc : w.cell? ⟨blk, 0, none⟩ = some (strV y)) (hl : xs.length ≤ 4194304) (hB : B ≤ w.heap.size)
    (h : ∀ v' w', Owns w' B v' (xs ++ [y]) → w.grownBy w' v.ownBlock → K (a.put o.dst v') w') : if Region.wanted o (yielded ops a.tmps) = true then Oper.wp Try.prog o a w K Q else E := by
  obtain ⟨i0, hi, hz0, hz1, hz2⟩ := info_parts string_info
  refine step_append_lies w hgd s x 59 ho B 9 i0 (.string ⟨#[]⟩) 1 16 Try.underlying59 hi hz0 hz1 hz2 rfl (by decide) v xs.length (xs.map strV) hs hO ⟨blk, 0, none⟩ 1 1 [strV y] hx rfl ?_ ?_ (by decide) (by unfold maxLen; omega) (by omega) hB _ rfl ?_
  · intro j u hj
    cases j with
    | zero => simp at hj; subst hj; rw [Addr.add_lit]; exact hc
    | succ j => simp at hj
  · intro u hu; simp at hu; subst hu; rfl
  · intro g cap w' h1 h2 _ _
    refine h _ w' ?_ h2
    unfold Owns; rw [List.map_append, List.length_append]; exact h1
theorem owns_drew {w : World} {B : Nat} {v : Value} {xs : List (List UInt8)} (h : Owns w B v xs) : Owns w.drew B v xs := h
theorem below_drew {B : Nat} {a w : World} (h : Below B a w) : Below B a w.drew := ⟨h.os, h.tape, h.output, h.size, h.block⟩
theorem row_lit2 (w : World) (a b : List UInt8) (c : Nat) : RowAt (w.alloc (.cells #[.string ⟨a.toArray⟩, .string ⟨b.toArray⟩] 9)) (.slice (some ⟨w.heap.size, 0, none⟩) 2 c) ([a, b].map strV) := by
  refine ⟨_, c, rfl, by unfold maxLen; simp, Or.inr ⟨w.heap.size, 0, rfl, by simp, fun i hi => ?_⟩⟩
  rw [cell_of_row _ _ _ _ 9 (0, 0) (heap_alloc_new w _)]
  simp [strV]
theorem row_lit1 (w : World) (a : List UInt8) (c : Nat) : RowAt (w.alloc (.cells #[.string ⟨a.toArray⟩] 9)) (.slice (some ⟨w.heap.size, 0, none⟩) 1 c) ([a].map strV) := by
  refine ⟨_, c, rfl, by unfold maxLen; simp, Or.inr ⟨w.heap.size, 0, rfl, by simp, fun i hi => ?_⟩⟩
  rw [cell_of_row _ _ _ _ 9 (0, 0) (heap_alloc_new w _)]
  simp [strV]
theorem nameB_len8 {l : List UInt8} (h : nameB l = true) : l.length ≤ 8 := by simp only [nameB, Bool.and_eq_true, decide_eq_true_iff] at h; exact h.1.1.2
theorem cellT_len {d : CellD} (h : nameB d.fKey = true) (h2 : numB d.fValue = true) : (cellT d).length ≤ 12 := by
  obtain ⟨k, e, hk⟩ := numB_nat h2
  have h1 := nameB_len8 h
  have h3 := numL_len hk
  unfold cellT; rw [e]; simp; omega
theorem fmt_small (l : List CellD) (h : ∀ d ∈ l, nameB d.fKey = true ∧ numB d.fValue = true) (hl : l.length ≤ 4) : (joinL (l.map cellT) [44]).length ≤ 100 := by
  have h1 := joinK_len (l.map cellT) [44] (l.map cellT).length (Nat.le_refl _)
  rw [List.take_length, List.length_map] at h1
  have h2 : total (l.map cellT) ≤ 12 * l.length := by
    clear h1 hl
    induction l with
    | nil => simp [total]
    | cons a r ih =>
      have := ih fun d hd => h d (List.mem_cons_of_mem _ hd)
      have h3 := cellT_len (h a List.mem_cons_self).1 (h a List.mem_cons_self).2
      simp only [List.map_cons, total, List.length_cons]; omega
  unfold joinL; simp only [List.length_map, List.length_cons, List.length_nil] at *; omega
theorem map_cellT_snoc (l : List CellD) (k : Nat) (h : k < l.length) : (l.take (k + 1)).map cellT = (l.take k).map cellT ++ [cellT l[k]] := by
  rw [List.take_succ_eq_append_getElem h, List.map_append]; rfl
end Go.Proofs.Ytmgfokikkhfibab
