/- Lists of integers: what the laws' own helpers do with them. -/
import Derived.Test.YtmoliamenekemaaStr
namespace Go.Proofs.Ytmoliamenekemaa
set_option linter.unusedVariables false
open Go.RowKit
theorem take_eq_stepI (x y : List Int) (hl : x.length = y.length) (k : Nat) (hk : k < x.length) (h : x.take k = y.take k) : (x[k] = y[k]) → x.take (k + 1) = y.take (k + 1) := by
  intro e
  rw [List.take_succ_eq_append_getElem hk, List.take_succ_eq_append_getElem (by omega), h, e]
def intV (n : Int) : Value := .int .i64 n
theorem getElem_map_intV (l : List Int) (k : Nat) (h : k < (l.map intV).length) : (l.map intV)[k] = intV (l[k]'(by simpa using h)) := by simp
theorem int_info : (Try.prog.info? 3).map (fun i => (i.zero, i.size, i.bytes)) = some (some (.int .i64 0), 1, 8) := by kernel_rfl
/-- the slice v is a row of the call's own, of integers -/
def OwnsI (w : World) (B : Nat) (v : Value) (xs : List Int) : Prop := w.ownsRow B 3 1 v xs.length (xs.map intV)
theorem ownsI_row {w : World} {B : Nat} {v : Value} {x : List Int} (h : OwnsI w B v x) (hm : x.length ≤ 4194304) : RowAt w v (x.map intV) := ownsRow_rowAt h (by unfold maxLen; omega)
theorem ownsI_new (w : World) : OwnsI (w.alloc (.cells #[] 3)) w.heap.size (.slice (some ⟨w.heap.size, 0, none⟩) 0 0) [] :=
  World.ownsRow_made w #[] 0 (Nat.le_refl _) (Nat.zero_le _) rfl
theorem ownsI_alloc {w : World} {B : Nat} {v : Value} {xs : List Int} (h : OwnsI w B v xs) (o : Obj) : OwnsI (w.alloc o) B v xs := World.ownsRow.alloc h o
theorem ownsI_below {w w' : World} {B B' : Nat} {v : Value} {xs : List Int} (h : OwnsI w B v xs) (hb : Below B' w w') (hB : w.heap.size ≤ B') : OwnsI w' B v xs := ownsRow_below h hb hB
theorem below_appendI {a w w' : World} {B : Nat} {v : Value} {xs : List Int} (hb : Below B a w) (hO : OwnsI w B v xs) (hg : w.grownBy w' v.ownBlock) (hB : B ≤ w.heap.size) : Below B a w' :=
  hb.grown hg hB (fun k hk => (World.ownsRow.lt hO k hk).1)
/-- a new row of integers -/
def GivesRowI (x : List Int) (w : World) (e : Ending) (w' : World) : Prop := ∃ v, e = .returned v ∧ OwnsI w' w.heap.size v x ∧ Below w.heap.size w w'
theorem append_ints {ops : Array Oper} {rest : List Oper} {o : Oper} {a : Act} {Q : Exit → Act → World → Prop} (hgd : o.guard = none) (s x : Operand)
    (ho : o.op = .call { callee := .builtin .append, args := #[s, x], argTypes := #[107, 107] }) (B : Nat) (v : Value) (xs : List Int) (y : Int) (w : World) (blk : Nat)
    (hs : a.eval s = v) (hO : OwnsI w B v xs) (hx : a.eval x = .slice (some ⟨blk, 0, none⟩) 1 1) (hc : w.cell? ⟨blk, 0, none⟩ = some (intV y)) (hl : xs.length ≤ 4194304) (hB : B ≤ w.heap.size)
    (h : ∀ v' w', OwnsI w' B v' (xs ++ [y]) → w.grownBy w' v.ownBlock → wpList Try.prog ops Q rest (a.put o.dst v') w') : wpList Try.prog ops Q (o :: rest) a w := by
  obtain ⟨i0, hi, hz0, hz1, hz2⟩ := info_parts int_info
  refine wpList_append_own _ hgd s x 107 ho B 3 i0 (.int .i64 0) 1 8 Try.underlying107 hi hz0 hz1 hz2 rfl (by decide) v xs.length (xs.map intV) hs hO ⟨blk, 0, none⟩ 1 1 [intV y] hx rfl ?_ ?_ (by unfold maxLen; omega) (by omega) hB ?_
  · intro j u hj
    cases j with
    | zero => simp at hj; subst hj; rw [Addr.add_lit]; exact hc
    | succ j => simp at hj
  · intro u hu; simp at hu; subst hu; rfl
  · intro v' w' h1 h2 _
    refine h v' w' ?_ h2
    unfold OwnsI; rw [List.map_append, List.length_append]; exact h1
/-- the marks from k on, n of them -/
def marksI (k : Int) (n : Nat) : List Int := (List.range n).map fun i : Nat => k + i
theorem marksI_len (k : Int) (n : Nat) : (marksI k n).length = n := by simp [marksI]
theorem marksI_get (k : Int) (n i : Nat) (h : i < n) : (marksI k n)[i]'(by rw [marksI_len]; exact h) = k + i := by simp [marksI]
end Go.Proofs.Ytmoliamenekemaa
