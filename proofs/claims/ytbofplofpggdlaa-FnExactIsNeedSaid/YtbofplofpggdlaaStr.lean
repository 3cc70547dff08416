/- Lists of texts: what the laws' own helpers do with them. -/
import Derived.Test.YtbofplofpggdlaaLaw
import Derived.WalkSpells
import Derived.WalkLawsBesides
import Derived.Lib.Hide
import Derived.Lib.Bytes
import Derived.Deep.QuietTactic
import Derived.BigQuiet
import Derived.Deep.RegionHeld3
import Derived.Test.YtbofplofpggdlaaL01b
import Derived.OwnWalk
import Derived.Laws.OwnMore
namespace Go.Proofs.Ytbofplofpggdlaa
set_option linter.unusedVariables false
open Go.RowKit

theorem rowAt_cell {w : World} {a : Option Addr} {n c : Nat} {xs : List Value} (h : RowAt w (.slice a n c) xs) (k : Nat) (hk : k < xs.length) : ∃ b o, a = some ⟨b, o, none⟩ ∧ b < w.heap.size ∧ w.cell? ⟨b, o + k, none⟩ = some (xs[k]'hk) := by
  obtain ⟨a', c', e, hl, h⟩ := h
  injection e with e1 e2 e3
  subst e1
  rcases h with rfl | ⟨b, o, rfl, hlt, hc⟩
  · simp at hk
  · exact ⟨b, o, rfl, hlt, by rw [hc k hk]; exact List.getElem?_eq_getElem hk⟩
theorem rowAt_len {w : World} {v : Value} {xs : List Value} (h : RowAt w v xs) : ∃ a c, v = .slice a xs.length c ∧ xs.length ≤ maxLen := by
  obtain ⟨a, c, rfl, hl, _⟩ := h; exact ⟨a, c, rfl, hl⟩
theorem rowAt_cellS {w : World} {b o n c : Nat} {xs : List Value} (h : RowAt w (.slice (some ⟨b, o, none⟩) n c) xs) (k : Nat) (hk : k < xs.length) : w.cell? ⟨b, o + k, none⟩ = some (xs[k]'hk) := by
  obtain ⟨b', o', e, _, h⟩ := rowAt_cell h k hk
  injection e with e
  injection e with e1 e2
  subst e1; subst e2; exact h
theorem rowAt_drewN {w : World} {v : Value} {xs : List Value} (h : RowAt w v xs) (n : Nat) : RowAt (w.drewN n) v xs := h
theorem below_drewN {B : Nat} {a w : World} (h : Below B a w) (n : Nat) : Below B a (w.drewN n) := ⟨h.os, h.tape, h.output, h.size, h.block⟩
theorem getElem_map_strV (l : List (List UInt8)) (k : Nat) (h : k < (l.map strV).length) : (l.map strV)[k] = strV (l[k]'(by simpa using h)) := by simp
theorem take_eq_step {α : Type} [DecidableEq α] (x y : List α) (hl : x.length = y.length) (k : Nat) (hk : k < x.length) (h : x.take k = y.take k) : (x[k] = y[k]'(by omega)) → x.take (k + 1) = y.take (k + 1) := by
  intro e
  rw [List.take_succ_eq_append_getElem hk, List.take_succ_eq_append_getElem (by omega), h, e]
def total : List (List UInt8) → Nat
  | [] => 0
  | x :: r => x.length + total r
theorem total_take_succ (x : List (List UInt8)) (k : Nat) (h : k < x.length) : total (x.take (k + 1)) = total (x.take k) + (x[k]).length := by
  induction x generalizing k with
  | nil => simp at h
  | cons a r ih =>
    cases k with
    | zero => simp [total]
    | succ k =>
      have := ih k (by simpa using h)
      simp only [List.take_succ_cons, total, List.getElem_cons_succ, this]; omega
theorem size_strB (l : List UInt8) : (⟨l.toArray⟩ : ByteArray).size = l.length := by simp [ByteArray.size]
def SzPost (x : List (List UInt8)) (left : Int) (w : World) (e : Ending) (w' : World) : Prop := ∃ r : Int, e = .returned (.int .i64 r) ∧ -1 ≤ r ∧ (0 ≤ r → (x.length : Int) + total x + r = left) ∧ w = w'
theorem string_cells : Try.prog.cellsOf 9 = 1 := by kernel_rfl
theorem string_info : (Try.prog.info? 9).map (fun i => (i.zero, i.size, i.bytes)) = some (some (.string ⟨#[]⟩), 1, 16) := by kernel_rfl
theorem take_set_succ {α : Type} (xs ys : List α) (k : Nat) (h : k < xs.length) (hy : k < ys.length) (ht : xs.take k = ys.take k) : (xs.set k (ys[k])).take (k + 1) = ys.take (k + 1) := by
  rw [List.take_succ_eq_append_getElem (by simpa using h), List.take_succ_eq_append_getElem hy]
  rw [List.take_set_of_le (by omega), ht]; simp
/-- the slice v is a row of the call's own, of texts -/
def Owns (w : World) (B : Nat) (v : Value) (xs : List (List UInt8)) : Prop := w.ownsRow B 9 1 v xs.length (xs.map strV)
theorem ownsRow_below {w w' : World} {B B' : Nat} {e : TypeId} {size n : Nat} {v : Value} {xs : List Value} (h : w.ownsRow B e size v n xs) (hb : Below B' w w') (hB : w.heap.size ≤ B') : w'.ownsRow B e size v n xs :=
  h.kept (row := none) ⟨hb.os, hb.tape, hb.output, hb.size, fun i hi _ => hb.block i (Nat.lt_of_lt_of_le hi hB)⟩ (by cases v.ownBlock <;> simp)
theorem ownsRow_rowAt {w : World} {B : Nat} {e : TypeId} {n : Nat} {v : Value} {xs : List Value} (h : w.ownsRow B e 1 v n xs) (hm : n ≤ maxLen) : RowAt w v xs := by
  have hl : xs.length = n := by simpa using h.1
  rcases h.2 with ⟨rfl, rfl⟩ | ⟨g, cap, cur, rfl, hb, hg, hn, hc, hs, ht⟩
  · have : xs = [] := List.eq_nil_of_length_eq_zero hl
    subst this
    exact ⟨none, 0, rfl, Nat.zero_le _, Or.inl rfl⟩
  · subst hl
    refine ⟨_, cap, rfl, hm, Or.inr ⟨g, 0, rfl, (Array.getElem?_eq_some_iff.1 hg).1, fun i hi => ?_⟩⟩
    rw [Nat.zero_add]
    exact World.ownsRow.cellAt h i (by simpa using hi)
/-- the digits of a number, none for 0 -/
def dg0 (m : Nat) : List UInt8 := if m = 0 then [] else digs 20 m
theorem dg0_step (m : Nat) (h0 : 0 < m) (h1 : m ≤ 9223372036854775807) : dg0 m = dg0 (m / 10) ++ [UInt8.ofNat (48 + m % 10)] := by
  have e : dg0 m = digs 20 m := by simp [dg0, show m ≠ 0 from by omega]
  rw [e]
  by_cases h : m < 10
  · have e2 : dg0 (m / 10) = [] := by simp [dg0]; omega
    rw [e2, digs_small 19 m h, show m % 10 = m from by omega]; rfl
  · have e2 : dg0 (m / 10) = digs 20 (m / 10) := by simp [dg0]; omega
    rw [e2, digs_big 19 m (by omega), digs_more 18 19 (m / 10) (by omega) (by omega)]
theorem add48 (x : Nat) : (48 : UInt8) + UInt8.ofNat x = UInt8.ofNat (48 + x) := by rw [UInt8.ofNat_add]; rfl
theorem app_one (a : UInt8) (l : List UInt8) : Value.string (({ data := #[a] } : ByteArray) ++ { data := l.toArray }) = .string { data := (a :: l).toArray } := by
  congr 1
def markL (k : Int) : List UInt8 := 109 :: dg0 k.toNat
theorem dg0_len (m : Nat) : (dg0 m).length ≤ 20 := by
  unfold dg0; split
  · simp
  · exact digs_len 20 m
/-- the marks from k on, n of them -/
def marks (k : Int) (n : Nat) : List (List UInt8) := (List.range n).map fun i : Nat => markL (k + i)
theorem marks_len (k : Int) (n : Nat) : (marks k n).length = n := by simp [marks]
theorem marks_get (k : Int) (n i : Nat) (h : i < n) : (marks k n)[i]'(by rw [marks_len]; exact h) = markL (k + i) := by simp [marks]
theorem markL_len (k : Int) : (markL k).length ≤ 21 := by unfold markL; have := dg0_len k.toNat; simp; omega
theorem grownBy_refl (w : World) (r : Option Nat) : w.grownBy w r := ⟨rfl, rfl, rfl, Nat.le_refl _, fun _ _ _ => rfl⟩
theorem grownBy_trans {a b c : World} {r : Option Nat} (h : a.grownBy b r) (k : b.grownBy c r) : a.grownBy c r :=
  ⟨k.os.trans h.os, k.tape.trans h.tape, k.output.trans h.output, Nat.le_trans h.size k.size, fun i hi hr => (k.block i (Nat.lt_of_lt_of_le hi h.size) hr).trans (h.block i hi hr)⟩
theorem grownBy_below {a b c : World} {B : Nat} {r : Option Nat} (h : a.grownBy b r) (k : Below B b c) (hB : a.heap.size ≤ B) : a.grownBy c r :=
  ⟨k.os.trans h.os, k.tape.trans h.tape, k.output.trans h.output, Nat.le_trans h.size k.size, fun i hi hr => (k.block i (Nat.lt_of_lt_of_le hi hB)).trans (h.block i hi hr)⟩
theorem owns_new (w : World) : Owns (w.alloc (.cells #[] 9)) w.heap.size (.slice (some ⟨w.heap.size, 0, none⟩) 0 0) [] :=
  World.ownsRow_made w #[] 0 (Nat.le_refl _) (Nat.zero_le _) rfl
theorem cell_new (w : World) (t : TypeId) (y : Value) : (w.alloc (.cells #[y] t)).cell? ⟨w.heap.size, 0, none⟩ = some y :=
  (cell_of_row _ _ 0 _ t (0, 0) (heap_alloc_new w _)).trans rfl
theorem cell_newS (w : World) (t : TypeId) (s : ByteArray) (blk : Nat) (h : blk = w.heap.size) : (w.alloc (.cells #[.string s] t)).cell? ⟨blk, 0, none⟩ = some (strV s.data.toList) := by
  subst h; rw [cell_new]; simp [strV]
theorem owns_alloc {w : World} {B : Nat} {v : Value} {xs : List (List UInt8)} (h : Owns w B v xs) (o : Obj) : Owns (w.alloc o) B v xs := World.ownsRow.alloc h o
theorem owns_below {w w' : World} {B B' : Nat} {v : Value} {xs : List (List UInt8)} (h : Owns w B v xs) (hb : Below B' w w') (hB : w.heap.size ≤ B') : Owns w' B v xs := ownsRow_below h hb hB
/-- what an append left: nothing below B has turned -/
theorem below_append {a w w' : World} {B : Nat} {v : Value} {xs : List (List UInt8)} (hb : Below B a w) (hO : Owns w B v xs) (hg : w.grownBy w' v.ownBlock) (hB : B ≤ w.heap.size) : Below B a w' :=
  hb.grown hg hB (fun k hk => (World.ownsRow.lt hO k hk).1)
/-- a new row of texts -/
def GivesRow (x : List (List UInt8)) (w : World) (e : Ending) (w' : World) : Prop := ∃ v, e = .returned v ∧ Owns w' w.heap.size v x ∧ Below w.heap.size w w'
theorem owns_row {w : World} {B : Nat} {v : Value} {x : List (List UInt8)} (h : Owns w B v x) (hm : x.length ≤ 4194304) : RowAt w v (x.map strV) := ownsRow_rowAt h (by unfold maxLen; omega)
end Go.Proofs.Ytbofplofpggdlaa
