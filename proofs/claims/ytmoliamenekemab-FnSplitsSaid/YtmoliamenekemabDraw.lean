/- The draws' cursor: what its functions leave. -/
import Derived.Test.YtmoliamenekemabLaw
import Derived.WalkSpells
import Derived.WalkLawsBesides
import Derived.Lib.Hide
import Derived.Lib.Bytes
import Derived.Deep.QuietTactic
import Derived.BigQuiet
import Derived.Laws.OwnMore
import Derived.Deep.Draws
import Derived.Laws.Rows
import Derived.OwnWalk
import Derived.Deep.OwnRows
namespace Go.Proofs.Ytmoliamenekemab
set_option linter.unusedVariables false
open Go.RowKit

theorem and255 (n : Int) : bits .and .i64 n 255 = n % 256 := by
  have h255 : (BitVec.ofInt 64 255).toNat = 2 ^ 8 - 1 := by decide
  have key : (BitVec.ofInt 64 n &&& BitVec.ofInt 64 255).toNat = (n % ((2 ^ 64 : Nat) : Int)).toNat % 2 ^ 8 := by
    rw [BitVec.toNat_and, BitVec.toNat_ofInt, h255, Nat.and_two_pow_sub_one_eq_mod]
  show IntKind.i64.wrap ((BitVec.ofInt 64 n &&& BitVec.ofInt 64 255).toNat : Nat) = n % 256
  rw [key, IntKind.wrap_i64]
  omega

/-- block b holds the three cells and no more -/
def Three (w : World) (b : Nat) (t : TypeId) (x y z : Value) : Prop := w.heap[b]? = some (.cells #[x, y, z] t (0, 0))
theorem Three.lt {w : World} {b : Nat} {t : TypeId} {x y z : Value} (h : Three w b t x y z) : b < w.heap.size := by
  rcases Nat.lt_or_ge b w.heap.size with hlt | hge
  · exact hlt
  · unfold Three at h; rw [Array.getElem?_eq_none hge] at h; cases h
theorem Three.cell {w : World} {b : Nat} {t : TypeId} {x y z : Value} (h : Three w b t x y z) : w.cell? ⟨b, 0, none⟩ = some x ∧ w.cell? ⟨b, 1, none⟩ = some y ∧ w.cell? ⟨b, 2, none⟩ = some z := by
  refine ⟨(cell_of_row w b 0 _ t (0, 0) h).trans rfl, (cell_of_row w b 1 _ t (0, 0) h).trans rfl, (cell_of_row w b 2 _ t (0, 0) h).trans rfl⟩
theorem Three.free {w : World} {b : Nat} {t : TypeId} {x y z : Value} (h : Three w b t x y z) (i : Nat) : w.frozen? ⟨b, i, none⟩ = false := by
  unfold Three at h; simp [World.frozen?, h]
theorem Three.set1 {w : World} {b : Nat} {t : TypeId} {x y z : Value} (h : Three w b t x y z) (u : Value) : Three (w.setCell ⟨b, 1, none⟩ u) b t x u z := by
  unfold Three at h ⊢; simp [World.setCell, Array.getElem?_modify, h]
theorem Three.set2 {w : World} {b : Nat} {t : TypeId} {x y z : Value} (h : Three w b t x y z) (u : Value) : Three (w.setCell ⟨b, 2, none⟩ u) b t x y u := by
  unfold Three at h ⊢; simp [World.setCell, Array.getElem?_modify, h]
theorem Three.grown {w w' : World} {b c : Nat} {t : TypeId} {x y z : Value} (h : Three w b t x y z) (hg : w.grownBy w' (some c)) (hne : b ≠ c) : Three w' b t x y z :=
  (hg.block b h.lt (fun e => hne (by injection e))).trans h

theorem grown_refl (w : World) (r : Option Nat) : w.grownBy w r := ⟨rfl, rfl, rfl, Nat.le_refl _, fun _ _ _ => rfl⟩
theorem grown_trans {a b c : World} {r : Option Nat} (h : a.grownBy b r) (k : b.grownBy c r) : a.grownBy c r :=
  ⟨k.os.trans h.os, k.tape.trans h.tape, k.output.trans h.output, Nat.le_trans h.size k.size, fun i hi hr => (k.block i (Nat.lt_of_lt_of_le hi h.size) hr).trans (h.block i hi hr)⟩
theorem grown_drewN {a w : World} {r : Option Nat} (h : a.grownBy w r) (n : Nat) : a.grownBy (w.drewN n) r := ⟨h.os, h.tape, h.output, h.size, h.block⟩
theorem grown_set {a w : World} {g : Nat} (h : a.grownBy w (some g)) (i : Nat) (u : Value) : a.grownBy (w.setCell ⟨g, i, none⟩ u) (some g) :=
  ⟨h.os, h.tape, h.output, by simpa [World.setCell] using h.size, fun j hj hne => (Below.heap_setCell w ⟨g, i, none⟩ u j (by rintro rfl; exact hne rfl)).trans (h.block j hj hne)⟩
theorem grown_alloc {a w : World} {r : Option Nat} (h : a.grownBy w r) (o : Obj) : a.grownBy (w.alloc o) r :=
  ⟨h.os, h.tape, h.output, Nat.le_trans h.size (by simp), fun i hi hne => (Below.heap_alloc w o i (Nat.lt_of_lt_of_le hi h.size)).trans (h.block i hi hne)⟩
theorem grown_below {a w w' : World} {B : Nat} {r : Option Nat} (h : a.grownBy w r) (k : Below B w w') (hB : a.heap.size ≤ B) : a.grownBy w' r :=
  ⟨k.os.trans h.os, k.tape.trans h.tape, k.output.trans h.output, Nat.le_trans h.size k.size, fun i hi hr => (k.block i (Nat.lt_of_lt_of_le hi hB)).trans (h.block i hi hr)⟩
theorem below_grown {a b c : World} {B g : Nat} (h : Below B a b) (k : b.grownBy c (some g)) (hB : B ≤ g) (hs : B ≤ b.heap.size) : Below B a c :=
  ⟨k.os.trans h.os, k.tape.trans h.tape, k.output.trans h.output, Nat.le_trans h.size k.size, fun i hi => (k.block i (Nat.lt_of_lt_of_le hi hs) (fun e => by injection e; omega)).trans (h.block i hi)⟩

/-- block b is a cursor over the slice v of the bytes l, which lies in a block below b -/
def Cur (w : World) (b : Nat) (v : Value) (l : List UInt8) : Prop :=
  ∃ i : Nat, ∃ h : Int, Three w b 106 v (.int .i64 i) (.int .i64 h) ∧ i ≤ l.length ∧ l.length ≤ maxLen ∧
    ∃ a c, v = .slice a l.length c ∧ (l = [] ∨ ∃ cb o, a = some ⟨cb, o, none⟩ ∧ cb < b ∧ ∀ j, j < l.length → w.cell? ⟨cb, o + j, none⟩ = (Lib.byteCells l)[j]?)
theorem Cur.lt {w : World} {b : Nat} {v : Value} {l : List UInt8} (h : Cur w b v l) : b < w.heap.size := by
  obtain ⟨i, h, hT, _⟩ := h; exact hT.lt
/-- a number that was drawn -/
def DrawnInt (Q : Int → Prop) (b : Nat) (v : Value) (l : List UInt8) (w : World) (e : Ending) (w' : World) : Prop := ∃ x : Int, e = .returned (.int .i64 x) ∧ Q x ∧ w.grownBy w' (some b) ∧ Cur w' b v l
def DrawnBool (b : Nat) (v : Value) (l : List UInt8) (w : World) (e : Ending) (w' : World) : Prop := ∃ x : Bool, e = .returned (.bool x) ∧ w.grownBy w' (some b) ∧ Cur w' b v l
/-- what keeps the blocks below b, and b's own three cells up to the two numbers, keeps the cursor -/
theorem Cur.kept {w w' : World} {b : Nat} {v : Value} {l : List UInt8} (hC : Cur w b v l) {i : Nat} {h : Int} (hT : Three w' b 106 v (.int .i64 i) (.int .i64 h)) (hi : i ≤ l.length) (hg : w.grownBy w' (some b)) : Cur w' b v l := by
  obtain ⟨i0, h0, hT0, _, hl, a, c, rfl, hr⟩ := hC
  refine ⟨i, h, hT, hi, hl, a, c, rfl, hr.imp id ?_⟩
  rintro ⟨cb, o, rfl, hlt, hc⟩
  have hb := hT0.lt
  exact ⟨cb, o, rfl, hlt, fun j hj => (World.cell?_of_block (a := ⟨cb, o + j, none⟩) (hg.block cb (by omega) (fun e => by injection e; omega))).trans (hc j hj)⟩
theorem Cur.far {w w' : World} {b g : Nat} {v : Value} {l : List UInt8} (hC : Cur w b v l) (hg : w.grownBy w' (some g)) (hb : b < g) : Cur w' b v l := by
  obtain ⟨i, h, hT, hi, hl, a, c, rfl, hr⟩ := hC
  refine ⟨i, h, hT.grown hg (by omega), hi, hl, a, c, rfl, hr.imp id ?_⟩
  rintro ⟨cb, o, rfl, hlt, hc⟩
  have hb := hT.lt
  exact ⟨cb, o, rfl, hlt, fun j hj => (World.cell?_of_block (a := ⟨cb, o + j, none⟩) (hg.block cb (by omega) (fun e => by injection e; omega))).trans (hc j hj)⟩
theorem Cur.below {w w' : World} {b B : Nat} {v : Value} {l : List UInt8} (hC : Cur w b v l) (hg : Below B w w') (hb : b < B) : Cur w' b v l := by
  obtain ⟨i, h, hT, hi, hl, a, c, rfl, hr⟩ := hC
  refine ⟨i, h, (hg.block b hb).trans hT, hi, hl, a, c, rfl, hr.imp id ?_⟩
  rintro ⟨cb, o, rfl, hlt, hc⟩
  exact ⟨cb, o, rfl, hlt, fun j hj => (hg.cell (p := ⟨cb, o + j, none⟩) (by show cb < B; omega)).trans (hc j hj)⟩
theorem cur_alloc {w : World} {b : Nat} {v : Value} {l : List UInt8} (hC : Cur w b v l) (o : Obj) : Cur (w.alloc o) b v l :=
  hC.below (B := w.heap.size) ((Below.refl _ _).alloc (Nat.le_refl _) _) hC.lt
theorem mod_le (x m : Int) (h0 : 0 ≤ x) (h : 0 < m) : x % m ≤ x := by
  have h1 := Int.ediv_nonneg h0 (show 0 ≤ m by omega)
  have h2 := Int.emod_add_mul_ediv x m
  have h3 := Int.mul_nonneg (show 0 ≤ m by omega) h1
  omega
theorem mod_bd (x m : Int) (h : 0 < m) : 0 ≤ x % m ∧ x % m ≤ m - 1 := ⟨Int.emod_nonneg _ (by omega), by have := Int.emod_lt_of_pos x h; omega⟩
set_option maxHeartbeats 400000 in
theorem l1Byte_end (b : Nat) (a : Option Addr) (n c : Nat) (l : List UInt8) (w : World) (i : Nat) (h : Int) (hT : Three w b 106 (.slice a n c) (.int .i64 i) (.int .i64 h)) (hC : Hid (Cur w b (.slice a n c) l)) (hl : Hid (i ≤ l.length)) (hn : n ≤ 9223372036854775807) (hi : n ≤ i) (hi2 : i ≤ 9223372036854775807) :
    Calls Try.prog 99 #[.pointer (some ⟨b, 0, none⟩)] w fun e w' => DrawnInt (fun x => 0 ≤ x ∧ x ≤ 255) b (.slice a n c) l w e w' := by
  obtain ⟨c0, c1, c2⟩ := hT.cell
  have f2 := hT.free 2
  have HT := Lib.hid hT
  clear hT
  go_enter Try.func99, Try.ntmps99
  go_wp2
  generalize wrap64 (wrap64 (h * 6364136223846793005) + 1442695040888963407) = h'
  go_quiet (fail)
  go_wp2
  go_quiet (fail)
  go_wp2
  go_ret
  have hg := grown_set (grown_refl w (some b)) 2 (.int .i64 h')
  have hg2 := hC.out.kept (HT.out.set2 (.int .i64 h')) hl.out hg
  refine ⟨_, rfl, ?_, grown_drewN (grown_drewN hg _) _, hg2⟩
  rw [and255]; have := mod_bd (bits BinOp.xor IntKind.i64 (h' / 34359738368) (h' / 35184372088832)) 256 (by omega); omega
set_option maxHeartbeats 400000 in
theorem l1Byte_in (b cb o : Nat) (n c : Nat) (l : List UInt8) (i : Nat) (h x0 : Int) (w : World) (hT : Three w b 106 (.slice (some ⟨cb, o, none⟩) n c) (.int .i64 i) (.int .i64 h)) (hC : Hid (Cur w b (.slice (some ⟨cb, o, none⟩) n c) l)) (hl : Hid (i + 1 ≤ l.length))
    (hn : n ≤ 9223372036854775807) (hi : i < n) (hcb : cb ≠ b) (cc : w.cell? ⟨cb, o + i, none⟩ = some (.int .u8 x0)) (hx0 : 0 ≤ x0) (hx1 : x0 ≤ 255) :
    Calls Try.prog 99 #[.pointer (some ⟨b, 0, none⟩)] w fun e w' => DrawnInt (fun x => 0 ≤ x ∧ x ≤ 255) b (.slice (some ⟨cb, o, none⟩) n c) l w e w' := by
  obtain ⟨c0, c1, c2⟩ := hT.cell
  have f1 := hT.free 1
  have f2 := hT.free 2
  have HT := Lib.hid hT
  clear hT
  go_enter Try.func99, Try.ntmps99
  go_wp2
  generalize wrap64 (wrap64 (h * 6364136223846793005) + 1442695040888963407) = h'
  go_quiet (fail)
  go_wp2
  go_quiet (fail)
  go_wp2
  go_quiet (fail)
  go_wp2
  go_ret
  have hg := grown_set (grown_set (grown_refl w (some b)) 2 (.int .i64 h')) 1 (.int .i64 (i + 1 : Nat))
  have hg2 := hC.out.kept ((HT.out.set2 (.int .i64 h')).set1 (.int .i64 (i + 1 : Nat))) hl.out hg
  rw [show ((i : Int) + 1) = ((i + 1 : Nat) : Int) from rfl]
  refine ⟨_, rfl, ?_, ?_, ?_⟩
  · rw [and255]
    generalize wrap64 _ = y
    have := mod_bd y 256 (by omega)
    omega
  · exact ⟨hg.os, hg.tape, hg.output, hg.size, hg.block⟩
  · exact hg2
theorem l1Byte_any (b : Nat) (v : Value) (l : List UInt8) (w : World) (hC : Cur w b v l) :
    Calls Try.prog 99 #[.pointer (some ⟨b, 0, none⟩)] w fun e w' => DrawnInt (fun x => 0 ≤ x ∧ x ≤ 255) b v l w e w' := by
  have hC0 := hC
  obtain ⟨i, h, hT, hi, hl, a, c, rfl, hr⟩ := hC
  unfold maxLen at hl
  by_cases hlt : i < l.length
  · rcases hr with rfl | ⟨cb, o, rfl, hcb, hc⟩
    · simp at hlt
    · have hcc := hc i hlt
      have : (Lib.byteCells l)[i]? = some (.int .u8 ((l[i]'hlt).toNat : Int)) := by
        simp only [Lib.byteCells, List.getElem?_map, List.getElem?_eq_getElem hlt, Option.map_some]
      rw [this] at hcc
      have hu := (l[i]'hlt).toNat_lt
      exact l1Byte_in b cb o l.length c l i h _ w hT (Lib.hid hC0) (Lib.hid hlt) (by omega) hlt (by omega) hcc (by omega) (by omega)
  · exact l1Byte_end b a l.length c l w i h hT (Lib.hid hC0) (Lib.hid hi) (by omega) (by omega) (by omega)
/-- a new cursor -/
def NewCur (v : Value) (l : List UInt8) (w : World) (e : Ending) (w' : World) : Prop := ∃ b : Nat, e = .returned (.pointer (some ⟨b, 0, none⟩)) ∧ w.heap.size ≤ b ∧ Below w.heap.size w w' ∧ Cur w' b v l
theorem three_new (w : World) (x y z : Value) (t : TypeId) : Three (w.alloc (.cells #[x, y, z] t)) w.heap.size t x y z := by
  unfold Three; exact heap_alloc_new w _
theorem byteCells_get (l : List UInt8) (i : Nat) (h : i < l.length) : (Lib.byteCells l)[i]? = some (.int .u8 ((l[i]'h).toNat : Int)) := by
  simp only [Lib.byteCells, List.getElem?_map, List.getElem?_eq_getElem h, Option.map_some]
theorem new_cur (w : World) (a : Option Addr) (l : List UInt8) (c : Nat) (x : Int) (hl : l.length ≤ maxLen) (hr : l = [] ∨ ∃ cb o, a = some ⟨cb, o, none⟩ ∧ cb < w.heap.size ∧ ∀ j, j < l.length → w.cell? ⟨cb, o + j, none⟩ = (Lib.byteCells l)[j]?) :
    Cur (w.alloc (.cells #[.slice a l.length c, .int .i64 0, .int .i64 x] 106)) w.heap.size (.slice a l.length c) l := by
  refine ⟨0, x, three_new w _ _ _ _, Nat.zero_le _, hl, a, c, rfl, hr.imp id ?_⟩
  rintro ⟨cb, o, rfl, hlt, hc⟩
  exact ⟨cb, o, rfl, hlt, fun j hj => (World.cell?_of_block (a := ⟨cb, o + j, none⟩) (Below.heap_alloc w _ cb hlt)).trans (hc j hj)⟩
set_option maxRecDepth 100000 in
set_option maxHeartbeats 400000 in
theorem l1New_any (v : Value) (l : List UInt8) (w : World) (hR : RowAt w v (Lib.byteCells l)) :
    Calls Try.prog 42 #[v] w fun e w' => NewCur v l w e w' := by
  obtain ⟨a, c, rfl, hl, hr⟩ := hR
  generalize (Lib.byteCells l).length + c = c at *
  rw [Lib.byteCells_length] at *
  have hr' : l = [] ∨ ∃ cb o, a = some ⟨cb, o, none⟩ ∧ cb < w.heap.size ∧ ∀ j, j < l.length → w.cell? ⟨cb, o + j, none⟩ = (Lib.byteCells l)[j]? := by
    rcases hr with h | h
    · left; cases l with | nil => rfl | cons x r => simp [Lib.byteCells] at h
    · exact Or.inr h
  have HR := Lib.hid hr'
  clear hr hr'
  unfold maxLen at hl
  go_enter Try.func42, Try.ntmps42
  go_wp2
  go_loop [3, 4] (fun h i => ∃ k : Nat, k ≤ l.length ∧ i = .int .i64 k ∧ ∃ x : Int, h = .int .i64 x) (fun _ i => l.length - (intOf i).toNat)
  case atStart => exact ⟨0, Nat.zero_le _, rfl, _, rfl⟩
  case round =>
    obtain ⟨k, hk, rfl, x, rfl⟩ := hrel
    by_cases hlt : k < l.length
    · by_cases h4 : k < 4000
      · rcases HR.out with h | ⟨cb, o, rfl, hcb, hc⟩
        · subst h; simp at hlt
        · have hcc := hc k hlt
          rw [byteCells_get l k hlt] at hcc
          have hu := (l[k]'hlt).toNat_lt
          clear hc
          go_wp2
          go_round
          case rel => exact ⟨k + 1, by omega, by go_num, _, rfl⟩
          case measure => simp [intOf]; omega
      · go_wp2
        go_ret
        exact ⟨_, rfl, Nat.le_refl _, (Below.refl _ _).alloc (Nat.le_refl _) _, new_cur w a l c x hl HR.out⟩
    · go_wp2
      go_ret
      exact ⟨_, rfl, Nat.le_refl _, (Below.refl _ _).alloc (Nat.le_refl _) _, new_cur w a l c x hl HR.out⟩
set_option maxHeartbeats 400000 in
theorem l1Below_any (b : Nat) (v : Value) (l : List UInt8) (n : Int) (w : World) (hC : Cur w b v l) (h0 : -9223372036854775808 ≤ n) (h1 : n ≤ 9223372036854775807) :
    Calls Try.prog 58 #[.pointer (some ⟨b, 0, none⟩), .int .i64 n] w fun e w' => DrawnInt (fun x => 0 ≤ x ∧ x ≤ 16777215 ∧ (0 < n → x < n)) b v l w e w' := by
  have HC := Lib.hid hC
  clear hC
  by_cases hn : n ≤ 0
  · go_enter Try.func58, Try.ntmps58
    go_wp2
    go_ret
    exact ⟨_, rfl, ⟨by omega, by omega, by omega⟩, grown_refl _ _, HC.out⟩
  · by_cases h2 : n ≤ 256
    · go_enter Try.func58, Try.ntmps58
      go_wp2_with (go_at_call 99; refine (l1Byte_any b v l _ HC.out).mono ?_; rintro e w1 ⟨x, rfl, ⟨hx0, hx1⟩, hg1, hC1⟩)
      go_ret
      have := mod_bd x n (by omega)
      exact ⟨_, rfl, ⟨by omega, by omega, by omega⟩, hg1, hC1⟩
    · go_enter Try.func58, Try.ntmps58
      go_wp2_with fail
      refine (l1Byte_any b v l _ HC.out).mono ?_
      rintro e w1 ⟨x, rfl, ⟨hx0, hx1⟩, hg1, hC1⟩
      have HC1 := Lib.hid hC1
      have HG1 := Lib.hid hg1
      clear hC1 hg1
      go_wp2_with fail
      refine (l1Byte_any b v l _ HC1.out).mono ?_
      rintro e w2 ⟨y, rfl, ⟨hy0, hy1⟩, hg2, hC2⟩
      have HC2 := Lib.hid hC2
      have HG2 := Lib.hid hg2
      clear hC2 hg2
      go_wp2_with fail
      refine (l1Byte_any b v l _ HC2.out).mono ?_
      rintro e w3 ⟨z, rfl, ⟨hz0, hz1⟩, hg3, hC3⟩
      have HC3 := Lib.hid hC3
      have HG3 := Lib.hid hg3
      clear hC3 hg3
      go_wp2_with fail
      go_ret
      have hm := mod_bd (x * 65536 + y * 256 + z) n (by omega)
      have hle : (x * 65536 + y * 256 + z) % n ≤ x * 65536 + y * 256 + z := mod_le _ _ (by omega) (by omega)
      exact ⟨_, rfl, ⟨by omega, by omega, by omega⟩, grown_trans (grown_trans HG1.out HG2.out) HG3.out, HC3.out⟩
set_option maxHeartbeats 400000 in
theorem l1Once_any (b : Nat) (v : Value) (l : List UInt8) (n : Int) (w : World) (hC : Cur w b v l) (h0 : -9223372036854775808 ≤ n) (h1 : n ≤ 9223372036854775807) :
    Calls Try.prog 86 #[.pointer (some ⟨b, 0, none⟩), .int .i64 n] w fun e w' => DrawnBool b v l w e w' := by
  have HW := Lib.hid (l1Below_any b v l n w hC h0 h1)
  clear hC h0 h1
  go_enter Try.func86, Try.ntmps86
  go_wp2_with (go_at_call 58; refine (HW.out).mono ?_; rintro e w1 ⟨x, rfl, ⟨hx0, hx1, hx2⟩, hg1, hC1⟩)
  go_ret
  exact ⟨_, rfl, hg1, hC1⟩
/-- a slice value that reads as the values xs (at least one), in a block that is not b -/
def RowOff (b : Nat) (w : World) (v : Value) (xs : List Value) : Prop :=
  ∃ lb o c, v = .slice (some ⟨lb, o, none⟩) xs.length c ∧ lb ≠ b ∧ lb < w.heap.size ∧ 0 < xs.length ∧ xs.length ≤ maxLen ∧ ∀ j, j < xs.length → w.cell? ⟨lb, o + j, none⟩ = xs[j]?
theorem rowOff_new (w : World) (b : Nat) (hb : b < w.heap.size) (t : TypeId) (xs : List Value) (cs : Array Value) (n : Nat) (hcs : cs = xs.toArray) (hn : n = xs.length) (h0 : 0 < xs.length) (hm : xs.length ≤ maxLen) (c : Nat) : RowOff b (w.alloc (.cells cs t)) (.slice (some ⟨w.heap.size, 0, none⟩) n c) xs := by
  subst hcs; subst hn
  refine ⟨w.heap.size, 0, c, rfl, by omega, by simp, h0, hm, fun j _ => ?_⟩
  rw [cell_of_row _ _ _ _ t (0, 0) (heap_alloc_new w _)]
  simp
def DrawnStr (Q : ByteArray → Prop) (b : Nat) (v : Value) (l : List UInt8) (w : World) (e : Ending) (w' : World) : Prop := ∃ x : ByteArray, e = .returned (.string x) ∧ Q x ∧ w.grownBy w' (some b) ∧ Cur w' b v l
set_option maxHeartbeats 400000 in
theorem l1Int_any (b : Nat) (v : Value) (l : List UInt8) (lv : Value) (zs : List Int) (w : World) (hC : Cur w b v l) (hR : RowOff b w lv (zs.map (Value.int .i64))) :
    Calls Try.prog 92 #[.pointer (some ⟨b, 0, none⟩), lv] w fun e w' => DrawnInt (fun x => x ∈ zs) b v l w e w' := by
  obtain ⟨lb, o, c, rfl, hne, hlt, hpos, hm, hc⟩ := hR
  rw [List.length_map] at *
  unfold maxLen at hm
  have HC := Lib.hid hC
  have HR := Lib.hid hc
  clear hC hc
  go_enter Try.func92, Try.ntmps92
  go_wp2_with fail
  refine (l1Below_any b v l _ _ HC.out (by omega) (by omega)).mono ?_
  rintro e w1 ⟨x, rfl, ⟨hx0, hx1, hx2⟩, hg1, hC1⟩
  obtain ⟨k, rfl⟩ := Int.eq_ofNat_of_zero_le hx0
  have hk : k < zs.length := by have := hx2 (by omega); omega
  have hcell : w1.cell? ⟨lb, o + k, none⟩ = some (.int .i64 (zs[k]'hk)) := by
    rw [World.cell?_of_block (a := ⟨lb, o + k, none⟩) (hg1.block lb hlt (fun e => hne (by injection e)))]
    rw [HR.out k hk]; simp [List.getElem?_eq_getElem hk]
  have HG := Lib.hid hg1
  have HC1 := Lib.hid hC1
  clear hg1 hC1 hx2
  go_wp2_with fail
  go_ret
  exact ⟨_, rfl, List.getElem_mem hk, HG.out, HC1.out⟩
set_option maxHeartbeats 400000 in
theorem l1Str_any (b : Nat) (v : Value) (l : List UInt8) (lv : Value) (zs : List ByteArray) (w : World) (hC : Cur w b v l) (hR : RowOff b w lv (zs.map Value.string)) :
    Calls Try.prog 64 #[.pointer (some ⟨b, 0, none⟩), lv] w fun e w' => DrawnStr (fun x => x ∈ zs) b v l w e w' := by
  obtain ⟨lb, o, c, rfl, hne, hlt, hpos, hm, hc⟩ := hR
  rw [List.length_map] at *
  unfold maxLen at hm
  have HC := Lib.hid hC
  have HR := Lib.hid hc
  clear hC hc
  go_enter Try.func64, Try.ntmps64
  go_wp2_with fail
  refine (l1Below_any b v l _ _ HC.out (by omega) (by omega)).mono ?_
  rintro e w1 ⟨x, rfl, ⟨hx0, hx1, hx2⟩, hg1, hC1⟩
  obtain ⟨k, rfl⟩ := Int.eq_ofNat_of_zero_le hx0
  have hk : k < zs.length := by have := hx2 (by omega); omega
  have hcell : w1.cell? ⟨lb, o + k, none⟩ = some (.string (zs[k]'hk)) := by
    rw [World.cell?_of_block (a := ⟨lb, o + k, none⟩) (hg1.block lb hlt (fun e => hne (by injection e)))]
    rw [HR.out k hk]; simp [List.getElem?_eq_getElem hk]
  have HG := Lib.hid hg1
  have HC1 := Lib.hid hC1
  clear hg1 hC1 hx2
  go_wp2_with fail
  go_ret
  exact ⟨_, rfl, List.getElem_mem hk, HG.out, HC1.out⟩
set_option maxHeartbeats 400000 in
theorem l1Odd_any (b : Nat) (v : Value) (l : List UInt8) (w : World) (hC : Cur w b v l) :
    Calls Try.prog 105 #[.pointer (some ⟨b, 0, none⟩)] w fun e w' => DrawnInt (fun x => -9223372036854775808 ≤ x ∧ x ≤ 9223372036854775807) b v l w e w' := by
  have HC := Lib.hid hC
  clear hC
  go_enter Try.func105, Try.ntmps105
  go_wp2_with fail
  refine (l1Int_any b v l _ [-1, 0, 1, 2, 3, 4, 5, 6, 7, 63, 64, 99, 100, 999, 1000, 9223372036854775807, -9223372036854775808] _ (cur_alloc HC.out _) (rowOff_new w b HC.out.lt _ _ _ _ rfl rfl (by decide) (by decide) _)).mono ?_
  rintro e w1 ⟨x, rfl, hx, hg1, hC1⟩
  have HG := Lib.hid (grown_trans (grown_alloc (grown_refl w (some b)) _) hg1)
  have HC1 := Lib.hid hC1
  have HX := Lib.hid hx
  clear hg1 hC1 hx
  go_wp2_with fail
  go_ret
  refine ⟨_, rfl, ?_, HG.out, HC1.out⟩
  have hx := HX.out
  simp only [List.mem_cons, List.not_mem_nil, or_false] at hx
  omega
def strLe (N : Nat) : Value → Bool
  | .string s => decide (s.size ≤ N)
  | _ => false
def strGet : Value → ByteArray
  | .string s => s
  | _ => ByteArray.empty
theorem strs_of (N : Nat) : ∀ xs : List Value, xs.all (strLe N) = true → xs = (xs.map strGet).map Value.string ∧ ∀ s ∈ xs.map strGet, s.size ≤ N
  | [], _ => ⟨rfl, by simp⟩
  | x :: r, h => by
    simp only [List.all_cons, Bool.and_eq_true] at h
    obtain ⟨h1, h2⟩ := strs_of N r h.2
    cases x <;> simp [strLe] at h
    rename_i s
    refine ⟨by simp only [List.map_cons, strGet]; rw [← h1], ?_⟩
    intro y hy
    simp only [List.map_cons, List.mem_cons, strGet] at hy
    rcases hy with rfl | hy
    · exact h.1
    · exact h2 y hy
/-- a text that is drawn out of a list that was just laid -/
theorem l1Str_new (b : Nat) (v : Value) (l : List UInt8) (w : World) (cs : Array Value) (t : TypeId) (n c N : Nat) (hC : Cur w b v l) (hn : n = cs.toList.length) (h0 : 0 < cs.toList.length) (hm : cs.toList.length ≤ 1000) (hall : cs.toList.all (strLe N) = true) :
    Calls Try.prog 64 #[.pointer (some ⟨b, 0, none⟩), .slice (some ⟨w.heap.size, 0, none⟩) n c] (w.alloc (.cells cs t)) fun e w' => DrawnStr (fun x => x.size ≤ N) b v l w e w' := by
  obtain ⟨h1, h2⟩ := strs_of N cs.toList hall
  have hR : RowOff b (w.alloc (.cells cs t)) (.slice (some ⟨w.heap.size, 0, none⟩) n c) ((cs.toList.map strGet).map Value.string) :=
    rowOff_new w b hC.lt t _ cs n (by rw [← h1]) (by rw [← h1]; exact hn) (by rw [← h1]; exact h0) (by rw [← h1]; unfold maxLen; omega) c
  refine (l1Str_any b v l _ _ _ (cur_alloc hC _) hR).mono ?_
  rintro e w1 ⟨x, rfl, hx, hg1, hC1⟩
  exact ⟨x, rfl, h2 x hx, grown_trans (grown_alloc (grown_refl w (some b)) _) hg1, hC1⟩
set_option maxHeartbeats 400000 in
theorem l1Word_any (b : Nat) (v : Value) (l : List UInt8) (w : World) (hC : Cur w b v l) :
    Calls Try.prog 70 #[.pointer (some ⟨b, 0, none⟩)] w fun e w' => DrawnStr (fun x => x.size ≤ 9) b v l w e w' := by
  have HC := Lib.hid hC
  clear hC
  go_enter Try.func70, Try.ntmps70
  go_wp2_with fail
  refine (l1Str_new b v l w _ _ _ _ 9 HC.out (by rfl) (by decide) (by decide) (by decide)).mono ?_
  rintro e w1 ⟨x, rfl, hx, hg1, hC1⟩
  have HG := Lib.hid hg1
  have HC1 := Lib.hid hC1
  clear hg1 hC1
  go_wp2_with fail
  go_ret
  exact ⟨_, rfl, hx, HG.out, HC1.out⟩
/-- a new number, a new text: what a whole draw gives -/
def GivesInt (Q : Int → Prop) (w : World) (e : Ending) (w' : World) : Prop := ∃ x : Int, e = .returned (.int .i64 x) ∧ Q x ∧ Below w.heap.size w w'
def GivesStr (Q : ByteArray → Prop) (w : World) (e : Ending) (w' : World) : Prop := ∃ x : ByteArray, e = .returned (.string x) ∧ Q x ∧ Below w.heap.size w w'
set_option maxHeartbeats 400000 in
theorem big_any (v : Value) (l : List UInt8) (w : World) (hR : RowAt w v (Lib.byteCells l)) :
    Calls Try.prog 9 #[v] w fun e w' => e = .returned (.bool (decide (4096 < l.length))) ∧ w = w' := by
  obtain ⟨a, c, rfl, hl, _⟩ := hR
  generalize (Lib.byteCells l).length + c = c at *
  rw [Lib.byteCells_length] at *
  unfold maxLen at hl
  go_enter Try.func9, Try.ntmps9
  go_wp2
  go_ret
  exact ⟨congrArg (fun b => Ending.returned (.bool b)) (by simp; try omega), rfl⟩
end Go.Proofs.Ytmoliamenekemab
