/- The draws of chapter 3: a core and a list of calls. -/
import Derived.Test.YtghebbndfpbkcaaGreatCallCoreLawM0
import Derived.WalkSpells
import Derived.WalkLawsBesides
import Derived.Lib.Hide
import Derived.Lib.Bytes
import Derived.Deep.QuietTactic
import Derived.BigQuiet
import Derived.Laws.OwnMore
import Derived.Deep.Draws
import Derived.Laws.Rows
import Derived.OwnWalk
import Derived.Deep.OwnRows
import Derived.Test.YtghebbndfpbkcaaGreatCallCoreLawM1
import Derived.Test.YtghebbndfpbkcaaGreatCallCoreLawM3
import Derived.Test.YtghebbndfpbkcaaGreatCallCoreLawM4
import Derived.Deep.AppendLies
/- The draws' cursor: what its functions leave. -/
namespace Go.Proofs.YtghebbndfpbkcaaGreat
set_option linter.unusedVariables false
open Go.RowKit

theorem and255 (n : Int) : bits .and .i64 n 255 = n % 256 := by
  have h255 : (BitVec.ofInt 64 255).toNat = 2 ^ 8 - 1 := by decide
  have key : (BitVec.ofInt 64 n &&& BitVec.ofInt 64 255).toNat = (n % ((2 ^ 64 : Nat) : Int)).toNat % 2 ^ 8 := by
    rw [BitVec.toNat_and, BitVec.toNat_ofInt, h255, Nat.and_two_pow_sub_one_eq_mod]
  show IntKind.i64.wrap ((BitVec.ofInt 64 n &&& BitVec.ofInt 64 255).toNat : Nat) = n % 256
  rw [key, IntKind.wrap_i64]
  omega

/-- block b holds the three cells and no more -/
def Three (w : World) (b : Nat) (t : TypeId) (x y z : Value) : Prop := w.heap[b]? = some (.cells #[x, y, z] t (0, 0))
theorem Three.lt {w : World} {b : Nat} {t : TypeId} {x y z : Value} (h : Three w b t x y z) : b < w.heap.size := by
  rcases Nat.lt_or_ge b w.heap.size with hlt | hge
  · exact hlt
  · unfold Three at h; rw [Array.getElem?_eq_none hge] at h; cases h
theorem Three.cell {w : World} {b : Nat} {t : TypeId} {x y z : Value} (h : Three w b t x y z) : w.cell? ⟨b, 0, none⟩ = some x ∧ w.cell? ⟨b, 1, none⟩ = some y ∧ w.cell? ⟨b, 2, none⟩ = some z := by
  refine ⟨(cell_of_row w b 0 _ t (0, 0) h).trans rfl, (cell_of_row w b 1 _ t (0, 0) h).trans rfl, (cell_of_row w b 2 _ t (0, 0) h).trans rfl⟩
theorem Three.free {w : World} {b : Nat} {t : TypeId} {x y z : Value} (h : Three w b t x y z) (i : Nat) : w.frozen? ⟨b, i, none⟩ = false := by
  unfold Three at h; simp [World.frozen?, h]
theorem Three.set1 {w : World} {b : Nat} {t : TypeId} {x y z : Value} (h : Three w b t x y z) (u : Value) : Three (w.setCell ⟨b, 1, none⟩ u) b t x u z := by
  unfold Three at h ⊢; simp [World.setCell, Array.getElem?_modify, h]
theorem Three.set2 {w : World} {b : Nat} {t : TypeId} {x y z : Value} (h : Three w b t x y z) (u : Value) : Three (w.setCell ⟨b, 2, none⟩ u) b t x y u := by
  unfold Three at h ⊢; simp [World.setCell, Array.getElem?_modify, h]
theorem Three.grown {w w' : World} {b c : Nat} {t : TypeId} {x y z : Value} (h : Three w b t x y z) (hg : w.grownBy w' (some c)) (hne : b ≠ c) : Three w' b t x y z :=
  (hg.block b h.lt (fun e => hne (by injection e))).trans h

theorem grown_refl (w : World) (r : Option Nat) : w.grownBy w r := ⟨rfl, rfl, rfl, Nat.le_refl _, fun _ _ _ => rfl⟩
theorem grown_trans {a b c : World} {r : Option Nat} (h : a.grownBy b r) (k : b.grownBy c r) : a.grownBy c r :=
  ⟨k.os.trans h.os, k.tape.trans h.tape, k.output.trans h.output, Nat.le_trans h.size k.size, fun i hi hr => (k.block i (Nat.lt_of_lt_of_le hi h.size) hr).trans (h.block i hi hr)⟩
theorem grown_drewN {a w : World} {r : Option Nat} (h : a.grownBy w r) (n : Nat) : a.grownBy (w.drewN n) r := ⟨h.os, h.tape, h.output, h.size, h.block⟩
theorem grown_set {a w : World} {g : Nat} (h : a.grownBy w (some g)) (i : Nat) (u : Value) : a.grownBy (w.setCell ⟨g, i, none⟩ u) (some g) :=
  ⟨h.os, h.tape, h.output, by simpa [World.setCell] using h.size, fun j hj hne => (Below.heap_setCell w ⟨g, i, none⟩ u j (by rintro rfl; exact hne rfl)).trans (h.block j hj hne)⟩
theorem grown_alloc {a w : World} {r : Option Nat} (h : a.grownBy w r) (o : Obj) : a.grownBy (w.alloc o) r :=
  ⟨h.os, h.tape, h.output, Nat.le_trans h.size (by simp), fun i hi hne => (Below.heap_alloc w o i (Nat.lt_of_lt_of_le hi h.size)).trans (h.block i hi hne)⟩
theorem grown_below {a w w' : World} {B : Nat} {r : Option Nat} (h : a.grownBy w r) (k : Below B w w') (hB : a.heap.size ≤ B) : a.grownBy w' r :=
  ⟨k.os.trans h.os, k.tape.trans h.tape, k.output.trans h.output, Nat.le_trans h.size k.size, fun i hi hr => (k.block i (Nat.lt_of_lt_of_le hi hB)).trans (h.block i hi hr)⟩
theorem below_grown {a b c : World} {B g : Nat} (h : Below B a b) (k : b.grownBy c (some g)) (hB : B ≤ g) (hs : B ≤ b.heap.size) : Below B a c :=
  ⟨k.os.trans h.os, k.tape.trans h.tape, k.output.trans h.output, Nat.le_trans h.size k.size, fun i hi => (k.block i (Nat.lt_of_lt_of_le hi hs) (fun e => by injection e; omega)).trans (h.block i hi)⟩

/-- block b is a cursor over the slice v of the bytes l, which lies in a block below b -/
def Cur (w : World) (b : Nat) (v : Value) (l : List UInt8) : Prop :=
  ∃ i : Nat, ∃ h : Int, Three w b 91 v (.int .i64 i) (.int .i64 h) ∧ i ≤ l.length ∧ l.length ≤ maxLen ∧
    ∃ a c, v = .slice a l.length c ∧ (l = [] ∨ ∃ cb o, a = some ⟨cb, o, none⟩ ∧ cb < b ∧ ∀ j, j < l.length → w.cell? ⟨cb, o + j, none⟩ = (Lib.byteCells l)[j]?)
theorem Cur.lt {w : World} {b : Nat} {v : Value} {l : List UInt8} (h : Cur w b v l) : b < w.heap.size := by
  obtain ⟨i, h, hT, _⟩ := h; exact hT.lt
/-- a number that was drawn -/
def DrawnInt (Q : Int → Prop) (b : Nat) (v : Value) (l : List UInt8) (w : World) (e : Ending) (w' : World) : Prop := ∃ x : Int, e = .returned (.int .i64 x) ∧ Q x ∧ w.grownBy w' (some b) ∧ Cur w' b v l
def DrawnBool (b : Nat) (v : Value) (l : List UInt8) (w : World) (e : Ending) (w' : World) : Prop := ∃ x : Bool, e = .returned (.bool x) ∧ w.grownBy w' (some b) ∧ Cur w' b v l
/-- what keeps the blocks below b, and b's own three cells up to the two numbers, keeps the cursor -/
theorem Cur.kept {w w' : World} {b : Nat} {v : Value} {l : List UInt8} (hC : Cur w b v l) {i : Nat} {h : Int} (hT : Three w' b 91 v (.int .i64 i) (.int .i64 h)) (hi : i ≤ l.length) (hg : w.grownBy w' (some b)) : Cur w' b v l := by
  obtain ⟨i0, h0, hT0, _, hl, a, c, rfl, hr⟩ := hC
  refine ⟨i, h, hT, hi, hl, a, c, rfl, hr.imp id ?_⟩
  rintro ⟨cb, o, rfl, hlt, hc⟩
  have hb := hT0.lt
  exact ⟨cb, o, rfl, hlt, fun j hj => (World.cell?_of_block (a := ⟨cb, o + j, none⟩) (hg.block cb (by omega) (fun e => by injection e; omega))).trans (hc j hj)⟩
theorem Cur.far {w w' : World} {b g : Nat} {v : Value} {l : List UInt8} (hC : Cur w b v l) (hg : w.grownBy w' (some g)) (hb : b < g) : Cur w' b v l := by
  obtain ⟨i, h, hT, hi, hl, a, c, rfl, hr⟩ := hC
  refine ⟨i, h, hT.grown hg (by omega), hi, hl, a, c, rfl, hr.imp id ?_⟩
  rintro ⟨cb, o, rfl, hlt, hc⟩
  have hb := hT.lt
  exact ⟨cb, o, rfl, hlt, fun j hj => (World.cell?_of_block (a := ⟨cb, o + j, none⟩) (hg.block cb (by omega) (fun e => by injection e; omega))).trans (hc j hj)⟩
theorem Cur.below {w w' : World} {b B : Nat} {v : Value} {l : List UInt8} (hC : Cur w b v l) (hg : Below B w w') (hb : b < B) : Cur w' b v l := by
  obtain ⟨i, h, hT, hi, hl, a, c, rfl, hr⟩ := hC
  refine ⟨i, h, (hg.block b hb).trans hT, hi, hl, a, c, rfl, hr.imp id ?_⟩
  rintro ⟨cb, o, rfl, hlt, hc⟩
  exact ⟨cb, o, rfl, hlt, fun j hj => (hg.cell (p := ⟨cb, o + j, none⟩) (by show cb < B; omega)).trans (hc j hj)⟩
theorem cur_alloc {w : World} {b : Nat} {v : Value} {l : List UInt8} (hC : Cur w b v l) (o : Obj) : Cur (w.alloc o) b v l :=
  hC.below (B := w.heap.size) ((Below.refl _ _).alloc (Nat.le_refl _) _) hC.lt
theorem mod_le (x m : Int) (h0 : 0 ≤ x) (h : 0 < m) : x % m ≤ x := by
  have h1 := Int.ediv_nonneg h0 (show 0 ≤ m by omega)
  have h2 := Int.emod_add_mul_ediv x m
  have h3 := Int.mul_nonneg (show 0 ≤ m by omega) h1
  omega
theorem mod_bd (x m : Int) (h : 0 < m) : 0 ≤ x % m ∧ x % m ≤ m - 1 := ⟨Int.emod_nonneg _ (by omega), by have := Int.emod_lt_of_pos x h; omega⟩
set_option maxHeartbeats 400000 in
theorem l1Byte_end (b : Nat) (a : Option Addr) (n c : Nat) (l : List UInt8) (w : World) (i : Nat) (h : Int) (hT : Three w b 91 (.slice a n c) (.int .i64 i) (.int .i64 h)) (hC : Hid (Cur w b (.slice a n c) l)) (hl : Hid (i ≤ l.length)) (hn : n ≤ 9223372036854775807) (hi : n ≤ i) (hi2 : i ≤ 9223372036854775807) :
    Calls Tryz.prog 92 #[.pointer (some ⟨b, 0, none⟩)] w fun e w' => DrawnInt (fun x => 0 ≤ x ∧ x ≤ 255) b (.slice a n c) l w e w' := by
  obtain ⟨c0, c1, c2⟩ := hT.cell
  have f2 := hT.free 2
  have HT := Lib.hid hT
  clear hT
  go_enter Tryz.func92, Tryz.ntmps92
  go_wp2
  generalize wrap64 (wrap64 (h * 6364136223846793005) + 1442695040888963407) = h'
  go_quiet (fail)
  go_wp2
  go_quiet (fail)
  go_wp2
  go_ret
  have hg := grown_set (grown_refl w (some b)) 2 (.int .i64 h')
  have hg2 := hC.out.kept (HT.out.set2 (.int .i64 h')) hl.out hg
  refine ⟨_, rfl, ?_, grown_drewN (grown_drewN hg _) _, hg2⟩
  rw [and255]; have := mod_bd (bits BinOp.xor IntKind.i64 (h' / 34359738368) (h' / 35184372088832)) 256 (by omega); omega
set_option maxHeartbeats 400000 in
theorem l1Byte_in (b cb o : Nat) (n c : Nat) (l : List UInt8) (i : Nat) (h x0 : Int) (w : World) (hT : Three w b 91 (.slice (some ⟨cb, o, none⟩) n c) (.int .i64 i) (.int .i64 h)) (hC : Hid (Cur w b (.slice (some ⟨cb, o, none⟩) n c) l)) (hl : Hid (i + 1 ≤ l.length))
    (hn : n ≤ 9223372036854775807) (hi : i < n) (hcb : cb ≠ b) (cc : w.cell? ⟨cb, o + i, none⟩ = some (.int .u8 x0)) (hx0 : 0 ≤ x0) (hx1 : x0 ≤ 255) :
    Calls Tryz.prog 92 #[.pointer (some ⟨b, 0, none⟩)] w fun e w' => DrawnInt (fun x => 0 ≤ x ∧ x ≤ 255) b (.slice (some ⟨cb, o, none⟩) n c) l w e w' := by
  obtain ⟨c0, c1, c2⟩ := hT.cell
  have f1 := hT.free 1
  have f2 := hT.free 2
  have HT := Lib.hid hT
  clear hT
  go_enter Tryz.func92, Tryz.ntmps92
  go_wp2
  generalize wrap64 (wrap64 (h * 6364136223846793005) + 1442695040888963407) = h'
  go_quiet (fail)
  go_wp2
  go_quiet (fail)
  go_wp2
  go_quiet (fail)
  go_wp2
  go_ret
  have hg := grown_set (grown_set (grown_refl w (some b)) 2 (.int .i64 h')) 1 (.int .i64 (i + 1 : Nat))
  have hg2 := hC.out.kept ((HT.out.set2 (.int .i64 h')).set1 (.int .i64 (i + 1 : Nat))) hl.out hg
  rw [show ((i : Int) + 1) = ((i + 1 : Nat) : Int) from rfl]
  refine ⟨_, rfl, ?_, ?_, ?_⟩
  · rw [and255]
    generalize wrap64 _ = y
    have := mod_bd y 256 (by omega)
    omega
  · exact ⟨hg.os, hg.tape, hg.output, hg.size, hg.block⟩
  · exact hg2
theorem l1Byte_any (b : Nat) (v : Value) (l : List UInt8) (w : World) (hC : Cur w b v l) :
    Calls Tryz.prog 92 #[.pointer (some ⟨b, 0, none⟩)] w fun e w' => DrawnInt (fun x => 0 ≤ x ∧ x ≤ 255) b v l w e w' := by
  have hC0 := hC
  obtain ⟨i, h, hT, hi, hl, a, c, rfl, hr⟩ := hC
  unfold maxLen at hl
  by_cases hlt : i < l.length
  · rcases hr with rfl | ⟨cb, o, rfl, hcb, hc⟩
    · simp at hlt
    · have hcc := hc i hlt
      have : (Lib.byteCells l)[i]? = some (.int .u8 ((l[i]'hlt).toNat : Int)) := by
        simp only [Lib.byteCells, List.getElem?_map, List.getElem?_eq_getElem hlt, Option.map_some]
      rw [this] at hcc
      have hu := (l[i]'hlt).toNat_lt
      exact l1Byte_in b cb o l.length c l i h _ w hT (Lib.hid hC0) (Lib.hid hlt) (by omega) hlt (by omega) hcc (by omega) (by omega)
  · exact l1Byte_end b a l.length c l w i h hT (Lib.hid hC0) (Lib.hid hi) (by omega) (by omega) (by omega)
/-- a new cursor -/
def NewCur (v : Value) (l : List UInt8) (w : World) (e : Ending) (w' : World) : Prop := ∃ b : Nat, e = .returned (.pointer (some ⟨b, 0, none⟩)) ∧ w.heap.size ≤ b ∧ Below w.heap.size w w' ∧ Cur w' b v l
theorem three_new (w : World) (x y z : Value) (t : TypeId) : Three (w.alloc (.cells #[x, y, z] t)) w.heap.size t x y z := by
  unfold Three; exact heap_alloc_new w _
theorem byteCells_get (l : List UInt8) (i : Nat) (h : i < l.length) : (Lib.byteCells l)[i]? = some (.int .u8 ((l[i]'h).toNat : Int)) := by
  simp only [Lib.byteCells, List.getElem?_map, List.getElem?_eq_getElem h, Option.map_some]
theorem new_cur (w : World) (a : Option Addr) (l : List UInt8) (c : Nat) (x : Int) (hl : l.length ≤ maxLen) (hr : l = [] ∨ ∃ cb o, a = some ⟨cb, o, none⟩ ∧ cb < w.heap.size ∧ ∀ j, j < l.length → w.cell? ⟨cb, o + j, none⟩ = (Lib.byteCells l)[j]?) :
    Cur (w.alloc (.cells #[.slice a l.length c, .int .i64 0, .int .i64 x] 91)) w.heap.size (.slice a l.length c) l := by
  refine ⟨0, x, three_new w _ _ _ _, Nat.zero_le _, hl, a, c, rfl, hr.imp id ?_⟩
  rintro ⟨cb, o, rfl, hlt, hc⟩
  exact ⟨cb, o, rfl, hlt, fun j hj => (World.cell?_of_block (a := ⟨cb, o + j, none⟩) (Below.heap_alloc w _ cb hlt)).trans (hc j hj)⟩
set_option maxRecDepth 100000 in
set_option maxHeartbeats 400000 in
theorem l1New_any (v : Value) (l : List UInt8) (w : World) (hR : RowAt w v (Lib.byteCells l)) :
    Calls Tryz.prog 33 #[v] w fun e w' => NewCur v l w e w' := by
  obtain ⟨a, c, rfl, hl, hr⟩ := hR
  generalize (Lib.byteCells l).length + c = c at *
  rw [Lib.byteCells_length] at *
  have hr' : l = [] ∨ ∃ cb o, a = some ⟨cb, o, none⟩ ∧ cb < w.heap.size ∧ ∀ j, j < l.length → w.cell? ⟨cb, o + j, none⟩ = (Lib.byteCells l)[j]? := by
    rcases hr with h | h
    · left; cases l with | nil => rfl | cons x r => simp [Lib.byteCells] at h
    · exact Or.inr h
  have HR := Lib.hid hr'
  clear hr hr'
  unfold maxLen at hl
  go_enter Tryz.func33, Tryz.ntmps33
  go_wp2
  go_loop [3, 4] (fun h i => ∃ k : Nat, k ≤ l.length ∧ i = .int .i64 k ∧ ∃ x : Int, h = .int .i64 x) (fun _ i => l.length - (intOf i).toNat)
  case atStart => exact ⟨0, Nat.zero_le _, rfl, _, rfl⟩
  case round =>
    obtain ⟨k, hk, rfl, x, rfl⟩ := hrel
    by_cases hlt : k < l.length
    · by_cases h4 : k < 4000
      · rcases HR.out with h | ⟨cb, o, rfl, hcb, hc⟩
        · subst h; simp at hlt
        · have hcc := hc k hlt
          rw [byteCells_get l k hlt] at hcc
          have hu := (l[k]'hlt).toNat_lt
          clear hc
          go_wp2
          go_round
          case rel => exact ⟨k + 1, by omega, by go_num, _, rfl⟩
          case measure => simp [intOf]; omega
      · go_wp2
        go_ret
        exact ⟨_, rfl, Nat.le_refl _, (Below.refl _ _).alloc (Nat.le_refl _) _, new_cur w a l c x hl HR.out⟩
    · go_wp2
      go_ret
      exact ⟨_, rfl, Nat.le_refl _, (Below.refl _ _).alloc (Nat.le_refl _) _, new_cur w a l c x hl HR.out⟩
set_option maxHeartbeats 400000 in
theorem l1Below_any (b : Nat) (v : Value) (l : List UInt8) (n : Int) (w : World) (hC : Cur w b v l) (h0 : -9223372036854775808 ≤ n) (h1 : n ≤ 9223372036854775807) :
    Calls Tryz.prog 62 #[.pointer (some ⟨b, 0, none⟩), .int .i64 n] w fun e w' => DrawnInt (fun x => 0 ≤ x ∧ x ≤ 16777215 ∧ (0 < n → x < n)) b v l w e w' := by
  have HC := Lib.hid hC
  clear hC
  by_cases hn : n ≤ 0
  · go_enter Tryz.func62, Tryz.ntmps62
    go_wp2
    go_ret
    exact ⟨_, rfl, ⟨by omega, by omega, by omega⟩, grown_refl _ _, HC.out⟩
  · by_cases h2 : n ≤ 256
    · go_enter Tryz.func62, Tryz.ntmps62
      go_wp2_with (go_at_call 92; refine (l1Byte_any b v l _ HC.out).mono ?_; rintro e w1 ⟨x, rfl, ⟨hx0, hx1⟩, hg1, hC1⟩)
      go_ret
      have := mod_bd x n (by omega)
      exact ⟨_, rfl, ⟨by omega, by omega, by omega⟩, hg1, hC1⟩
    · go_enter Tryz.func62, Tryz.ntmps62
      go_wp2_with fail
      refine (l1Byte_any b v l _ HC.out).mono ?_
      rintro e w1 ⟨x, rfl, ⟨hx0, hx1⟩, hg1, hC1⟩
      have HC1 := Lib.hid hC1
      have HG1 := Lib.hid hg1
      clear hC1 hg1
      go_wp2_with fail
      refine (l1Byte_any b v l _ HC1.out).mono ?_
      rintro e w2 ⟨y, rfl, ⟨hy0, hy1⟩, hg2, hC2⟩
      have HC2 := Lib.hid hC2
      have HG2 := Lib.hid hg2
      clear hC2 hg2
      go_wp2_with fail
      refine (l1Byte_any b v l _ HC2.out).mono ?_
      rintro e w3 ⟨z, rfl, ⟨hz0, hz1⟩, hg3, hC3⟩
      have HC3 := Lib.hid hC3
      have HG3 := Lib.hid hg3
      clear hC3 hg3
      go_wp2_with fail
      go_ret
      have hm := mod_bd (x * 65536 + y * 256 + z) n (by omega)
      have hle : (x * 65536 + y * 256 + z) % n ≤ x * 65536 + y * 256 + z := mod_le _ _ (by omega) (by omega)
      exact ⟨_, rfl, ⟨by omega, by omega, by omega⟩, grown_trans (grown_trans HG1.out HG2.out) HG3.out, HC3.out⟩
set_option maxHeartbeats 400000 in
theorem l1Once_any (b : Nat) (v : Value) (l : List UInt8) (n : Int) (w : World) (hC : Cur w b v l) (h0 : -9223372036854775808 ≤ n) (h1 : n ≤ 9223372036854775807) :
    Calls Tryz.prog 90 #[.pointer (some ⟨b, 0, none⟩), .int .i64 n] w fun e w' => DrawnBool b v l w e w' := by
  have HW := Lib.hid (l1Below_any b v l n w hC h0 h1)
  clear hC h0 h1
  go_enter Tryz.func90, Tryz.ntmps90
  go_wp2_with (go_at_call 62; refine (HW.out).mono ?_; rintro e w1 ⟨x, rfl, ⟨hx0, hx1, hx2⟩, hg1, hC1⟩)
  go_ret
  exact ⟨_, rfl, hg1, hC1⟩
/-- a slice value that reads as the values xs (at least one), in a block that is not b -/
def RowOff (b : Nat) (w : World) (v : Value) (xs : List Value) : Prop :=
  ∃ lb o c, v = .slice (some ⟨lb, o, none⟩) xs.length c ∧ lb ≠ b ∧ lb < w.heap.size ∧ 0 < xs.length ∧ xs.length ≤ maxLen ∧ ∀ j, j < xs.length → w.cell? ⟨lb, o + j, none⟩ = xs[j]?
theorem rowOff_new (w : World) (b : Nat) (hb : b < w.heap.size) (t : TypeId) (xs : List Value) (cs : Array Value) (n : Nat) (hcs : cs = xs.toArray) (hn : n = xs.length) (h0 : 0 < xs.length) (hm : xs.length ≤ maxLen) (c : Nat) : RowOff b (w.alloc (.cells cs t)) (.slice (some ⟨w.heap.size, 0, none⟩) n c) xs := by
  subst hcs; subst hn
  refine ⟨w.heap.size, 0, c, rfl, by omega, by simp, h0, hm, fun j _ => ?_⟩
  rw [cell_of_row _ _ _ _ t (0, 0) (heap_alloc_new w _)]
  simp
def DrawnStr (Q : ByteArray → Prop) (b : Nat) (v : Value) (l : List UInt8) (w : World) (e : Ending) (w' : World) : Prop := ∃ x : ByteArray, e = .returned (.string x) ∧ Q x ∧ w.grownBy w' (some b) ∧ Cur w' b v l
set_option maxHeartbeats 400000 in
theorem l1Int_any (b : Nat) (v : Value) (l : List UInt8) (lv : Value) (zs : List Int) (w : World) (hC : Cur w b v l) (hR : RowOff b w lv (zs.map (Value.int .i64))) :
    Calls Tryz.prog 93 #[.pointer (some ⟨b, 0, none⟩), lv] w fun e w' => DrawnInt (fun x => x ∈ zs) b v l w e w' := by
  obtain ⟨lb, o, c, rfl, hne, hlt, hpos, hm, hc⟩ := hR
  rw [List.length_map] at *
  unfold maxLen at hm
  have HC := Lib.hid hC
  have HR := Lib.hid hc
  clear hC hc
  go_enter Tryz.func93, Tryz.ntmps93
  go_wp2_with fail
  refine (l1Below_any b v l _ _ HC.out (by omega) (by omega)).mono ?_
  rintro e w1 ⟨x, rfl, ⟨hx0, hx1, hx2⟩, hg1, hC1⟩
  obtain ⟨k, rfl⟩ := Int.eq_ofNat_of_zero_le hx0
  have hk : k < zs.length := by have := hx2 (by omega); omega
  have hcell : w1.cell? ⟨lb, o + k, none⟩ = some (.int .i64 (zs[k]'hk)) := by
    rw [World.cell?_of_block (a := ⟨lb, o + k, none⟩) (hg1.block lb hlt (fun e => hne (by injection e)))]
    rw [HR.out k hk]; simp [List.getElem?_eq_getElem hk]
  have HG := Lib.hid hg1
  have HC1 := Lib.hid hC1
  clear hg1 hC1 hx2
  go_wp2_with fail
  go_ret
  exact ⟨_, rfl, List.getElem_mem hk, HG.out, HC1.out⟩
set_option maxHeartbeats 400000 in
theorem l1Str_any (b : Nat) (v : Value) (l : List UInt8) (lv : Value) (zs : List ByteArray) (w : World) (hC : Cur w b v l) (hR : RowOff b w lv (zs.map Value.string)) :
    Calls Tryz.prog 63 #[.pointer (some ⟨b, 0, none⟩), lv] w fun e w' => DrawnStr (fun x => x ∈ zs) b v l w e w' := by
  obtain ⟨lb, o, c, rfl, hne, hlt, hpos, hm, hc⟩ := hR
  rw [List.length_map] at *
  unfold maxLen at hm
  have HC := Lib.hid hC
  have HR := Lib.hid hc
  clear hC hc
  go_enter Tryz.func63, Tryz.ntmps63
  go_wp2_with fail
  refine (l1Below_any b v l _ _ HC.out (by omega) (by omega)).mono ?_
  rintro e w1 ⟨x, rfl, ⟨hx0, hx1, hx2⟩, hg1, hC1⟩
  obtain ⟨k, rfl⟩ := Int.eq_ofNat_of_zero_le hx0
  have hk : k < zs.length := by have := hx2 (by omega); omega
  have hcell : w1.cell? ⟨lb, o + k, none⟩ = some (.string (zs[k]'hk)) := by
    rw [World.cell?_of_block (a := ⟨lb, o + k, none⟩) (hg1.block lb hlt (fun e => hne (by injection e)))]
    rw [HR.out k hk]; simp [List.getElem?_eq_getElem hk]
  have HG := Lib.hid hg1
  have HC1 := Lib.hid hC1
  clear hg1 hC1 hx2
  go_wp2_with fail
  go_ret
  exact ⟨_, rfl, List.getElem_mem hk, HG.out, HC1.out⟩
set_option maxHeartbeats 400000 in
theorem l1Odd_any (b : Nat) (v : Value) (l : List UInt8) (w : World) (hC : Cur w b v l) :
    Calls Tryz.prog 65 #[.pointer (some ⟨b, 0, none⟩)] w fun e w' => DrawnInt (fun x => -9223372036854775808 ≤ x ∧ x ≤ 9223372036854775807) b v l w e w' := by
  have HC := Lib.hid hC
  clear hC
  go_enter Tryz.func65, Tryz.ntmps65
  go_wp2_with fail
  refine (l1Int_any b v l _ [-1, 0, 1, 2, 3, 4, 5, 6, 7, 63, 64, 99, 100, 999, 1000, 9223372036854775807, -9223372036854775808] _ (cur_alloc HC.out _) (rowOff_new w b HC.out.lt _ _ _ _ rfl rfl (by decide) (by decide) _)).mono ?_
  rintro e w1 ⟨x, rfl, hx, hg1, hC1⟩
  have HG := Lib.hid (grown_trans (grown_alloc (grown_refl w (some b)) _) hg1)
  have HC1 := Lib.hid hC1
  have HX := Lib.hid hx
  clear hg1 hC1 hx
  go_wp2_with fail
  go_ret
  refine ⟨_, rfl, ?_, HG.out, HC1.out⟩
  have hx := HX.out
  simp only [List.mem_cons, List.not_mem_nil, or_false] at hx
  omega
def strLe (N : Nat) : Value → Bool
  | .string s => decide (s.size ≤ N)
  | _ => false
def strGet : Value → ByteArray
  | .string s => s
  | _ => ByteArray.empty
theorem strs_of (N : Nat) : ∀ xs : List Value, xs.all (strLe N) = true → xs = (xs.map strGet).map Value.string ∧ ∀ s ∈ xs.map strGet, s.size ≤ N
  | [], _ => ⟨rfl, by simp⟩
  | x :: r, h => by
    simp only [List.all_cons, Bool.and_eq_true] at h
    obtain ⟨h1, h2⟩ := strs_of N r h.2
    cases x <;> simp [strLe] at h
    rename_i s
    refine ⟨by simp only [List.map_cons, strGet]; rw [← h1], ?_⟩
    intro y hy
    simp only [List.map_cons, List.mem_cons, strGet] at hy
    rcases hy with rfl | hy
    · exact h.1
    · exact h2 y hy
/-- a text that is drawn out of a list that was just laid -/
theorem l1Str_new (b : Nat) (v : Value) (l : List UInt8) (w : World) (cs : Array Value) (t : TypeId) (n c N : Nat) (hC : Cur w b v l) (hn : n = cs.toList.length) (h0 : 0 < cs.toList.length) (hm : cs.toList.length ≤ 1000) (hall : cs.toList.all (strLe N) = true) :
    Calls Tryz.prog 63 #[.pointer (some ⟨b, 0, none⟩), .slice (some ⟨w.heap.size, 0, none⟩) n c] (w.alloc (.cells cs t)) fun e w' => DrawnStr (fun x => x.size ≤ N) b v l w e w' := by
  obtain ⟨h1, h2⟩ := strs_of N cs.toList hall
  have hR : RowOff b (w.alloc (.cells cs t)) (.slice (some ⟨w.heap.size, 0, none⟩) n c) ((cs.toList.map strGet).map Value.string) :=
    rowOff_new w b hC.lt t _ cs n (by rw [← h1]) (by rw [← h1]; exact hn) (by rw [← h1]; exact h0) (by rw [← h1]; unfold maxLen; omega) c
  refine (l1Str_any b v l _ _ _ (cur_alloc hC _) hR).mono ?_
  rintro e w1 ⟨x, rfl, hx, hg1, hC1⟩
  exact ⟨x, rfl, h2 x hx, grown_trans (grown_alloc (grown_refl w (some b)) _) hg1, hC1⟩
set_option maxHeartbeats 400000 in
theorem l1Word_any (b : Nat) (v : Value) (l : List UInt8) (w : World) (hC : Cur w b v l) :
    Calls Tryz.prog 64 #[.pointer (some ⟨b, 0, none⟩)] w fun e w' => DrawnStr (fun x => x.size ≤ 9) b v l w e w' := by
  have HC := Lib.hid hC
  clear hC
  go_enter Tryz.func64, Tryz.ntmps64
  go_wp2_with fail
  refine (l1Str_new b v l w _ _ _ _ 9 HC.out (by rfl) (by decide) (by decide) (by decide)).mono ?_
  rintro e w1 ⟨x, rfl, hx, hg1, hC1⟩
  have HG := Lib.hid hg1
  have HC1 := Lib.hid hC1
  clear hg1 hC1
  go_wp2_with fail
  go_ret
  exact ⟨_, rfl, hx, HG.out, HC1.out⟩
/-- a new number, a new text: what a whole draw gives -/
def GivesInt (Q : Int → Prop) (w : World) (e : Ending) (w' : World) : Prop := ∃ x : Int, e = .returned (.int .i64 x) ∧ Q x ∧ Below w.heap.size w w'
def GivesStr (Q : ByteArray → Prop) (w : World) (e : Ending) (w' : World) : Prop := ∃ x : ByteArray, e = .returned (.string x) ∧ Q x ∧ Below w.heap.size w w'
set_option maxHeartbeats 400000 in
theorem big_any (v : Value) (l : List UInt8) (w : World) (hR : RowAt w v (Lib.byteCells l)) :
    Calls Tryz.prog 7 #[v] w fun e w' => e = .returned (.bool (decide (4096 < l.length))) ∧ w = w' := by
  obtain ⟨a, c, rfl, hl, _⟩ := hR
  generalize (Lib.byteCells l).length + c = c at *
  rw [Lib.byteCells_length] at *
  unfold maxLen at hl
  go_enter Tryz.func7, Tryz.ntmps7
  go_wp2
  go_ret
  exact ⟨congrArg (fun b => Ending.returned (.bool b)) (by simp; try omega), rfl⟩
end Go.Proofs.YtghebbndfpbkcaaGreat
/- Contracts of chapter 2: FormatFace. -/
namespace Go.Proofs.YtghebbndfpbkcaaGreat
set_option linter.unusedVariables false
open Go.RowKit
/-- what FormatFace writes -/
def fmtF (f : Int) : List UInt8 := if f = 0 then [110, 111, 110, 101] else joinL (namesF f) [43]
theorem total_abN (L : List Nat) : total (L.map abN) ≤ 4 * L.length := by
  induction L with
  | nil => simp [total]
  | cons a r ih => have := abN_len a; simp only [List.map_cons, total, List.length_cons]; omega
theorem names_small (L : List Nat) (h : L.length ≤ 6) : (joinL (L.map abN) [43]).length ≤ 100 := by
  have h1 := joinK_len (L.map abN) [43] (L.map abN).length (Nat.le_refl _)
  have h2 := total_abN L
  rw [List.take_length] at h1
  simp only [List.length_map, List.length_cons, List.length_nil] at h1
  unfold joinL
  rw [List.length_map]; omega
theorem fmtF_len (f : Int) : (fmtF f).length ≤ 100 := by
  unfold fmtF; split
  · simp
  · exact names_small _ (abilL_len f)
theorem getElem_intsN (L : List Nat) (j : Nat) (h : j < L.length) : (intsN L)[j]'(by rw [intsN_len]; exact h) = ((L[j] : Nat) : Int) := by simp [intsN]
theorem map_snoc (L : List Nat) (j : Nat) (h : j < L.length) : (L.take (j + 1)).map abN = (L.take j).map abN ++ [abN L[j]] := by
  rw [List.take_succ_eq_append_getElem h, List.map_append]; rfl
theorem joinL_nil (sep : List UInt8) : joinL [] sep = [] := rfl
theorem isF_zero : isF 0 = true := rfl
theorem fmtF_non {f : Int} (h : isF f = false) : fmtF f = [] := by
  unfold fmtF
  rw [if_neg (by rintro rfl; rw [isF_zero] at h; cases h)]
  unfold namesF
  rw [abilL_no h]; rfl
theorem abN_snoc {f : Int} {k : Nat} (h : hasI f k = true) : (abilK f (k + 1)).map abN = (abilK f k).map abN ++ [abN k] := by rw [abilK_succ, if_pos h, List.map_append]; rfl
end Go.Proofs.YtghebbndfpbkcaaGreat
/- The draws of chapter 2. -/
namespace Go.Proofs.YtghebbndfpbkcaaGreat
set_option linter.unusedVariables false
open Go.RowKit
def I64 (x : Int) : Prop := -9223372036854775808 ≤ x ∧ x ≤ 9223372036854775807
def GivesInts (w : World) (e : Ending) (w' : World) : Prop := ∃ x y : Int, e = .returned (.tuple #[.int .i64 x, .int .i64 y]) ∧ I64 x ∧ I64 y ∧ Below w.heap.size w w'
theorem size_appB (a b : ByteArray) : (a ++ b).size = a.size + b.size := ByteArray.size_append
end Go.Proofs.YtghebbndfpbkcaaGreat
/- The draws of chapter 3: kinds, keys, cells. -/
namespace Go.Proofs.YtghebbndfpbkcaaGreat
set_option linter.unusedVariables false
set_option linter.unusedSimpArgs false
open Go.RowKit
set_option maxHeartbeats 800000 in
theorem l3Key_any (b : Nat) (v : Value) (l : List UInt8) (w : World) (hC : Cur w b v l) :
    Calls Tryz.prog 94 #[.pointer (some ⟨b, 0, none⟩)] w fun e w' => DrawnStr (fun x => x.size ≤ 9) b v l w e w' := by
  have HC := Lib.hid hC
  clear hC
  go_enter Tryz.func94, Tryz.ntmps94
  go_wp2_with fail
  refine (l1Str_new b v l w _ _ _ _ 9 HC.out (by rfl) (by decide) (by decide) (by decide)).mono ?_
  rintro e w1 ⟨x, rfl, hx, hg1, hC1⟩
  have HG := Lib.hid hg1
  have HC1 := Lib.hid hC1
  clear hg1 hC1
  go_wp2_with fail
  go_ret
  exact ⟨_, rfl, hx, HG.out, HC1.out⟩
set_option maxHeartbeats 800000 in
theorem l3Kind_any (b : Nat) (v : Value) (l : List UInt8) (w : World) (hC : Cur w b v l) :
    Calls Tryz.prog 89 #[.pointer (some ⟨b, 0, none⟩)] w fun e w' => DrawnStr (fun x => x.size ≤ 9) b v l w e w' := by
  have HC0 := Lib.hid hC
  clear hC
  go_enter Tryz.func89, Tryz.ntmps89
  go_wp2_with fail
  refine (l1Once_any b v l _ w HC0.out (by omega) (by omega)).mono ?_
  rintro e w1 ⟨x, rfl, hg, hC⟩
  have HG1 := Lib.hid (hg)
  have HC1 := Lib.hid hC
  clear hg hC
  cases x
  · go_wp2_with fail
    refine (l1Str_new b v l w1 _ _ _ _ 9 HC1.out (by rfl) (by decide) (by decide) (by decide)).mono ?_
    rintro e w2 ⟨x, rfl, hx, hg1, hC1⟩
    have HG := Lib.hid (grown_trans HG1.out hg1)
    have HC2 := Lib.hid hC1
    clear hg1 hC1
    go_wp2_with fail
    go_ret
    exact ⟨_, rfl, hx, HG.out, HC2.out⟩
  · go_wp2_with fail
    refine (l1Str_new b v l w1 _ _ _ _ 9 HC1.out (by rfl) (by decide) (by decide) (by decide)).mono ?_
    rintro e w2 ⟨x, rfl, hx, hg1, hC1⟩
    have HG := Lib.hid (grown_trans HG1.out hg1)
    have HC2 := Lib.hid hC1
    clear hg1 hC1
    go_wp2_with fail
    go_ret
    exact ⟨_, rfl, hx, HG.out, HC2.out⟩
def SmallC (x : List CellD) : Prop := x.length ≤ 6 ∧ ∀ c ∈ x, c.fKey.length ≤ 9 ∧ I64 c.fValue
def DrawnCells (b : Nat) (v : Value) (l : List UInt8) (w : World) (e : Ending) (w' : World) : Prop := ∃ u x, e = .returned u ∧ OwnsF cCell 36 2 w' w.heap.size u x ∧ SmallC x ∧ w.grownBy w' (some b) ∧ Cur w' b v l
theorem ownsF_grownC {α : Type} {f : α → List Value} {E k : Nat} {w w' : World} {B b : Nat} {v : Value} {l : List α} (h : OwnsF f E k w B v l) (hg : w.grownBy w' (some b)) (hb : b < B) : OwnsF f E k w' B v l :=
  World.ownsRow.kept h hg (Or.inr fun e => by have := (World.ownsRow.lt h b e).1; omega)
theorem smallC_put {x : List CellD} {k : List UInt8} {n : Int} (h : SmallC x) (hl : x.length ≤ 5) (hk : k.length ≤ 9) (hn : I64 n) : SmallC (putC x k n) := by
  refine ⟨by rw [putC_len]; split <;> omega, fun c hc => ?_⟩
  rcases putC_mem hc with rfl | hc
  · exact ⟨hk, hn⟩
  · exact h.2 c hc
set_option maxRecDepth 100000 in
set_option maxHeartbeats 3200000 in
theorem l3Cells_any (b : Nat) (v : Value) (l : List UInt8) (w : World) (hC : Cur w b v l) :
    Calls Tryz.prog 91 #[.pointer (some ⟨b, 0, none⟩)] w fun e w' => DrawnCells b v l w e w' := by
  have hbl := hC.lt
  have HC := Lib.hid (cur_alloc hC (.cells #[] 36))
  have HO := Lib.hid (ownsF_new cCell 36 2 w)
  have HG0 := Lib.hid (grown_alloc (grown_refl w (some b)) (.cells #[] 36))
  clear hC
  go_enter Tryz.func91, Tryz.ntmps91
  go_wp2_with fail
  refine (l1Below_any b v l _ _ HC.out (by omega) (by omega)).mono ?_
  rintro e w1 ⟨x, rfl, ⟨h0, h1, h6⟩, hg1, hC1⟩
  have h6' : x < 6 := h6 (by omega)
  have HO1 := Lib.hid (ownsF_grownC HO.out hg1 hbl)
  have HG1 := Lib.hid (grown_trans HG0.out hg1)
  have HC1 := Lib.hid hC1
  clear hg1 hC1 h6 h1
  go_wp2_with fail
  go_loopw [3, 4] (fun lv nv wr => ∃ (n : Int) (u : Value) (y : List CellD), lv = u ∧ nv = .int .i64 n ∧ 0 ≤ n ∧ (y.length : Int) + n ≤ 5 ∧ OwnsF cCell 36 2 wr w.heap.size u y ∧ SortC y ∧ SmallC y ∧ w.grownBy wr (some b) ∧ Cur wr b v l) (fun _ nv _ => (intOf nv).toNat)
  case atStart => exact ⟨x, _, [], rfl, rfl, by omega, by simp; omega, HO1.out, List.Pairwise.nil, ⟨by simp, by simp⟩, HG1.out, HC1.out⟩
  case round =>
    obtain ⟨n, u, y, rfl, rfl, hn0, hn6, hO, hS, hM, hg, hC⟩ := hrel
    have HO := Lib.hid hO
    have HS := Lib.hid hS
    have HM := Lib.hid hM
    have HG := Lib.hid hg
    have HC2 := Lib.hid hC
    clear hO hS hM hg hC
    by_cases hp : 0 < n
    · go_wp2_with fail
      refine (l3Key_any b v l _ HC2.out).mono ?_
      rintro e w2 ⟨z, rfl, hz, hg2, hC2⟩
      obtain ⟨⟨zl⟩⟩ := z
      have hzl : zl.length ≤ 9 := hz
      have HG3 := Lib.hid (grown_trans HG.out hg2)
      have HC3 := Lib.hid hC2
      have HO3 := Lib.hid (ownsF_grownC HO.out hg2 hbl)
      clear hg2 hC2 hz
      have HAT := Lib.hid (l3At_any _ y zl w2 (ownsF_at HO3.out (by omega)))
      generalize hat : atK y zl = at0 at *
      obtain ⟨ua, uc, rfl⟩ := slice_of HO3.out
      go_wp2_with fail
      refine HAT.out.mono ?_
      rintro e w3 ⟨rfl, hb⟩
      have HG4 := Lib.hid (grown_below HG3.out hb HG3.out.size)
      have HC4 := Lib.hid (HC3.out.below hb HC3.out.lt)
      have HO4 := Lib.hid (ownsF_below HO3.out hb (Nat.le_refl _))
      clear hb hat HAT
      have HPUT := Lib.hid (fun n W (h : OwnsF cCell 36 2 W w.heap.size (.slice ua y.length uc) y) => l3Put_any _ y zl n W (ownsF_at h (by omega)) (by omega) HS.out)
      by_cases hq : (0 ≤ at0 ∨ y.length < 4)
      · have hgo : (decide (0 ≤ at0) || decide ((y.length : Int) < 4)) = true := by simp only [Bool.or_eq_true, decide_eq_true_eq]; omega
        by_cases ha : 0 ≤ at0
        · clear hgo hq
          go_wp2_with fail
          refine (l1Below_any b v l _ _ HC4.out (by omega) (by omega)).mono ?_
          rintro e w4 ⟨t, rfl, ⟨t0, t1, _⟩, hg5, hC5⟩
          have HG5 := Lib.hid (grown_trans HG4.out hg5)
          have HC5 := Lib.hid hC5
          have HO5 := Lib.hid (ownsF_grownC HO4.out hg5 hbl)
          clear hg5 hC5
          go_wp2_with fail
          refine (HPUT.out t _ HO5.out).mono ?_
          rintro e w5 ⟨u2, rfl, ho, hb⟩
          have HG6 := Lib.hid (grown_below HG5.out hb HG5.out.size)
          have HC6 := Lib.hid (HC5.out.below hb HC5.out.lt)
          have HO6 := Lib.hid (ownsF_base ho HG5.out.size)
          clear hb ho
          go_wp2_with fail
          exact ⟨⟨n - 1, _, _, rfl, rfl, by omega, by rw [putC_len]; split <;> push_cast <;> omega, HO6.out, putC_sort _ _ HS.out, smallC_put HM.out (by omega) hzl ⟨by omega, by omega⟩, HG6.out, HC6.out⟩, by simp [intOf]; omega⟩
        · have hlt : (y.length : Int) < 4 := by omega
          clear hgo hq
          go_wp2_with fail
          refine (l1Below_any b v l _ _ HC4.out (by omega) (by omega)).mono ?_
          rintro e w4 ⟨t, rfl, ⟨t0, t1, _⟩, hg5, hC5⟩
          have HG5 := Lib.hid (grown_trans HG4.out hg5)
          have HC5 := Lib.hid hC5
          have HO5 := Lib.hid (ownsF_grownC HO4.out hg5 hbl)
          clear hg5 hC5
          go_wp2_with fail
          refine (HPUT.out t _ HO5.out).mono ?_
          rintro e w5 ⟨u2, rfl, ho, hb⟩
          have HG6 := Lib.hid (grown_below HG5.out hb HG5.out.size)
          have HC6 := Lib.hid (HC5.out.below hb HC5.out.lt)
          have HO6 := Lib.hid (ownsF_base ho HG5.out.size)
          clear hb ho
          go_wp2_with fail
          exact ⟨⟨n - 1, _, _, rfl, rfl, by omega, by rw [putC_len]; split <;> push_cast <;> omega, HO6.out, putC_sort _ _ HS.out, smallC_put HM.out (by omega) hzl ⟨by omega, by omega⟩, HG6.out, HC6.out⟩, by simp [intOf]; omega⟩
      · have ha : ¬ (0 ≤ at0) := by omega
        have hlt : ¬ ((y.length : Int) < 4) := by omega
        clear hq
        go_wp2_with fail
        exact ⟨⟨n - 1, _, _, rfl, rfl, by omega, by omega, HO4.out, HS.out, HM.out, HG4.out, HC4.out⟩, by simp [intOf]; omega⟩
    · go_wp2_with fail
      go_ret
      exact ⟨_, _, rfl, HO.out, HM.out, HG.out, HC2.out⟩
end Go.Proofs.YtghebbndfpbkcaaGreat
/- The draws of chapter 3: cores. Written by gen/ch3dr.py. -/
namespace Go.Proofs.YtghebbndfpbkcaaGreat
set_option linter.unusedVariables false
set_option linter.unusedSimpArgs false
open Go.RowKit
theorem ownsF_nil {α : Type} (f : α → List Value) (E k : Nat) (w : World) (B : Nat) : OwnsF f E k w B (.slice none 0 0) [] := ⟨by simp, Or.inl ⟨rfl, rfl⟩⟩
theorem bx_grownC {w w' : World} {c b : Nat} {cs : List Value} (h : Bx w c cs) (hg : w.grownBy w' (some b)) (hne : c ≠ b) : Bx w' c cs :=
  ⟨Nat.lt_of_lt_of_le h.lt hg.size, fun j hj => (World.cell?_of_block (a := ⟨c, j, none⟩) (hg.block c h.lt (fun e => hne (by injection e)))).trans (h.cell j hj), fun j hj => (World.frozen?_of_block (a := ⟨c, j, none⟩) (hg.block c h.lt (fun e => hne (by injection e)))).trans (h.froz j hj)⟩
theorem grown_setO {a w : World} {b c : Nat} (h : a.grownBy w (some b)) (hc : a.heap.size ≤ c) (o : Nat) (u : Value) : a.grownBy (w.setCell ⟨c, o, none⟩ u) (some b) :=
  ⟨h.os, h.tape, h.output, by simpa [World.setCell] using h.size, fun j hj hne => (Below.heap_setCell w ⟨c, o, none⟩ u j (fun e => by have e2 : j = c := e; omega)).trans (h.block j hj hne)⟩
theorem cur_setO {w : World} {b c : Nat} {v : Value} {l : List UInt8} (hC : Cur w b v l) (hb : b < c) (o : Nat) (u : Value) : Cur (w.setCell ⟨c, o, none⟩ u) b v l := hC.far (grown_set (grown_refl w (some c)) o u) hb
def okDr (n : Nat) (d : CoreD) : Prop := d.fKind.length ≤ 9 ∧ d.fCells.length ≤ n ∧ (∀ c ∈ d.fCells, c.fKey.length ≤ 9 ∧ I64 c.fValue) ∧ I64 d.fCount
def DrawnCore (n : Nat) (b : Nat) (v : Value) (l : List UInt8) (w : World) (e : Ending) (w' : World) : Prop := ∃ d cv, e = .returned (vCore d cv) ∧ OwnsF cCell 36 2 w' w.heap.size cv d.fCells ∧ okDr n d ∧ w.grownBy w' (some b) ∧ Cur w' b v l
abbrev zCoreV : List Value := [.string ⟨#[]⟩, .bool false, .bool false, .slice none 0 0, .int .i64 0]
abbrev cCoreV (d : CoreD) (cv : Value) : List Value := [.string ⟨d.fKind.toArray⟩, .bool d.fOn, .bool d.fBroken, cv, .int .i64 d.fCount]
/-- a core that is being drawn: its variable in block B, the result's in block R -/
structure DSt (w : World) (b : Nat) (v : Value) (l : List UInt8) (R B : Nat) (d : CoreD) (cv : Value) (wx : World) : Prop where
  grown : w.grownBy wx (some b)
  cur : Cur wx b v l
  res : Bx wx R zCoreV
  box : Bx wx B (cCoreV d cv)
  own : OwnsF cCell 36 2 wx w.heap.size cv d.fCells
  bw : b < w.heap.size
  wR : w.heap.size ≤ R
  RB : R < B
  nB : cv.ownBlock ≠ some B
  nR : cv.ownBlock ≠ some R
theorem DSt.draw {w : World} {b : Nat} {v : Value} {l : List UInt8} {R B : Nat} {d : CoreD} {cv : Value} {wx w' : World} (h : DSt w b v l R B d cv wx) (hg : wx.grownBy w' (some b)) (hC : Cur w' b v l) : DSt w b v l R B d cv w' :=
  ⟨grown_trans h.grown hg, hC, bx_grownC h.res hg (by have := h.bw; have := h.wR; omega), bx_grownC h.box hg (by have := h.bw; have := h.wR; have := h.RB; omega), ownsF_grownC h.own hg h.bw, h.bw, h.wR, h.RB, h.nB, h.nR⟩
theorem DSt.below {w : World} {b : Nat} {v : Value} {l : List UInt8} {R B : Nat} {d : CoreD} {cv : Value} {wx w' : World} (h : DSt w b v l R B d cv wx) (hb : Below wx.heap.size wx w') : DSt w b v l R B d cv w' :=
  ⟨grown_below h.grown hb h.grown.size, h.cur.below hb h.cur.lt, h.res.below hb, h.box.below hb, ownsF_below h.own hb (Nat.le_refl _), h.bw, h.wR, h.RB, h.nB, h.nR⟩
theorem DSt.drew {w : World} {b : Nat} {v : Value} {l : List UInt8} {R B : Nat} {d : CoreD} {cv : Value} {wx : World} (h : DSt w b v l R B d cv wx) : DSt w b v l R B d cv wx.drew := h.below ((Below.refl _ _).drew)
/-- a cell of the variable is stored, not the row of cells -/
theorem DSt.set {w : World} {b : Nat} {v : Value} {l : List UInt8} {R B : Nat} {d d' : CoreD} {cv : Value} {wx : World} (h : DSt w b v l R B d cv wx) (j : Nat) (hj : j < 5) (u : Value) (hd : (cCoreV d cv).set j u = cCoreV d' cv) (hc : d'.fCells = d.fCells) : DSt w b v l R B d' cv (wx.setCell ⟨B, j, none⟩ u) :=
  ⟨grown_setO h.grown (by have := h.wR; have := h.RB; omega) j u, cur_setO h.cur (by have := h.bw; have := h.wR; have := h.RB; omega) j u, h.res.other (by have := h.RB; omega) j u, by rw [← hd]; exact h.box.set j hj u, by
    rw [hc]; exact World.ownsRow.kept h.own (row := some B) ⟨rfl, rfl, rfl, by simp, fun i hi hne => Below.heap_setCell wx ⟨B, j, none⟩ u i (fun e => hne (by rw [e]))⟩ (Or.inr h.nB), h.bw, h.wR, h.RB, h.nB, h.nR⟩
/-- the row of cells is stored -/
theorem DSt.setC {w : World} {b : Nat} {v : Value} {l : List UInt8} {R B : Nat} {d : CoreD} {cv : Value} {wx : World} (h : DSt w b v l R B d cv wx) (u : Value) (y : List CellD) (ho : OwnsF cCell 36 2 wx w.heap.size u y) (n1 : u.ownBlock ≠ some B) (n2 : u.ownBlock ≠ some R) : DSt w b v l R B { d with fCells := y } u (wx.setCell ⟨B, 3, none⟩ u) :=
  ⟨grown_setO h.grown (by have := h.wR; have := h.RB; omega) 3 u, cur_setO h.cur (by have := h.bw; have := h.wR; have := h.RB; omega) 3 u, h.res.other (by have := h.RB; omega) 3 u, h.box.set 3 (by simp) u,
    World.ownsRow.kept ho (row := some B) ⟨rfl, rfl, rfl, by simp, fun i hi hne => Below.heap_setCell wx ⟨B, 3, none⟩ u i (fun e => hne (by rw [e]))⟩ (Or.inr n1), h.bw, h.wR, h.RB, n1, n2⟩
theorem DSt.fin {w : World} {b : Nat} {v : Value} {l : List UInt8} {R B : Nat} {d : CoreD} {cv : Value} {wx : World} {n : Nat} (h : DSt w b v l R B d cv wx) (hk : okDr n d) (u0 u1 u2 u3 u4 : Value) :
    DrawnCore n b v l w (.returned (vCore d cv)) (((((wx.setCell ⟨R, 0, none⟩ u0).setCell ⟨R, 1, none⟩ u1).setCell ⟨R, 2, none⟩ u2).setCell ⟨R, 3, none⟩ u3).setCell ⟨R, 4, none⟩ u4) := by
  have hb : b < R := Nat.lt_of_lt_of_le h.bw h.wR
  have hs : ∀ {W : World} (o : Nat) (u : Value), OwnsF cCell 36 2 W w.heap.size cv d.fCells → OwnsF cCell 36 2 (W.setCell ⟨R, o, none⟩ u) w.heap.size cv d.fCells := fun o u ho =>
    World.ownsRow.kept ho (row := some R) ⟨rfl, rfl, rfl, by simp, fun i hi hne => Below.heap_setCell _ ⟨R, o, none⟩ u i (fun e => hne (by rw [e]))⟩ (Or.inr h.nR)
  exact ⟨d, cv, rfl, hs 4 u4 (hs 3 u3 (hs 2 u2 (hs 1 u1 (hs 0 u0 h.own)))), hk, grown_setO (grown_setO (grown_setO (grown_setO (grown_setO h.grown h.wR 0 u0) h.wR 1 u1) h.wR 2 u2) h.wR 3 u3) h.wR 4 u4, cur_setO (cur_setO (cur_setO (cur_setO (cur_setO h.cur hb 0 u0) hb 1 u1) hb 2 u2) hb 3 u3) hb 4 u4⟩
theorem DSt.setC2 {w : World} {b : Nat} {v : Value} {l : List UInt8} {R B : Nat} {d : CoreD} {cv : Value} {w0 wx : World} (h : DSt w b v l R B d cv w0) (hg : w.grownBy wx (some b)) (hC : Cur wx b v l) (hr : Bx wx R zCoreV) (hb : Bx wx B (cCoreV d cv)) (u : Value) (y : List CellD) (ho : OwnsF cCell 36 2 wx w.heap.size u y) (n1 : u.ownBlock ≠ some B) (n2 : u.ownBlock ≠ some R) : DSt w b v l R B { d with fCells := y } u (wx.setCell ⟨B, 3, none⟩ u) :=
  ⟨grown_setO hg (by have := h.wR; have := h.RB; omega) 3 u, cur_setO hC (by have := h.bw; have := h.wR; have := h.RB; omega) 3 u, hr.other (by have := h.RB; omega) 3 u, hb.set 3 (by simp) u,
    World.ownsRow.kept ho (row := some B) ⟨rfl, rfl, rfl, by simp, fun i hi hne => Below.heap_setCell wx ⟨B, 3, none⟩ u i (fun e => hne (by rw [e]))⟩ (Or.inr n1), h.bw, h.wR, h.RB, n1, n2⟩
/-- what an append to the row of one's own leaves of the rest -/
theorem DSt.app {w : World} {b : Nat} {v : Value} {l : List UInt8} {R B : Nat} {d : CoreD} {cv : Value} {wx w' : World} (h : DSt w b v l R B d cv wx) (hg : wx.grownBy w' cv.ownBlock) :
    w.grownBy w' (some b) ∧ Cur w' b v l ∧ Bx w' R zCoreV ∧ Bx w' B (cCoreV d cv) := by
  have hge : ∀ g, cv.ownBlock = some g → w.heap.size ≤ g := fun g e => (World.ownsRow.lt h.own g e).1
  have hsz := h.grown.size
  refine ⟨⟨hg.os.trans h.grown.os, hg.tape.trans h.grown.tape, hg.output.trans h.grown.output, Nat.le_trans h.grown.size hg.size, fun k hk hne => (hg.block k (by omega) (fun e => by have := hge k e.symm; omega)).trans (h.grown.block k hk hne)⟩, ?_, ?_, ?_⟩
  · cases ho : cv.ownBlock with
    | none => rw [ho] at hg; exact h.cur.below (B := wx.heap.size) ⟨hg.os, hg.tape, hg.output, hg.size, fun k hk => hg.block k hk (by simp)⟩ h.cur.lt
    | some g => rw [ho] at hg; exact h.cur.far hg (by have := hge g ho; have := h.bw; omega)
  · exact ⟨Nat.lt_of_lt_of_le h.res.lt hg.size, fun j hj => (World.cell?_of_block (a := ⟨R, j, none⟩) (hg.block R h.res.lt (fun e => h.nR e.symm))).trans (h.res.cell j hj), fun j hj => (World.frozen?_of_block (a := ⟨R, j, none⟩) (hg.block R h.res.lt (fun e => h.nR e.symm))).trans (h.res.froz j hj)⟩
  · exact ⟨Nat.lt_of_lt_of_le h.box.lt hg.size, fun j hj => (World.cell?_of_block (a := ⟨B, j, none⟩) (hg.block B h.box.lt (fun e => h.nB e.symm))).trans (h.box.cell j hj), fun j hj => (World.frozen?_of_block (a := ⟨B, j, none⟩) (hg.block B h.box.lt (fun e => h.nB e.symm))).trans (h.box.froz j hj)⟩
theorem kfI_face2 (k : List UInt8) : isF (kfI (kindI k)) = true := kfI_face _
set_option maxRecDepth 100000 in
set_option maxHeartbeats 6400000 in
theorem l3Draw_any (b : Nat) (v : Value) (l : List UInt8) (w : World) (hC : Cur w b v l) :
    Calls Tryz.prog 61 #[.pointer (some ⟨b, 0, none⟩)] w fun e w' => DrawnCore 6 b v l w e w' := by
  have hbl := hC.lt
  have HC0 := Lib.hid (cur_alloc hC (.cells #[.string ⟨#[]⟩, .bool false, .bool false, .slice none 0 0, .int .i64 0] 26))
  have BR0 := Lib.hid (Bx.new w zCoreV 26)
  have HG0 := Lib.hid (grown_alloc (grown_refl w (some b)) (.cells #[.string ⟨#[]⟩, .bool false, .bool false, .slice none 0 0, .int .i64 0] 26))
  clear hC
  go_enter Tryz.func61, Tryz.ntmps61
  go_wp2_with fail
  refine (l3Kind_any b v l _ HC0.out).mono ?_
  rintro e w1 ⟨z, rfl, hz, hg, hC⟩
  obtain ⟨⟨kl⟩⟩ := z
  have hkl := Lib.hid (show kl.length ≤ 9 from hz)
  have HG1 := Lib.hid (grown_trans HG0.out hg)
  have HC1 := Lib.hid hC
  have BR1 := Lib.hid (bx_grownC BR0.out hg (by omega))
  clear hg hC hz HG0 HC0 BR0
  have HKF := Lib.hid (fun W => specKind_b kl _ rfl W)
  have hff := Lib.hid (kfI_face2 kl)
  generalize kfI (kindI kl) = f at *
  generalize decide (0 ≤ kindI kl) = q at *
  go_wp2_with fail
  refine (HKF.out _).mono ?_
  rintro e w2 ⟨rfl, hb⟩
  have HG2 := Lib.hid (grown_below HG1.out hb HG1.out.size)
  have HC2 := Lib.hid (HC1.out.below hb HC1.out.lt)
  have BR2 := Lib.hid (BR1.out.below hb)
  clear hb HG1 HC1 BR1 HKF
  cases q
  case false =>
    go_wp2_with fail
    refine (l1Below_any b v l _ _ HC2.out (by omega) (by omega)).mono ?_
    rintro e w3 ⟨cnt, rfl, ⟨c0, c1, c2⟩, hg, hC⟩
    have c3 := c2 (by omega)
    clear c2 c1
    have hRl : w.heap.size < w3.heap.size := Nat.lt_of_lt_of_le BR2.out.lt hg.size
    have S := Lib.hid (show DSt w b v l w.heap.size w3.heap.size ⟨[114, 111, 98, 111, 116], false, false, [], cnt⟩ (.slice none 0 0) (w3.alloc (.cells #[.string ⟨#[114, 111, 98, 111, 116]⟩, .bool false, .bool false, .slice none 0 0, .int .i64 cnt] 26)) from ⟨grown_alloc (grown_trans HG2.out hg) _, cur_alloc hC _, (bx_grownC BR2.out hg (by omega)).alloc _, Bx.new w3 (cCoreV ⟨[114, 111, 98, 111, 116], false, false, [], cnt⟩ (.slice none 0 0)) 26, ownsF_nil _ _ _ _ _, hbl, Nat.le_refl _, hRl, by simp [Value.ownBlock], by simp [Value.ownBlock]⟩)
    clear hg hC HG2 HC2 BR2
    have HH0 := Lib.hid (fun W => l2Has_0 63 _ rfl rfl W)
    have HH1 := Lib.hid (fun W => l2Has_1 63 _ rfl rfl W)
    generalize hasI 63 0 = h0 at *
    generalize hasI 63 1 = h1 at *
    go_wp2_with fail
    generalize w3.alloc (.cells #[.string ⟨#[114, 111, 98, 111, 116]⟩, .bool false, .bool false, .slice none 0 0, .int .i64 cnt] 26) = w4 at *
    refine (HH0.out _).mono ?_
    rintro e w' ⟨rfl, rfl⟩
    cases h0
    case false =>
      go_wp2_with fail
      refine (HH1.out _).mono ?_
      rintro e w' ⟨rfl, rfl⟩
      cases h1
      case false =>
        go_wp2_with fail
        refine (l1Once_any b v l _ _ S.out.cur (by omega) (by omega)).mono ?_
        rintro e w1 ⟨o, rfl, hg, hC⟩
        have S := Lib.hid (S.out.draw hg hC)
        clear hg hC
        cases o
        case false =>
          have BP := Lib.hid S.out.box
          have BR := Lib.hid S.out.res
          have p0 := BP.out.cell 0 (by simp)
          have p1 := BP.out.cell 1 (by simp)
          have p2 := BP.out.cell 2 (by simp)
          have p3 := BP.out.cell 3 (by simp)
          have p4 := BP.out.cell 4 (by simp)
          simp only [List.getElem_cons_zero, List.getElem_cons_succ] at p0 p1 p2 p3 p4
          have x0 := BP.out.froz 0 (by simp)
          have x1 := BP.out.froz 1 (by simp)
          have x2 := BP.out.froz 2 (by simp)
          have x3 := BP.out.froz 3 (by simp)
          have x4 := BP.out.froz 4 (by simp)
          have r0 := BR.out.cell 0 (by simp)
          have r1 := BR.out.cell 1 (by simp)
          have r2 := BR.out.cell 2 (by simp)
          have r3 := BR.out.cell 3 (by simp)
          have r4 := BR.out.cell 4 (by simp)
          simp only [List.getElem_cons_zero, List.getElem_cons_succ] at r0 r1 r2 r3 r4
          have y0 := BR.out.froz 0 (by simp)
          have y1 := BR.out.froz 1 (by simp)
          have y2 := BR.out.froz 2 (by simp)
          have y3 := BR.out.froz 3 (by simp)
          have y4 := BR.out.froz 4 (by simp)
          have lB := BP.out.lt
          have lR := BR.out.lt
          have hRB := S.out.RB
          go_wp2_with fail
          refine bodyPost_ret (v := .agg #[.string ⟨#[114, 111, 98, 111, 116]⟩, .bool false, .bool false, (.slice none 0 0), .int .i64 cnt]) (by simp [results, Tryz.results61, go_sem, cell_set_at, cell_set_ne, r0, r1, r2, r3, r4]) rfl ?_
          exact DSt.fin (d := ⟨[114, 111, 98, 111, 116], false, false, [], cnt⟩) S.out ⟨by simp, by simp, by simp, show I64 cnt from ⟨by omega, by omega⟩⟩ _ _ _ _ _
        case true =>
          go_wp2_with fail
          refine (l1Below_any b v l _ _ S.out.cur (by omega) (by omega)).mono ?_
          rintro e w1 ⟨k, rfl, ⟨k0, k1, k2⟩, hg, hC⟩
          have k3 := k2 (by omega)
          have hk9 : IntKind.i64.wrap (999 - k) = 999 - k := by rw [IntKind.wrap_i64]; omega
          have S := Lib.hid (S.out.draw hg hC)
          clear hg hC k1 k2
          have BP := Lib.hid S.out.box
          have BR := Lib.hid S.out.res
          have p0 := BP.out.cell 0 (by simp)
          have p1 := BP.out.cell 1 (by simp)
          have p2 := BP.out.cell 2 (by simp)
          have p3 := BP.out.cell 3 (by simp)
          have p4 := BP.out.cell 4 (by simp)
          simp only [List.getElem_cons_zero, List.getElem_cons_succ] at p0 p1 p2 p3 p4
          have x0 := BP.out.froz 0 (by simp)
          have x1 := BP.out.froz 1 (by simp)
          have x2 := BP.out.froz 2 (by simp)
          have x3 := BP.out.froz 3 (by simp)
          have x4 := BP.out.froz 4 (by simp)
          have r0 := BR.out.cell 0 (by simp)
          have r1 := BR.out.cell 1 (by simp)
          have r2 := BR.out.cell 2 (by simp)
          have r3 := BR.out.cell 3 (by simp)
          have r4 := BR.out.cell 4 (by simp)
          simp only [List.getElem_cons_zero, List.getElem_cons_succ] at r0 r1 r2 r3 r4
          have y0 := BR.out.froz 0 (by simp)
          have y1 := BR.out.froz 1 (by simp)
          have y2 := BR.out.froz 2 (by simp)
          have y3 := BR.out.froz 3 (by simp)
          have y4 := BR.out.froz 4 (by simp)
          have lB := BP.out.lt
          have lR := BR.out.lt
          have hRB := S.out.RB
          have S9 := Lib.hid (DSt.set (d' := ⟨[114, 111, 98, 111, 116], false, false, [], 999 - k⟩) S.out 4 (by decide) (.int .i64 (999 - k)) rfl rfl)
          go_wp2_with fail
          refine bodyPost_ret (v := .agg #[.string ⟨#[114, 111, 98, 111, 116]⟩, .bool false, .bool false, (.slice none 0 0), .int .i64 (999 - k)]) (by simp [results, Tryz.results61, go_sem, cell_set_at, cell_set_ne, r0, r1, r2, r3, r4]) rfl ?_
          exact DSt.fin (d := ⟨[114, 111, 98, 111, 116], false, false, [], 999 - k⟩) S9.out ⟨by simp, by simp, by simp, show I64 (999 - k) from ⟨by omega, by omega⟩⟩ _ _ _ _ _
      case true =>
        go_wp2_with fail
        have hsz := S.out.box.lt
        have hRB0 := S.out.RB
        refine (l3Cells_any b v l _ S.out.cur).mono ?_
        rintro e w1 ⟨u, y, rfl, ho, hsm, hg, hC⟩
        have HSM := Lib.hid hsm
        obtain ⟨ua, uc, rfl⟩ := slice_of ho
        have n1 : (Value.slice ua y.length uc).ownBlock ≠ some w3.heap.size := fun e => by have := (World.ownsRow.lt ho _ e).1; omega
        have n2 : (Value.slice ua y.length uc).ownBlock ≠ some w.heap.size := fun e => by have := (World.ownsRow.lt ho _ e).1; omega
        have hgs := S.out.grown.size
        have S1 := Lib.hid (S.out.draw hg hC)
        have S := Lib.hid (S1.out.setC _ y (ownsF_base ho hgs) n1 n2)
        have BP1 := Lib.hid S1.out.box
        have p0 := BP1.out.cell 0 (by simp)
        have p1 := BP1.out.cell 1 (by simp)
        have p2 := BP1.out.cell 2 (by simp)
        have p3 := BP1.out.cell 3 (by simp)
        have p4 := BP1.out.cell 4 (by simp)
        simp only [List.getElem_cons_zero, List.getElem_cons_succ] at p0 p1 p2 p3 p4
        have x0 := BP1.out.froz 0 (by simp)
        have x1 := BP1.out.froz 1 (by simp)
        have x2 := BP1.out.froz 2 (by simp)
        have x3 := BP1.out.froz 3 (by simp)
        have x4 := BP1.out.froz 4 (by simp)
        have lB := BP1.out.lt
        clear ho hsm hg hC hsz hRB0 n1 n2 hgs
        go_wp2_with fail
        clear p0 p1 p2 p3 p4 x0 x1 x2 x3 x4 lB BP1 S1
        refine (l1Once_any b v l _ _ S.out.cur (by omega) (by omega)).mono ?_
        rintro e w1 ⟨o, rfl, hg, hC⟩
        have S := Lib.hid (S.out.draw hg hC)
        clear hg hC
        cases o
        case false =>
          have BP := Lib.hid S.out.box
          have BR := Lib.hid S.out.res
          have p0 := BP.out.cell 0 (by simp)
          have p1 := BP.out.cell 1 (by simp)
          have p2 := BP.out.cell 2 (by simp)
          have p3 := BP.out.cell 3 (by simp)
          have p4 := BP.out.cell 4 (by simp)
          simp only [List.getElem_cons_zero, List.getElem_cons_succ] at p0 p1 p2 p3 p4
          have x0 := BP.out.froz 0 (by simp)
          have x1 := BP.out.froz 1 (by simp)
          have x2 := BP.out.froz 2 (by simp)
          have x3 := BP.out.froz 3 (by simp)
          have x4 := BP.out.froz 4 (by simp)
          have r0 := BR.out.cell 0 (by simp)
          have r1 := BR.out.cell 1 (by simp)
          have r2 := BR.out.cell 2 (by simp)
          have r3 := BR.out.cell 3 (by simp)
          have r4 := BR.out.cell 4 (by simp)
          simp only [List.getElem_cons_zero, List.getElem_cons_succ] at r0 r1 r2 r3 r4
          have y0 := BR.out.froz 0 (by simp)
          have y1 := BR.out.froz 1 (by simp)
          have y2 := BR.out.froz 2 (by simp)
          have y3 := BR.out.froz 3 (by simp)
          have y4 := BR.out.froz 4 (by simp)
          have lB := BP.out.lt
          have lR := BR.out.lt
          have hRB := S.out.RB
          go_wp2_with fail
          refine bodyPost_ret (v := .agg #[.string ⟨#[114, 111, 98, 111, 116]⟩, .bool false, .bool false, (.slice ua y.length uc), .int .i64 cnt]) (by simp [results, Tryz.results61, go_sem, cell_set_at, cell_set_ne, r0, r1, r2, r3, r4]) rfl ?_
          exact DSt.fin (d := ⟨[114, 111, 98, 111, 116], false, false, y, cnt⟩) S.out ⟨by simp, HSM.out.1, HSM.out.2, show I64 cnt from ⟨by omega, by omega⟩⟩ _ _ _ _ _
        case true =>
          go_wp2_with fail
          refine (l1Below_any b v l _ _ S.out.cur (by omega) (by omega)).mono ?_
          rintro e w1 ⟨k, rfl, ⟨k0, k1, k2⟩, hg, hC⟩
          have k3 := k2 (by omega)
          have hk9 : IntKind.i64.wrap (999 - k) = 999 - k := by rw [IntKind.wrap_i64]; omega
          have S := Lib.hid (S.out.draw hg hC)
          clear hg hC k1 k2
          have BP := Lib.hid S.out.box
          have BR := Lib.hid S.out.res
          have p0 := BP.out.cell 0 (by simp)
          have p1 := BP.out.cell 1 (by simp)
          have p2 := BP.out.cell 2 (by simp)
          have p3 := BP.out.cell 3 (by simp)
          have p4 := BP.out.cell 4 (by simp)
          simp only [List.getElem_cons_zero, List.getElem_cons_succ] at p0 p1 p2 p3 p4
          have x0 := BP.out.froz 0 (by simp)
          have x1 := BP.out.froz 1 (by simp)
          have x2 := BP.out.froz 2 (by simp)
          have x3 := BP.out.froz 3 (by simp)
          have x4 := BP.out.froz 4 (by simp)
          have r0 := BR.out.cell 0 (by simp)
          have r1 := BR.out.cell 1 (by simp)
          have r2 := BR.out.cell 2 (by simp)
          have r3 := BR.out.cell 3 (by simp)
          have r4 := BR.out.cell 4 (by simp)
          simp only [List.getElem_cons_zero, List.getElem_cons_succ] at r0 r1 r2 r3 r4
          have y0 := BR.out.froz 0 (by simp)
          have y1 := BR.out.froz 1 (by simp)
          have y2 := BR.out.froz 2 (by simp)
          have y3 := BR.out.froz 3 (by simp)
          have y4 := BR.out.froz 4 (by simp)
          have lB := BP.out.lt
          have lR := BR.out.lt
          have hRB := S.out.RB
          have S9 := Lib.hid (DSt.set (d' := ⟨[114, 111, 98, 111, 116], false, false, y, 999 - k⟩) S.out 4 (by decide) (.int .i64 (999 - k)) rfl rfl)
          go_wp2_with fail
          refine bodyPost_ret (v := .agg #[.string ⟨#[114, 111, 98, 111, 116]⟩, .bool false, .bool false, (.slice ua y.length uc), .int .i64 (999 - k)]) (by simp [results, Tryz.results61, go_sem, cell_set_at, cell_set_ne, r0, r1, r2, r3, r4]) rfl ?_
          exact DSt.fin (d := ⟨[114, 111, 98, 111, 116], false, false, y, 999 - k⟩) S9.out ⟨by simp, HSM.out.1, HSM.out.2, show I64 (999 - k) from ⟨by omega, by omega⟩⟩ _ _ _ _ _
    case true =>
      go_wp2_with fail
      refine (l1Below_any b v l _ _ S.out.cur (by omega) (by omega)).mono ?_
      rintro e w5 ⟨n, rfl, ⟨n0, n1, n2⟩, hg, hC⟩
      have S0 := Lib.hid (S.out.draw hg hC)
      clear hg hC n1 n2
      by_cases hn : 0 < n
      · skip
        have hdn : decide (0 < n) = true := by simpa using hn
        have S1 := Lib.hid (DSt.set (d' := ⟨[114, 111, 98, 111, 116], true, false, [], cnt⟩) S0.out 1 (by decide) (.bool true) rfl rfl)
        have BP := Lib.hid S0.out.box
        have p0 := BP.out.cell 0 (by simp)
        have p1 := BP.out.cell 1 (by simp)
        have p2 := BP.out.cell 2 (by simp)
        have p3 := BP.out.cell 3 (by simp)
        have p4 := BP.out.cell 4 (by simp)
        simp only [List.getElem_cons_zero, List.getElem_cons_succ] at p0 p1 p2 p3 p4
        have x0 := BP.out.froz 0 (by simp)
        have x1 := BP.out.froz 1 (by simp)
        have x2 := BP.out.froz 2 (by simp)
        have x3 := BP.out.froz 3 (by simp)
        have x4 := BP.out.froz 4 (by simp)
        have lB := BP.out.lt
        go_wp2_with fail
        have S := Lib.hid (DSt.set (d' := ⟨[114, 111, 98, 111, 116], true, false, [], cnt⟩) S1.out 2 (by decide) (.bool false) rfl rfl)
        clear S0 S1 BP p0 p1 p2 p3 p4 x0 x1 x2 x3 x4 lB
        refine (HH1.out _).mono ?_
        rintro e w' ⟨rfl, rfl⟩
        cases h1
        case false =>
          go_wp2_with fail
          refine (l1Once_any b v l _ _ S.out.cur (by omega) (by omega)).mono ?_
          rintro e w1 ⟨o, rfl, hg, hC⟩
          have S := Lib.hid (S.out.draw hg hC)
          clear hg hC
          cases o
          case false =>
            have BP := Lib.hid S.out.box
            have BR := Lib.hid S.out.res
            have p0 := BP.out.cell 0 (by simp)
            have p1 := BP.out.cell 1 (by simp)
            have p2 := BP.out.cell 2 (by simp)
            have p3 := BP.out.cell 3 (by simp)
            have p4 := BP.out.cell 4 (by simp)
            simp only [List.getElem_cons_zero, List.getElem_cons_succ] at p0 p1 p2 p3 p4
            have x0 := BP.out.froz 0 (by simp)
            have x1 := BP.out.froz 1 (by simp)
            have x2 := BP.out.froz 2 (by simp)
            have x3 := BP.out.froz 3 (by simp)
            have x4 := BP.out.froz 4 (by simp)
            have r0 := BR.out.cell 0 (by simp)
            have r1 := BR.out.cell 1 (by simp)
            have r2 := BR.out.cell 2 (by simp)
            have r3 := BR.out.cell 3 (by simp)
            have r4 := BR.out.cell 4 (by simp)
            simp only [List.getElem_cons_zero, List.getElem_cons_succ] at r0 r1 r2 r3 r4
            have y0 := BR.out.froz 0 (by simp)
            have y1 := BR.out.froz 1 (by simp)
            have y2 := BR.out.froz 2 (by simp)
            have y3 := BR.out.froz 3 (by simp)
            have y4 := BR.out.froz 4 (by simp)
            have lB := BP.out.lt
            have lR := BR.out.lt
            have hRB := S.out.RB
            go_wp2_with fail
            refine bodyPost_ret (v := .agg #[.string ⟨#[114, 111, 98, 111, 116]⟩, .bool true, .bool false, (.slice none 0 0), .int .i64 cnt]) (by simp [results, Tryz.results61, go_sem, cell_set_at, cell_set_ne, r0, r1, r2, r3, r4]) rfl ?_
            exact DSt.fin (d := ⟨[114, 111, 98, 111, 116], true, false, [], cnt⟩) S.out ⟨by simp, by simp, by simp, show I64 cnt from ⟨by omega, by omega⟩⟩ _ _ _ _ _
          case true =>
            go_wp2_with fail
            refine (l1Below_any b v l _ _ S.out.cur (by omega) (by omega)).mono ?_
            rintro e w1 ⟨k, rfl, ⟨k0, k1, k2⟩, hg, hC⟩
            have k3 := k2 (by omega)
            have hk9 : IntKind.i64.wrap (999 - k) = 999 - k := by rw [IntKind.wrap_i64]; omega
            have S := Lib.hid (S.out.draw hg hC)
            clear hg hC k1 k2
            have BP := Lib.hid S.out.box
            have BR := Lib.hid S.out.res
            have p0 := BP.out.cell 0 (by simp)
            have p1 := BP.out.cell 1 (by simp)
            have p2 := BP.out.cell 2 (by simp)
            have p3 := BP.out.cell 3 (by simp)
            have p4 := BP.out.cell 4 (by simp)
            simp only [List.getElem_cons_zero, List.getElem_cons_succ] at p0 p1 p2 p3 p4
            have x0 := BP.out.froz 0 (by simp)
            have x1 := BP.out.froz 1 (by simp)
            have x2 := BP.out.froz 2 (by simp)
            have x3 := BP.out.froz 3 (by simp)
            have x4 := BP.out.froz 4 (by simp)
            have r0 := BR.out.cell 0 (by simp)
            have r1 := BR.out.cell 1 (by simp)
            have r2 := BR.out.cell 2 (by simp)
            have r3 := BR.out.cell 3 (by simp)
            have r4 := BR.out.cell 4 (by simp)
            simp only [List.getElem_cons_zero, List.getElem_cons_succ] at r0 r1 r2 r3 r4
            have y0 := BR.out.froz 0 (by simp)
            have y1 := BR.out.froz 1 (by simp)
            have y2 := BR.out.froz 2 (by simp)
            have y3 := BR.out.froz 3 (by simp)
            have y4 := BR.out.froz 4 (by simp)
            have lB := BP.out.lt
            have lR := BR.out.lt
            have hRB := S.out.RB
            have S9 := Lib.hid (DSt.set (d' := ⟨[114, 111, 98, 111, 116], true, false, [], 999 - k⟩) S.out 4 (by decide) (.int .i64 (999 - k)) rfl rfl)
            go_wp2_with fail
            refine bodyPost_ret (v := .agg #[.string ⟨#[114, 111, 98, 111, 116]⟩, .bool true, .bool false, (.slice none 0 0), .int .i64 (999 - k)]) (by simp [results, Tryz.results61, go_sem, cell_set_at, cell_set_ne, r0, r1, r2, r3, r4]) rfl ?_
            exact DSt.fin (d := ⟨[114, 111, 98, 111, 116], true, false, [], 999 - k⟩) S9.out ⟨by simp, by simp, by simp, show I64 (999 - k) from ⟨by omega, by omega⟩⟩ _ _ _ _ _
        case true =>
          go_wp2_with fail
          have hsz := S.out.box.lt
          have hRB0 := S.out.RB
          refine (l3Cells_any b v l _ S.out.cur).mono ?_
          rintro e w1 ⟨u, y, rfl, ho, hsm, hg, hC⟩
          have HSM := Lib.hid hsm
          obtain ⟨ua, uc, rfl⟩ := slice_of ho
          have n1 : (Value.slice ua y.length uc).ownBlock ≠ some w3.heap.size := fun e => by have := (World.ownsRow.lt ho _ e).1; omega
          have n2 : (Value.slice ua y.length uc).ownBlock ≠ some w.heap.size := fun e => by have := (World.ownsRow.lt ho _ e).1; omega
          have hgs := S.out.grown.size
          have S1 := Lib.hid (S.out.draw hg hC)
          have S := Lib.hid (S1.out.setC _ y (ownsF_base ho hgs) n1 n2)
          have BP1 := Lib.hid S1.out.box
          have p0 := BP1.out.cell 0 (by simp)
          have p1 := BP1.out.cell 1 (by simp)
          have p2 := BP1.out.cell 2 (by simp)
          have p3 := BP1.out.cell 3 (by simp)
          have p4 := BP1.out.cell 4 (by simp)
          simp only [List.getElem_cons_zero, List.getElem_cons_succ] at p0 p1 p2 p3 p4
          have x0 := BP1.out.froz 0 (by simp)
          have x1 := BP1.out.froz 1 (by simp)
          have x2 := BP1.out.froz 2 (by simp)
          have x3 := BP1.out.froz 3 (by simp)
          have x4 := BP1.out.froz 4 (by simp)
          have lB := BP1.out.lt
          clear ho hsm hg hC hsz hRB0 n1 n2 hgs
          go_wp2_with fail
          clear p0 p1 p2 p3 p4 x0 x1 x2 x3 x4 lB BP1 S1
          refine (l1Once_any b v l _ _ S.out.cur (by omega) (by omega)).mono ?_
          rintro e w1 ⟨o, rfl, hg, hC⟩
          have S := Lib.hid (S.out.draw hg hC)
          clear hg hC
          cases o
          case false =>
            have BP := Lib.hid S.out.box
            have BR := Lib.hid S.out.res
            have p0 := BP.out.cell 0 (by simp)
            have p1 := BP.out.cell 1 (by simp)
            have p2 := BP.out.cell 2 (by simp)
            have p3 := BP.out.cell 3 (by simp)
            have p4 := BP.out.cell 4 (by simp)
            simp only [List.getElem_cons_zero, List.getElem_cons_succ] at p0 p1 p2 p3 p4
            have x0 := BP.out.froz 0 (by simp)
            have x1 := BP.out.froz 1 (by simp)
            have x2 := BP.out.froz 2 (by simp)
            have x3 := BP.out.froz 3 (by simp)
            have x4 := BP.out.froz 4 (by simp)
            have r0 := BR.out.cell 0 (by simp)
            have r1 := BR.out.cell 1 (by simp)
            have r2 := BR.out.cell 2 (by simp)
            have r3 := BR.out.cell 3 (by simp)
            have r4 := BR.out.cell 4 (by simp)
            simp only [List.getElem_cons_zero, List.getElem_cons_succ] at r0 r1 r2 r3 r4
            have y0 := BR.out.froz 0 (by simp)
            have y1 := BR.out.froz 1 (by simp)
            have y2 := BR.out.froz 2 (by simp)
            have y3 := BR.out.froz 3 (by simp)
            have y4 := BR.out.froz 4 (by simp)
            have lB := BP.out.lt
            have lR := BR.out.lt
            have hRB := S.out.RB
            go_wp2_with fail
            refine bodyPost_ret (v := .agg #[.string ⟨#[114, 111, 98, 111, 116]⟩, .bool true, .bool false, (.slice ua y.length uc), .int .i64 cnt]) (by simp [results, Tryz.results61, go_sem, cell_set_at, cell_set_ne, r0, r1, r2, r3, r4]) rfl ?_
            exact DSt.fin (d := ⟨[114, 111, 98, 111, 116], true, false, y, cnt⟩) S.out ⟨by simp, HSM.out.1, HSM.out.2, show I64 cnt from ⟨by omega, by omega⟩⟩ _ _ _ _ _
          case true =>
            go_wp2_with fail
            refine (l1Below_any b v l _ _ S.out.cur (by omega) (by omega)).mono ?_
            rintro e w1 ⟨k, rfl, ⟨k0, k1, k2⟩, hg, hC⟩
            have k3 := k2 (by omega)
            have hk9 : IntKind.i64.wrap (999 - k) = 999 - k := by rw [IntKind.wrap_i64]; omega
            have S := Lib.hid (S.out.draw hg hC)
            clear hg hC k1 k2
            have BP := Lib.hid S.out.box
            have BR := Lib.hid S.out.res
            have p0 := BP.out.cell 0 (by simp)
            have p1 := BP.out.cell 1 (by simp)
            have p2 := BP.out.cell 2 (by simp)
            have p3 := BP.out.cell 3 (by simp)
            have p4 := BP.out.cell 4 (by simp)
            simp only [List.getElem_cons_zero, List.getElem_cons_succ] at p0 p1 p2 p3 p4
            have x0 := BP.out.froz 0 (by simp)
            have x1 := BP.out.froz 1 (by simp)
            have x2 := BP.out.froz 2 (by simp)
            have x3 := BP.out.froz 3 (by simp)
            have x4 := BP.out.froz 4 (by simp)
            have r0 := BR.out.cell 0 (by simp)
            have r1 := BR.out.cell 1 (by simp)
            have r2 := BR.out.cell 2 (by simp)
            have r3 := BR.out.cell 3 (by simp)
            have r4 := BR.out.cell 4 (by simp)
            simp only [List.getElem_cons_zero, List.getElem_cons_succ] at r0 r1 r2 r3 r4
            have y0 := BR.out.froz 0 (by simp)
            have y1 := BR.out.froz 1 (by simp)
            have y2 := BR.out.froz 2 (by simp)
            have y3 := BR.out.froz 3 (by simp)
            have y4 := BR.out.froz 4 (by simp)
            have lB := BP.out.lt
            have lR := BR.out.lt
            have hRB := S.out.RB
            have S9 := Lib.hid (DSt.set (d' := ⟨[114, 111, 98, 111, 116], true, false, y, 999 - k⟩) S.out 4 (by decide) (.int .i64 (999 - k)) rfl rfl)
            go_wp2_with fail
            refine bodyPost_ret (v := .agg #[.string ⟨#[114, 111, 98, 111, 116]⟩, .bool true, .bool false, (.slice ua y.length uc), .int .i64 (999 - k)]) (by simp [results, Tryz.results61, go_sem, cell_set_at, cell_set_ne, r0, r1, r2, r3, r4]) rfl ?_
            exact DSt.fin (d := ⟨[114, 111, 98, 111, 116], true, false, y, 999 - k⟩) S9.out ⟨by simp, HSM.out.1, HSM.out.2, show I64 (999 - k) from ⟨by omega, by omega⟩⟩ _ _ _ _ _
      · skip
        have hdn : decide (0 < n) = false := by simpa using hn
        have S1 := Lib.hid (DSt.set (d' := ⟨[114, 111, 98, 111, 116], false, false, [], cnt⟩) S0.out 1 (by decide) (.bool false) rfl rfl)
        have BP := Lib.hid S0.out.box
        have p0 := BP.out.cell 0 (by simp)
        have p1 := BP.out.cell 1 (by simp)
        have p2 := BP.out.cell 2 (by simp)
        have p3 := BP.out.cell 3 (by simp)
        have p4 := BP.out.cell 4 (by simp)
        simp only [List.getElem_cons_zero, List.getElem_cons_succ] at p0 p1 p2 p3 p4
        have x0 := BP.out.froz 0 (by simp)
        have x1 := BP.out.froz 1 (by simp)
        have x2 := BP.out.froz 2 (by simp)
        have x3 := BP.out.froz 3 (by simp)
        have x4 := BP.out.froz 4 (by simp)
        have lB := BP.out.lt
        go_wp2_with fail
        refine (l1Once_any b v l _ _ S1.out.cur (by omega) (by omega)).mono ?_
        rintro e w6 ⟨o, rfl, hg, hC⟩
        have S2 := Lib.hid (S1.out.draw hg hC)
        have S := Lib.hid (DSt.set (d' := ⟨[114, 111, 98, 111, 116], false, o, [], cnt⟩) S2.out 2 (by decide) (.bool o) rfl rfl)
        clear hg hC BP p0 p1 p2 p3 p4 x0 x1 x2 x3 x4 lB
        have BP := Lib.hid S2.out.box
        have p0 := BP.out.cell 0 (by simp)
        have p1 := BP.out.cell 1 (by simp)
        have p2 := BP.out.cell 2 (by simp)
        have p3 := BP.out.cell 3 (by simp)
        have p4 := BP.out.cell 4 (by simp)
        simp only [List.getElem_cons_zero, List.getElem_cons_succ] at p0 p1 p2 p3 p4
        have x0 := BP.out.froz 0 (by simp)
        have x1 := BP.out.froz 1 (by simp)
        have x2 := BP.out.froz 2 (by simp)
        have x3 := BP.out.froz 3 (by simp)
        have x4 := BP.out.froz 4 (by simp)
        have lB := BP.out.lt
        go_wp2_with fail
        clear S0 S1 S2 BP p0 p1 p2 p3 p4 x0 x1 x2 x3 x4 lB
        refine (HH1.out _).mono ?_
        rintro e w' ⟨rfl, rfl⟩
        cases h1
        case false =>
          go_wp2_with fail
          refine (l1Once_any b v l _ _ S.out.cur (by omega) (by omega)).mono ?_
          rintro e w1 ⟨o, rfl, hg, hC⟩
          have S := Lib.hid (S.out.draw hg hC)
          clear hg hC
          cases o
          case false =>
            have BP := Lib.hid S.out.box
            have BR := Lib.hid S.out.res
            have p0 := BP.out.cell 0 (by simp)
            have p1 := BP.out.cell 1 (by simp)
            have p2 := BP.out.cell 2 (by simp)
            have p3 := BP.out.cell 3 (by simp)
            have p4 := BP.out.cell 4 (by simp)
            simp only [List.getElem_cons_zero, List.getElem_cons_succ] at p0 p1 p2 p3 p4
            have x0 := BP.out.froz 0 (by simp)
            have x1 := BP.out.froz 1 (by simp)
            have x2 := BP.out.froz 2 (by simp)
            have x3 := BP.out.froz 3 (by simp)
            have x4 := BP.out.froz 4 (by simp)
            have r0 := BR.out.cell 0 (by simp)
            have r1 := BR.out.cell 1 (by simp)
            have r2 := BR.out.cell 2 (by simp)
            have r3 := BR.out.cell 3 (by simp)
            have r4 := BR.out.cell 4 (by simp)
            simp only [List.getElem_cons_zero, List.getElem_cons_succ] at r0 r1 r2 r3 r4
            have y0 := BR.out.froz 0 (by simp)
            have y1 := BR.out.froz 1 (by simp)
            have y2 := BR.out.froz 2 (by simp)
            have y3 := BR.out.froz 3 (by simp)
            have y4 := BR.out.froz 4 (by simp)
            have lB := BP.out.lt
            have lR := BR.out.lt
            have hRB := S.out.RB
            go_wp2_with fail
            refine bodyPost_ret (v := .agg #[.string ⟨#[114, 111, 98, 111, 116]⟩, .bool false, .bool o, (.slice none 0 0), .int .i64 cnt]) (by simp [results, Tryz.results61, go_sem, cell_set_at, cell_set_ne, r0, r1, r2, r3, r4]) rfl ?_
            exact DSt.fin (d := ⟨[114, 111, 98, 111, 116], false, o, [], cnt⟩) S.out ⟨by simp, by simp, by simp, show I64 cnt from ⟨by omega, by omega⟩⟩ _ _ _ _ _
          case true =>
            go_wp2_with fail
            refine (l1Below_any b v l _ _ S.out.cur (by omega) (by omega)).mono ?_
            rintro e w1 ⟨k, rfl, ⟨k0, k1, k2⟩, hg, hC⟩
            have k3 := k2 (by omega)
            have hk9 : IntKind.i64.wrap (999 - k) = 999 - k := by rw [IntKind.wrap_i64]; omega
            have S := Lib.hid (S.out.draw hg hC)
            clear hg hC k1 k2
            have BP := Lib.hid S.out.box
            have BR := Lib.hid S.out.res
            have p0 := BP.out.cell 0 (by simp)
            have p1 := BP.out.cell 1 (by simp)
            have p2 := BP.out.cell 2 (by simp)
            have p3 := BP.out.cell 3 (by simp)
            have p4 := BP.out.cell 4 (by simp)
            simp only [List.getElem_cons_zero, List.getElem_cons_succ] at p0 p1 p2 p3 p4
            have x0 := BP.out.froz 0 (by simp)
            have x1 := BP.out.froz 1 (by simp)
            have x2 := BP.out.froz 2 (by simp)
            have x3 := BP.out.froz 3 (by simp)
            have x4 := BP.out.froz 4 (by simp)
            have r0 := BR.out.cell 0 (by simp)
            have r1 := BR.out.cell 1 (by simp)
            have r2 := BR.out.cell 2 (by simp)
            have r3 := BR.out.cell 3 (by simp)
            have r4 := BR.out.cell 4 (by simp)
            simp only [List.getElem_cons_zero, List.getElem_cons_succ] at r0 r1 r2 r3 r4
            have y0 := BR.out.froz 0 (by simp)
            have y1 := BR.out.froz 1 (by simp)
            have y2 := BR.out.froz 2 (by simp)
            have y3 := BR.out.froz 3 (by simp)
            have y4 := BR.out.froz 4 (by simp)
            have lB := BP.out.lt
            have lR := BR.out.lt
            have hRB := S.out.RB
            have S9 := Lib.hid (DSt.set (d' := ⟨[114, 111, 98, 111, 116], false, o, [], 999 - k⟩) S.out 4 (by decide) (.int .i64 (999 - k)) rfl rfl)
            go_wp2_with fail
            refine bodyPost_ret (v := .agg #[.string ⟨#[114, 111, 98, 111, 116]⟩, .bool false, .bool o, (.slice none 0 0), .int .i64 (999 - k)]) (by simp [results, Tryz.results61, go_sem, cell_set_at, cell_set_ne, r0, r1, r2, r3, r4]) rfl ?_
            exact DSt.fin (d := ⟨[114, 111, 98, 111, 116], false, o, [], 999 - k⟩) S9.out ⟨by simp, by simp, by simp, show I64 (999 - k) from ⟨by omega, by omega⟩⟩ _ _ _ _ _
        case true =>
          go_wp2_with fail
          have hsz := S.out.box.lt
          have hRB0 := S.out.RB
          refine (l3Cells_any b v l _ S.out.cur).mono ?_
          rintro e w1 ⟨u, y, rfl, ho, hsm, hg, hC⟩
          have HSM := Lib.hid hsm
          obtain ⟨ua, uc, rfl⟩ := slice_of ho
          have n1 : (Value.slice ua y.length uc).ownBlock ≠ some w3.heap.size := fun e => by have := (World.ownsRow.lt ho _ e).1; omega
          have n2 : (Value.slice ua y.length uc).ownBlock ≠ some w.heap.size := fun e => by have := (World.ownsRow.lt ho _ e).1; omega
          have hgs := S.out.grown.size
          have S1 := Lib.hid (S.out.draw hg hC)
          have S := Lib.hid (S1.out.setC _ y (ownsF_base ho hgs) n1 n2)
          have BP1 := Lib.hid S1.out.box
          have p0 := BP1.out.cell 0 (by simp)
          have p1 := BP1.out.cell 1 (by simp)
          have p2 := BP1.out.cell 2 (by simp)
          have p3 := BP1.out.cell 3 (by simp)
          have p4 := BP1.out.cell 4 (by simp)
          simp only [List.getElem_cons_zero, List.getElem_cons_succ] at p0 p1 p2 p3 p4
          have x0 := BP1.out.froz 0 (by simp)
          have x1 := BP1.out.froz 1 (by simp)
          have x2 := BP1.out.froz 2 (by simp)
          have x3 := BP1.out.froz 3 (by simp)
          have x4 := BP1.out.froz 4 (by simp)
          have lB := BP1.out.lt
          clear ho hsm hg hC hsz hRB0 n1 n2 hgs
          go_wp2_with fail
          clear p0 p1 p2 p3 p4 x0 x1 x2 x3 x4 lB BP1 S1
          refine (l1Once_any b v l _ _ S.out.cur (by omega) (by omega)).mono ?_
          rintro e w1 ⟨o, rfl, hg, hC⟩
          have S := Lib.hid (S.out.draw hg hC)
          clear hg hC
          cases o
          case false =>
            have BP := Lib.hid S.out.box
            have BR := Lib.hid S.out.res
            have p0 := BP.out.cell 0 (by simp)
            have p1 := BP.out.cell 1 (by simp)
            have p2 := BP.out.cell 2 (by simp)
            have p3 := BP.out.cell 3 (by simp)
            have p4 := BP.out.cell 4 (by simp)
            simp only [List.getElem_cons_zero, List.getElem_cons_succ] at p0 p1 p2 p3 p4
            have x0 := BP.out.froz 0 (by simp)
            have x1 := BP.out.froz 1 (by simp)
            have x2 := BP.out.froz 2 (by simp)
            have x3 := BP.out.froz 3 (by simp)
            have x4 := BP.out.froz 4 (by simp)
            have r0 := BR.out.cell 0 (by simp)
            have r1 := BR.out.cell 1 (by simp)
            have r2 := BR.out.cell 2 (by simp)
            have r3 := BR.out.cell 3 (by simp)
            have r4 := BR.out.cell 4 (by simp)
            simp only [List.getElem_cons_zero, List.getElem_cons_succ] at r0 r1 r2 r3 r4
            have y0 := BR.out.froz 0 (by simp)
            have y1 := BR.out.froz 1 (by simp)
            have y2 := BR.out.froz 2 (by simp)
            have y3 := BR.out.froz 3 (by simp)
            have y4 := BR.out.froz 4 (by simp)
            have lB := BP.out.lt
            have lR := BR.out.lt
            have hRB := S.out.RB
            go_wp2_with fail
            refine bodyPost_ret (v := .agg #[.string ⟨#[114, 111, 98, 111, 116]⟩, .bool false, .bool o, (.slice ua y.length uc), .int .i64 cnt]) (by simp [results, Tryz.results61, go_sem, cell_set_at, cell_set_ne, r0, r1, r2, r3, r4]) rfl ?_
            exact DSt.fin (d := ⟨[114, 111, 98, 111, 116], false, o, y, cnt⟩) S.out ⟨by simp, HSM.out.1, HSM.out.2, show I64 cnt from ⟨by omega, by omega⟩⟩ _ _ _ _ _
          case true =>
            go_wp2_with fail
            refine (l1Below_any b v l _ _ S.out.cur (by omega) (by omega)).mono ?_
            rintro e w1 ⟨k, rfl, ⟨k0, k1, k2⟩, hg, hC⟩
            have k3 := k2 (by omega)
            have hk9 : IntKind.i64.wrap (999 - k) = 999 - k := by rw [IntKind.wrap_i64]; omega
            have S := Lib.hid (S.out.draw hg hC)
            clear hg hC k1 k2
            have BP := Lib.hid S.out.box
            have BR := Lib.hid S.out.res
            have p0 := BP.out.cell 0 (by simp)
            have p1 := BP.out.cell 1 (by simp)
            have p2 := BP.out.cell 2 (by simp)
            have p3 := BP.out.cell 3 (by simp)
            have p4 := BP.out.cell 4 (by simp)
            simp only [List.getElem_cons_zero, List.getElem_cons_succ] at p0 p1 p2 p3 p4
            have x0 := BP.out.froz 0 (by simp)
            have x1 := BP.out.froz 1 (by simp)
            have x2 := BP.out.froz 2 (by simp)
            have x3 := BP.out.froz 3 (by simp)
            have x4 := BP.out.froz 4 (by simp)
            have r0 := BR.out.cell 0 (by simp)
            have r1 := BR.out.cell 1 (by simp)
            have r2 := BR.out.cell 2 (by simp)
            have r3 := BR.out.cell 3 (by simp)
            have r4 := BR.out.cell 4 (by simp)
            simp only [List.getElem_cons_zero, List.getElem_cons_succ] at r0 r1 r2 r3 r4
            have y0 := BR.out.froz 0 (by simp)
            have y1 := BR.out.froz 1 (by simp)
            have y2 := BR.out.froz 2 (by simp)
            have y3 := BR.out.froz 3 (by simp)
            have y4 := BR.out.froz 4 (by simp)
            have lB := BP.out.lt
            have lR := BR.out.lt
            have hRB := S.out.RB
            have S9 := Lib.hid (DSt.set (d' := ⟨[114, 111, 98, 111, 116], false, o, y, 999 - k⟩) S.out 4 (by decide) (.int .i64 (999 - k)) rfl rfl)
            go_wp2_with fail
            refine bodyPost_ret (v := .agg #[.string ⟨#[114, 111, 98, 111, 116]⟩, .bool false, .bool o, (.slice ua y.length uc), .int .i64 (999 - k)]) (by simp [results, Tryz.results61, go_sem, cell_set_at, cell_set_ne, r0, r1, r2, r3, r4]) rfl ?_
            exact DSt.fin (d := ⟨[114, 111, 98, 111, 116], false, o, y, 999 - k⟩) S9.out ⟨by simp, HSM.out.1, HSM.out.2, show I64 (999 - k) from ⟨by omega, by omega⟩⟩ _ _ _ _ _
  case true =>
    go_wp2_with fail
    refine (l1Below_any b v l _ _ HC2.out (by omega) (by omega)).mono ?_
    rintro e w3 ⟨cnt, rfl, ⟨c0, c1, c2⟩, hg, hC⟩
    have c3 := c2 (by omega)
    clear c2 c1
    have hRl : w.heap.size < w3.heap.size := Nat.lt_of_lt_of_le BR2.out.lt hg.size
    have S := Lib.hid (show DSt w b v l w.heap.size w3.heap.size ⟨kl, false, false, [], cnt⟩ (.slice none 0 0) (w3.alloc (.cells #[.string ⟨kl.toArray⟩, .bool false, .bool false, .slice none 0 0, .int .i64 cnt] 26)) from ⟨grown_alloc (grown_trans HG2.out hg) _, cur_alloc hC _, (bx_grownC BR2.out hg (by omega)).alloc _, Bx.new w3 (cCoreV ⟨kl, false, false, [], cnt⟩ (.slice none 0 0)) 26, ownsF_nil _ _ _ _ _, hbl, Nat.le_refl _, hRl, by simp [Value.ownBlock], by simp [Value.ownBlock]⟩)
    clear hg hC HG2 HC2 BR2
    have HH0 := Lib.hid (fun W => l2Has_0 f _ rfl hff.out W)
    have HH1 := Lib.hid (fun W => l2Has_1 f _ rfl hff.out W)
    generalize hasI f 0 = h0 at *
    generalize hasI f 1 = h1 at *
    go_wp2_with fail
    generalize w3.alloc (.cells #[.string ⟨kl.toArray⟩, .bool false, .bool false, .slice none 0 0, .int .i64 cnt] 26) = w4 at *
    refine (HH0.out _).mono ?_
    rintro e w' ⟨rfl, rfl⟩
    cases h0
    case false =>
      go_wp2_with fail
      refine (HH1.out _).mono ?_
      rintro e w' ⟨rfl, rfl⟩
      cases h1
      case false =>
        go_wp2_with fail
        refine (l1Once_any b v l _ _ S.out.cur (by omega) (by omega)).mono ?_
        rintro e w1 ⟨o, rfl, hg, hC⟩
        have S := Lib.hid (S.out.draw hg hC)
        clear hg hC
        cases o
        case false =>
          have BP := Lib.hid S.out.box
          have BR := Lib.hid S.out.res
          have p0 := BP.out.cell 0 (by simp)
          have p1 := BP.out.cell 1 (by simp)
          have p2 := BP.out.cell 2 (by simp)
          have p3 := BP.out.cell 3 (by simp)
          have p4 := BP.out.cell 4 (by simp)
          simp only [List.getElem_cons_zero, List.getElem_cons_succ] at p0 p1 p2 p3 p4
          have x0 := BP.out.froz 0 (by simp)
          have x1 := BP.out.froz 1 (by simp)
          have x2 := BP.out.froz 2 (by simp)
          have x3 := BP.out.froz 3 (by simp)
          have x4 := BP.out.froz 4 (by simp)
          have r0 := BR.out.cell 0 (by simp)
          have r1 := BR.out.cell 1 (by simp)
          have r2 := BR.out.cell 2 (by simp)
          have r3 := BR.out.cell 3 (by simp)
          have r4 := BR.out.cell 4 (by simp)
          simp only [List.getElem_cons_zero, List.getElem_cons_succ] at r0 r1 r2 r3 r4
          have y0 := BR.out.froz 0 (by simp)
          have y1 := BR.out.froz 1 (by simp)
          have y2 := BR.out.froz 2 (by simp)
          have y3 := BR.out.froz 3 (by simp)
          have y4 := BR.out.froz 4 (by simp)
          have lB := BP.out.lt
          have lR := BR.out.lt
          have hRB := S.out.RB
          go_wp2_with fail
          refine bodyPost_ret (v := .agg #[.string ⟨kl.toArray⟩, .bool false, .bool false, (.slice none 0 0), .int .i64 cnt]) (by simp [results, Tryz.results61, go_sem, cell_set_at, cell_set_ne, r0, r1, r2, r3, r4]) rfl ?_
          exact DSt.fin (d := ⟨kl, false, false, [], cnt⟩) S.out ⟨hkl.out, by simp, by simp, show I64 cnt from ⟨by omega, by omega⟩⟩ _ _ _ _ _
        case true =>
          go_wp2_with fail
          refine (l1Below_any b v l _ _ S.out.cur (by omega) (by omega)).mono ?_
          rintro e w1 ⟨k, rfl, ⟨k0, k1, k2⟩, hg, hC⟩
          have k3 := k2 (by omega)
          have hk9 : IntKind.i64.wrap (999 - k) = 999 - k := by rw [IntKind.wrap_i64]; omega
          have S := Lib.hid (S.out.draw hg hC)
          clear hg hC k1 k2
          have BP := Lib.hid S.out.box
          have BR := Lib.hid S.out.res
          have p0 := BP.out.cell 0 (by simp)
          have p1 := BP.out.cell 1 (by simp)
          have p2 := BP.out.cell 2 (by simp)
          have p3 := BP.out.cell 3 (by simp)
          have p4 := BP.out.cell 4 (by simp)
          simp only [List.getElem_cons_zero, List.getElem_cons_succ] at p0 p1 p2 p3 p4
          have x0 := BP.out.froz 0 (by simp)
          have x1 := BP.out.froz 1 (by simp)
          have x2 := BP.out.froz 2 (by simp)
          have x3 := BP.out.froz 3 (by simp)
          have x4 := BP.out.froz 4 (by simp)
          have r0 := BR.out.cell 0 (by simp)
          have r1 := BR.out.cell 1 (by simp)
          have r2 := BR.out.cell 2 (by simp)
          have r3 := BR.out.cell 3 (by simp)
          have r4 := BR.out.cell 4 (by simp)
          simp only [List.getElem_cons_zero, List.getElem_cons_succ] at r0 r1 r2 r3 r4
          have y0 := BR.out.froz 0 (by simp)
          have y1 := BR.out.froz 1 (by simp)
          have y2 := BR.out.froz 2 (by simp)
          have y3 := BR.out.froz 3 (by simp)
          have y4 := BR.out.froz 4 (by simp)
          have lB := BP.out.lt
          have lR := BR.out.lt
          have hRB := S.out.RB
          have S9 := Lib.hid (DSt.set (d' := ⟨kl, false, false, [], 999 - k⟩) S.out 4 (by decide) (.int .i64 (999 - k)) rfl rfl)
          go_wp2_with fail
          refine bodyPost_ret (v := .agg #[.string ⟨kl.toArray⟩, .bool false, .bool false, (.slice none 0 0), .int .i64 (999 - k)]) (by simp [results, Tryz.results61, go_sem, cell_set_at, cell_set_ne, r0, r1, r2, r3, r4]) rfl ?_
          exact DSt.fin (d := ⟨kl, false, false, [], 999 - k⟩) S9.out ⟨hkl.out, by simp, by simp, show I64 (999 - k) from ⟨by omega, by omega⟩⟩ _ _ _ _ _
      case true =>
        go_wp2_with fail
        have hsz := S.out.box.lt
        have hRB0 := S.out.RB
        refine (l3Cells_any b v l _ S.out.cur).mono ?_
        rintro e w1 ⟨u, y, rfl, ho, hsm, hg, hC⟩
        have HSM := Lib.hid hsm
        obtain ⟨ua, uc, rfl⟩ := slice_of ho
        have n1 : (Value.slice ua y.length uc).ownBlock ≠ some w3.heap.size := fun e => by have := (World.ownsRow.lt ho _ e).1; omega
        have n2 : (Value.slice ua y.length uc).ownBlock ≠ some w.heap.size := fun e => by have := (World.ownsRow.lt ho _ e).1; omega
        have hgs := S.out.grown.size
        have S1 := Lib.hid (S.out.draw hg hC)
        have S := Lib.hid (S1.out.setC _ y (ownsF_base ho hgs) n1 n2)
        have BP1 := Lib.hid S1.out.box
        have p0 := BP1.out.cell 0 (by simp)
        have p1 := BP1.out.cell 1 (by simp)
        have p2 := BP1.out.cell 2 (by simp)
        have p3 := BP1.out.cell 3 (by simp)
        have p4 := BP1.out.cell 4 (by simp)
        simp only [List.getElem_cons_zero, List.getElem_cons_succ] at p0 p1 p2 p3 p4
        have x0 := BP1.out.froz 0 (by simp)
        have x1 := BP1.out.froz 1 (by simp)
        have x2 := BP1.out.froz 2 (by simp)
        have x3 := BP1.out.froz 3 (by simp)
        have x4 := BP1.out.froz 4 (by simp)
        have lB := BP1.out.lt
        clear ho hsm hg hC hsz hRB0 n1 n2 hgs
        go_wp2_with fail
        clear p0 p1 p2 p3 p4 x0 x1 x2 x3 x4 lB BP1 S1
        refine (l1Once_any b v l _ _ S.out.cur (by omega) (by omega)).mono ?_
        rintro e w1 ⟨o, rfl, hg, hC⟩
        have S := Lib.hid (S.out.draw hg hC)
        clear hg hC
        cases o
        case false =>
          have BP := Lib.hid S.out.box
          have BR := Lib.hid S.out.res
          have p0 := BP.out.cell 0 (by simp)
          have p1 := BP.out.cell 1 (by simp)
          have p2 := BP.out.cell 2 (by simp)
          have p3 := BP.out.cell 3 (by simp)
          have p4 := BP.out.cell 4 (by simp)
          simp only [List.getElem_cons_zero, List.getElem_cons_succ] at p0 p1 p2 p3 p4
          have x0 := BP.out.froz 0 (by simp)
          have x1 := BP.out.froz 1 (by simp)
          have x2 := BP.out.froz 2 (by simp)
          have x3 := BP.out.froz 3 (by simp)
          have x4 := BP.out.froz 4 (by simp)
          have r0 := BR.out.cell 0 (by simp)
          have r1 := BR.out.cell 1 (by simp)
          have r2 := BR.out.cell 2 (by simp)
          have r3 := BR.out.cell 3 (by simp)
          have r4 := BR.out.cell 4 (by simp)
          simp only [List.getElem_cons_zero, List.getElem_cons_succ] at r0 r1 r2 r3 r4
          have y0 := BR.out.froz 0 (by simp)
          have y1 := BR.out.froz 1 (by simp)
          have y2 := BR.out.froz 2 (by simp)
          have y3 := BR.out.froz 3 (by simp)
          have y4 := BR.out.froz 4 (by simp)
          have lB := BP.out.lt
          have lR := BR.out.lt
          have hRB := S.out.RB
          go_wp2_with fail
          refine bodyPost_ret (v := .agg #[.string ⟨kl.toArray⟩, .bool false, .bool false, (.slice ua y.length uc), .int .i64 cnt]) (by simp [results, Tryz.results61, go_sem, cell_set_at, cell_set_ne, r0, r1, r2, r3, r4]) rfl ?_
          exact DSt.fin (d := ⟨kl, false, false, y, cnt⟩) S.out ⟨hkl.out, HSM.out.1, HSM.out.2, show I64 cnt from ⟨by omega, by omega⟩⟩ _ _ _ _ _
        case true =>
          go_wp2_with fail
          refine (l1Below_any b v l _ _ S.out.cur (by omega) (by omega)).mono ?_
          rintro e w1 ⟨k, rfl, ⟨k0, k1, k2⟩, hg, hC⟩
          have k3 := k2 (by omega)
          have hk9 : IntKind.i64.wrap (999 - k) = 999 - k := by rw [IntKind.wrap_i64]; omega
          have S := Lib.hid (S.out.draw hg hC)
          clear hg hC k1 k2
          have BP := Lib.hid S.out.box
          have BR := Lib.hid S.out.res
          have p0 := BP.out.cell 0 (by simp)
          have p1 := BP.out.cell 1 (by simp)
          have p2 := BP.out.cell 2 (by simp)
          have p3 := BP.out.cell 3 (by simp)
          have p4 := BP.out.cell 4 (by simp)
          simp only [List.getElem_cons_zero, List.getElem_cons_succ] at p0 p1 p2 p3 p4
          have x0 := BP.out.froz 0 (by simp)
          have x1 := BP.out.froz 1 (by simp)
          have x2 := BP.out.froz 2 (by simp)
          have x3 := BP.out.froz 3 (by simp)
          have x4 := BP.out.froz 4 (by simp)
          have r0 := BR.out.cell 0 (by simp)
          have r1 := BR.out.cell 1 (by simp)
          have r2 := BR.out.cell 2 (by simp)
          have r3 := BR.out.cell 3 (by simp)
          have r4 := BR.out.cell 4 (by simp)
          simp only [List.getElem_cons_zero, List.getElem_cons_succ] at r0 r1 r2 r3 r4
          have y0 := BR.out.froz 0 (by simp)
          have y1 := BR.out.froz 1 (by simp)
          have y2 := BR.out.froz 2 (by simp)
          have y3 := BR.out.froz 3 (by simp)
          have y4 := BR.out.froz 4 (by simp)
          have lB := BP.out.lt
          have lR := BR.out.lt
          have hRB := S.out.RB
          have S9 := Lib.hid (DSt.set (d' := ⟨kl, false, false, y, 999 - k⟩) S.out 4 (by decide) (.int .i64 (999 - k)) rfl rfl)
          go_wp2_with fail
          refine bodyPost_ret (v := .agg #[.string ⟨kl.toArray⟩, .bool false, .bool false, (.slice ua y.length uc), .int .i64 (999 - k)]) (by simp [results, Tryz.results61, go_sem, cell_set_at, cell_set_ne, r0, r1, r2, r3, r4]) rfl ?_
          exact DSt.fin (d := ⟨kl, false, false, y, 999 - k⟩) S9.out ⟨hkl.out, HSM.out.1, HSM.out.2, show I64 (999 - k) from ⟨by omega, by omega⟩⟩ _ _ _ _ _
    case true =>
      go_wp2_with fail
      refine (l1Below_any b v l _ _ S.out.cur (by omega) (by omega)).mono ?_
      rintro e w5 ⟨n, rfl, ⟨n0, n1, n2⟩, hg, hC⟩
      have S0 := Lib.hid (S.out.draw hg hC)
      clear hg hC n1 n2
      by_cases hn : 0 < n
      · skip
        have hdn : decide (0 < n) = true := by simpa using hn
        have S1 := Lib.hid (DSt.set (d' := ⟨kl, true, false, [], cnt⟩) S0.out 1 (by decide) (.bool true) rfl rfl)
        have BP := Lib.hid S0.out.box
        have p0 := BP.out.cell 0 (by simp)
        have p1 := BP.out.cell 1 (by simp)
        have p2 := BP.out.cell 2 (by simp)
        have p3 := BP.out.cell 3 (by simp)
        have p4 := BP.out.cell 4 (by simp)
        simp only [List.getElem_cons_zero, List.getElem_cons_succ] at p0 p1 p2 p3 p4
        have x0 := BP.out.froz 0 (by simp)
        have x1 := BP.out.froz 1 (by simp)
        have x2 := BP.out.froz 2 (by simp)
        have x3 := BP.out.froz 3 (by simp)
        have x4 := BP.out.froz 4 (by simp)
        have lB := BP.out.lt
        go_wp2_with fail
        have S := Lib.hid (DSt.set (d' := ⟨kl, true, false, [], cnt⟩) S1.out 2 (by decide) (.bool false) rfl rfl)
        clear S0 S1 BP p0 p1 p2 p3 p4 x0 x1 x2 x3 x4 lB
        refine (HH1.out _).mono ?_
        rintro e w' ⟨rfl, rfl⟩
        cases h1
        case false =>
          go_wp2_with fail
          refine (l1Once_any b v l _ _ S.out.cur (by omega) (by omega)).mono ?_
          rintro e w1 ⟨o, rfl, hg, hC⟩
          have S := Lib.hid (S.out.draw hg hC)
          clear hg hC
          cases o
          case false =>
            have BP := Lib.hid S.out.box
            have BR := Lib.hid S.out.res
            have p0 := BP.out.cell 0 (by simp)
            have p1 := BP.out.cell 1 (by simp)
            have p2 := BP.out.cell 2 (by simp)
            have p3 := BP.out.cell 3 (by simp)
            have p4 := BP.out.cell 4 (by simp)
            simp only [List.getElem_cons_zero, List.getElem_cons_succ] at p0 p1 p2 p3 p4
            have x0 := BP.out.froz 0 (by simp)
            have x1 := BP.out.froz 1 (by simp)
            have x2 := BP.out.froz 2 (by simp)
            have x3 := BP.out.froz 3 (by simp)
            have x4 := BP.out.froz 4 (by simp)
            have r0 := BR.out.cell 0 (by simp)
            have r1 := BR.out.cell 1 (by simp)
            have r2 := BR.out.cell 2 (by simp)
            have r3 := BR.out.cell 3 (by simp)
            have r4 := BR.out.cell 4 (by simp)
            simp only [List.getElem_cons_zero, List.getElem_cons_succ] at r0 r1 r2 r3 r4
            have y0 := BR.out.froz 0 (by simp)
            have y1 := BR.out.froz 1 (by simp)
            have y2 := BR.out.froz 2 (by simp)
            have y3 := BR.out.froz 3 (by simp)
            have y4 := BR.out.froz 4 (by simp)
            have lB := BP.out.lt
            have lR := BR.out.lt
            have hRB := S.out.RB
            go_wp2_with fail
            refine bodyPost_ret (v := .agg #[.string ⟨kl.toArray⟩, .bool true, .bool false, (.slice none 0 0), .int .i64 cnt]) (by simp [results, Tryz.results61, go_sem, cell_set_at, cell_set_ne, r0, r1, r2, r3, r4]) rfl ?_
            exact DSt.fin (d := ⟨kl, true, false, [], cnt⟩) S.out ⟨hkl.out, by simp, by simp, show I64 cnt from ⟨by omega, by omega⟩⟩ _ _ _ _ _
          case true =>
            go_wp2_with fail
            refine (l1Below_any b v l _ _ S.out.cur (by omega) (by omega)).mono ?_
            rintro e w1 ⟨k, rfl, ⟨k0, k1, k2⟩, hg, hC⟩
            have k3 := k2 (by omega)
            have hk9 : IntKind.i64.wrap (999 - k) = 999 - k := by rw [IntKind.wrap_i64]; omega
            have S := Lib.hid (S.out.draw hg hC)
            clear hg hC k1 k2
            have BP := Lib.hid S.out.box
            have BR := Lib.hid S.out.res
            have p0 := BP.out.cell 0 (by simp)
            have p1 := BP.out.cell 1 (by simp)
            have p2 := BP.out.cell 2 (by simp)
            have p3 := BP.out.cell 3 (by simp)
            have p4 := BP.out.cell 4 (by simp)
            simp only [List.getElem_cons_zero, List.getElem_cons_succ] at p0 p1 p2 p3 p4
            have x0 := BP.out.froz 0 (by simp)
            have x1 := BP.out.froz 1 (by simp)
            have x2 := BP.out.froz 2 (by simp)
            have x3 := BP.out.froz 3 (by simp)
            have x4 := BP.out.froz 4 (by simp)
            have r0 := BR.out.cell 0 (by simp)
            have r1 := BR.out.cell 1 (by simp)
            have r2 := BR.out.cell 2 (by simp)
            have r3 := BR.out.cell 3 (by simp)
            have r4 := BR.out.cell 4 (by simp)
            simp only [List.getElem_cons_zero, List.getElem_cons_succ] at r0 r1 r2 r3 r4
            have y0 := BR.out.froz 0 (by simp)
            have y1 := BR.out.froz 1 (by simp)
            have y2 := BR.out.froz 2 (by simp)
            have y3 := BR.out.froz 3 (by simp)
            have y4 := BR.out.froz 4 (by simp)
            have lB := BP.out.lt
            have lR := BR.out.lt
            have hRB := S.out.RB
            have S9 := Lib.hid (DSt.set (d' := ⟨kl, true, false, [], 999 - k⟩) S.out 4 (by decide) (.int .i64 (999 - k)) rfl rfl)
            go_wp2_with fail
            refine bodyPost_ret (v := .agg #[.string ⟨kl.toArray⟩, .bool true, .bool false, (.slice none 0 0), .int .i64 (999 - k)]) (by simp [results, Tryz.results61, go_sem, cell_set_at, cell_set_ne, r0, r1, r2, r3, r4]) rfl ?_
            exact DSt.fin (d := ⟨kl, true, false, [], 999 - k⟩) S9.out ⟨hkl.out, by simp, by simp, show I64 (999 - k) from ⟨by omega, by omega⟩⟩ _ _ _ _ _
        case true =>
          go_wp2_with fail
          have hsz := S.out.box.lt
          have hRB0 := S.out.RB
          refine (l3Cells_any b v l _ S.out.cur).mono ?_
          rintro e w1 ⟨u, y, rfl, ho, hsm, hg, hC⟩
          have HSM := Lib.hid hsm
          obtain ⟨ua, uc, rfl⟩ := slice_of ho
          have n1 : (Value.slice ua y.length uc).ownBlock ≠ some w3.heap.size := fun e => by have := (World.ownsRow.lt ho _ e).1; omega
          have n2 : (Value.slice ua y.length uc).ownBlock ≠ some w.heap.size := fun e => by have := (World.ownsRow.lt ho _ e).1; omega
          have hgs := S.out.grown.size
          have S1 := Lib.hid (S.out.draw hg hC)
          have S := Lib.hid (S1.out.setC _ y (ownsF_base ho hgs) n1 n2)
          have BP1 := Lib.hid S1.out.box
          have p0 := BP1.out.cell 0 (by simp)
          have p1 := BP1.out.cell 1 (by simp)
          have p2 := BP1.out.cell 2 (by simp)
          have p3 := BP1.out.cell 3 (by simp)
          have p4 := BP1.out.cell 4 (by simp)
          simp only [List.getElem_cons_zero, List.getElem_cons_succ] at p0 p1 p2 p3 p4
          have x0 := BP1.out.froz 0 (by simp)
          have x1 := BP1.out.froz 1 (by simp)
          have x2 := BP1.out.froz 2 (by simp)
          have x3 := BP1.out.froz 3 (by simp)
          have x4 := BP1.out.froz 4 (by simp)
          have lB := BP1.out.lt
          clear ho hsm hg hC hsz hRB0 n1 n2 hgs
          go_wp2_with fail
          clear p0 p1 p2 p3 p4 x0 x1 x2 x3 x4 lB BP1 S1
          refine (l1Once_any b v l _ _ S.out.cur (by omega) (by omega)).mono ?_
          rintro e w1 ⟨o, rfl, hg, hC⟩
          have S := Lib.hid (S.out.draw hg hC)
          clear hg hC
          cases o
          case false =>
            have BP := Lib.hid S.out.box
            have BR := Lib.hid S.out.res
            have p0 := BP.out.cell 0 (by simp)
            have p1 := BP.out.cell 1 (by simp)
            have p2 := BP.out.cell 2 (by simp)
            have p3 := BP.out.cell 3 (by simp)
            have p4 := BP.out.cell 4 (by simp)
            simp only [List.getElem_cons_zero, List.getElem_cons_succ] at p0 p1 p2 p3 p4
            have x0 := BP.out.froz 0 (by simp)
            have x1 := BP.out.froz 1 (by simp)
            have x2 := BP.out.froz 2 (by simp)
            have x3 := BP.out.froz 3 (by simp)
            have x4 := BP.out.froz 4 (by simp)
            have r0 := BR.out.cell 0 (by simp)
            have r1 := BR.out.cell 1 (by simp)
            have r2 := BR.out.cell 2 (by simp)
            have r3 := BR.out.cell 3 (by simp)
            have r4 := BR.out.cell 4 (by simp)
            simp only [List.getElem_cons_zero, List.getElem_cons_succ] at r0 r1 r2 r3 r4
            have y0 := BR.out.froz 0 (by simp)
            have y1 := BR.out.froz 1 (by simp)
            have y2 := BR.out.froz 2 (by simp)
            have y3 := BR.out.froz 3 (by simp)
            have y4 := BR.out.froz 4 (by simp)
            have lB := BP.out.lt
            have lR := BR.out.lt
            have hRB := S.out.RB
            go_wp2_with fail
            refine bodyPost_ret (v := .agg #[.string ⟨kl.toArray⟩, .bool true, .bool false, (.slice ua y.length uc), .int .i64 cnt]) (by simp [results, Tryz.results61, go_sem, cell_set_at, cell_set_ne, r0, r1, r2, r3, r4]) rfl ?_
            exact DSt.fin (d := ⟨kl, true, false, y, cnt⟩) S.out ⟨hkl.out, HSM.out.1, HSM.out.2, show I64 cnt from ⟨by omega, by omega⟩⟩ _ _ _ _ _
          case true =>
            go_wp2_with fail
            refine (l1Below_any b v l _ _ S.out.cur (by omega) (by omega)).mono ?_
            rintro e w1 ⟨k, rfl, ⟨k0, k1, k2⟩, hg, hC⟩
            have k3 := k2 (by omega)
            have hk9 : IntKind.i64.wrap (999 - k) = 999 - k := by rw [IntKind.wrap_i64]; omega
            have S := Lib.hid (S.out.draw hg hC)
            clear hg hC k1 k2
            have BP := Lib.hid S.out.box
            have BR := Lib.hid S.out.res
            have p0 := BP.out.cell 0 (by simp)
            have p1 := BP.out.cell 1 (by simp)
            have p2 := BP.out.cell 2 (by simp)
            have p3 := BP.out.cell 3 (by simp)
            have p4 := BP.out.cell 4 (by simp)
            simp only [List.getElem_cons_zero, List.getElem_cons_succ] at p0 p1 p2 p3 p4
            have x0 := BP.out.froz 0 (by simp)
            have x1 := BP.out.froz 1 (by simp)
            have x2 := BP.out.froz 2 (by simp)
            have x3 := BP.out.froz 3 (by simp)
            have x4 := BP.out.froz 4 (by simp)
            have r0 := BR.out.cell 0 (by simp)
            have r1 := BR.out.cell 1 (by simp)
            have r2 := BR.out.cell 2 (by simp)
            have r3 := BR.out.cell 3 (by simp)
            have r4 := BR.out.cell 4 (by simp)
            simp only [List.getElem_cons_zero, List.getElem_cons_succ] at r0 r1 r2 r3 r4
            have y0 := BR.out.froz 0 (by simp)
            have y1 := BR.out.froz 1 (by simp)
            have y2 := BR.out.froz 2 (by simp)
            have y3 := BR.out.froz 3 (by simp)
            have y4 := BR.out.froz 4 (by simp)
            have lB := BP.out.lt
            have lR := BR.out.lt
            have hRB := S.out.RB
            have S9 := Lib.hid (DSt.set (d' := ⟨kl, true, false, y, 999 - k⟩) S.out 4 (by decide) (.int .i64 (999 - k)) rfl rfl)
            go_wp2_with fail
            refine bodyPost_ret (v := .agg #[.string ⟨kl.toArray⟩, .bool true, .bool false, (.slice ua y.length uc), .int .i64 (999 - k)]) (by simp [results, Tryz.results61, go_sem, cell_set_at, cell_set_ne, r0, r1, r2, r3, r4]) rfl ?_
            exact DSt.fin (d := ⟨kl, true, false, y, 999 - k⟩) S9.out ⟨hkl.out, HSM.out.1, HSM.out.2, show I64 (999 - k) from ⟨by omega, by omega⟩⟩ _ _ _ _ _
      · skip
        have hdn : decide (0 < n) = false := by simpa using hn
        have S1 := Lib.hid (DSt.set (d' := ⟨kl, false, false, [], cnt⟩) S0.out 1 (by decide) (.bool false) rfl rfl)
        have BP := Lib.hid S0.out.box
        have p0 := BP.out.cell 0 (by simp)
        have p1 := BP.out.cell 1 (by simp)
        have p2 := BP.out.cell 2 (by simp)
        have p3 := BP.out.cell 3 (by simp)
        have p4 := BP.out.cell 4 (by simp)
        simp only [List.getElem_cons_zero, List.getElem_cons_succ] at p0 p1 p2 p3 p4
        have x0 := BP.out.froz 0 (by simp)
        have x1 := BP.out.froz 1 (by simp)
        have x2 := BP.out.froz 2 (by simp)
        have x3 := BP.out.froz 3 (by simp)
        have x4 := BP.out.froz 4 (by simp)
        have lB := BP.out.lt
        go_wp2_with fail
        refine (l1Once_any b v l _ _ S1.out.cur (by omega) (by omega)).mono ?_
        rintro e w6 ⟨o, rfl, hg, hC⟩
        have S2 := Lib.hid (S1.out.draw hg hC)
        have S := Lib.hid (DSt.set (d' := ⟨kl, false, o, [], cnt⟩) S2.out 2 (by decide) (.bool o) rfl rfl)
        clear hg hC BP p0 p1 p2 p3 p4 x0 x1 x2 x3 x4 lB
        have BP := Lib.hid S2.out.box
        have p0 := BP.out.cell 0 (by simp)
        have p1 := BP.out.cell 1 (by simp)
        have p2 := BP.out.cell 2 (by simp)
        have p3 := BP.out.cell 3 (by simp)
        have p4 := BP.out.cell 4 (by simp)
        simp only [List.getElem_cons_zero, List.getElem_cons_succ] at p0 p1 p2 p3 p4
        have x0 := BP.out.froz 0 (by simp)
        have x1 := BP.out.froz 1 (by simp)
        have x2 := BP.out.froz 2 (by simp)
        have x3 := BP.out.froz 3 (by simp)
        have x4 := BP.out.froz 4 (by simp)
        have lB := BP.out.lt
        go_wp2_with fail
        clear S0 S1 S2 BP p0 p1 p2 p3 p4 x0 x1 x2 x3 x4 lB
        refine (HH1.out _).mono ?_
        rintro e w' ⟨rfl, rfl⟩
        cases h1
        case false =>
          go_wp2_with fail
          refine (l1Once_any b v l _ _ S.out.cur (by omega) (by omega)).mono ?_
          rintro e w1 ⟨o, rfl, hg, hC⟩
          have S := Lib.hid (S.out.draw hg hC)
          clear hg hC
          cases o
          case false =>
            have BP := Lib.hid S.out.box
            have BR := Lib.hid S.out.res
            have p0 := BP.out.cell 0 (by simp)
            have p1 := BP.out.cell 1 (by simp)
            have p2 := BP.out.cell 2 (by simp)
            have p3 := BP.out.cell 3 (by simp)
            have p4 := BP.out.cell 4 (by simp)
            simp only [List.getElem_cons_zero, List.getElem_cons_succ] at p0 p1 p2 p3 p4
            have x0 := BP.out.froz 0 (by simp)
            have x1 := BP.out.froz 1 (by simp)
            have x2 := BP.out.froz 2 (by simp)
            have x3 := BP.out.froz 3 (by simp)
            have x4 := BP.out.froz 4 (by simp)
            have r0 := BR.out.cell 0 (by simp)
            have r1 := BR.out.cell 1 (by simp)
            have r2 := BR.out.cell 2 (by simp)
            have r3 := BR.out.cell 3 (by simp)
            have r4 := BR.out.cell 4 (by simp)
            simp only [List.getElem_cons_zero, List.getElem_cons_succ] at r0 r1 r2 r3 r4
            have y0 := BR.out.froz 0 (by simp)
            have y1 := BR.out.froz 1 (by simp)
            have y2 := BR.out.froz 2 (by simp)
            have y3 := BR.out.froz 3 (by simp)
            have y4 := BR.out.froz 4 (by simp)
            have lB := BP.out.lt
            have lR := BR.out.lt
            have hRB := S.out.RB
            go_wp2_with fail
            refine bodyPost_ret (v := .agg #[.string ⟨kl.toArray⟩, .bool false, .bool o, (.slice none 0 0), .int .i64 cnt]) (by simp [results, Tryz.results61, go_sem, cell_set_at, cell_set_ne, r0, r1, r2, r3, r4]) rfl ?_
            exact DSt.fin (d := ⟨kl, false, o, [], cnt⟩) S.out ⟨hkl.out, by simp, by simp, show I64 cnt from ⟨by omega, by omega⟩⟩ _ _ _ _ _
          case true =>
            go_wp2_with fail
            refine (l1Below_any b v l _ _ S.out.cur (by omega) (by omega)).mono ?_
            rintro e w1 ⟨k, rfl, ⟨k0, k1, k2⟩, hg, hC⟩
            have k3 := k2 (by omega)
            have hk9 : IntKind.i64.wrap (999 - k) = 999 - k := by rw [IntKind.wrap_i64]; omega
            have S := Lib.hid (S.out.draw hg hC)
            clear hg hC k1 k2
            have BP := Lib.hid S.out.box
            have BR := Lib.hid S.out.res
            have p0 := BP.out.cell 0 (by simp)
            have p1 := BP.out.cell 1 (by simp)
            have p2 := BP.out.cell 2 (by simp)
            have p3 := BP.out.cell 3 (by simp)
            have p4 := BP.out.cell 4 (by simp)
            simp only [List.getElem_cons_zero, List.getElem_cons_succ] at p0 p1 p2 p3 p4
            have x0 := BP.out.froz 0 (by simp)
            have x1 := BP.out.froz 1 (by simp)
            have x2 := BP.out.froz 2 (by simp)
            have x3 := BP.out.froz 3 (by simp)
            have x4 := BP.out.froz 4 (by simp)
            have r0 := BR.out.cell 0 (by simp)
            have r1 := BR.out.cell 1 (by simp)
            have r2 := BR.out.cell 2 (by simp)
            have r3 := BR.out.cell 3 (by simp)
            have r4 := BR.out.cell 4 (by simp)
            simp only [List.getElem_cons_zero, List.getElem_cons_succ] at r0 r1 r2 r3 r4
            have y0 := BR.out.froz 0 (by simp)
            have y1 := BR.out.froz 1 (by simp)
            have y2 := BR.out.froz 2 (by simp)
            have y3 := BR.out.froz 3 (by simp)
            have y4 := BR.out.froz 4 (by simp)
            have lB := BP.out.lt
            have lR := BR.out.lt
            have hRB := S.out.RB
            have S9 := Lib.hid (DSt.set (d' := ⟨kl, false, o, [], 999 - k⟩) S.out 4 (by decide) (.int .i64 (999 - k)) rfl rfl)
            go_wp2_with fail
            refine bodyPost_ret (v := .agg #[.string ⟨kl.toArray⟩, .bool false, .bool o, (.slice none 0 0), .int .i64 (999 - k)]) (by simp [results, Tryz.results61, go_sem, cell_set_at, cell_set_ne, r0, r1, r2, r3, r4]) rfl ?_
            exact DSt.fin (d := ⟨kl, false, o, [], 999 - k⟩) S9.out ⟨hkl.out, by simp, by simp, show I64 (999 - k) from ⟨by omega, by omega⟩⟩ _ _ _ _ _
        case true =>
          go_wp2_with fail
          have hsz := S.out.box.lt
          have hRB0 := S.out.RB
          refine (l3Cells_any b v l _ S.out.cur).mono ?_
          rintro e w1 ⟨u, y, rfl, ho, hsm, hg, hC⟩
          have HSM := Lib.hid hsm
          obtain ⟨ua, uc, rfl⟩ := slice_of ho
          have n1 : (Value.slice ua y.length uc).ownBlock ≠ some w3.heap.size := fun e => by have := (World.ownsRow.lt ho _ e).1; omega
          have n2 : (Value.slice ua y.length uc).ownBlock ≠ some w.heap.size := fun e => by have := (World.ownsRow.lt ho _ e).1; omega
          have hgs := S.out.grown.size
          have S1 := Lib.hid (S.out.draw hg hC)
          have S := Lib.hid (S1.out.setC _ y (ownsF_base ho hgs) n1 n2)
          have BP1 := Lib.hid S1.out.box
          have p0 := BP1.out.cell 0 (by simp)
          have p1 := BP1.out.cell 1 (by simp)
          have p2 := BP1.out.cell 2 (by simp)
          have p3 := BP1.out.cell 3 (by simp)
          have p4 := BP1.out.cell 4 (by simp)
          simp only [List.getElem_cons_zero, List.getElem_cons_succ] at p0 p1 p2 p3 p4
          have x0 := BP1.out.froz 0 (by simp)
          have x1 := BP1.out.froz 1 (by simp)
          have x2 := BP1.out.froz 2 (by simp)
          have x3 := BP1.out.froz 3 (by simp)
          have x4 := BP1.out.froz 4 (by simp)
          have lB := BP1.out.lt
          clear ho hsm hg hC hsz hRB0 n1 n2 hgs
          go_wp2_with fail
          clear p0 p1 p2 p3 p4 x0 x1 x2 x3 x4 lB BP1 S1
          refine (l1Once_any b v l _ _ S.out.cur (by omega) (by omega)).mono ?_
          rintro e w1 ⟨o, rfl, hg, hC⟩
          have S := Lib.hid (S.out.draw hg hC)
          clear hg hC
          cases o
          case false =>
            have BP := Lib.hid S.out.box
            have BR := Lib.hid S.out.res
            have p0 := BP.out.cell 0 (by simp)
            have p1 := BP.out.cell 1 (by simp)
            have p2 := BP.out.cell 2 (by simp)
            have p3 := BP.out.cell 3 (by simp)
            have p4 := BP.out.cell 4 (by simp)
            simp only [List.getElem_cons_zero, List.getElem_cons_succ] at p0 p1 p2 p3 p4
            have x0 := BP.out.froz 0 (by simp)
            have x1 := BP.out.froz 1 (by simp)
            have x2 := BP.out.froz 2 (by simp)
            have x3 := BP.out.froz 3 (by simp)
            have x4 := BP.out.froz 4 (by simp)
            have r0 := BR.out.cell 0 (by simp)
            have r1 := BR.out.cell 1 (by simp)
            have r2 := BR.out.cell 2 (by simp)
            have r3 := BR.out.cell 3 (by simp)
            have r4 := BR.out.cell 4 (by simp)
            simp only [List.getElem_cons_zero, List.getElem_cons_succ] at r0 r1 r2 r3 r4
            have y0 := BR.out.froz 0 (by simp)
            have y1 := BR.out.froz 1 (by simp)
            have y2 := BR.out.froz 2 (by simp)
            have y3 := BR.out.froz 3 (by simp)
            have y4 := BR.out.froz 4 (by simp)
            have lB := BP.out.lt
            have lR := BR.out.lt
            have hRB := S.out.RB
            go_wp2_with fail
            refine bodyPost_ret (v := .agg #[.string ⟨kl.toArray⟩, .bool false, .bool o, (.slice ua y.length uc), .int .i64 cnt]) (by simp [results, Tryz.results61, go_sem, cell_set_at, cell_set_ne, r0, r1, r2, r3, r4]) rfl ?_
            exact DSt.fin (d := ⟨kl, false, o, y, cnt⟩) S.out ⟨hkl.out, HSM.out.1, HSM.out.2, show I64 cnt from ⟨by omega, by omega⟩⟩ _ _ _ _ _
          case true =>
            go_wp2_with fail
            refine (l1Below_any b v l _ _ S.out.cur (by omega) (by omega)).mono ?_
            rintro e w1 ⟨k, rfl, ⟨k0, k1, k2⟩, hg, hC⟩
            have k3 := k2 (by omega)
            have hk9 : IntKind.i64.wrap (999 - k) = 999 - k := by rw [IntKind.wrap_i64]; omega
            have S := Lib.hid (S.out.draw hg hC)
            clear hg hC k1 k2
            have BP := Lib.hid S.out.box
            have BR := Lib.hid S.out.res
            have p0 := BP.out.cell 0 (by simp)
            have p1 := BP.out.cell 1 (by simp)
            have p2 := BP.out.cell 2 (by simp)
            have p3 := BP.out.cell 3 (by simp)
            have p4 := BP.out.cell 4 (by simp)
            simp only [List.getElem_cons_zero, List.getElem_cons_succ] at p0 p1 p2 p3 p4
            have x0 := BP.out.froz 0 (by simp)
            have x1 := BP.out.froz 1 (by simp)
            have x2 := BP.out.froz 2 (by simp)
            have x3 := BP.out.froz 3 (by simp)
            have x4 := BP.out.froz 4 (by simp)
            have r0 := BR.out.cell 0 (by simp)
            have r1 := BR.out.cell 1 (by simp)
            have r2 := BR.out.cell 2 (by simp)
            have r3 := BR.out.cell 3 (by simp)
            have r4 := BR.out.cell 4 (by simp)
            simp only [List.getElem_cons_zero, List.getElem_cons_succ] at r0 r1 r2 r3 r4
            have y0 := BR.out.froz 0 (by simp)
            have y1 := BR.out.froz 1 (by simp)
            have y2 := BR.out.froz 2 (by simp)
            have y3 := BR.out.froz 3 (by simp)
            have y4 := BR.out.froz 4 (by simp)
            have lB := BP.out.lt
            have lR := BR.out.lt
            have hRB := S.out.RB
            have S9 := Lib.hid (DSt.set (d' := ⟨kl, false, o, y, 999 - k⟩) S.out 4 (by decide) (.int .i64 (999 - k)) rfl rfl)
            go_wp2_with fail
            refine bodyPost_ret (v := .agg #[.string ⟨kl.toArray⟩, .bool false, .bool o, (.slice ua y.length uc), .int .i64 (999 - k)]) (by simp [results, Tryz.results61, go_sem, cell_set_at, cell_set_ne, r0, r1, r2, r3, r4]) rfl ?_
            exact DSt.fin (d := ⟨kl, false, o, y, 999 - k⟩) S9.out ⟨hkl.out, HSM.out.1, HSM.out.2, show I64 (999 - k) from ⟨by omega, by omega⟩⟩ _ _ _ _ _
end Go.Proofs.YtghebbndfpbkcaaGreat
/- The draws of chapter 3: cores that may be none. Written by gen/ch3dr.py. -/
namespace Go.Proofs.YtghebbndfpbkcaaGreat
set_option linter.unusedVariables false
set_option linter.unusedSimpArgs false
open Go.RowKit
set_option maxRecDepth 100000 in
set_option maxHeartbeats 6400000 in
theorem l3Any_any (b : Nat) (v : Value) (l : List UInt8) (w : World) (hC : Cur w b v l) :
    Calls Tryz.prog 34 #[.pointer (some ⟨b, 0, none⟩)] w fun e w' => DrawnCore 7 b v l w e w' := by
  have hbl := hC.lt
  have HC0 := Lib.hid (cur_alloc hC (.cells #[.string ⟨#[]⟩, .bool false, .bool false, .slice none 0 0, .int .i64 0] 26))
  have BR0 := Lib.hid (Bx.new w zCoreV 26)
  have HG0 := Lib.hid (grown_alloc (grown_refl w (some b)) (.cells #[.string ⟨#[]⟩, .bool false, .bool false, .slice none 0 0, .int .i64 0] 26))
  clear hC
  go_enter Tryz.func34, Tryz.ntmps34
  go_wp2_with fail
  refine (l3Draw_any b v l _ HC0.out).mono ?_
  rintro e w1 ⟨⟨kd, on, br, y, cnt⟩, cv, rfl, ho, hok, hg, hC⟩
  have HOK := Lib.hid hok
  skip
  have hwl : w.heap.size < w1.heap.size := Nat.lt_of_lt_of_le BR0.out.lt hg.size
  obtain ⟨ua, uc, rfl⟩ := slice_of ho
  have ho1 : OwnsF cCell 36 2 w1 (w.heap.size + 1) (.slice ua y.length uc) y := by simpa using ho
  have S := Lib.hid (show DSt w b v l w.heap.size w1.heap.size ⟨kd, on, br, y, cnt⟩ (.slice ua y.length uc) (w1.alloc (.cells #[.string ⟨kd.toArray⟩, .bool on, .bool br, .slice ua y.length uc, .int .i64 cnt] 26)) from ⟨grown_alloc (grown_trans HG0.out hg) _, cur_alloc hC _, (bx_grownC BR0.out hg (by omega)).alloc _, Bx.new w1 (cCoreV ⟨kd, on, br, y, cnt⟩ (.slice ua y.length uc)) 26, ownsF_alloc (ownsF_base ho1 (by omega)) _, hbl, Nat.le_refl _, hwl, fun e => by have := (World.ownsRow.lt ho1 _ e).2; omega, fun e => by have := (World.ownsRow.lt ho1 _ e).1; omega⟩)
  clear ho ho1 hok hg hC HC0 BR0 HG0
  unfold vCore
  simp only
  go_wp2_with fail
  generalize w1.alloc (.cells #[.string ⟨kd.toArray⟩, .bool on, .bool br, .slice ua y.length uc, .int .i64 cnt] 26) = w2 at *
  refine (l1Below_any b v l _ _ S.out.cur (by omega) (by omega)).mono ?_
  rintro e w3 ⟨k, rfl, ⟨k0, k1, k2⟩, hg, hC⟩
  have S := Lib.hid (S.out.draw hg hC)
  clear hg hC k1 k2
  by_cases e0 : k = 0
  · subst e0
    go_wp2_with fail
    refine (l1Str_new b v l _ _ _ _ _ 9 S.out.cur (by rfl) (by decide) (by decide) (by decide)).mono ?_
    rintro e w4 ⟨z, rfl, hz, hg, hC⟩
    obtain ⟨⟨zl⟩⟩ := z
    have hzl : zl.length ≤ 9 := hz
    have S := Lib.hid (S.out.draw hg hC)
    clear hg hC hz
    have BP := Lib.hid S.out.box
    have BR := Lib.hid S.out.res
    have p0 := BP.out.cell 0 (by simp)
    have p1 := BP.out.cell 1 (by simp)
    have p2 := BP.out.cell 2 (by simp)
    have p3 := BP.out.cell 3 (by simp)
    have p4 := BP.out.cell 4 (by simp)
    simp only [List.getElem_cons_zero, List.getElem_cons_succ] at p0 p1 p2 p3 p4
    have x0 := BP.out.froz 0 (by simp)
    have x1 := BP.out.froz 1 (by simp)
    have x2 := BP.out.froz 2 (by simp)
    have x3 := BP.out.froz 3 (by simp)
    have x4 := BP.out.froz 4 (by simp)
    have r0 := BR.out.cell 0 (by simp)
    have r1 := BR.out.cell 1 (by simp)
    have r2 := BR.out.cell 2 (by simp)
    have r3 := BR.out.cell 3 (by simp)
    have r4 := BR.out.cell 4 (by simp)
    simp only [List.getElem_cons_zero, List.getElem_cons_succ] at r0 r1 r2 r3 r4
    have y0 := BR.out.froz 0 (by simp)
    have y1 := BR.out.froz 1 (by simp)
    have y2 := BR.out.froz 2 (by simp)
    have y3 := BR.out.froz 3 (by simp)
    have y4 := BR.out.froz 4 (by simp)
    have lB := BP.out.lt
    have lR := BR.out.lt
    have hRB := S.out.RB
    have S9 := Lib.hid (DSt.set (d' := ⟨zl, on, br, y, cnt⟩) S.out 0 (by decide) (.string ⟨zl.toArray⟩) rfl rfl)
    go_wp2_with fail
    refine bodyPost_ret (v := .agg #[.string ⟨zl.toArray⟩, .bool on, .bool br, (.slice ua y.length uc), .int .i64 cnt]) (by simp [results, Tryz.results34, go_sem, cell_set_at, cell_set_ne, r0, r1, r2, r3, r4]) rfl ?_
    exact DSt.fin (d := ⟨zl, on, br, y, cnt⟩) S9.out ⟨hzl, Nat.le_succ_of_le HOK.out.2.1, HOK.out.2.2.1, HOK.out.2.2.2⟩ _ _ _ _ _
  have E0 : (k == 0) = false := by simpa using e0
  by_cases e1 : k = 1
  · subst e1
    have BP := Lib.hid S.out.box
    have BR := Lib.hid S.out.res
    have p0 := BP.out.cell 0 (by simp)
    have p1 := BP.out.cell 1 (by simp)
    have p2 := BP.out.cell 2 (by simp)
    have p3 := BP.out.cell 3 (by simp)
    have p4 := BP.out.cell 4 (by simp)
    simp only [List.getElem_cons_zero, List.getElem_cons_succ] at p0 p1 p2 p3 p4
    have x0 := BP.out.froz 0 (by simp)
    have x1 := BP.out.froz 1 (by simp)
    have x2 := BP.out.froz 2 (by simp)
    have x3 := BP.out.froz 3 (by simp)
    have x4 := BP.out.froz 4 (by simp)
    have r0 := BR.out.cell 0 (by simp)
    have r1 := BR.out.cell 1 (by simp)
    have r2 := BR.out.cell 2 (by simp)
    have r3 := BR.out.cell 3 (by simp)
    have r4 := BR.out.cell 4 (by simp)
    simp only [List.getElem_cons_zero, List.getElem_cons_succ] at r0 r1 r2 r3 r4
    have y0 := BR.out.froz 0 (by simp)
    have y1 := BR.out.froz 1 (by simp)
    have y2 := BR.out.froz 2 (by simp)
    have y3 := BR.out.froz 3 (by simp)
    have y4 := BR.out.froz 4 (by simp)
    have lB := BP.out.lt
    have lR := BR.out.lt
    have hRB := S.out.RB
    have S9 := Lib.hid (DSt.set (d' := ⟨kd, true, br, y, cnt⟩) S.out 1 (by decide) (.bool true) rfl rfl)
    go_wp2_with fail
    refine bodyPost_ret (v := .agg #[.string ⟨kd.toArray⟩, .bool true, .bool br, (.slice ua y.length uc), .int .i64 cnt]) (by simp [results, Tryz.results34, go_sem, cell_set_at, cell_set_ne, r0, r1, r2, r3, r4]) rfl ?_
    exact DSt.fin (d := ⟨kd, true, br, y, cnt⟩) S9.out ⟨HOK.out.1, Nat.le_succ_of_le HOK.out.2.1, HOK.out.2.2.1, HOK.out.2.2.2⟩ _ _ _ _ _
  have E1 : (k == 1) = false := by simpa using e1
  by_cases e2 : k = 2
  · subst e2
    have BP := Lib.hid S.out.box
    have BR := Lib.hid S.out.res
    have p0 := BP.out.cell 0 (by simp)
    have p1 := BP.out.cell 1 (by simp)
    have p2 := BP.out.cell 2 (by simp)
    have p3 := BP.out.cell 3 (by simp)
    have p4 := BP.out.cell 4 (by simp)
    simp only [List.getElem_cons_zero, List.getElem_cons_succ] at p0 p1 p2 p3 p4
    have x0 := BP.out.froz 0 (by simp)
    have x1 := BP.out.froz 1 (by simp)
    have x2 := BP.out.froz 2 (by simp)
    have x3 := BP.out.froz 3 (by simp)
    have x4 := BP.out.froz 4 (by simp)
    have r0 := BR.out.cell 0 (by simp)
    have r1 := BR.out.cell 1 (by simp)
    have r2 := BR.out.cell 2 (by simp)
    have r3 := BR.out.cell 3 (by simp)
    have r4 := BR.out.cell 4 (by simp)
    simp only [List.getElem_cons_zero, List.getElem_cons_succ] at r0 r1 r2 r3 r4
    have y0 := BR.out.froz 0 (by simp)
    have y1 := BR.out.froz 1 (by simp)
    have y2 := BR.out.froz 2 (by simp)
    have y3 := BR.out.froz 3 (by simp)
    have y4 := BR.out.froz 4 (by simp)
    have lB := BP.out.lt
    have lR := BR.out.lt
    have hRB := S.out.RB
    have S9 := Lib.hid (DSt.set (d' := ⟨kd, on, true, y, cnt⟩) S.out 2 (by decide) (.bool true) rfl rfl)
    go_wp2_with fail
    refine bodyPost_ret (v := .agg #[.string ⟨kd.toArray⟩, .bool on, .bool true, (.slice ua y.length uc), .int .i64 cnt]) (by simp [results, Tryz.results34, go_sem, cell_set_at, cell_set_ne, r0, r1, r2, r3, r4]) rfl ?_
    exact DSt.fin (d := ⟨kd, on, true, y, cnt⟩) S9.out ⟨HOK.out.1, Nat.le_succ_of_le HOK.out.2.1, HOK.out.2.2.1, HOK.out.2.2.2⟩ _ _ _ _ _
  have E2 : (k == 2) = false := by simpa using e2
  by_cases e3 : k = 3
  · subst e3
    go_wp2_with fail
    have c3 := S.out.box.cell 3 (by simp)
    have S := Lib.hid S.out.drew
    refine region_T (S := fun w' => w'.cell? ⟨w1.heap.size, 3, none⟩ = some (.slice ua y.length uc)) (t := 10) (by kernel_rfl) ?_ (fun hHeld => ?_)
    · exact S.out.box.cell 3 (by simp)
    refine anyT_take (i := 0) (v := ?_) rfl (by kernel_rfl) (by kernel_rfl) (by kernel_rfl) (by kernel_rfl) (by kernel_rfl) (fun _ _ _ h => h) (Or.inl ⟨by rfl, ?_⟩) (by assumption) ?_
    rotate_left
    · intro w hSw; (try dsimp only at hSw); go_simp; with_reducible rfl
    try simp only [Act.put, List.getElem_toArray, List.getElem_cons_zero, List.getElem_cons_succ, List.setIfInBounds_toArray, List.set_cons_zero, List.set_cons_succ]
    refine anyT_take (i := 2) (v := ?_) rfl (by kernel_rfl) (by kernel_rfl) (by kernel_rfl) (by kernel_rfl) (by kernel_rfl) (fun _ _ _ h => h) (Or.inl ⟨by rfl, ?_⟩) (by assumption) ?_
    rotate_left
    · intro w hSw; (try dsimp only at hSw); go_simp; with_reducible rfl
    try simp only [Act.put, List.getElem_toArray, List.getElem_cons_zero, List.getElem_cons_succ, List.setIfInBounds_toArray, List.set_cons_zero, List.set_cons_succ]
    refine anyT_take (i := 4) (v := ?_) rfl (by kernel_rfl) (by kernel_rfl) (by kernel_rfl) (by kernel_rfl) (by kernel_rfl) (fun _ _ _ h => h) (Or.inl ⟨by rfl, ?_⟩) (by assumption) ?_
    rotate_left
    · intro w hSw; (try dsimp only at hSw); go_simp; with_reducible rfl
    try simp only [Act.put, List.getElem_toArray, List.getElem_cons_zero, List.getElem_cons_succ, List.setIfInBounds_toArray, List.set_cons_zero, List.set_cons_succ]
    refine anyT_take (i := 1) (v := ?_) rfl (by kernel_rfl) (by kernel_rfl) (by kernel_rfl) (by kernel_rfl) (by kernel_rfl) (fun _ _ _ h => h) (Or.inl ⟨by rfl, ?_⟩) (by assumption) ?_
    rotate_left
    · intro w hSw; (try dsimp only at hSw); go_simp; with_reducible rfl
    try simp only [Act.put, List.getElem_toArray, List.getElem_cons_zero, List.getElem_cons_succ, List.setIfInBounds_toArray, List.set_cons_zero, List.set_cons_succ]
    refine anyT_only (i := 3) (by kernel_rfl) rfl (fun K hK => ?_)
    go_simp
    go_at_call 64; refine (l1Word_any b v l _ S.out.cur).mono ?_; rintro e w5 ⟨z, rfl, hz, hg, hC⟩; obtain ⟨⟨zl⟩⟩ := z; have hzl : zl.length ≤ 9 := hz; have S := Lib.hid (S.out.draw hg hC); clear hg hC hz
    refine hK.out _ _ ?_ (fun hHeld => ?_)
    · exact S.out.box.cell 3 (by simp)
    clear hK K
    try simp only [Act.put, List.getElem_toArray, List.getElem_cons_zero, List.getElem_cons_succ, List.setIfInBounds_toArray, List.set_cons_zero, List.set_cons_succ]
    refine anyT_only (i := 5) (by kernel_rfl) rfl (fun K hK => ?_)
    go_simp
    go_at_call 65; refine (l1Odd_any b v l _ S.out.cur).mono ?_; rintro e w6 ⟨q, rfl, ⟨q0, q1⟩, hg, hC⟩; have S := Lib.hid (S.out.draw hg hC); clear hg hC
    refine hK.out _ _ ?_ (fun hHeld => ?_)
    · exact S.out.box.cell 3 (by simp)
    clear hK K
    try simp only [Act.put, List.getElem_toArray, List.getElem_cons_zero, List.getElem_cons_succ, List.setIfInBounds_toArray, List.set_cons_zero, List.set_cons_succ]
    refine anyT_take (i := 6) (v := ?_) rfl (by kernel_rfl) (by kernel_rfl) (by kernel_rfl) (by kernel_rfl) (by kernel_rfl) (fun _ _ _ h => h) (Or.inl ⟨by rfl, ?_⟩) (by assumption) ?_
    rotate_left
    · intro w hSw; (try dsimp only at hSw); go_simp; with_reducible rfl
    try simp only [Act.put, List.getElem_toArray, List.getElem_cons_zero, List.getElem_cons_succ, List.setIfInBounds_toArray, List.set_cons_zero, List.set_cons_succ]
    refine anyT_only (i := 7) (by kernel_rfl) rfl (fun K hK => ?_)
    go_simp
    have hba := bx_box w6 (.cells #[.string ⟨zl.toArray⟩, .int .i64 q] 36); have S7 := Lib.hid (S.out.below hba)
    refine hK.out _ _ ?_ (fun hHeld => ?_)
    · exact S7.out.box.cell 3 (by simp)
    clear hK K
    try simp only [Act.put, List.getElem_toArray, List.getElem_cons_zero, List.getElem_cons_succ, List.setIfInBounds_toArray, List.set_cons_zero, List.set_cons_succ]
    refine anyT_only (i := 8) (by kernel_rfl) rfl (fun K hK => ?_)
    refine step_cells rfl (.tmp 23) (.tmp 29) rfl w.heap.size (.slice ua y.length uc) y (⟨zl, q⟩ : CellD) _ w6.heap.size rfl S7.out.own rfl (cell_newC w6 (⟨zl, q⟩ : CellD) _ rfl) (by have := HOK.out.2.1; simp only at this; omega) S7.out.grown.size ?_
    intro u w8 ho hg
    obtain ⟨h1, h2, h3, h4⟩ := S7.out.app hg
    refine hK.out _ _ ?_ (fun hHeld => ?_)
    · exact h4.cell 3 (by simp)
    clear hK K
    try simp only [Act.put, List.getElem_toArray, List.getElem_cons_zero, List.getElem_cons_succ, List.setIfInBounds_toArray, List.set_cons_zero, List.set_cons_succ]
    have HOK2 := Lib.hid (show okDr 7 ⟨kd, on, br, y ++ [(⟨zl, q⟩ : CellD)], cnt⟩ from ⟨HOK.out.1, by have := HOK.out.2.1; simp only at this; simp; omega, fun c hc => by rcases List.mem_append.1 hc with hc | hc; exact HOK.out.2.2.1 c hc; rw [List.mem_singleton.1 hc]; exact ⟨hzl, q0, q1⟩, HOK.out.2.2.2⟩)
    have hpos : 0 < (y ++ [(⟨zl, q⟩ : CellD)]).length := by simp
    generalize y ++ [(⟨zl, q⟩ : CellD)] = yy at *
    obtain ⟨ub, ud, rfl⟩ := slice_of ho
    have hq1 := h4.cell 1 (by simp)
    have hq2 := h3.cell 1 (by simp)
    have n1 := row_not_bool ho hpos hq1
    have n2 := row_not_bool ho hpos hq2
    have S9 := Lib.hid (S7.out.setC2 h1 h2 h3 h4 _ _ ho n1 n2)
    have BP := Lib.hid h4
    have BR := Lib.hid h3
    clear h1 h2 h3 h4 ho hg hq1 hq2 n1 n2
    have p0 := BP.out.cell 0 (by simp)
    have p1 := BP.out.cell 1 (by simp)
    have p2 := BP.out.cell 2 (by simp)
    have p3 := BP.out.cell 3 (by simp)
    have p4 := BP.out.cell 4 (by simp)
    simp only [List.getElem_cons_zero, List.getElem_cons_succ] at p0 p1 p2 p3 p4
    have x0 := BP.out.froz 0 (by simp)
    have x1 := BP.out.froz 1 (by simp)
    have x2 := BP.out.froz 2 (by simp)
    have x3 := BP.out.froz 3 (by simp)
    have x4 := BP.out.froz 4 (by simp)
    have r0 := BR.out.cell 0 (by simp)
    have r1 := BR.out.cell 1 (by simp)
    have r2 := BR.out.cell 2 (by simp)
    have r3 := BR.out.cell 3 (by simp)
    have r4 := BR.out.cell 4 (by simp)
    simp only [List.getElem_cons_zero, List.getElem_cons_succ] at r0 r1 r2 r3 r4
    have y0 := BR.out.froz 0 (by simp)
    have y1 := BR.out.froz 1 (by simp)
    have y2 := BR.out.froz 2 (by simp)
    have y3 := BR.out.froz 3 (by simp)
    have y4 := BR.out.froz 4 (by simp)
    have lB := BP.out.lt
    have lR := BR.out.lt
    have hRB := S9.out.RB
    refine anyT_take (i := 9) (v := ?_) rfl (by kernel_rfl) (by kernel_rfl) (by kernel_rfl) (by kernel_rfl) (by kernel_rfl) (fun _ _ _ h => h) (Or.inl ⟨by rfl, ?_⟩) (by assumption) ?_
    rotate_left
    · intro w hSw; (try dsimp only at hSw); go_simp; with_reducible rfl
    try simp only [Act.put, List.getElem_toArray, List.getElem_cons_zero, List.getElem_cons_succ, List.setIfInBounds_toArray, List.set_cons_zero, List.set_cons_succ]
    refine anyT_tail (by kernel_rfl) rfl (fun K hK => ?_)
    go_simp
    refine hK.out _ _ ?_
    clear hK K
    try simp only [Act.put, List.getElem_toArray, List.getElem_cons_zero, List.getElem_cons_succ, List.setIfInBounds_toArray, List.set_cons_zero, List.set_cons_succ]
    refine anyT_done (by kernel_rfl) ?_ _
    go_wp2_with fail
    refine bodyPost_ret (v := .agg #[.string ⟨kd.toArray⟩, .bool on, .bool br, (.slice ub yy.length ud), .int .i64 cnt]) (by simp [results, Tryz.results34, go_sem, cell_set_at, cell_set_ne, r0, r1, r2, r3, r4]) rfl ?_
    exact DSt.fin (d := ⟨kd, on, br, yy, cnt⟩) S9.out HOK2.out _ _ _ _ _
  have E3 : (k == 3) = false := by simpa using e3
  by_cases e4 : k = 4
  · subst e4
    go_wp2_with fail
    refine (l1Odd_any b v l _ S.out.cur).mono ?_
    rintro e w4 ⟨z, rfl, ⟨z0, z1⟩, hg, hC⟩
    have S := Lib.hid (S.out.draw hg hC)
    clear hg hC
    have BP := Lib.hid S.out.box
    have BR := Lib.hid S.out.res
    have p0 := BP.out.cell 0 (by simp)
    have p1 := BP.out.cell 1 (by simp)
    have p2 := BP.out.cell 2 (by simp)
    have p3 := BP.out.cell 3 (by simp)
    have p4 := BP.out.cell 4 (by simp)
    simp only [List.getElem_cons_zero, List.getElem_cons_succ] at p0 p1 p2 p3 p4
    have x0 := BP.out.froz 0 (by simp)
    have x1 := BP.out.froz 1 (by simp)
    have x2 := BP.out.froz 2 (by simp)
    have x3 := BP.out.froz 3 (by simp)
    have x4 := BP.out.froz 4 (by simp)
    have r0 := BR.out.cell 0 (by simp)
    have r1 := BR.out.cell 1 (by simp)
    have r2 := BR.out.cell 2 (by simp)
    have r3 := BR.out.cell 3 (by simp)
    have r4 := BR.out.cell 4 (by simp)
    simp only [List.getElem_cons_zero, List.getElem_cons_succ] at r0 r1 r2 r3 r4
    have y0 := BR.out.froz 0 (by simp)
    have y1 := BR.out.froz 1 (by simp)
    have y2 := BR.out.froz 2 (by simp)
    have y3 := BR.out.froz 3 (by simp)
    have y4 := BR.out.froz 4 (by simp)
    have lB := BP.out.lt
    have lR := BR.out.lt
    have hRB := S.out.RB
    have S9 := Lib.hid (DSt.set (d' := ⟨kd, on, br, y, z⟩) S.out 4 (by decide) (.int .i64 z) rfl rfl)
    go_wp2_with fail
    refine bodyPost_ret (v := .agg #[.string ⟨kd.toArray⟩, .bool on, .bool br, (.slice ua y.length uc), .int .i64 z]) (by simp [results, Tryz.results34, go_sem, cell_set_at, cell_set_ne, r0, r1, r2, r3, r4]) rfl ?_
    exact DSt.fin (d := ⟨kd, on, br, y, z⟩) S9.out ⟨HOK.out.1, Nat.le_succ_of_le HOK.out.2.1, HOK.out.2.2.1, show I64 z from ⟨z0, z1⟩⟩ _ _ _ _ _
  have E4 : (k == 4) = false := by simpa using e4
  clear e0 e1 e2 e3 e4
  have BP := Lib.hid S.out.box
  have BR := Lib.hid S.out.res
  have p0 := BP.out.cell 0 (by simp)
  have p1 := BP.out.cell 1 (by simp)
  have p2 := BP.out.cell 2 (by simp)
  have p3 := BP.out.cell 3 (by simp)
  have p4 := BP.out.cell 4 (by simp)
  simp only [List.getElem_cons_zero, List.getElem_cons_succ] at p0 p1 p2 p3 p4
  have x0 := BP.out.froz 0 (by simp)
  have x1 := BP.out.froz 1 (by simp)
  have x2 := BP.out.froz 2 (by simp)
  have x3 := BP.out.froz 3 (by simp)
  have x4 := BP.out.froz 4 (by simp)
  have r0 := BR.out.cell 0 (by simp)
  have r1 := BR.out.cell 1 (by simp)
  have r2 := BR.out.cell 2 (by simp)
  have r3 := BR.out.cell 3 (by simp)
  have r4 := BR.out.cell 4 (by simp)
  simp only [List.getElem_cons_zero, List.getElem_cons_succ] at r0 r1 r2 r3 r4
  have y0 := BR.out.froz 0 (by simp)
  have y1 := BR.out.froz 1 (by simp)
  have y2 := BR.out.froz 2 (by simp)
  have y3 := BR.out.froz 3 (by simp)
  have y4 := BR.out.froz 4 (by simp)
  have lB := BP.out.lt
  have lR := BR.out.lt
  have hRB := S.out.RB
  go_wp2_with fail
  refine bodyPost_ret (v := .agg #[.string ⟨kd.toArray⟩, .bool on, .bool br, (.slice ua y.length uc), .int .i64 cnt]) (by simp [results, Tryz.results34, go_sem, cell_set_at, cell_set_ne, r0, r1, r2, r3, r4]) rfl ?_
  exact DSt.fin (d := ⟨kd, on, br, y, cnt⟩) S.out ⟨HOK.out.1, Nat.le_succ_of_le HOK.out.2.1, HOK.out.2.2.1, HOK.out.2.2.2⟩ _ _ _ _ _
end Go.Proofs.YtghebbndfpbkcaaGreat
/- The draws of chapter 3: calls. Written by gen/ch3dk.py. -/
namespace Go.Proofs.YtghebbndfpbkcaaGreat
set_option linter.unusedVariables false
set_option linter.unusedSimpArgs false
open Go.RowKit
def okCl (d : CallD) : Prop := d.fMethod.length ≤ 9 ∧ d.fKey.length ≤ 9 ∧ I64 d.fValue ∧ d.fText.length ≤ 120
def DrawnCall (b : Nat) (v : Value) (l : List UInt8) (w : World) (e : Ending) (w' : World) : Prop := ∃ d : CallD, e = .returned (vCall d) ∧ okCl d ∧ w.grownBy w' (some b) ∧ Cur w' b v l
abbrev zCallV : List Value := [.string ⟨#[]⟩, .string ⟨#[]⟩, .int .i64 0, .string ⟨#[]⟩]
abbrev cCallV (d : CallD) : List Value := [.string ⟨d.fMethod.toArray⟩, .string ⟨d.fKey.toArray⟩, .int .i64 d.fValue, .string ⟨d.fText.toArray⟩]
structure KSt (w : World) (b : Nat) (v : Value) (l : List UInt8) (R B : Nat) (d : CallD) (wx : World) : Prop where
  grown : w.grownBy wx (some b)
  cur : Cur wx b v l
  res : Bx wx R zCallV
  box : Bx wx B (cCallV d)
  bw : b < w.heap.size
  wR : w.heap.size ≤ R
  RB : R < B
theorem KSt.draw {w : World} {b : Nat} {v : Value} {l : List UInt8} {R B : Nat} {d : CallD} {wx w' : World} (h : KSt w b v l R B d wx) (hg : wx.grownBy w' (some b)) (hC : Cur w' b v l) : KSt w b v l R B d w' :=
  ⟨grown_trans h.grown hg, hC, bx_grownC h.res hg (by have := h.bw; have := h.wR; omega), bx_grownC h.box hg (by have := h.bw; have := h.wR; have := h.RB; omega), h.bw, h.wR, h.RB⟩
theorem KSt.set {w : World} {b : Nat} {v : Value} {l : List UInt8} {R B : Nat} {d d' : CallD} {wx : World} (h : KSt w b v l R B d wx) (j : Nat) (hj : j < 4) (u : Value) (hd : (cCallV d).set j u = cCallV d') : KSt w b v l R B d' (wx.setCell ⟨B, j, none⟩ u) :=
  ⟨grown_setO h.grown (by have := h.wR; have := h.RB; omega) j u, cur_setO h.cur (by have := h.bw; have := h.wR; have := h.RB; omega) j u, h.res.other (by have := h.RB; omega) j u, by rw [← hd]; exact h.box.set j hj u, h.bw, h.wR, h.RB⟩
theorem KSt.fin {w : World} {b : Nat} {v : Value} {l : List UInt8} {R B : Nat} {d : CallD} {wx : World} (h : KSt w b v l R B d wx) (hk : okCl d) (u0 u1 u2 u3 : Value) :
    DrawnCall b v l w (.returned (vCall d)) ((((wx.setCell ⟨R, 0, none⟩ u0).setCell ⟨R, 1, none⟩ u1).setCell ⟨R, 2, none⟩ u2).setCell ⟨R, 3, none⟩ u3) :=
  have hb : b < R := Nat.lt_of_lt_of_le h.bw h.wR
  ⟨d, rfl, hk, grown_setO (grown_setO (grown_setO (grown_setO h.grown h.wR 0 u0) h.wR 1 u1) h.wR 2 u2) h.wR 3 u3, cur_setO (cur_setO (cur_setO (cur_setO h.cur hb 0 u0) hb 1 u1) hb 2 u2) hb 3 u3⟩
theorem size_appS (a b : ByteArray) : (a ++ b).size = a.size + b.size := ByteArray.size_append
theorem size_litS (l : List UInt8) : (⟨l.toArray⟩ : ByteArray).size = l.length := by simp [ByteArray.size]
set_option maxHeartbeats 800000 in
theorem l2Method_any (b : Nat) (v : Value) (l : List UInt8) (w : World) (hC : Cur w b v l) :
    Calls Tryz.prog 67 #[.pointer (some ⟨b, 0, none⟩)] w fun e w' => DrawnStr (fun x => x.size ≤ 9) b v l w e w' := by
  have HC0 := Lib.hid hC
  clear hC
  go_enter Tryz.func67, Tryz.ntmps67
  go_wp2_with fail
  refine (l1Once_any b v l _ w HC0.out (by omega) (by omega)).mono ?_
  rintro e w1 ⟨x, rfl, hg, hC⟩
  have HG1 := Lib.hid (hg)
  have HC1 := Lib.hid hC
  clear hg hC
  cases x
  · go_wp2_with fail
    refine (l1Str_new b v l w1 _ _ _ _ 9 HC1.out (by rfl) (by decide) (by decide) (by decide)).mono ?_
    rintro e w2 ⟨x, rfl, hx, hg1, hC1⟩
    have HG := Lib.hid (grown_trans HG1.out hg1)
    have HC2 := Lib.hid hC1
    clear hg1 hC1
    go_wp2_with fail
    go_ret
    exact ⟨_, rfl, hx, HG.out, HC2.out⟩
  · go_wp2_with fail
    refine (l1Str_new b v l w1 _ _ _ _ 9 HC1.out (by rfl) (by decide) (by decide) (by decide)).mono ?_
    rintro e w2 ⟨x, rfl, hx, hg1, hC1⟩
    have HG := Lib.hid (grown_trans HG1.out hg1)
    have HC2 := Lib.hid hC1
    clear hg1 hC1
    go_wp2_with fail
    go_ret
    exact ⟨_, rfl, hx, HG.out, HC2.out⟩
theorem fmtC_len (x : List CellD) : (fmtC x).length ≤ 100 := by
  unfold fmtC
  split
  · rename_i h
    split
    · simp
    · have hc := h
      simp only [cellsB, Bool.and_eq_true, decide_eq_true_eq] at hc
      refine fmt_small x (fun d hd => ?_) hc.1
      obtain ⟨i, hi, rfl⟩ := List.mem_iff_getElem.1 hd
      have := okTo_at x _ i hc.2 hi
      simp only [okAt, Bool.and_eq_true] at this
      rw [getD_at x i hi] at this
      exact this.1
  · simp
set_option maxRecDepth 100000 in
set_option maxHeartbeats 1600000 in
theorem l3Text_any (b : Nat) (v : Value) (l : List UInt8) (w : World) (hC : Cur w b v l) :
    Calls Tryz.prog 95 #[.pointer (some ⟨b, 0, none⟩)] w fun e w' => DrawnStr (fun x => x.size ≤ 120) b v l w e w' := by
  have HC0 := Lib.hid hC
  clear hC
  go_enter Tryz.func95, Tryz.ntmps95
  go_wp2_with fail
  refine (l3Cells_any b v l _ HC0.out).mono ?_
  rintro e w1 ⟨u, y, rfl, ho, hsm, hg, hC⟩
  have HFC := Lib.hid (specFormatCells_any u y w1 (ownsF_at ho (by have := hsm.1; omega)) (fun d hd => by have := (hsm.2 d hd).1; unfold maxLen; omega))
  have HG1 := Lib.hid hg
  have HC1 := Lib.hid hC
  have hfl := fmtC_len y
  generalize fmtC y = ft at *
  obtain ⟨ua, uc, rfl⟩ := slice_of ho
  clear ho hsm hg hC
  go_wp2_with fail
  refine HFC.out.mono ?_
  rintro e w2 ⟨rfl, hb⟩
  have HG2 := Lib.hid (grown_below HG1.out hb HG1.out.size)
  have HC2 := Lib.hid (HC1.out.below hb HC1.out.lt)
  clear hb
  go_wp2_with fail
  refine (l1Below_any b v l _ _ HC2.out (by omega) (by omega)).mono ?_
  rintro e w3 ⟨k, rfl, ⟨k0, k1, k2⟩, hg, hC⟩
  have HG3 := Lib.hid (grown_trans HG2.out hg)
  have HC3 := Lib.hid hC
  clear hg hC k1 k2
  by_cases e0 : k = 0
  · subst e0
    go_wp2_with fail
    refine (l1Str_new b v l _ _ _ _ _ 9 HC3.out (by rfl) (by decide) (by decide) (by decide)).mono ?_
    rintro e w4 ⟨z, rfl, hz, hg, hC⟩
    have HG4 := Lib.hid (grown_trans HG3.out hg)
    have HC4 := Lib.hid hC
    clear hg hC
    go_wp2_with fail
    go_ret
    exact ⟨_, rfl, by show ByteArray.size _ ≤ 120; rw [size_appS, size_litS]; omega, HG4.out, HC4.out⟩
  · have E0 : (k == 0) = false := by simpa using e0
    by_cases e1 : k = 1
    · subst e1
      clear e0 E0
      go_wp2_with fail
      refine (l1Str_new b v l _ _ _ _ _ 30 HC3.out (by rfl) (by decide) (by decide) (by decide)).mono ?_
      rintro e w4 ⟨z, rfl, hz, hg, hC⟩
      have HG4 := Lib.hid (grown_trans HG3.out hg)
      have HC4 := Lib.hid hC
      clear hg hC
      go_wp2_with fail
      go_ret
      exact ⟨_, rfl, by show ByteArray.size _ ≤ 120; omega, HG4.out, HC4.out⟩
    · have E1 : (k == 1) = false := by simpa using e1
      clear e0 e1
      go_wp2_with fail
      go_ret
      exact ⟨_, rfl, by show ByteArray.size _ ≤ 120; rw [size_litS]; omega, HG3.out, HC3.out⟩
set_option maxRecDepth 100000 in
set_option maxHeartbeats 6400000 in
theorem l3Call_any (b : Nat) (v : Value) (l : List UInt8) (w : World) (hC : Cur w b v l) :
    Calls Tryz.prog 66 #[.pointer (some ⟨b, 0, none⟩)] w fun e w' => DrawnCall b v l w e w' := by
  have hbl := hC.lt
  have HC0 := Lib.hid (cur_alloc hC (.cells #[.string ⟨#[]⟩, .string ⟨#[]⟩, .int .i64 0, .string ⟨#[]⟩] 28))
  have BR0 := Lib.hid (Bx.new w zCallV 28)
  have HG0 := Lib.hid (grown_alloc (grown_refl w (some b)) (.cells #[.string ⟨#[]⟩, .string ⟨#[]⟩, .int .i64 0, .string ⟨#[]⟩] 28))
  clear hC
  go_enter Tryz.func66, Tryz.ntmps66
  go_wp2_with fail
  have HST := Lib.hid (l1Str_new b v l (w.alloc (.cells #[.string ⟨#[]⟩, .string ⟨#[]⟩, .int .i64 0, .string ⟨#[]⟩] 28)) #[.string ⟨#[83, 116, 97, 114, 116]⟩, .string ⟨#[83, 116, 97, 114, 116]⟩, .string ⟨#[83, 116, 111, 112]⟩, .string ⟨#[71, 101, 116]⟩, .string ⟨#[71, 101, 116]⟩, .string ⟨#[80, 117, 116]⟩, .string ⟨#[80, 117, 116]⟩, .string ⟨#[84, 101, 108, 108]⟩, .string ⟨#[72, 101, 97, 114]⟩, .string ⟨#[76, 111, 97, 100]⟩, .string ⟨#[83, 97, 118, 101]⟩, .string ⟨#[72, 101, 97, 108]⟩] 9 12 12 9 HC0.out (by rfl) (by decide) (by decide) (by decide))
  rw [show (w.alloc (.cells #[.string ⟨#[]⟩, .string ⟨#[]⟩, .int .i64 0, .string ⟨#[]⟩] 28)).heap.size = w.heap.size + 1 by simp] at HST
  refine HST.out.mono ?_
  rintro e w1 ⟨z, rfl, hz, hg, hC⟩
  obtain ⟨m, rfl⟩ : ∃ m : List UInt8, z = ⟨m.toArray⟩ := ⟨z.data.toList, by cases z; simp⟩
  have hml : m.length ≤ 9 := by rw [size_litS] at hz; exact hz
  have hwl : w.heap.size < w1.heap.size := Nat.lt_of_lt_of_le BR0.out.lt hg.size
  have S := Lib.hid (show KSt w b v l w.heap.size w1.heap.size ⟨m, [], 0, []⟩ (w1.alloc (.cells #[.string ⟨m.toArray⟩, .string ⟨#[]⟩, .int .i64 0, .string ⟨#[]⟩] 28)) from ⟨grown_alloc (grown_trans HG0.out hg) _, cur_alloc hC _, (bx_grownC BR0.out hg (by omega)).alloc _, Bx.new w1 (cCallV ⟨m, [], 0, []⟩) 28, hbl, Nat.le_refl _, hwl⟩)
  have BRw := Lib.hid (bx_grownC BR0.out hg (by omega))
  have HGw := Lib.hid (grown_trans HG0.out hg)
  have HCw := Lib.hid hC
  clear hg hC HC0 BR0 HG0 hz HST
  by_cases e0 : m = [71, 101, 116]
  · subst e0
    go_wp2_with fail
    generalize w1.alloc (.cells #[.string ⟨#[71, 101, 116]⟩, .string ⟨#[]⟩, .int .i64 0, .string ⟨#[]⟩] 28) = w2 at *
    refine (l3Key_any b v l _ S.out.cur).mono ?_
    rintro e w4 ⟨z, rfl, hz, hg, hC⟩
    obtain ⟨⟨zl⟩⟩ := z
    have hzl : zl.length ≤ 9 := hz
    have S := Lib.hid (S.out.draw hg hC)
    clear hg hC hz
    have BP := Lib.hid S.out.box
    have BR := Lib.hid S.out.res
    have p0 := BP.out.cell 0 (by simp)
    have p1 := BP.out.cell 1 (by simp)
    have p2 := BP.out.cell 2 (by simp)
    have p3 := BP.out.cell 3 (by simp)
    simp only [List.getElem_cons_zero, List.getElem_cons_succ] at p0 p1 p2 p3
    have x0 := BP.out.froz 0 (by simp)
    have x1 := BP.out.froz 1 (by simp)
    have x2 := BP.out.froz 2 (by simp)
    have x3 := BP.out.froz 3 (by simp)
    have r0 := BR.out.cell 0 (by simp)
    have r1 := BR.out.cell 1 (by simp)
    have r2 := BR.out.cell 2 (by simp)
    have r3 := BR.out.cell 3 (by simp)
    simp only [List.getElem_cons_zero, List.getElem_cons_succ] at r0 r1 r2 r3
    have y0 := BR.out.froz 0 (by simp)
    have y1 := BR.out.froz 1 (by simp)
    have y2 := BR.out.froz 2 (by simp)
    have y3 := BR.out.froz 3 (by simp)
    have lB := BP.out.lt
    have lR := BR.out.lt
    have hRB := S.out.RB
    have S9 := Lib.hid (KSt.set (d' := ⟨[71, 101, 116], zl, 0, []⟩) S.out 1 (by decide) (.string ⟨zl.toArray⟩) rfl)
    go_wp2_with fail
    refine bodyPost_ret (v := .agg #[.string ⟨#[71, 101, 116]⟩, .string ⟨zl.toArray⟩, .int .i64 0, .string ⟨#[]⟩]) (by simp [results, Tryz.results66, go_sem, cell_set_at, cell_set_ne, r0, r1, r2, r3]) rfl ?_
    exact KSt.fin (d := ⟨[71, 101, 116], zl, 0, []⟩) S9.out ⟨by simp, hzl, (show I64 0 from ⟨by omega, by omega⟩), by simp⟩ _ _ _ _
  have E0 : (m == [71, 101, 116]) = false := by simpa using e0
  by_cases e1 : m = [80, 117, 116]
  · subst e1
    go_wp2_with fail
    generalize w1.alloc (.cells #[.string ⟨#[80, 117, 116]⟩, .string ⟨#[]⟩, .int .i64 0, .string ⟨#[]⟩] 28) = w2 at *
    refine (l3Key_any b v l _ S.out.cur).mono ?_
    rintro e w4 ⟨z, rfl, hz, hg, hC⟩
    obtain ⟨⟨zl⟩⟩ := z
    have hzl : zl.length ≤ 9 := hz
    have S0 := Lib.hid (S.out.draw hg hC)
    clear hg hC hz
    have S1 := Lib.hid (KSt.set (d' := ⟨[80, 117, 116], zl, 0, []⟩) S0.out 1 (by decide) (.string ⟨zl.toArray⟩) rfl)
    have BP := Lib.hid S0.out.box
    have BR := Lib.hid S0.out.res
    have p0 := BP.out.cell 0 (by simp)
    have p1 := BP.out.cell 1 (by simp)
    have p2 := BP.out.cell 2 (by simp)
    have p3 := BP.out.cell 3 (by simp)
    simp only [List.getElem_cons_zero, List.getElem_cons_succ] at p0 p1 p2 p3
    have x0 := BP.out.froz 0 (by simp)
    have x1 := BP.out.froz 1 (by simp)
    have x2 := BP.out.froz 2 (by simp)
    have x3 := BP.out.froz 3 (by simp)
    have r0 := BR.out.cell 0 (by simp)
    have r1 := BR.out.cell 1 (by simp)
    have r2 := BR.out.cell 2 (by simp)
    have r3 := BR.out.cell 3 (by simp)
    simp only [List.getElem_cons_zero, List.getElem_cons_succ] at r0 r1 r2 r3
    have y0 := BR.out.froz 0 (by simp)
    have y1 := BR.out.froz 1 (by simp)
    have y2 := BR.out.froz 2 (by simp)
    have y3 := BR.out.froz 3 (by simp)
    have lB := BP.out.lt
    have lR := BR.out.lt
    have hRB := S0.out.RB
    go_wp2_with fail
    clear BP BR p0 p1 p2 p3 x0 x1 x2 x3 r0 r1 r2 r3 y0 y1 y2 y3 lB lR hRB
    refine (l1Below_any b v l _ _ S1.out.cur (by omega) (by omega)).mono ?_
    rintro e w5 ⟨q, rfl, ⟨q0, q1, q2⟩, hg, hC⟩
    have q3 := q2 (by omega)
    have S := Lib.hid (S1.out.draw hg hC)
    clear hg hC q1 q2 S0 S1
    have BP := Lib.hid S.out.box
    have BR := Lib.hid S.out.res
    have p0 := BP.out.cell 0 (by simp)
    have p1 := BP.out.cell 1 (by simp)
    have p2 := BP.out.cell 2 (by simp)
    have p3 := BP.out.cell 3 (by simp)
    simp only [List.getElem_cons_zero, List.getElem_cons_succ] at p0 p1 p2 p3
    have x0 := BP.out.froz 0 (by simp)
    have x1 := BP.out.froz 1 (by simp)
    have x2 := BP.out.froz 2 (by simp)
    have x3 := BP.out.froz 3 (by simp)
    have r0 := BR.out.cell 0 (by simp)
    have r1 := BR.out.cell 1 (by simp)
    have r2 := BR.out.cell 2 (by simp)
    have r3 := BR.out.cell 3 (by simp)
    simp only [List.getElem_cons_zero, List.getElem_cons_succ] at r0 r1 r2 r3
    have y0 := BR.out.froz 0 (by simp)
    have y1 := BR.out.froz 1 (by simp)
    have y2 := BR.out.froz 2 (by simp)
    have y3 := BR.out.froz 3 (by simp)
    have lB := BP.out.lt
    have lR := BR.out.lt
    have hRB := S.out.RB
    have S9 := Lib.hid (KSt.set (d' := ⟨[80, 117, 116], zl, q, []⟩) S.out 2 (by decide) (.int .i64 q) rfl)
    go_wp2_with fail
    refine bodyPost_ret (v := .agg #[.string ⟨#[80, 117, 116]⟩, .string ⟨zl.toArray⟩, .int .i64 q, .string ⟨#[]⟩]) (by simp [results, Tryz.results66, go_sem, cell_set_at, cell_set_ne, r0, r1, r2, r3]) rfl ?_
    exact KSt.fin (d := ⟨[80, 117, 116], zl, q, []⟩) S9.out ⟨by simp, hzl, (show I64 q from ⟨by omega, by omega⟩), by simp⟩ _ _ _ _
  have E1 : (m == [80, 117, 116]) = false := by simpa using e1
  by_cases e2 : m = [72, 101, 97, 114]
  · subst e2
    go_wp2_with fail
    generalize w1.alloc (.cells #[.string ⟨#[72, 101, 97, 114]⟩, .string ⟨#[]⟩, .int .i64 0, .string ⟨#[]⟩] 28) = w2 at *
    refine (l1Below_any b v l _ _ S.out.cur (by omega) (by omega)).mono ?_
    rintro e w5 ⟨q, rfl, ⟨q0, q1, q2⟩, hg, hC⟩
    have q3 := q2 (by omega)
    have S := Lib.hid (S.out.draw hg hC)
    clear hg hC q1 q2
    have BP := Lib.hid S.out.box
    have BR := Lib.hid S.out.res
    have p0 := BP.out.cell 0 (by simp)
    have p1 := BP.out.cell 1 (by simp)
    have p2 := BP.out.cell 2 (by simp)
    have p3 := BP.out.cell 3 (by simp)
    simp only [List.getElem_cons_zero, List.getElem_cons_succ] at p0 p1 p2 p3
    have x0 := BP.out.froz 0 (by simp)
    have x1 := BP.out.froz 1 (by simp)
    have x2 := BP.out.froz 2 (by simp)
    have x3 := BP.out.froz 3 (by simp)
    have r0 := BR.out.cell 0 (by simp)
    have r1 := BR.out.cell 1 (by simp)
    have r2 := BR.out.cell 2 (by simp)
    have r3 := BR.out.cell 3 (by simp)
    simp only [List.getElem_cons_zero, List.getElem_cons_succ] at r0 r1 r2 r3
    have y0 := BR.out.froz 0 (by simp)
    have y1 := BR.out.froz 1 (by simp)
    have y2 := BR.out.froz 2 (by simp)
    have y3 := BR.out.froz 3 (by simp)
    have lB := BP.out.lt
    have lR := BR.out.lt
    have hRB := S.out.RB
    have S9 := Lib.hid (KSt.set (d' := ⟨[72, 101, 97, 114], [], q, []⟩) S.out 2 (by decide) (.int .i64 q) rfl)
    go_wp2_with fail
    refine bodyPost_ret (v := .agg #[.string ⟨#[72, 101, 97, 114]⟩, .string ⟨#[]⟩, .int .i64 q, .string ⟨#[]⟩]) (by simp [results, Tryz.results66, go_sem, cell_set_at, cell_set_ne, r0, r1, r2, r3]) rfl ?_
    exact KSt.fin (d := ⟨[72, 101, 97, 114], [], q, []⟩) S9.out ⟨by simp, by simp, (show I64 q from ⟨by omega, by omega⟩), by simp⟩ _ _ _ _
  have E2 : (m == [72, 101, 97, 114]) = false := by simpa using e2
  by_cases e3 : m = [76, 111, 97, 100]
  · subst e3
    go_wp2_with fail
    generalize w1.alloc (.cells #[.string ⟨#[76, 111, 97, 100]⟩, .string ⟨#[]⟩, .int .i64 0, .string ⟨#[]⟩] 28) = w2 at *
    refine (l3Text_any b v l _ S.out.cur).mono ?_
    rintro e w4 ⟨z, rfl, hz, hg, hC⟩
    obtain ⟨⟨zl⟩⟩ := z
    have hzl : zl.length ≤ 120 := hz
    have S := Lib.hid (S.out.draw hg hC)
    clear hg hC hz
    have BP := Lib.hid S.out.box
    have BR := Lib.hid S.out.res
    have p0 := BP.out.cell 0 (by simp)
    have p1 := BP.out.cell 1 (by simp)
    have p2 := BP.out.cell 2 (by simp)
    have p3 := BP.out.cell 3 (by simp)
    simp only [List.getElem_cons_zero, List.getElem_cons_succ] at p0 p1 p2 p3
    have x0 := BP.out.froz 0 (by simp)
    have x1 := BP.out.froz 1 (by simp)
    have x2 := BP.out.froz 2 (by simp)
    have x3 := BP.out.froz 3 (by simp)
    have r0 := BR.out.cell 0 (by simp)
    have r1 := BR.out.cell 1 (by simp)
    have r2 := BR.out.cell 2 (by simp)
    have r3 := BR.out.cell 3 (by simp)
    simp only [List.getElem_cons_zero, List.getElem_cons_succ] at r0 r1 r2 r3
    have y0 := BR.out.froz 0 (by simp)
    have y1 := BR.out.froz 1 (by simp)
    have y2 := BR.out.froz 2 (by simp)
    have y3 := BR.out.froz 3 (by simp)
    have lB := BP.out.lt
    have lR := BR.out.lt
    have hRB := S.out.RB
    have S9 := Lib.hid (KSt.set (d' := ⟨[76, 111, 97, 100], [], 0, zl⟩) S.out 3 (by decide) (.string ⟨zl.toArray⟩) rfl)
    go_wp2_with fail
    refine bodyPost_ret (v := .agg #[.string ⟨#[76, 111, 97, 100]⟩, .string ⟨#[]⟩, .int .i64 0, .string ⟨zl.toArray⟩]) (by simp [results, Tryz.results66, go_sem, cell_set_at, cell_set_ne, r0, r1, r2, r3]) rfl ?_
    exact KSt.fin (d := ⟨[76, 111, 97, 100], [], 0, zl⟩) S9.out ⟨by simp, by simp, (show I64 0 from ⟨by omega, by omega⟩), hzl⟩ _ _ _ _
  have E3 : (m == [76, 111, 97, 100]) = false := by simpa using e3
  clear e0 e1 e2 e3
  have r0 := BRw.out.cell 0 (by simp)
  have r1 := BRw.out.cell 1 (by simp)
  have r2 := BRw.out.cell 2 (by simp)
  have r3 := BRw.out.cell 3 (by simp)
  simp only [List.getElem_cons_zero, List.getElem_cons_succ] at r0 r1 r2 r3
  have y0 := BRw.out.froz 0 (by simp)
  have y1 := BRw.out.froz 1 (by simp)
  have y2 := BRw.out.froz 2 (by simp)
  have y3 := BRw.out.froz 3 (by simp)
  have lR := BRw.out.lt
  have hRB := S.out.RB
  go_wp2_with fail
  refine bodyPost_ret (v := .agg #[.string ⟨m.toArray⟩, .string ⟨#[]⟩, .int .i64 0, .string ⟨#[]⟩]) (by simp [results, Tryz.results66, go_sem, past_cell, lR, cell_set_at, cell_set_ne, r0, r1, r2, r3]) rfl ?_
  exact ⟨⟨m, [], 0, []⟩, rfl, ⟨hml, by simp, (show I64 0 from ⟨by omega, by omega⟩), by simp⟩, grown_alloc (grown_setO (grown_setO (grown_setO (grown_setO HGw.out (Nat.le_refl _) 0 _) (Nat.le_refl _) 1 _) (Nat.le_refl _) 2 _) (Nat.le_refl _) 3 _) _, cur_alloc (cur_setO (cur_setO (cur_setO (cur_setO HCw.out hbl 0 _) hbl 1 _) hbl 2 _) hbl 3 _) _⟩
set_option maxRecDepth 100000 in
set_option maxHeartbeats 6400000 in
theorem l3AnyCall_any (b : Nat) (v : Value) (l : List UInt8) (w : World) (hC : Cur w b v l) :
    Calls Tryz.prog 35 #[.pointer (some ⟨b, 0, none⟩)] w fun e w' => DrawnCall b v l w e w' := by
  have hbl := hC.lt
  have HC0 := Lib.hid (cur_alloc hC (.cells #[.string ⟨#[]⟩, .string ⟨#[]⟩, .int .i64 0, .string ⟨#[]⟩] 28))
  have BR0 := Lib.hid (Bx.new w zCallV 28)
  have HG0 := Lib.hid (grown_alloc (grown_refl w (some b)) (.cells #[.string ⟨#[]⟩, .string ⟨#[]⟩, .int .i64 0, .string ⟨#[]⟩] 28))
  clear hC
  go_enter Tryz.func35, Tryz.ntmps35
  go_wp2_with fail
  refine (l3Call_any b v l _ HC0.out).mono ?_
  rintro e w1 ⟨⟨m, k, n, t⟩, rfl, hok, hg, hC⟩
  have HOK := Lib.hid hok
  have hwl : w.heap.size < w1.heap.size := Nat.lt_of_lt_of_le BR0.out.lt hg.size
  have S := Lib.hid (show KSt w b v l w.heap.size w1.heap.size ⟨m, k, n, t⟩ (w1.alloc (.cells #[.string ⟨m.toArray⟩, .string ⟨k.toArray⟩, .int .i64 n, .string ⟨t.toArray⟩] 28)) from ⟨grown_alloc (grown_trans HG0.out hg) _, cur_alloc hC _, (bx_grownC BR0.out hg (by omega)).alloc _, Bx.new w1 (cCallV ⟨m, k, n, t⟩) 28, hbl, Nat.le_refl _, hwl⟩)
  clear hok hg hC HC0 BR0 HG0
  unfold vCall
  simp only
  go_wp2_with fail
  generalize w1.alloc (.cells #[.string ⟨m.toArray⟩, .string ⟨k.toArray⟩, .int .i64 n, .string ⟨t.toArray⟩] 28) = w2 at *
  refine (l1Below_any b v l _ _ S.out.cur (by omega) (by omega)).mono ?_
  rintro e w3 ⟨j, rfl, ⟨j0, j1, j2⟩, hg, hC⟩
  have S := Lib.hid (S.out.draw hg hC)
  clear hg hC j1 j2
  by_cases e0 : j = 0
  · subst e0
    go_wp2_with fail
    refine (l2Method_any b v l _ S.out.cur).mono ?_
    rintro e w4 ⟨z, rfl, hz, hg, hC⟩
    obtain ⟨⟨zl⟩⟩ := z
    have hzl : zl.length ≤ 9 := hz
    have S := Lib.hid (S.out.draw hg hC)
    clear hg hC hz
    have BP := Lib.hid S.out.box
    have BR := Lib.hid S.out.res
    have p0 := BP.out.cell 0 (by simp)
    have p1 := BP.out.cell 1 (by simp)
    have p2 := BP.out.cell 2 (by simp)
    have p3 := BP.out.cell 3 (by simp)
    simp only [List.getElem_cons_zero, List.getElem_cons_succ] at p0 p1 p2 p3
    have x0 := BP.out.froz 0 (by simp)
    have x1 := BP.out.froz 1 (by simp)
    have x2 := BP.out.froz 2 (by simp)
    have x3 := BP.out.froz 3 (by simp)
    have r0 := BR.out.cell 0 (by simp)
    have r1 := BR.out.cell 1 (by simp)
    have r2 := BR.out.cell 2 (by simp)
    have r3 := BR.out.cell 3 (by simp)
    simp only [List.getElem_cons_zero, List.getElem_cons_succ] at r0 r1 r2 r3
    have y0 := BR.out.froz 0 (by simp)
    have y1 := BR.out.froz 1 (by simp)
    have y2 := BR.out.froz 2 (by simp)
    have y3 := BR.out.froz 3 (by simp)
    have lB := BP.out.lt
    have lR := BR.out.lt
    have hRB := S.out.RB
    have S9 := Lib.hid (KSt.set (d' := ⟨zl, k, n, t⟩) S.out 0 (by decide) (.string ⟨zl.toArray⟩) rfl)
    go_wp2_with fail
    refine bodyPost_ret (v := .agg #[.string ⟨zl.toArray⟩, .string ⟨k.toArray⟩, .int .i64 n, .string ⟨t.toArray⟩]) (by simp [results, Tryz.results35, go_sem, cell_set_at, cell_set_ne, r0, r1, r2, r3]) rfl ?_
    exact KSt.fin (d := ⟨zl, k, n, t⟩) S9.out ⟨(Nat.le_trans hzl (by decide)), HOK.out.2.1, HOK.out.2.2.1, HOK.out.2.2.2⟩ _ _ _ _
  have E0 : (j == 0) = false := by simpa using e0
  by_cases e1 : j = 1
  · subst e1
    go_wp2_with fail
    refine (l1Word_any b v l _ S.out.cur).mono ?_
    rintro e w4 ⟨z, rfl, hz, hg, hC⟩
    obtain ⟨⟨zl⟩⟩ := z
    have hzl : zl.length ≤ 9 := hz
    have S := Lib.hid (S.out.draw hg hC)
    clear hg hC hz
    have BP := Lib.hid S.out.box
    have BR := Lib.hid S.out.res
    have p0 := BP.out.cell 0 (by simp)
    have p1 := BP.out.cell 1 (by simp)
    have p2 := BP.out.cell 2 (by simp)
    have p3 := BP.out.cell 3 (by simp)
    simp only [List.getElem_cons_zero, List.getElem_cons_succ] at p0 p1 p2 p3
    have x0 := BP.out.froz 0 (by simp)
    have x1 := BP.out.froz 1 (by simp)
    have x2 := BP.out.froz 2 (by simp)
    have x3 := BP.out.froz 3 (by simp)
    have r0 := BR.out.cell 0 (by simp)
    have r1 := BR.out.cell 1 (by simp)
    have r2 := BR.out.cell 2 (by simp)
    have r3 := BR.out.cell 3 (by simp)
    simp only [List.getElem_cons_zero, List.getElem_cons_succ] at r0 r1 r2 r3
    have y0 := BR.out.froz 0 (by simp)
    have y1 := BR.out.froz 1 (by simp)
    have y2 := BR.out.froz 2 (by simp)
    have y3 := BR.out.froz 3 (by simp)
    have lB := BP.out.lt
    have lR := BR.out.lt
    have hRB := S.out.RB
    have S9 := Lib.hid (KSt.set (d' := ⟨m, zl, n, t⟩) S.out 1 (by decide) (.string ⟨zl.toArray⟩) rfl)
    go_wp2_with fail
    refine bodyPost_ret (v := .agg #[.string ⟨m.toArray⟩, .string ⟨zl.toArray⟩, .int .i64 n, .string ⟨t.toArray⟩]) (by simp [results, Tryz.results35, go_sem, cell_set_at, cell_set_ne, r0, r1, r2, r3]) rfl ?_
    exact KSt.fin (d := ⟨m, zl, n, t⟩) S9.out ⟨HOK.out.1, (Nat.le_trans hzl (by decide)), HOK.out.2.2.1, HOK.out.2.2.2⟩ _ _ _ _
  have E1 : (j == 1) = false := by simpa using e1
  by_cases e2 : j = 2
  · subst e2
    go_wp2_with fail
    refine (l1Odd_any b v l _ S.out.cur).mono ?_
    rintro e w4 ⟨z, rfl, ⟨z0, z1⟩, hg, hC⟩
    have S := Lib.hid (S.out.draw hg hC)
    clear hg hC
    have BP := Lib.hid S.out.box
    have BR := Lib.hid S.out.res
    have p0 := BP.out.cell 0 (by simp)
    have p1 := BP.out.cell 1 (by simp)
    have p2 := BP.out.cell 2 (by simp)
    have p3 := BP.out.cell 3 (by simp)
    simp only [List.getElem_cons_zero, List.getElem_cons_succ] at p0 p1 p2 p3
    have x0 := BP.out.froz 0 (by simp)
    have x1 := BP.out.froz 1 (by simp)
    have x2 := BP.out.froz 2 (by simp)
    have x3 := BP.out.froz 3 (by simp)
    have r0 := BR.out.cell 0 (by simp)
    have r1 := BR.out.cell 1 (by simp)
    have r2 := BR.out.cell 2 (by simp)
    have r3 := BR.out.cell 3 (by simp)
    simp only [List.getElem_cons_zero, List.getElem_cons_succ] at r0 r1 r2 r3
    have y0 := BR.out.froz 0 (by simp)
    have y1 := BR.out.froz 1 (by simp)
    have y2 := BR.out.froz 2 (by simp)
    have y3 := BR.out.froz 3 (by simp)
    have lB := BP.out.lt
    have lR := BR.out.lt
    have hRB := S.out.RB
    have S9 := Lib.hid (KSt.set (d' := ⟨m, k, z, t⟩) S.out 2 (by decide) (.int .i64 z) rfl)
    go_wp2_with fail
    refine bodyPost_ret (v := .agg #[.string ⟨m.toArray⟩, .string ⟨k.toArray⟩, .int .i64 z, .string ⟨t.toArray⟩]) (by simp [results, Tryz.results35, go_sem, cell_set_at, cell_set_ne, r0, r1, r2, r3]) rfl ?_
    exact KSt.fin (d := ⟨m, k, z, t⟩) S9.out ⟨HOK.out.1, HOK.out.2.1, (show I64 z from ⟨z0, z1⟩), HOK.out.2.2.2⟩ _ _ _ _
  have E2 : (j == 2) = false := by simpa using e2
  by_cases e3 : j = 3
  · subst e3
    go_wp2_with fail
    refine (l1Str_new b v l _ _ _ _ _ 9 S.out.cur (by rfl) (by decide) (by decide) (by decide)).mono ?_
    rintro e w4 ⟨z, rfl, hz, hg, hC⟩
    obtain ⟨⟨zl⟩⟩ := z
    have hzl : zl.length ≤ 9 := hz
    have S := Lib.hid (S.out.draw hg hC)
    clear hg hC hz
    have BP := Lib.hid S.out.box
    have BR := Lib.hid S.out.res
    have p0 := BP.out.cell 0 (by simp)
    have p1 := BP.out.cell 1 (by simp)
    have p2 := BP.out.cell 2 (by simp)
    have p3 := BP.out.cell 3 (by simp)
    simp only [List.getElem_cons_zero, List.getElem_cons_succ] at p0 p1 p2 p3
    have x0 := BP.out.froz 0 (by simp)
    have x1 := BP.out.froz 1 (by simp)
    have x2 := BP.out.froz 2 (by simp)
    have x3 := BP.out.froz 3 (by simp)
    have r0 := BR.out.cell 0 (by simp)
    have r1 := BR.out.cell 1 (by simp)
    have r2 := BR.out.cell 2 (by simp)
    have r3 := BR.out.cell 3 (by simp)
    simp only [List.getElem_cons_zero, List.getElem_cons_succ] at r0 r1 r2 r3
    have y0 := BR.out.froz 0 (by simp)
    have y1 := BR.out.froz 1 (by simp)
    have y2 := BR.out.froz 2 (by simp)
    have y3 := BR.out.froz 3 (by simp)
    have lB := BP.out.lt
    have lR := BR.out.lt
    have hRB := S.out.RB
    have S9 := Lib.hid (KSt.set (d' := ⟨m, k, n, zl⟩) S.out 3 (by decide) (.string ⟨zl.toArray⟩) rfl)
    go_wp2_with fail
    refine bodyPost_ret (v := .agg #[.string ⟨m.toArray⟩, .string ⟨k.toArray⟩, .int .i64 n, .string ⟨zl.toArray⟩]) (by simp [results, Tryz.results35, go_sem, cell_set_at, cell_set_ne, r0, r1, r2, r3]) rfl ?_
    exact KSt.fin (d := ⟨m, k, n, zl⟩) S9.out ⟨HOK.out.1, HOK.out.2.1, HOK.out.2.2.1, (Nat.le_trans hzl (by decide))⟩ _ _ _ _
  have E3 : (j == 3) = false := by simpa using e3
  clear e0 e1 e2 e3
  have BP := Lib.hid S.out.box
  have BR := Lib.hid S.out.res
  have p0 := BP.out.cell 0 (by simp)
  have p1 := BP.out.cell 1 (by simp)
  have p2 := BP.out.cell 2 (by simp)
  have p3 := BP.out.cell 3 (by simp)
  simp only [List.getElem_cons_zero, List.getElem_cons_succ] at p0 p1 p2 p3
  have x0 := BP.out.froz 0 (by simp)
  have x1 := BP.out.froz 1 (by simp)
  have x2 := BP.out.froz 2 (by simp)
  have x3 := BP.out.froz 3 (by simp)
  have r0 := BR.out.cell 0 (by simp)
  have r1 := BR.out.cell 1 (by simp)
  have r2 := BR.out.cell 2 (by simp)
  have r3 := BR.out.cell 3 (by simp)
  simp only [List.getElem_cons_zero, List.getElem_cons_succ] at r0 r1 r2 r3
  have y0 := BR.out.froz 0 (by simp)
  have y1 := BR.out.froz 1 (by simp)
  have y2 := BR.out.froz 2 (by simp)
  have y3 := BR.out.froz 3 (by simp)
  have lB := BP.out.lt
  have lR := BR.out.lt
  have hRB := S.out.RB
  go_wp2_with fail
  refine bodyPost_ret (v := .agg #[.string ⟨m.toArray⟩, .string ⟨k.toArray⟩, .int .i64 n, .string ⟨t.toArray⟩]) (by simp [results, Tryz.results35, go_sem, cell_set_at, cell_set_ne, r0, r1, r2, r3]) rfl ?_
  exact KSt.fin (d := ⟨m, k, n, t⟩) S.out ⟨HOK.out.1, HOK.out.2.1, HOK.out.2.2.1, HOK.out.2.2.2⟩ _ _ _ _
end Go.Proofs.YtghebbndfpbkcaaGreat
/- The draws of chapter 3: a core and a call. -/
namespace Go.Proofs.YtghebbndfpbkcaaGreat
set_option linter.unusedVariables false
set_option linter.unusedSimpArgs false
open Go.RowKit
def GivesCC (w : World) (e : Ending) (w' : World) : Prop := ∃ d cv x, e = .returned (.tuple #[vCore d cv, vCall x]) ∧ OwnsF cCell 36 2 w' w.heap.size cv d.fCells ∧ okDr 7 d ∧ okCl x ∧ Below w.heap.size w w'
set_option maxRecDepth 100000 in
set_option maxHeartbeats 3200000 in
theorem drawCallCore_any (v : Value) (l : List UInt8) (w : World) (hR : RowAt w v (Lib.byteCells l)) :
    Calls Tryz.prog 8 #[v] w fun e w' => GivesCC w e w' := by
  obtain ⟨B1, B2, HB0⟩ := bx_start2 w zCoreV zCallV 26 28
  have HR := Lib.hid (RowAt.below hR HB0 (Nat.le_refl _))
  have B1 := Lib.hid B1
  have B2 := Lib.hid B2
  have HB0 := Lib.hid HB0
  have HN := Lib.hid (l1New_any v l _ HR.out)
  clear hR
  go_enter Tryz.func8, Tryz.ntmps8
  go_wp2_with fail
  generalize (w.alloc (.cells #[.string ⟨#[]⟩, .bool false, .bool false, .slice none 0 0, .int .i64 0] 26)).alloc (.cells #[.string ⟨#[]⟩, .string ⟨#[]⟩, .int .i64 0, .string ⟨#[]⟩] 28) = w0 at *
  refine HN.out.mono ?_
  rintro e w1 ⟨b, rfl, hb, hB, hC⟩
  have hl1 := B1.out.lt
  have hl2 := B2.out.lt
  have hbw : w.heap.size + 1 < b := by omega
  have B1 := Lib.hid (B1.out.below hB)
  have B2 := Lib.hid (B2.out.below hB)
  have HB1 := Lib.hid (belS HB0.out hB)
  have HC1 := Lib.hid hC
  clear hB hC hb HB0 HN HR hl1 hl2
  go_wp2_with fail
  refine (l3Any_any b v l _ HC1.out).mono ?_
  rintro e w2 ⟨⟨kd, on, br, y, cnt⟩, cv, rfl, ho, hok, hg, hC⟩
  obtain ⟨ua, uc, rfl⟩ := slice_of ho
  have hgs := HB1.out.size
  have HOK := Lib.hid hok
  have B1 := Lib.hid (bx_grownC B1.out hg (by omega))
  have B2 := Lib.hid (bx_grownC B2.out hg (by omega))
  have HB2 := Lib.hid (below_grown HB1.out hg (by omega) HB1.out.size)
  have HC2 := Lib.hid hC
  have hl2 : w.heap.size + 1 < w1.heap.size := Nat.lt_of_lt_of_le hbw (Nat.le_of_lt HC1.out.lt)
  have hbl : b < w1.heap.size := HC1.out.lt
  have HO := Lib.hid ho
  clear ho hok hg hC HC1 HB1
  unfold vCore
  simp only
  go_wp2_with fail
  refine (l3AnyCall_any b v l _ HC2.out).mono ?_
  rintro e w3 ⟨⟨m, k, n, t⟩, rfl, hokx, hg, hC⟩
  have HOX := Lib.hid hokx
  have B1 := Lib.hid (bx_grownC B1.out hg (by omega))
  have B2 := Lib.hid (bx_grownC B2.out hg (by omega))
  have HB3 := Lib.hid (below_grown HB2.out hg (by omega) HB2.out.size)
  have HO := Lib.hid (ownsF_grownC HO.out hg hbl)
  clear hokx hg hC HC2 HB2
  unfold vCall
  simp only
  have p0 := B1.out.cell 0 (by simp)
  have p1 := B1.out.cell 1 (by simp)
  have p2 := B1.out.cell 2 (by simp)
  have p3 := B1.out.cell 3 (by simp)
  have p4 := B1.out.cell 4 (by simp)
  simp only [List.getElem_cons_zero, List.getElem_cons_succ] at p0 p1 p2 p3 p4
  have x0 := B1.out.froz 0 (by simp)
  have x1 := B1.out.froz 1 (by simp)
  have x2 := B1.out.froz 2 (by simp)
  have x3 := B1.out.froz 3 (by simp)
  have x4 := B1.out.froz 4 (by simp)
  have r0 := B2.out.cell 0 (by simp)
  have r1 := B2.out.cell 1 (by simp)
  have r2 := B2.out.cell 2 (by simp)
  have r3 := B2.out.cell 3 (by simp)
  simp only [List.getElem_cons_zero, List.getElem_cons_succ] at r0 r1 r2 r3
  have z0 := B2.out.froz 0 (by simp)
  have z1 := B2.out.froz 1 (by simp)
  have z2 := B2.out.froz 2 (by simp)
  have z3 := B2.out.froz 3 (by simp)
  have lB := B1.out.lt
  have lR := B2.out.lt
  go_wp2_with fail
  refine bodyPost_ret (v := .tuple #[.agg #[.string ⟨kd.toArray⟩, .bool on, .bool br, .slice ua y.length uc, .int .i64 cnt], .agg #[.string ⟨m.toArray⟩, .string ⟨k.toArray⟩, .int .i64 n, .string ⟨t.toArray⟩]]) (by simp [results, Tryz.results8, go_sem, cell_set_at, cell_set_ne, p0, p1, p2, p3, p4, r0, r1, r2, r3]) rfl ?_
  refine ⟨⟨kd, on, br, y, cnt⟩, _, ⟨m, k, n, t⟩, rfl, ?_, HOK.out, HOX.out, ?_⟩
  · refine ownsF_base (B := w1.heap.size) ?_ (by omega)
    repeat (with_reducible refine ownsF_set ?_ (by simp; try omega))
    exact HO.out
  · repeat (with_reducible refine Below.setCell ?_ (by simp; try omega) _)
    exact HB3.out
end Go.Proofs.YtghebbndfpbkcaaGreat
/- Contracts of chapter 3: slices.Equal of cells; SameCore, the program's and the model's. -/
namespace Go.Proofs.YtghebbndfpbkcaaGreat
set_option linter.unusedVariables false
open Go.RowKit
theorem belE {B : Nat} {a w : World} (h : Below B a w) (n : Nat) : Below B a (w.drewN n) := ⟨h.os, h.tape, h.output, h.size, h.block⟩
set_option maxRecDepth 100000 in
set_option maxHeartbeats 1600000 in
theorem equalCells_any (v u : Value) (x y : List CellD) (w : World) (hx : FlatAt cCell 2 w v x) (hy : FlatAt cCell 2 w u y) :
    Calls Tryz.prog 46 #[v, u] w fun e w' => e = .returned (.bool (decide (x = y))) ∧ Below w.heap.size w w' := by
  obtain ⟨a, c, rfl, hl⟩ := flatAt_len hx
  obtain ⟨a2, c2, rfl, hl2⟩ := flatAt_len hy
  have HX := Lib.hid hx
  have HY := Lib.hid hy
  clear hx hy
  unfold maxLen at hl hl2
  by_cases he : x.length = y.length
  · have hb : ((x.length : Int) == y.length) = true := beq_iff_eq.2 (by omega)
    have hbn : ((x.length : Int) != y.length) = false := by rw [bne_eq_false_iff_eq]; omega
    have HE := Lib.hid he
    clear he
    go_enter Tryz.func46, Tryz.ntmps46
    go_wp2
    go_loopw [5, 13] (fun _ i wr => ∃ k : Nat, k ≤ x.length ∧ i = .int .i64 k ∧ x.take k = y.take k ∧ Below w.heap.size w wr) (fun _ i _ => x.length - (intOf i).toNat)
    case atStart => exact ⟨0, Nat.zero_le _, rfl, rfl, Below.refl _ _⟩
    case round =>
      obtain ⟨k, hk, rfl, ht, hbr⟩ := hrel
      have HT := Lib.hid ht
      have HB := Lib.hid hbr
      have HXr := Lib.hid (FlatAt.below HX.out hbr (Nat.le_refl _))
      have HYr := Lib.hid (FlatAt.below HY.out hbr (Nat.le_refl _))
      clear ht hbr
      by_cases hlt : k < x.length
      · have hky : k < y.length := by have := HE.out; omega
        obtain ⟨b, o, rfl, _, hd⟩ := flatAt_cell cCell_len HXr.out k hlt (by decide)
        obtain ⟨b2, o2, rfl, _, hd2⟩ := flatAt_cell cCell_len HYr.out k hky (by decide)
        have d0 := hd 0 (by decide)
        have d1 := hd 1 (by decide)
        have q0 := hd2 0 (by decide)
        have q1 := hd2 1 (by decide)
        clear hd hd2
        have HS := Lib.hid (take_eq_step x y HE.out k hlt HT.out)
        have HD := Lib.hid (show x[k] ≠ y[k] → ¬ x = y from fun h e => h (by subst e; rfl))
        generalize x[k] = p at *
        generalize y[k] = q at *
        obtain ⟨a0, a1⟩ := p
        obtain ⟨b0, b1⟩ := q
        simp only [cCell, List.getElem?_cons_zero, List.getElem?_cons_succ, Nat.add_zero] at d0 d1 q0 q1
        have hk0 : (0 : Int) ≤ (k : Int) := by omega
        have hk1 : (k : Int) < (x.length : Int) := by omega
        have hk2 : (k : Int) < (y.length : Int) := by omega
        by_cases heq : (⟨a0, a1⟩ : CellD) = ⟨b0, b1⟩
        · have HN := Lib.hid (HS.out heq)
          injection heq with e0 e1
          subst e0 e1
          clear HS HD
          go_wp2
          go_quiet (fail)
          go_wp2_with fail
          exact ⟨⟨k + 1, by omega, by go_num, HN.out, belE HB.out _⟩, by simp [intOf]; omega⟩
        · have HN := Lib.hid (HD.out heq)
          by_cases e0 : a0 = b0
          · have e1 : ¬ a1 = b1 := fun e => heq (by rw [e0, e])
            have hn1 : (a1 == b1) = false := by simpa using e1
            subst e0
            clear HS HD heq e1
            go_wp2
            go_quiet (fail)
            go_wp2_with fail
            go_ret
            exact ⟨ret_bool (by simp [HN.out]), belE HB.out _⟩
          · have hn0 : (a0 == b0) = false := by simpa using e0
            clear HS HD heq e0
            go_wp2
            go_quiet (fail)
            go_wp2_with fail
            go_ret
            exact ⟨ret_bool (by simp [HN.out]), belE HB.out _⟩
      · have HN := Lib.hid (show x = y from by
          have h := HT.out
          rw [List.take_of_length_le (by omega), List.take_of_length_le (by have := HE.out; omega)] at h
          exact h)
        go_wp2
        go_ret
        exact ⟨ret_bool (by simp [HN.out]), HB.out⟩
  · have hb : ((x.length : Int) == y.length) = false := beq_eq_false_iff_ne.2 (by omega)
    have hbn : ((x.length : Int) != y.length) = true := by rw [bne_iff_ne]; omega
    have HN := Lib.hid (show ¬ x = y from fun e => he (by rw [e]))
    clear he
    go_enter Tryz.func46, Tryz.ntmps46
    go_wp2
    go_ret
    exact ⟨ret_bool (by simp [HN.out]), Below.refl _ _⟩
set_option maxRecDepth 100000 in
set_option maxHeartbeats 3200000 in
theorem implSame_b (v u : Value) (x y : CoreD) (q : Bool) (hq : decide (x = y) = q) (w : World) (hx : CoreAt w v x) (hy : CoreAt w u y) :
    Calls Tryz.prog 13 #[v, u] w fun e w' => e = .returned (.bool q) ∧ Below w.heap.size w w' := by
  obtain ⟨cv, rfl, hx⟩ := hx
  obtain ⟨cu, rfl, hy⟩ := hy
  have hex := coreD_ext x y
  obtain ⟨a0, a1, a2, a3, a4⟩ := x
  obtain ⟨b0, b1, b2, b3, b4⟩ := y
  unfold vCore
  simp only at *
  have B2 := Lib.hid (show ∀ o1 o2, Below w.heap.size w ((w.alloc o1).alloc o2) from fun o1 o2 => ((Below.refl _ _).alloc (Nat.le_refl _) _).alloc (by simp) _)
  have HX := Lib.hid hx
  have HY := Lib.hid hy
  have HN := Lib.hid (show ¬ (a0 = b0 ∧ a1 = b1 ∧ a2 = b2 ∧ a3 = b3 ∧ a4 = b4) → false = q from fun h => by rw [← hq]; symm; rw [decide_eq_false_iff_not, hex]; exact h)
  have HQ := Lib.hid (show a0 = b0 → a1 = b1 → a2 = b2 → a4 = b4 → decide (a3 = b3) = q from fun h0 h1 h2 h4 => by
    rw [← hq]
    by_cases h3 : a3 = b3
    · rw [decide_eq_true h3, decide_eq_true (hex.2 ⟨h0, h1, h2, h3, h4⟩)]
    · rw [decide_eq_false h3, decide_eq_false (fun e => h3 (hex.1 e).2.2.2.1)])
  have HC := Lib.hid (fun o1 o2 => equalCells_any cv cu a3 b3 ((w.alloc o1).alloc o2) (HX.out.below (B2.out o1 o2) (Nat.le_refl _)) (HY.out.below (B2.out o1 o2) (Nat.le_refl _)))
  clear hx hy hq hex
  by_cases h0 : a0 = b0
  case neg =>
    have HF := Lib.hid (HN.out fun e => h0 e.1)
    have hne : (a0 == b0) = false := by simpa using h0
    have hnf : (a0 != b0) = true := by simpa using h0
    clear h0
    go_enter Tryz.func13, Tryz.ntmps13
    go_wp2_with fail
    go_ret
    exact ⟨ret_bool HF.out, B2.out _ _⟩
  case pos =>
    by_cases h1 : a1 = b1
    case neg =>
      have HF := Lib.hid (HN.out fun e => h1 e.2.1)
      subst h0
      cases a1 <;> cases b1
      all_goals first
        | exact absurd rfl h1
        | (clear h1
           go_enter Tryz.func13, Tryz.ntmps13
           go_wp2_with fail
           go_ret
           exact ⟨ret_bool HF.out, B2.out _ _⟩)
    case pos =>
      by_cases h2 : a2 = b2
      case neg =>
        have HF := Lib.hid (HN.out fun e => h2 e.2.2.1)
        subst h0 h1
        cases a1 <;> cases a2 <;> cases b2
        all_goals first
          | exact absurd rfl h2
          | (clear h2
             go_enter Tryz.func13, Tryz.ntmps13
             go_wp2_with fail
             go_ret
             exact ⟨ret_bool HF.out, B2.out _ _⟩)
      case pos =>
        by_cases h4 : a4 = b4
        case neg =>
          have HF := Lib.hid (HN.out fun e => h4 e.2.2.2.2)
          have hne : (a4 == b4) = false := by simpa using h4
          have hnf : (a4 != b4) = true := by simpa using h4
          subst h0 h1 h2
          clear h4
          cases a1 <;> cases a2
          all_goals
            go_enter Tryz.func13, Tryz.ntmps13
            go_wp2_with fail
            go_ret
            exact ⟨ret_bool HF.out, B2.out _ _⟩
        case pos =>
          have HF := Lib.hid (HQ.out h0 h1 h2 h4)
          subst h0 h1 h2 h4
          obtain ⟨pa, pc, rfl, _⟩ := flatAt_len HX.out
          obtain ⟨qa, qc, rfl, _⟩ := flatAt_len HY.out
          generalize decide (a3 = b3) = eq at *
          cases a1 <;> cases a2
          all_goals
            go_enter Tryz.func13, Tryz.ntmps13
            go_wp2_with fail
            refine (HC.out _ _).mono ?_
            rintro e w1 ⟨rfl, hb⟩
            have HB := Lib.hid ((B2.out _ _).trans (hb.mono (B2.out _ _).size))
            clear hb
            go_wp2_with fail
            go_ret
            exact ⟨ret_bool HF.out, HB.out⟩
theorem implSame_any (v u : Value) (x y : CoreD) (w : World) (hx : CoreAt w v x) (hy : CoreAt w u y) :
    Calls Tryz.prog 13 #[v, u] w fun e w' => e = .returned (.bool (decide (x = y))) ∧ Below w.heap.size w w' := implSame_b v u x y _ rfl w hx hy
end Go.Proofs.YtghebbndfpbkcaaGreat
/- Core: how it reads, and what the laws' own helpers do with it. Written by gen/deep.py. -/
namespace Go.Proofs.YtghebbndfpbkcaaGreat
set_option linter.unusedVariables false
set_option linter.unusedSimpArgs false
open Go.RowKit
def rCore : Nat → World → List Value → CoreD → Prop := fun F w cs x => ∃ v3, cs = [.string ⟨x.fKind.toArray⟩, .bool x.fOn, .bool x.fBroken, v3, .int .i64 x.fCount] ∧ SliceAt (rFlat cCell) 2 F w v3 x.fCells
theorem goodCore : Good rCore 5 := by
  refine ⟨?_, ?_, ?_⟩
  · rintro F w cs x ⟨v3, rfl, h3⟩; rfl
  · rintro F w w' cs x ⟨v3, rfl, h3⟩ hk; exact ⟨v3, rfl, h3.keep (good_flat cCell_len) hk⟩
  · rintro F F' w cs x ⟨v3, rfl, h3⟩ hF; exact ⟨v3, rfl, h3.mono (good_flat cCell_len) hF⟩
theorem coreAt_of {F : Nat} {w : World} {cs : List Value} {x : CoreD} (h : rCore F w cs x) : CoreAt w (.agg cs.toArray) x := by
  obtain ⟨v0, rfl, h0⟩ := h
  exact ⟨v0, rfl, flatAt_of_slice cCell_len (by decide) h0⟩
theorem ofCoreAt {w : World} {v : Value} {x : CoreD} (h : CoreAt w v x) : ValAt rCore 0 w v x := by
  obtain ⟨cv, rfl, h⟩ := h
  exact ⟨_, rfl, cv, rfl, sliceAt_of_flat cCell_len h⟩
theorem toCore_d (v : Value) (x : CoreD) (w : World) (hx : ValAt rCore 0 w v x) (hm : zCore x ≤ 2097152) : Calls Tryz.prog 19 #[v] w fun e w' => GivesV rCore x w e w' := by
  obtain ⟨cs, rfl, h⟩ := hx
  refine (toCore_any _ x w (coreAt_of h) (by unfold zCore at hm; omega)).mono ?_
  rintro e w' ⟨v, rfl, ⟨cv, rfl, ho⟩, hb⟩
  exact ⟨_, rfl, ⟨cv, rfl, sliceAt_of_owns cCell_len ho (by unfold zCore at hm; omega)⟩, hb⟩
theorem szCore_d (v : Value) (x : CoreD) (left : Int) (w : World) (hx : ValAt rCore 0 w v x) (hk : okCore x) (h0 : 0 ≤ left) (h1 : left ≤ 1099511627776) : Calls Tryz.prog 16 #[v, .int .i64 left] w fun e w' => SzF (zCore x) left w e w' := by
  obtain ⟨cs, rfl, h⟩ := hx
  exact szCore_any _ x left w (coreAt_of h) h0 h1 hk.1 hk.2.1
theorem eqCore_d (v u : Value) (x y : CoreD) (w : World) (hx : ValAt rCore 0 w v x) (hy : ValAt rCore 0 w u y) : Calls Tryz.prog 21 #[v, u] w fun e w' => e = .returned (.bool (decide (x = y))) ∧ Below w.heap.size w w' := by
  obtain ⟨cs, rfl, h⟩ := hx
  obtain ⟨cs2, rfl, h2⟩ := hy
  exact eqCore_any _ _ x y w (coreAt_of h) (coreAt_of h2)
end Go.Proofs.YtghebbndfpbkcaaGreat
/- Layer: how it reads, and what the laws' own helpers do with it. Written by gen/deep.py. -/
namespace Go.Proofs.YtghebbndfpbkcaaGreat
set_option linter.unusedVariables false
set_option linter.unusedSimpArgs false
open Go.RowKit
end Go.Proofs.YtghebbndfpbkcaaGreat
/- Part: how it reads, and what the laws' own helpers do with it. Written by gen/deep.py. -/
namespace Go.Proofs.YtghebbndfpbkcaaGreat
set_option linter.unusedVariables false
set_option linter.unusedSimpArgs false
open Go.RowKit
structure PartD where
  fCore : CoreD
  fLayers : List LayerD
deriving DecidableEq
def okPart (x : PartD) : Prop := (okCore x.fCore) ∧ (∀ c ∈ x.fLayers, okLayer c)
def rPart : Nat → World → List Value → PartD → Prop := fun F w cs x => ∃ v3 v5, cs = [.string ⟨x.fCore.fKind.toArray⟩, .bool x.fCore.fOn, .bool x.fCore.fBroken, v3, .int .i64 x.fCore.fCount, v5] ∧ SliceAt (rFlat cCell) 2 F w v3 x.fCore.fCells ∧ SliceAt (rFlat cLayer) 2 F w v5 x.fLayers
theorem goodPart : Good rPart 6 := by
  refine ⟨?_, ?_, ?_⟩
  · rintro F w cs x ⟨v3, v5, rfl, h3, h5⟩; rfl
  · rintro F w w' cs x ⟨v3, v5, rfl, h3, h5⟩ hk; exact ⟨v3, v5, rfl, h3.keep (good_flat cCell_len) hk, h5.keep (good_flat cLayer_len) hk⟩
  · rintro F F' w cs x ⟨v3, v5, rfl, h3, h5⟩ hF; exact ⟨v3, v5, rfl, h3.mono (good_flat cCell_len) hF, h5.mono (good_flat cLayer_len) hF⟩
def zPart (x : PartD) : Nat := zCore x.fCore + (x.fLayers.length + sumF zLayer x.fLayers)
end Go.Proofs.YtghebbndfpbkcaaGreat
/- Parts whose rows are one's own. -/
namespace Go.Proofs.YtghebbndfpbkcaaGreat
set_option linter.unusedVariables false
set_option linter.unusedSimpArgs false
open Go.RowKit
theorem Bx.grown {w w' : World} {b : Nat} {cs : List Value} {r : Option Nat} (h : Bx w b cs) (hg : w.grownBy w' r) (hr : r ≠ some b) : Bx w' b cs :=
  ⟨Nat.lt_of_lt_of_le h.lt hg.size, fun j hj => (World.cell?_of_block (hg.block b h.lt (fun e => hr e.symm))).trans (h.cell j hj), fun j hj => (World.frozen?_of_block (hg.block b h.lt (fun e => hr e.symm))).trans (h.froz j hj)⟩
theorem Bx.belowK {w w' : World} {b B : Nat} {cs : List Value} (h : Bx w b cs) (hb : Below B w w') (hB : b < B) : Bx w' b cs :=
  ⟨Nat.lt_of_lt_of_le h.lt hb.size, fun j hj => (World.cell?_of_block (hb.block b hB)).trans (h.cell j hj), fun j hj => (World.frozen?_of_block (hb.block b hB)).trans (h.froz j hj)⟩
/-- six cells stored, one behind the other -/
theorem Bx.put6 {w : World} {b : Nat} {c0 c1 c2 c3 c4 c5 : Value} (h : Bx w b [c0, c1, c2, c3, c4, c5]) (u0 u1 u2 u3 u4 u5 : Value) :
    Bx ((((((w.setCell ⟨b, 0, none⟩ u0).setCell ⟨b, 1, none⟩ u1).setCell ⟨b, 2, none⟩ u2).setCell ⟨b, 3, none⟩ u3).setCell ⟨b, 4, none⟩ u4).setCell ⟨b, 5, none⟩ u5) b [u0, u1, u2, u3, u4, u5] :=
  ((((((h.set 0 (by simp) u0).set 1 (by simp) u1).set 2 (by simp) u2).set 3 (by simp) u3).set 4 (by simp) u4).set 5 (by simp) u5)
theorem below_put6 {B : Nat} {a w : World} (h : Below B a w) (b : Nat) (hb : B ≤ b) (u0 u1 u2 u3 u4 u5 : Value) :
    Below B a ((((((w.setCell ⟨b, 0, none⟩ u0).setCell ⟨b, 1, none⟩ u1).setCell ⟨b, 2, none⟩ u2).setCell ⟨b, 3, none⟩ u3).setCell ⟨b, 4, none⟩ u4).setCell ⟨b, 5, none⟩ u5) :=
  ((((((h.setCell (p := ⟨b, 0, none⟩) hb u0).setCell (p := ⟨b, 1, none⟩) hb u1).setCell (p := ⟨b, 2, none⟩) hb u2).setCell (p := ⟨b, 3, none⟩) hb u3).setCell (p := ⟨b, 4, none⟩) hb u4).setCell (p := ⟨b, 5, none⟩) hb u5)
theorem ownsF_put6 {α : Type} {f : α → List Value} {E k : Nat} {w : World} {B : Nat} {v : Value} {l : List α} (h : OwnsF f E k w B v l) (b : Nat) (hb : b < B) (u0 u1 u2 u3 u4 u5 : Value) :
    OwnsF f E k ((((((w.setCell ⟨b, 0, none⟩ u0).setCell ⟨b, 1, none⟩ u1).setCell ⟨b, 2, none⟩ u2).setCell ⟨b, 3, none⟩ u3).setCell ⟨b, 4, none⟩ u4).setCell ⟨b, 5, none⟩ u5) B v l :=
  ownsF_set (ownsF_set (ownsF_set (ownsF_set (ownsF_set (ownsF_set h hb) hb) hb) hb) hb) hb
theorem Bx.dr {w : World} {b : Nat} {cs : List Value} (h : Bx w b cs) : Bx w.drew b cs := ⟨h.lt, h.cell, h.froz⟩
/-- sizes that no copy outgrows -/
structure SmallP (x : PartD) : Prop where
  z : zPart x ≤ 1048576
  kind : x.fCore.fKind.length ≤ 1048576
  cells : x.fCore.fCells.length ≤ 2097152
  keys : ∀ c ∈ x.fCore.fCells, c.fKey.length ≤ 1048576
  lays : x.fLayers.length ≤ 2097152
  names : ∀ y ∈ x.fLayers, y.fName.length ≤ 1048576
theorem smallP_of {x : PartD} (h : zPart x ≤ 1048576) : SmallP x := by
  unfold zPart zCore at h
  refine ⟨by unfold zPart zCore; exact h, by omega, by omega, fun c hc => ?_, by omega, fun y hy => ?_⟩
  · have := sumF_mem zCell x.fCore.fCells c hc
    have h2 : c.fKey.length ≤ zCell c := by unfold zCell; omega
    omega
  · have := sumF_mem zLayer x.fLayers y hy
    have h2 : y.fName.length ≤ zLayer y := by unfold zLayer; omega
    omega
end Go.Proofs.YtghebbndfpbkcaaGreat
/- CallCores, the program's: one core in a box, a row of replies. -/
namespace Go.Proofs.YtghebbndfpbkcaaGreat
set_option linter.unusedVariables false
set_option linter.unusedSimpArgs false
open Go.RowKit
theorem own_two {α : Type} {f : α → List Value} {E k : Nat} {w w' : World} {r1 r2 : Option Nat} {B : Nat} {v : Value} {l : List α} (h : OwnsF f E k w B v l) (hk : Kept2 w w' r1 r2) (h1 : v.ownBlock = none ∨ v.ownBlock ≠ r1) (h2 : v.ownBlock = none ∨ v.ownBlock ≠ r2) : OwnsF f E k w' B v l := by
  refine ⟨h.1, ?_⟩
  rcases h.2 with hn | ⟨g, cap, cur, rfl, hb, hgg, rest⟩
  · exact .inl hn
  · refine .inr ⟨g, cap, cur, rfl, hb, ?_, rest⟩
    rw [hk.block g (Array.getElem?_eq_some_iff.1 hgg).1 (by simpa [Value.ownBlock] using h1) (by simpa [Value.ownBlock] using h2)]
    exact hgg
theorem Bx.two {w w' : World} {r1 r2 : Option Nat} {b : Nat} {cs : List Value} (h : Bx w b cs) (hk : Kept2 w w' r1 r2) (h1 : some b ≠ r1) (h2 : some b ≠ r2) : Bx w' b cs :=
  ⟨Nat.lt_of_lt_of_le h.lt hk.size, fun j hj => (hk.cell (p := ⟨b, j, none⟩) h.lt h1 h2).trans (h.cell j hj), fun j hj => (hk.frozen (p := ⟨b, j, none⟩) h.lt h1 h2).trans (h.froz j hj)⟩
theorem append_reply {ops : Array Oper} {rest : List Oper} {o : Oper} {a : Act} {Q : Exit → Act → World → Prop} (hgd : o.guard = none) (s x : Operand)
    (ho : o.op = .call { callee := .builtin .append, args := #[s, x], argTypes := #[42, 42] }) (B : Nat) (v : Value) (l : List ReplyD) (y : ReplyD) (w : World) (blk : Nat)
    (hs : a.eval s = v) (hO : OwnsF cReply 32 5 w B v l) (hx : a.eval x = .slice (some ⟨blk, 0, none⟩) 1 1) (hc : ∀ j, j < 5 → w.cell? ⟨blk, j, none⟩ = (cReply y)[j]?) (hl : l.length ≤ 4194304) (hB : B ≤ w.heap.size)
    (h : ∀ v' w', OwnsF cReply 32 5 w' B v' (l ++ [y]) → w.grownBy w' v.ownBlock → wpList Tryz.prog ops Q rest (a.put o.dst v') w') : wpList Tryz.prog ops Q (o :: rest) a w :=
  append_flat cReply_len cReply_one infoReply rfl (by decide) (by decide) Tryz.underlying42 hgd s x ho B v l y w blk hs hO hx hc hl hB h
theorem reply_new (w : World) (y : ReplyD) (blk : Nat) (h : blk = w.heap.size) : ∀ j, j < 5 → (w.alloc (.cells #[.int .i64 y.fCode, .int .i64 y.fValue, .string ⟨y.fText.toArray⟩, .int .i64 y.fWant, .int .i64 y.fHad] 32)).cell? ⟨blk, j, none⟩ = (cReply y)[j]? := by
  subst h
  intro j hj
  rw [cell_of_row _ _ _ _ 32 (0, 0) (heap_alloc_new w _)]
  simp [cReply]
theorem st_grown {α : Type} {f : α → List Value} {E k : Nat} {N b B : Nat} {cv v : Value} {d : CoreD} {l : List α} {w w' : World} (h : CoreSt N b cv d w) (hO : OwnsF f E k w B v l) (hg : w.grownBy w' v.ownBlock) (hne : 36 ≠ E) (hb : b < B) : CoreSt N b cv d w' :=
  ⟨h.box.keep (hg.block b h.box.lt (fun e => by have := (World.ownsRow.lt hO b e.symm).1; omega)), ownsF_keptF h.own hO hg hne, h.ne, h.ge⟩
/-- between two calls -/
structure StC (N b n0 : Nat) (cv : Value) (d : CoreD) (u : Value) (rs : List ReplyD) (w0 w : World) : Prop where
  st : CoreSt N b cv d w
  row : OwnsF cReply 32 5 w (b + 1) u rs
  box : Bx w n0 [.string ⟨#[]⟩, .bool false, .bool false, .slice none 0 0, .int .i64 0]
  bel : Below w0.heap.size w0 w
def GivesCS (out : CoreD × List ReplyD) (w : World) (e : Ending) (w' : World) : Prop := ∃ cv rv, e = .returned (.tuple #[vCore out.1 cv, rv]) ∧ OwnsF cCell 36 2 w' w.heap.size cv out.1.fCells ∧ OwnsF cReply 32 5 w' w.heap.size rv out.2 ∧ Below w.heap.size w w'
set_option maxRecDepth 100000 in
set_option maxHeartbeats 6400000 in
theorem implCallCores_c (v vl : Value) (d : CoreD) (l : List CallD) (mx : Int) (w : World) (hx : CoreAt w v d) (hs : SmC d) (hl : FlatAt cCall 4 w vl l) (hk : ∀ x ∈ l, x.fKey.length ≤ 1048576 ∧ x.fText.length ≤ 1048576) (hll : l.length ≤ 4194303)
    (hM : w.cell? ⟨0, 0, none⟩ = some (.int .i64 mx)) :
    Calls Tryz.prog 14 #[v, vl] w fun e w' => GivesCS (doS d l) w e w' := by
  obtain ⟨cv, rfl, hx⟩ := hx
  have HX := Lib.hid hx
  have HL := Lib.hid hl
  have HKX := Lib.hid hk
  have HCP := Lib.hid (fun W (hw : Below w.heap.size w W) => copyCore_c (vCore d cv) d W ⟨cv, rfl, hx.below hw (Nat.le_refl _)⟩ hs.1 hs.2.1 hs.2.2.1)
  have hMl := World.block_lt_of_cell? w _ hM
  simp only at hMl
  have HMX := Lib.hid (fun W (hw : Below w.heap.size w W) => (hw.cell (p := ⟨0, 0, none⟩) hMl).trans hM)
  clear hM hk
  have HPR := Lib.hid (fun N b cv1 dk x W (hst : CoreSt N b cv1 dk W) (hN : N ≤ W.heap.size) (hd : SmC dk) (hw : Below w.heap.size w W) (h1 : x.fKey.length ≤ 1048576) (h2 : x.fText.length ≤ 1048576) => change_c N b cv1 dk x mx W ⟨hst, hN, hd.2.2.2, Nat.le_trans hd.1 (by decide), fun c hc => Nat.le_trans (hd.2.1 c hc) (by unfold maxLen; omega), Nat.le_trans h1 (by unfold maxLen; omega), h2, HMX.out W hw⟩ h1)
  have HST := Lib.hid (leftS_0 l hs)
  have HLN := Lib.hid (fun k dk rs => @leftS_next d l k dk rs)
  have HLE := Lib.hid (fun k dk rs => @leftS_end d l k dk rs)
  have HLT := Lib.hid (fun k dk rs => @leftS_stop d l k dk rs)
  generalize doS d l = out at *
  clear hs hx
  obtain ⟨a, c, rfl, hlm⟩ := flatAt_len hl
  clear hl
  obtain ⟨a0, c0, rfl, _⟩ := flatAt_len HX.out
  obtain ⟨kd, on, br, y, cnt⟩ := d
  unfold vCore at HCP ⊢
  simp only at HCP
  have HB2 := Lib.hid (show ∀ o1 o2, Below w.heap.size w ((w.alloc o1).alloc o2) from fun o1 o2 => ((Below.refl _ _).alloc (Nat.le_refl _) _).alloc (by simp) _)
  have HBX := Lib.hid (show ∀ o1, Bx ((w.alloc o1).alloc (.cells #[.string ⟨#[]⟩, .bool false, .bool false, .slice none 0 0, .int .i64 0] 26)) (w.heap.size + 1) [.string ⟨#[]⟩, .bool false, .bool false, .slice none 0 0, .int .i64 0] from fun o1 => by have h := Bx.new (w.alloc o1) [.string ⟨#[]⟩, .bool false, .bool false, .slice none 0 0, .int .i64 0] 26; simpa using h)
  go_enter Tryz.func14, Tryz.ntmps14
  go_wp2_with fail
  refine (HCP.out _ (HB2.out _ _)).mono ?_
  rintro e w1 ⟨_, rfl, ⟨cv1, rfl, ho⟩, hb⟩
  have HB1 := Lib.hid ((HB2.out _ _).trans (hb.mono (HB2.out _ _).size))
  have BX1 := Lib.hid ((HBX.out _).below hb)
  have HO1 := Lib.hid (show OwnsF cCell 36 2 w1 (w.heap.size + 1 + 1) cv1 y from by simpa using ho)
  have hsz := hb.size
  simp at hsz
  clear hb ho HBX HCP
  obtain ⟨ca, ccp, rfl⟩ := slice_of HO1.out
  simp only at *
  unfold vCore
  go_wp2_with fail
  have ST0 := Lib.hid (show StC (w.heap.size + 1 + 1) w1.heap.size (w.heap.size + 1) (.slice ca y.length ccp) ⟨kd, on, br, y, cnt⟩ (.slice (some ⟨w1.heap.size + 1, 0, none⟩) 0 0) [] w ((w1.alloc (.cells #[.string ⟨kd.toArray⟩, .bool on, .bool br, .slice ca y.length ccp, .int .i64 cnt] 26)).alloc (.cells #[] 32)) from
    ⟨⟨⟨by simp [go_sem], by simp [go_sem], by simp [go_sem], by simp [go_sem], by simp [go_sem], by simp [go_sem], by simp [go_sem], by simp [go_sem], by simp [go_sem]⟩, ownsF_alloc (ownsF_alloc HO1.out _) _, fun e => by have := (World.ownsRow.lt HO1.out _ e).2; omega, hsz⟩,
      by have h := ownsF_new cReply 32 5 (w1.alloc (.cells #[.string ⟨kd.toArray⟩, .bool on, .bool br, .slice ca y.length ccp, .int .i64 cnt] 26)); simpa using h,
      (BX1.out.alloc _).alloc _, ((HB1.out.alloc HB1.out.size _).alloc (by simp; omega) _)⟩)
  have hb1 : w.heap.size + 1 + 1 ≤ w1.heap.size := hsz
  generalize hW : (w1.alloc (.cells #[.string ⟨kd.toArray⟩, .bool on, .bool br, .slice ca y.length ccp, .int .i64 cnt] 26)).alloc (.cells #[] 32) = W0 at *
  clear hW
  generalize w1.heap.size = b at *
  clear HO1 BX1 HB1
  go_loopw [7, 9, 10, 16] (fun u _ _ i wr => ∃ (k : Nat) (dk : CoreD) (rs : List ReplyD) (cv : Value), k ≤ l.length ∧ i = .int .i64 k ∧ LeftS ⟨kd, on, br, y, cnt⟩ l k dk rs ∧ StC (w.heap.size + 1 + 1) b (w.heap.size + 1) cv dk u rs w wr) (fun _ _ _ i _ => l.length - (intOf i).toNat)
  case atStart => exact ⟨0, _, _, _, Nat.zero_le _, rfl, HST.out, ST0.out⟩
  case round =>
    obtain ⟨k, dk, rs, cvk, hk2, rfl, hL, hSt⟩ := hrel
    have HLk := Lib.hid hL
    have HS := Lib.hid hSt
    clear hL hSt HST ST0
    have hbw := HS.out.st.box.lt
    have hge := HS.out.st.ge
    have hNs := Nat.le_trans HS.out.st.ge (Nat.le_of_lt HS.out.st.box.lt)
    by_cases hlt : k < l.length
    · obtain ⟨xb, xo, rfl, hxw, hd⟩ := flatAt_cell cCall_len (FlatAt.below HL.out HS.out.bel (Nat.le_refl _)) k hlt (by decide)
      have d0 := hd 0 (by decide)
      have d1 := hd 1 (by decide)
      have d2 := hd 2 (by decide)
      have d3 := hd 3 (by decide)
      clear hd
      have hkx := HKX.out l[k] (List.getElem_mem hlt)
      have hN1 := Lib.hid (fun h => HLN.out _ _ _ HLk.out hlt h)
      have hN2 := Lib.hid (fun h => HLT.out _ _ _ HLk.out hlt h)
      generalize l[k] = x at *
      obtain ⟨m, kx, n, t⟩ := x
      simp only [cCall, List.getElem?_cons_zero, List.getElem?_cons_succ, Nat.add_zero] at d0 d1 d2 d3 hkx
      have HDO := Lib.hid (fun W (hst : CoreSt (w.heap.size + 1 + 1) b cvk dk W) (hN : (w.heap.size + 1 + 1) ≤ W.heap.size) (hw : Below w.heap.size w W) => HPR.out _ b cvk dk ⟨m, kx, n, t⟩ W hst hN HLk.out.2.1 hw hkx.1 hkx.2)
      have HRL := Lib.hid HLk.out.1
      clear hkx
      generalize doD dk ⟨m, kx, n, t⟩ = o1 at *
      obtain ⟨dn, r0, r1, r2, r3, r4⟩ := o1
      unfold vCall at HDO
      simp only at hN1 hN2 HDO
      go_wp2_with fail
      have hXb := bx_box wr (.cells #[.string ⟨m.toArray⟩, .string ⟨kx.toArray⟩, .int .i64 n, .string ⟨t.toArray⟩] 28)
      refine (HDO.out _ (HS.out.st.below hXb) (by simp; omega) (belS HS.out.bel hXb)).mono ?_
      rintro e w2 ⟨rfl, cv2, st2, hk2'⟩
      have ST2 := Lib.hid st2
      have KP := Lib.hid hk2'
      have BX2 := Lib.hid ((HS.out.box.below hXb).two hk2' (by simp; omega) (fun e => by have := (World.ownsRow.lt HS.out.st.own _ e.symm).1; omega))
      have RW2 := Lib.hid (own_two (ownsF_alloc HS.out.row (.cells #[.string ⟨m.toArray⟩, .string ⟨kx.toArray⟩, .int .i64 n, .string ⟨t.toArray⟩] 28)) hk2' (Or.inr (fun e => by have := (World.ownsRow.lt HS.out.row _ e).1; omega)) (rows_apart HS.out.row HS.out.st.own (by decide)))
      have BL2 := Lib.hid (show Below w.heap.size w w2 from (belS HS.out.bel hXb).trans (hk2'.toBelow (by have := HS.out.bel.size; simp; omega) (fun g h => by injection h; omega) (fun g h => by have := (World.ownsRow.lt HS.out.st.own g h).1; omega)))
      have hs2 := hk2'.size
      simp at hs2
      clear st2 hk2' hXb HDO
      unfold vReply
      clear d0 d1 d2 d3
      by_cases hc : r0 = 1
      · obtain ⟨e1, e2⟩ := hN2.out hc
        subst hc
        go_wp2_with (at_builtin; refine append_reply rfl _ _ rfl (b + 1) u7 rs ⟨1, r1, r2, r3, r4⟩ _ (w2.heap.size + 1) rfl (ownsF_alloc (ownsF_alloc RW2.out _) _) rfl (reply_new (w2.alloc _) ⟨1, r1, r2, r3, r4⟩ _ (by simp)) (by have := HRL.out; omega) (by simp; omega) ?_; intro v' w4 hO4 hg1; have hq0 : w4.cell? ⟨w2.heap.size, 0, none⟩ = some (.int .i64 1) := (hg1.cell_far ⟨w2.heap.size, 0, none⟩ (by simp; try omega) (fun e => absurd (World.ownsRow.lt RW2.out _ e.symm).2 (Nat.lt_irrefl _))).trans (by simp [go_sem]); have ST4 := Lib.hid (show StC (w.heap.size + 1 + 1) b (w.heap.size + 1) cv2 dn v' (rs ++ [⟨1, r1, r2, r3, r4⟩]) w w4 from ⟨st_grown ((ST2.out.below (bx_box _ _)).below (bx_box _ _)) (ownsF_alloc (ownsF_alloc RW2.out _) _) hg1 (by decide) (by omega), hO4, ((BX2.out.alloc _).alloc _).grown hg1 (fun e => by have := (World.ownsRow.lt RW2.out _ e).1; omega), below_appendF (BL2.out.alloc BL2.out.size _ |>.alloc (by have := BL2.out.size; simp; omega) _) (ownsF_base (ownsF_alloc (ownsF_alloc RW2.out _) _) (by omega)) hg1 (by have := BL2.out.size; simp; omega)⟩); clear hO4 hg1; obtain ⟨c0, c1, c2, c3, c4, z1, z2, z3, z4⟩ := ST4.out.st.box; obtain ⟨cu, cw, rfl⟩ := slice_of ST4.out.st.own; obtain ⟨kn, on', brn, yn, cn⟩ := dn; simp only at c0 c1 c2 c3 c4; have e0 := ST4.out.box.cell 0 (by simp); have q1 := ST4.out.box.cell 1 (by simp); have q2 := ST4.out.box.cell 2 (by simp); have q3 := ST4.out.box.cell 3 (by simp); have q4 := ST4.out.box.cell 4 (by simp); simp only [List.getElem_cons_zero, List.getElem_cons_succ] at e0 q1 q2 q3 q4; have f0 := ST4.out.box.froz 0 (by simp); have f1 := ST4.out.box.froz 1 (by simp); have f2 := ST4.out.box.froz 2 (by simp); have f3 := ST4.out.box.froz 3 (by simp); have f4 := ST4.out.box.froz 4 (by simp))
        refine bodyPost_ret (v := .tuple #[.agg #[.string ⟨kn.toArray⟩, .bool on', .bool brn, .slice cu yn.length cw, .int .i64 cn], v']) (by simp [results, Tryz.results14, go_sem, cell_set_at, cell_set_ne, e0, q1, q2, q3, q4]) rfl ?_
        refine ⟨_, _, by rw [e1]; rfl, ?_, ?_, ?_⟩
        · rw [e1]
          refine ownsF_base (B := w.heap.size + 1 + 1) ?_ (by omega)
          repeat (with_reducible refine ownsF_set ?_ (by simp; try omega))
          exact ST4.out.st.own
        · rw [e2]
          refine ownsF_base (B := b + 1) ?_ (by omega)
          repeat (with_reducible refine ownsF_set ?_ (by simp; try omega))
          exact ST4.out.row
        · repeat (with_reducible refine Below.setCell ?_ (by simp; try omega) _)
          exact ST4.out.bel
      · have hcb : (r0 == 1) = false := by simpa using hc
        have LN := Lib.hid (hN1.out hc)
        clear hc
        go_wp2_with (at_builtin; refine append_reply rfl _ _ rfl (b + 1) u7 rs ⟨r0, r1, r2, r3, r4⟩ _ (w2.heap.size + 1) rfl (ownsF_alloc (ownsF_alloc RW2.out _) _) rfl (reply_new (w2.alloc _) ⟨r0, r1, r2, r3, r4⟩ _ (by simp)) (by have := HRL.out; omega) (by simp; omega) ?_; intro v' w4 hO4 hg1; have hq0 : w4.cell? ⟨w2.heap.size, 0, none⟩ = some (.int .i64 r0) := (hg1.cell_far ⟨w2.heap.size, 0, none⟩ (by simp; try omega) (fun e => absurd (World.ownsRow.lt RW2.out _ e.symm).2 (Nat.lt_irrefl _))).trans (by simp [go_sem]))
        have ST4 := Lib.hid (show StC (w.heap.size + 1 + 1) b (w.heap.size + 1) cv2 dn v' (rs ++ [⟨r0, r1, r2, r3, r4⟩]) w w4 from
          ⟨st_grown ((ST2.out.below (bx_box _ _)).below (bx_box _ _)) (ownsF_alloc (ownsF_alloc RW2.out _) _) hg1 (by decide) (by omega), hO4, ((BX2.out.alloc _).alloc _).grown hg1 (fun e => by have := (World.ownsRow.lt RW2.out _ e).1; omega), below_appendF (BL2.out.alloc BL2.out.size _ |>.alloc (by have := BL2.out.size; simp; omega) _) (ownsF_base (ownsF_alloc (ownsF_alloc RW2.out _) _) (by omega)) hg1 (by have := BL2.out.size; simp; omega)⟩)
        clear hO4 hg1
        go_wp2_with fail
        exact ⟨⟨k + 1, _, _, _, by omega, by go_num, LN.out, ST4.out⟩, by simp [intOf]; omega⟩
    · obtain ⟨e1, e2⟩ := HLE.out _ _ _ HLk.out hlt
      have ST4 := HS
      obtain ⟨c0, c1, c2, c3, c4, z1, z2, z3, z4⟩ := ST4.out.st.box
      obtain ⟨cu, cw, rfl⟩ := slice_of ST4.out.st.own
      obtain ⟨kn, on', brn, yn, cn⟩ := dk
      simp only at c0 c1 c2 c3 c4
      have e0 := ST4.out.box.cell 0 (by simp)
      have q1 := ST4.out.box.cell 1 (by simp)
      have q2 := ST4.out.box.cell 2 (by simp)
      have q3 := ST4.out.box.cell 3 (by simp)
      have q4 := ST4.out.box.cell 4 (by simp)
      simp only [List.getElem_cons_zero, List.getElem_cons_succ] at e0 q1 q2 q3 q4
      have f0 := ST4.out.box.froz 0 (by simp)
      have f1 := ST4.out.box.froz 1 (by simp)
      have f2 := ST4.out.box.froz 2 (by simp)
      have f3 := ST4.out.box.froz 3 (by simp)
      have f4 := ST4.out.box.froz 4 (by simp)
      go_wp2_with fail
      refine bodyPost_ret (v := .tuple #[.agg #[.string ⟨kn.toArray⟩, .bool on', .bool brn, .slice cu yn.length cw, .int .i64 cn], u7]) (by simp [results, Tryz.results14, go_sem, cell_set_at, cell_set_ne, e0, q1, q2, q3, q4]) rfl ?_
      refine ⟨_, _, by rw [e1]; rfl, ?_, ?_, ?_⟩
      · rw [e1]
        refine ownsF_base (B := w.heap.size + 1 + 1) ?_ (by omega)
        repeat (with_reducible refine ownsF_set ?_ (by simp; try omega))
        exact ST4.out.st.own
      · rw [e2]
        refine ownsF_base (B := b + 1) ?_ (by omega)
        repeat (with_reducible refine ownsF_set ?_ (by simp; try omega))
        exact ST4.out.row
      · repeat (with_reducible refine Below.setCell ?_ (by simp; try omega) _)
        exact ST4.out.bel
end Go.Proofs.YtghebbndfpbkcaaGreat
namespace Go.Proofs.YtghebbndfpbkcaaGreat
set_option linter.unusedVariables false
set_option linter.unusedSimpArgs false
open Go.RowKit
theorem append_call {ops : Array Oper} {rest : List Oper} {o : Oper} {a : Act} {Q : Exit → Act → World → Prop} (hgd : o.guard = none) (s x : Operand)
    (ho : o.op = .call { callee := .builtin .append, args := #[s, x], argTypes := #[37, 37] }) (B : Nat) (v : Value) (l : List CallD) (y : CallD) (w : World) (blk : Nat)
    (hs : a.eval s = v) (hO : OwnsF cCall 28 4 w B v l) (hx : a.eval x = .slice (some ⟨blk, 0, none⟩) 1 1) (hc : ∀ j, j < 4 → w.cell? ⟨blk, j, none⟩ = (cCall y)[j]?) (hl : l.length ≤ 4194304) (hB : B ≤ w.heap.size)
    (h : ∀ v' w', OwnsF cCall 28 4 w' B v' (l ++ [y]) → w.grownBy w' v.ownBlock → wpList Tryz.prog ops Q rest (a.put o.dst v') w') : wpList Tryz.prog ops Q (o :: rest) a w :=
  append_flat cCall_len cCall_one infoCall rfl (by decide) (by decide) Tryz.underlying37 hgd s x ho B v l y w blk hs hO hx hc hl hB h
theorem call_new (w : World) (y : CallD) (blk : Nat) (h : blk = w.heap.size) : ∀ j, j < 4 → (w.alloc (.cells #[.string ⟨y.fMethod.toArray⟩, .string ⟨y.fKey.toArray⟩, .int .i64 y.fValue, .string ⟨y.fText.toArray⟩] 28)).cell? ⟨blk, j, none⟩ = (cCall y)[j]? := by
  subst h
  intro j hj
  rw [cell_of_row _ _ _ _ 28 (0, 0) (heap_alloc_new w _)]
  simp [cCall]
theorem grown_own {w w1 w' : World} {b : Nat} {r : Option Nat} (h : w.grownBy w1 (some b)) (hg : w1.grownBy w' r) (hr : ∀ g, r = some g → w.heap.size ≤ g) : w.grownBy w' (some b) :=
  ⟨hg.os.trans h.os, hg.tape.trans h.tape, hg.output.trans h.output, Nat.le_trans h.size hg.size, fun k hk hne => (hg.block k (Nat.lt_of_lt_of_le hk h.size) (fun e => by have := hr k e.symm; omega)).trans (h.block k hk hne)⟩
theorem cur_grown {w w' : World} {b : Nat} {r : Option Nat} {v : Value} {l : List UInt8} (hC : Cur w b v l) (hg : w.grownBy w' r) (hr : ∀ g, r = some g → b < g) : Cur w' b v l := by
  cases r with
  | some g => exact hC.far hg (hr g rfl)
  | none => exact hC.far (g := w.heap.size) ⟨hg.os, hg.tape, hg.output, hg.size, fun k hk _ => hg.block k hk (by simp)⟩ hC.lt
def DrawnCalls (b : Nat) (v : Value) (l : List UInt8) (m : Nat) (w : World) (e : Ending) (w' : World) : Prop := ∃ u x, e = .returned u ∧ OwnsF cCall 28 4 w' w.heap.size u x ∧ x.length ≤ m ∧ (∀ y ∈ x, okCl y) ∧ w.grownBy w' (some b) ∧ Cur w' b v l
set_option maxRecDepth 100000 in
set_option maxHeartbeats 3200000 in
theorem l3Calls_any (b : Nat) (v : Value) (l : List UInt8) (w : World) (hC : Cur w b v l) :
    Calls Tryz.prog 38 #[.pointer (some ⟨b, 0, none⟩), .int .i64 8] w fun e w' => DrawnCalls b v l 8 w e w' := by
  have hbl := hC.lt
  have HC := Lib.hid (cur_alloc hC (.cells #[] 28))
  have HO := Lib.hid (ownsF_new cCall 28 4 w)
  have HG0 := Lib.hid (grown_alloc (grown_refl w (some b)) (.cells #[] 28))
  clear hC
  go_enter Tryz.func38, Tryz.ntmps38
  go_wp2_with fail
  refine (l1Below_any b v l _ _ HC.out (by omega) (by omega)).mono ?_
  rintro e w1 ⟨x, rfl, ⟨h0, h1, h6⟩, hg1, hC1⟩
  have h6' : x < 9 := h6 (by omega)
  have HO1 := Lib.hid (ownsF_grownC HO.out hg1 hbl)
  have HG1 := Lib.hid (grown_trans HG0.out hg1)
  have HC1 := Lib.hid hC1
  clear hg1 hC1 h6 h1
  go_wp2_with fail
  go_loopw [5, 6] (fun lv nv wr => ∃ (n : Int) (u : Value) (y : List CallD), lv = u ∧ nv = .int .i64 n ∧ 0 ≤ n ∧ (y.length : Int) + n ≤ 8 ∧ OwnsF cCall 28 4 wr w.heap.size u y ∧ (∀ z ∈ y, okCl z) ∧ w.grownBy wr (some b) ∧ Cur wr b v l) (fun _ nv _ => (intOf nv).toNat)
  case atStart => exact ⟨x, _, [], rfl, rfl, by omega, by simp; omega, HO1.out, by simp, HG1.out, HC1.out⟩
  case round =>
    obtain ⟨n, u, y, rfl, rfl, hn0, hn6, hO, hM, hg, hC⟩ := hrel
    have HO := Lib.hid hO
    have HM := Lib.hid hM
    have HG := Lib.hid hg
    have HC2 := Lib.hid hC
    clear hO hM hg hC
    by_cases hp : 0 < n
    · go_wp2_with fail
      refine (l3AnyCall_any b v l _ HC2.out).mono ?_
      rintro e w2 ⟨⟨mm, kk, nn, tt⟩, rfl, hok, hg2, hC2⟩
      have HG3 := Lib.hid (grown_trans HG.out hg2)
      have HC3 := Lib.hid hC2
      have HO3 := Lib.hid (ownsF_grownC HO.out hg2 hbl)
      have HM3 := Lib.hid (show ∀ z ∈ y ++ [(⟨mm, kk, nn, tt⟩ : CallD)], okCl z from fun z hz => by
        rcases List.mem_append.1 hz with h | h
        · exact HM.out z h
        · rw [List.mem_singleton.1 h]; exact hok)
      have hw2 := HG3.out.size
      clear hg2 hC2 hok HO
      unfold vCall
      go_wp2_with (at_builtin; refine append_call rfl _ _ rfl w.heap.size _ y ⟨mm, kk, nn, tt⟩ _ w2.heap.size rfl (ownsF_alloc HO3.out _) rfl (call_new w2 ⟨mm, kk, nn, tt⟩ _ rfl) (by omega) (by simp; omega) ?_; intro v' w' ho hgr; have HO4 := Lib.hid ho; have HG4 := Lib.hid (grown_own (grown_alloc HG3.out _) hgr (fun g e => (World.ownsRow.lt HO3.out g e).1)); have HC4 := Lib.hid (cur_grown (cur_alloc HC3.out _) hgr (fun g e => by have := (World.ownsRow.lt HO3.out g e).1; omega)); clear ho hgr)
      exact ⟨⟨n - 1, _, _, rfl, by go_num, by omega, by simp; omega, HO4.out, HM3.out, HG4.out, HC4.out⟩, by simp [intOf]; omega⟩
    · go_wp2_with fail
      go_ret
      exact ⟨_, _, rfl, HO.out, by omega, HM.out, HG.out, HC2.out⟩
def GivesCC2 (w : World) (e : Ending) (w' : World) : Prop := ∃ d cv xv x, e = .returned (.tuple #[vCore d cv, xv]) ∧ OwnsF cCell 36 2 w' w.heap.size cv d.fCells ∧ okDr 7 d ∧ OwnsF cCall 28 4 w' w.heap.size xv x ∧ x.length ≤ 8 ∧ (∀ y ∈ x, okCl y) ∧ Below w.heap.size w w'
set_option maxRecDepth 100000 in
set_option maxHeartbeats 3200000 in
theorem drawCallCores_any (v : Value) (l : List UInt8) (w : World) (hR : RowAt w v (Lib.byteCells l)) :
    Calls Tryz.prog 10 #[v] w fun e w' => GivesCC2 w e w' := by
  obtain ⟨B1, HB0⟩ := bx_start1 w zCoreV 26
  have HR := Lib.hid (RowAt.below hR HB0 (Nat.le_refl _))
  have B1 := Lib.hid B1
  have HB0 := Lib.hid HB0
  have HN := Lib.hid (l1New_any v l _ HR.out)
  clear hR
  go_enter Tryz.func10, Tryz.ntmps10
  go_wp2_with fail
  generalize w.alloc (.cells #[.string ⟨#[]⟩, .bool false, .bool false, .slice none 0 0, .int .i64 0] 26) = w0 at *
  refine HN.out.mono ?_
  rintro e w1 ⟨b, rfl, hb, hB, hC⟩
  have hl1 := B1.out.lt
  have hbw : w.heap.size < b := by omega
  have B1 := Lib.hid (B1.out.below hB)
  have HB1 := Lib.hid (belS HB0.out hB)
  have HC1 := Lib.hid hC
  clear hB hC hb HB0 HN HR hl1
  go_wp2_with fail
  refine (l3Any_any b v l _ HC1.out).mono ?_
  rintro e w2 ⟨⟨kd, on, br, y, cnt⟩, cv, rfl, ho, hok, hg, hC⟩
  obtain ⟨ua, uc, rfl⟩ := slice_of ho
  have hgs := HB1.out.size
  have HOK := Lib.hid hok
  have B1 := Lib.hid (bx_grownC B1.out hg (by omega))
  have HB2 := Lib.hid (below_grown HB1.out hg (by omega) HB1.out.size)
  have HC2 := Lib.hid hC
  have hl2 : w.heap.size < w1.heap.size := Nat.lt_of_lt_of_le hbw (Nat.le_of_lt HC1.out.lt)
  have hbl : b < w1.heap.size := HC1.out.lt
  have HO := Lib.hid ho
  clear ho hok hg hC HC1 HB1
  unfold vCore
  simp only
  go_wp2_with fail
  refine (l3Calls_any b v l _ HC2.out).mono ?_
  rintro e w3 ⟨xv, x, rfl, hox, hxl, hokx, hg, hC⟩
  have HXL := Lib.hid hxl
  have HOX := Lib.hid hokx
  have B1 := Lib.hid (bx_grownC B1.out hg (by omega))
  have HB3 := Lib.hid (below_grown HB2.out hg (by omega) HB2.out.size)
  have HO := Lib.hid (ownsF_grownC HO.out hg hbl)
  have hw2 := HB2.out.size
  have HX := Lib.hid (ownsF_base hox (show w.heap.size + 1 ≤ w2.heap.size by have := Nat.lt_of_lt_of_le hbw (Nat.le_of_lt HC2.out.lt); omega))
  clear hox hxl hokx hg hC HC2 HB2
  have p0 := B1.out.cell 0 (by simp)
  have p1 := B1.out.cell 1 (by simp)
  have p2 := B1.out.cell 2 (by simp)
  have p3 := B1.out.cell 3 (by simp)
  have p4 := B1.out.cell 4 (by simp)
  simp only [List.getElem_cons_zero, List.getElem_cons_succ] at p0 p1 p2 p3 p4
  have x0 := B1.out.froz 0 (by simp)
  have x1 := B1.out.froz 1 (by simp)
  have x2 := B1.out.froz 2 (by simp)
  have x3 := B1.out.froz 3 (by simp)
  have x4 := B1.out.froz 4 (by simp)
  have lB := B1.out.lt
  go_wp2_with fail
  refine bodyPost_ret (v := .tuple #[.agg #[.string ⟨kd.toArray⟩, .bool on, .bool br, .slice ua y.length uc, .int .i64 cnt], xv]) (by simp [results, Tryz.results10, go_sem, cell_set_at, cell_set_ne, p0, p1, p2, p3, p4]) rfl ?_
  refine ⟨⟨kd, on, br, y, cnt⟩, _, xv, x, rfl, ?_, HOK.out, ?_, HXL.out, HOX.out, ?_⟩
  · refine ownsF_base (B := w1.heap.size) ?_ (by omega)
    repeat (with_reducible refine ownsF_set ?_ (by simp; try omega))
    exact HO.out
  · refine ownsF_base (B := w.heap.size + 1) ?_ (by omega)
    repeat (with_reducible refine ownsF_set ?_ (by simp; try omega))
    exact HX.out
  · repeat (with_reducible refine Below.setCell ?_ (by simp; try omega) _)
    exact HB3.out
end Go.Proofs.YtghebbndfpbkcaaGreat
