/- Cores: what the laws' own helpers do with them. -/
import Derived.Test.YtmoliamenekemaaTCell
namespace Go.Proofs.Ytmoliamenekemaa
set_option linter.unusedVariables false
open Go.RowKit
structure CoreD where
  fKind : List UInt8
  fOn : Bool
  fBroken : Bool
  fCells : List CellD
  fCount : Int
deriving DecidableEq
def okCore (d : CoreD) : Prop := d.fKind.length ≤ maxLen ∧ (∀ c ∈ d.fCells, okCell c) ∧ -9223372036854775808 ≤ d.fCount ∧ d.fCount ≤ 9223372036854775807
def vCore (d : CoreD) (cv : Value) : Value := .agg #[.string ⟨d.fKind.toArray⟩, .bool d.fOn, .bool d.fBroken, cv, .int .i64 d.fCount]
def CoreAt (w : World) (v : Value) (d : CoreD) : Prop := ∃ cv, v = vCore d cv ∧ FlatAt cCell 2 w cv d.fCells
def OwnsCore (w : World) (B : Nat) (v : Value) (d : CoreD) : Prop := ∃ cv, v = vCore d cv ∧ OwnsF cCell 115 2 w B cv d.fCells
def GivesCore (d : CoreD) (w : World) (e : Ending) (w' : World) : Prop := ∃ v, e = .returned v ∧ OwnsCore w' w.heap.size v d ∧ Below w.heap.size w w'
theorem CoreAt.below {w w' : World} {v : Value} {d : CoreD} {B : Nat} (h : CoreAt w v d) (hb : Below B w w') (hB : w.heap.size ≤ B) : CoreAt w' v d := by
  obtain ⟨cv, rfl, h⟩ := h; exact ⟨cv, rfl, h.below hb hB⟩
theorem ownsCore_below {w w' : World} {B B' : Nat} {v : Value} {d : CoreD} (h : OwnsCore w B v d) (hb : Below B' w w') (hB : w.heap.size ≤ B') : OwnsCore w' B v d := by
  obtain ⟨cv, rfl, h⟩ := h; exact ⟨cv, rfl, ownsF_below h hb hB⟩
theorem ownsCore_at {w : World} {B : Nat} {v : Value} {d : CoreD} (h : OwnsCore w B v d) (hm : d.fCells.length ≤ 4194304) : CoreAt w v d := by
  obtain ⟨cv, rfl, h⟩ := h; exact ⟨cv, rfl, ownsF_at h hm⟩
theorem bcell {W w1 : World} (hb : Below W.heap.size W w1) : (∀ b o, b < W.heap.size → w1.cell? ⟨b, o, none⟩ = W.cell? ⟨b, o, none⟩) ∧ (∀ b o, b < W.heap.size → w1.frozen? ⟨b, o, none⟩ = W.frozen? ⟨b, o, none⟩) :=
  ⟨fun b o h => hb.cell (p := ⟨b, o, none⟩) h, fun b o h => hb.frozen (p := ⟨b, o, none⟩) h⟩
theorem coreD_ext (x y : CoreD) : x = y ↔ x.fKind = y.fKind ∧ x.fOn = y.fOn ∧ x.fBroken = y.fBroken ∧ x.fCells = y.fCells ∧ x.fCount = y.fCount := by
  cases x; cases y; simp
set_option maxRecDepth 100000 in
set_option maxHeartbeats 1600000 in
theorem toCore_any (v : Value) (x : CoreD) (w : World) (hx : CoreAt w v x) (hm : x.fCells.length ≤ 2097152) :
    Calls Try.prog 38 #[v] w fun e w' => GivesCore x w e w' := by
  obtain ⟨cv, rfl, hx⟩ := hx
  obtain ⟨a0, a1, a2, a3, a4⟩ := x
  unfold vCore
  simp only at *
  have HX := Lib.hid hx
  clear hx
  have B3 := Lib.hid (show ∀ o1 o2 o3, Below w.heap.size w (((w.alloc o1).alloc o2).alloc o3) from fun o1 o2 o3 => (((Below.refl _ _).alloc (Nat.le_refl _) _).alloc (by simp) _).alloc (by simp; omega) _)
  have HC := Lib.hid (fun o1 o2 o3 => toCellS_any cv a3 (((w.alloc o1).alloc o2).alloc o3) (HX.out.below (B3.out o1 o2 o3) (Nat.le_refl _)) hm)
  go_enter Try.func38, Try.ntmps38
  go_wp2_with fail
  refine (HC.out _ _ _).mono ?_
  rintro e w1 ⟨rfl, ho, hb⟩
  have HO := Lib.hid (show OwnsF cCell 115 2 w1 (w.heap.size + 1 + 1 + 1) (.slice (some ⟨w.heap.size + 1 + 1 + 1, 0, none⟩) a3.length a3.length) a3 from by simpa using ho)
  have HB := Lib.hid ((B3.out _ _ _).trans (hb.mono (B3.out _ _ _).size))
  obtain ⟨hcc, hff⟩ := bcell hb
  have hsz := hb.size
  simp at hsz
  clear ho hb
  go_wp2_with fail
  refine bodyPost_ret (v := .agg #[.string ⟨a0.toArray⟩, .bool a1, .bool a2, _, .int .i64 a4]) (by simp [results, Try.results38, go_sem, hcc]; rfl) rfl ⟨_, rfl, ⟨_, rfl, ?_⟩, ?_⟩
  · refine ownsF_base (B := w.heap.size + 1 + 1 + 1) ?_ (by omega)
    repeat (refine ownsF_set ?_ (by simp; try omega))
    exact HO.out
  · repeat (refine Below.setCell ?_ (by simp; try omega) _)
    exact HB.out
def zCore (d : CoreD) : Nat := d.fKind.length + (d.fCells.length + sumF zCell d.fCells)
set_option maxRecDepth 100000 in
set_option maxHeartbeats 1600000 in
theorem szCore_any (v : Value) (x : CoreD) (left : Int) (w : World) (hx : CoreAt w v x) (h0 : 0 ≤ left) (h1 : left ≤ 1099511627776) (hk : x.fKind.length ≤ maxLen) (hs : ∀ d ∈ x.fCells, okCell d) :
    Calls Try.prog 32 #[v, .int .i64 left] w fun e w' => SzF (zCore x) left w e w' := by
  obtain ⟨cv, rfl, hx⟩ := hx
  obtain ⟨a0, a1, a2, a3, a4⟩ := x
  unfold vCore zCore
  simp only at *
  have HX := Lib.hid hx
  have HS := Lib.hid hs
  have HZ := Lib.hid (size_strB a0)
  unfold maxLen at hk
  clear hx hs
  have B1 := Lib.hid (show ∀ o1, Below w.heap.size w (w.alloc o1) from fun o1 => (Below.refl _ _).alloc (Nat.le_refl _) _)
  by_cases hn : left - (a0.length : Int) < 0
  · go_enter Try.func32, Try.ntmps32
    go_wp2_with fail
    go_ret
    exact ⟨-1, rfl, by omega, by omega, B1.out _⟩
  · go_enter Try.func32, Try.ntmps32
    go_wp2_with fail
    refine (szCellS_any cv a3 _ _ (HX.out.below (B1.out _) (Nat.le_refl _)) HS.out (by omega) (by omega)).mono ?_
    rintro e w1 ⟨r, rfl, hr0, hr1, hb⟩
    have HB := Lib.hid ((B1.out _).trans (hb.mono (B1.out _).size))
    have HR := Lib.hid hr1
    clear hb hr1
    by_cases hr : r < 0
    · go_wp2_with fail
      go_ret
      exact ⟨-1, rfl, by omega, by omega, HB.out⟩
    · have hr2 := HR.out (by omega)
      go_wp2_with fail
      go_ret
      exact ⟨_, rfl, by omega, by intro _; push_cast; omega, HB.out⟩
set_option maxRecDepth 100000 in
set_option maxHeartbeats 800000 in
theorem markCore_c (B : Nat) (cv : Value) (x : CoreD) (k : Int) (w : World) (hO : OwnsF cCell 115 2 w B cv x.fCells) (hm : x.fCells.length ≤ 2097152) (h0 : 1 ≤ k) (h1 : k ≤ 16777216) :
    Calls Try.prog 50 #[vCore x cv, .int .i64 k] w fun e w' => e = .returned (.int .i64 (k + x.fCells.length * 2)) ∧ OwnsF cCell 115 2 w' B cv (marksCell k x.fCells.length) ∧ w.grownBy w' cv.ownBlock := by
  obtain ⟨a0, a1, a2, a3, a4⟩ := x
  unfold vCore
  simp only at *
  have HO := Lib.hid hO
  clear hO
  go_enter Try.func50, Try.ntmps50
  go_wp2_with fail
  refine (markCellS_any B cv a3 k _ (ownsF_alloc HO.out _) hm h0 h1).mono ?_
  rintro e w1 ⟨rfl, ho, hg⟩
  have HO1 := Lib.hid ho
  have HG := Lib.hid hg
  clear ho hg
  go_wp2_with fail
  go_ret
  refine ⟨rfl, HO1.out, ?_⟩
  have g := HG.out
  exact ⟨g.os, g.tape, g.output, by have := g.size; simp at this; omega, fun i hi hne => by rw [g.block i (by simp; omega) hne]; exact ((Below.refl w.heap.size w).alloc (Nat.le_refl _) _).block i hi⟩
set_option maxRecDepth 100000 in
set_option maxHeartbeats 800000 in
theorem heldCore_any (v : Value) (x : CoreD) (n : Nat) (k : Int) (w : World) (hx : CoreAt w v { x with fCells := marksCell k n }) (hm : n ≤ 2097152) (h0 : 1 ≤ k) (h1 : k ≤ 16777216) :
    Calls Try.prog 52 #[v, .int .i64 k] w fun e w' => e = .returned (.int .i64 (k + n * 2)) ∧ Below w.heap.size w w' := by
  obtain ⟨cv, rfl, hx⟩ := hx
  obtain ⟨a0, a1, a2, a3, a4⟩ := x
  unfold vCore
  simp only at *
  have HX := Lib.hid hx
  clear hx
  have B1 := Lib.hid (show ∀ o1, Below w.heap.size w (w.alloc o1) from fun o1 => (Below.refl _ _).alloc (Nat.le_refl _) _)
  go_enter Try.func52, Try.ntmps52
  go_wp2_with fail
  refine (heldCellS_any cv n k _ (HX.out.below (B1.out _) (Nat.le_refl _)) hm h0 h1).mono ?_
  rintro e w1 ⟨rfl, hb⟩
  have HB := Lib.hid ((B1.out _).trans (hb.mono (B1.out _).size))
  clear hb
  go_wp2_with fail
  go_ret
  exact ⟨rfl, HB.out⟩
end Go.Proofs.Ytmoliamenekemaa
