/- the model's l3Copy -/
import Derived.Test.YteeopjcbpngofaaGreatLinksOfLawM0
import Derived.Maps.OwnOps
import Derived.Maps.Views
import Derived.Deep.AppendLies
import Derived.Test.YteeopjcbpngofaaGreatLinksOfLawM2
import Derived.StillTailTactics
import Derived.Test.YteeopjcbpngofaaGreatLinksOfLawM1
import Derived.Test.YteeopjcbpngofaaGreatProg
import Derived.Deep.RegionHeld3
/- Maps from texts to values, key by key. -/
namespace Go.Proofs.YteeopjcbpngofaaGreat
set_option linter.unusedVariables false
set_option linter.unusedSimpArgs false
open Go.RowKit Go.Maps
/-- a value reads as itself -/
def rVal (v : Value) : Option (DataW Value × List MemPlace) := some (.held v, [])
theorem keyedStr : Keyed Tryz.prog 9 := string_keyed Tryz.underlying9
/-- block b is a map of at most n entries: at key s it gives f s (z where there is none) -/
def MapAt (w : World) (b n : Nat) (z : Value) (f : List UInt8 → Value) : Prop :=
  ∃ D, w.ownsMap Tryz.prog 9 rVal b n D ∧ IsMap D ∧ ∀ s : List UInt8, s.length ≤ maxLen → D.atKey (.string s) (.held z) = .held (f s)
theorem mapAt_new (w : World) (z : Value) : MapAt (w.alloc (.map #[] 0)) w.heap.size 0 z (fun _ => z) :=
  ⟨_, World.ownsMap_made _ _ _ _, isMap_empty, fun s _ => rfl⟩
theorem keyStr (s : List UInt8) (h : s.length ≤ maxLen) : keyOf Tryz.prog 9 (.string ⟨s.toArray⟩) = some (.string s) := by
  have := WideMaps.keyOf_string_mk (P := Tryz.prog) Tryz.underlying9 (s := ⟨s.toArray⟩) (by show s.toArray.size ≤ maxLen; simpa using h)
  simpa using this
theorem MapAt.lt {w : World} {b n : Nat} {z : Value} {f : List UInt8 → Value} (h : MapAt w b n z f) : b < w.heap.size := by
  obtain ⟨D, h1, _⟩ := h; exact h1.lt
theorem MapAt.kept {w w' : World} {b n : Nat} {z : Value} {f : List UInt8 → Value} {row : Option Nat} (h : MapAt w b n z f) (hg : w.grownBy w' row) (hne : some b ≠ row) : MapAt w' b n z f := by
  obtain ⟨D, h1, h2⟩ := h; exact ⟨D, h1.kept hg hne, h2⟩
theorem grown_of_below {B : Nat} {w w' : World} (h : Below B w w') (hB : w.heap.size ≤ B) : w.grownBy w' none :=
  ⟨h.os, h.tape, h.output, h.size, fun k hk _ => h.block k (Nat.lt_of_lt_of_le hk hB)⟩
theorem MapAt.below {w w' : World} {b n B : Nat} {z : Value} {f : List UInt8 → Value} (h : MapAt w b n z f) (hb : Below B w w') (hB : w.heap.size ≤ B) : MapAt w' b n z f :=
  h.kept (grown_of_below hb hB) (by simp)
theorem MapAt.mono {w : World} {b n n' : Nat} {z : Value} {f : List UInt8 → Value} (h : MapAt w b n z f) (hn : n ≤ n') : MapAt w b n' z f := by
  obtain ⟨D, h1, h2⟩ := h; exact ⟨D, h1.mono hn, h2⟩
theorem MapAt.look {w : World} {b n : Nat} {z : Value} {f : List UInt8 → Value} (h : MapAt w b n z f) {t e : TypeId} (ht : Tryz.prog.underlying t = some (.map 9 e)) (hz : (zeroValue e).run Tryz.prog w = .ok z w) (s : List UInt8) (hs : s.length ≤ maxLen) :
    (Instr.lookup t (.map (some b)) (.string ⟨s.toArray⟩) false).run Tryz.prog w = .ok (f s) w := by
  obtain ⟨D, h1, _, h3⟩ := h
  obtain ⟨v, ps, hrun, hv⟩ := h1.lookup keyedStr ht hz (zd := .held z) (zp := []) rfl (keyStr s hs)
  have e := h3 s hs
  have hv2 : DataW.held v = D.atKey (.string s) (.held z) := (Prod.mk.inj (Option.some.inj (show some (DataW.held v, ([] : List MemPlace)) = _ from hv))).1
  rw [e] at hv2
  have hv3 := DataW.held.inj hv2
  rw [hrun, hv3]
/-- 'm[k] = v' at the operation -/
theorem wpList_store {w : World} {ops : Array Oper} {rest : List Oper} {o : Oper} {a : Act} {Q : Exit → Act → World → Prop}
    (hg : o.guard = none) (m x v : Operand) (t e : TypeId) (hop : o.op = Op.mapUpdate t m x v) (ht : Tryz.prog.underlying t = some (.map 9 e)) (b n : Nat) (z : Value) (f : List UInt8 → Value)
    (hm : a.eval m = .map (some b)) (hown : MapAt w b n z f) (hn : n < maxLen) (s : List UInt8) (val : Value) (hx : a.eval x = .string ⟨s.toArray⟩) (hv : a.eval v = val) (hs : s.length ≤ maxLen)
    (hK : ∀ w', MapAt w' b (n + 1) z (fun t => if t = s then val else f t) → w.grownBy w' (some b) → wpList Tryz.prog ops Q rest (a.put o.dst undef) w') :
    wpList Tryz.prog ops Q (o :: rest) a w := by
  obtain ⟨D, h1, h2, h3⟩ := hown
  refine wpList_mapUpdate_own w hg m x v t hop 9 e keyedStr ht rVal b n D hm h1 hn _ val (.string s) hx hv (keyStr s hs) (.held val) [] rfl fun w' ho hgr => hK w' ⟨_, ho, h2.put _ _, fun t htl => ?_⟩ hgr
  show _ = DataW.held (if t = s then val else f t)
  by_cases hts : t = s
  · rw [if_pos hts, hts]
    exact atKey_put_same h2 (keyedStr.key (keyStr s hs)) _ _
  · rw [if_neg hts, atKey_put_other (fun e => hts (by injection e))]
    exact h3 t htl
/-- the same as an equation on the operation's run -/
theorem MapAt.store {w : World} {b n : Nat} {z : Value} {f : List UInt8 → Value} (h : MapAt w b n z f) {t e : TypeId} (ht : Tryz.prog.underlying t = some (.map 9 e)) (hn : n < maxLen) (s : List UInt8) (hs : s.length ≤ maxLen) (val : Value) :
    ∃ w', (Instr.mapUpdate t (.map (some b)) (.string ⟨s.toArray⟩) val).run Tryz.prog w = .ok () w' ∧ MapAt w' b (n + 1) z (fun t => if t = s then val else f t) ∧ w.grownBy w' (some b) := by
  obtain ⟨D, h1, h2, h3⟩ := h
  obtain ⟨w', r1, r2, r3⟩ := h1.update keyedStr ht hn (keyStr s hs) (val := val) (d := .held val) (ps := []) rfl
  refine ⟨w', r1, ⟨_, r2, h2.put _ _, fun t htl => ?_⟩, r3⟩
  show _ = DataW.held (if t = s then val else f t)
  by_cases hts : t = s
  · rw [if_pos hts, hts]
    exact atKey_put_same h2 (keyedStr.key (keyStr s hs)) _ _
  · rw [if_neg hts, atKey_put_other (fun e => hts (by injection e))]
    exact h3 t htl
/-- the same at a step of a region that draws -/
theorem step_store {w : World} {ops : Array Oper} {o : Oper} {a : Act} {K : Act → World → Prop} {Q : Exit → Act → World → Prop} {E : Prop}
    (hgd : o.guard = none) (m x v : Operand) (t e : TypeId) (hop : o.op = Op.mapUpdate t m x v) (ht : Tryz.prog.underlying t = some (.map 9 e)) (b n : Nat) (z : Value) (f : List UInt8 → Value)
    (hm : a.eval m = .map (some b)) (hown : MapAt w b n z f) (hn : n < maxLen) (s : List UInt8) (val : Value) (hx : a.eval x = .string ⟨s.toArray⟩) (hv : a.eval v = val) (hs : s.length ≤ maxLen)
    (hK : ∀ w', MapAt w' b (n + 1) z (fun t => if t = s then val else f t) → w.grownBy w' (some b) → K (a.put o.dst undef) w') :
    if Region.wanted o (yielded ops a.tmps) = true then Oper.wp Tryz.prog o a w K Q else E := by
  have hw : Region.wanted o (yielded ops a.tmps) = true := by simp [Region.wanted, hgd]
  rw [if_pos hw]
  obtain ⟨w', hrun, r1, r2⟩ := hown.store ht hn s hs val
  unfold Oper.wp
  simp [execOp, hop, hm, hx, hv, hrun, Result.andThen]
  exact hK w' r1 r2
end Go.Proofs.YteeopjcbpngofaaGreat
/- A variable of two numbers in a block of its own: how it reads behind calls and stores. -/
namespace Go.Proofs.YteeopjcbpngofaaGreat
set_option linter.unusedVariables false
open Go.RowKit
/-- a variable of two numbers -/
structure Var2 (w : World) (b : Nat) (x y : Int) : Prop where
  lt : b < w.heap.size
  c0 : w.cell? ⟨b, 0, none⟩ = some (.int .i64 x)
  c1 : w.cell? ⟨b, 1, none⟩ = some (.int .i64 y)
  f0 : w.frozen? ⟨b, 0, none⟩ = false
  f1 : w.frozen? ⟨b, 1, none⟩ = false
theorem Var2.below {w w' : World} {b : Nat} {x y : Int} (h : Var2 w b x y) (hb : Below w.heap.size w w') : Var2 w' b x y :=
  ⟨Nat.lt_of_lt_of_le h.lt hb.size, (hb.cell (p := ⟨b, 0, none⟩) h.lt).trans h.c0, (hb.cell (p := ⟨b, 1, none⟩) h.lt).trans h.c1, (hb.frozen (p := ⟨b, 0, none⟩) h.lt).trans h.f0, (hb.frozen (p := ⟨b, 1, none⟩) h.lt).trans h.f1⟩
theorem Var2.alloc {w : World} {b : Nat} {x y : Int} (h : Var2 w b x y) (o : Obj) : Var2 (w.alloc o) b x y := h.below (box1 w o)
theorem Var2.new (w : World) (x y : Int) (t : TypeId) : Var2 (w.alloc (.cells #[.int .i64 x, .int .i64 y] t)) w.heap.size x y := ⟨by simp, by simp, by simp, by simp, by simp⟩
theorem bel_to {w w1 X : World} (h : Below w.heap.size w w1) (hb : Below w1.heap.size w1 X) : Below w.heap.size w X := h.trans (hb.mono h.size)
theorem belDr {B : Nat} {a w : World} (h : Below B a w) : Below B a w.drew := ⟨h.os, h.tape, h.output, h.size, h.block⟩
theorem Var2.drw {w : World} {b : Nat} {x y : Int} (h : Var2 w b x y) : Var2 w.drew b x y := ⟨h.lt, h.c0, h.c1, h.f0, h.f1⟩
theorem set_ne {w : World} {b c i j : Nat} {u : Value} (h : b ≠ c ∨ i ≠ j) : (w.setCell ⟨c, j, none⟩ u).cell? ⟨b, i, none⟩ = w.cell? ⟨b, i, none⟩ :=
  World.cell?_setCell_other (a := ⟨c, j, none⟩) (b := ⟨b, i, none⟩) (h := fun e => by injection e with e1 e2; rcases h with h | h <;> omega) ..
theorem set_at {w : World} {b i : Nat} {u x : Value} (h : w.cell? ⟨b, i, none⟩ = some x) : (w.setCell ⟨b, i, none⟩ u).cell? ⟨b, i, none⟩ = some u := World.cell?_setCell_same' w ⟨b, i, none⟩ u (by rw [h]; rfl)
theorem Var2.set {w : World} {b : Nat} {x y : Int} (h : Var2 w b x y) (x' y' : Int) : Var2 ((w.setCell ⟨b, 0, none⟩ (.int .i64 x')).setCell ⟨b, 1, none⟩ (.int .i64 y')) b x' y' := by
  obtain ⟨h1, h2, h3, h4, h5⟩ := h
  refine ⟨by simpa using h1, ?_, ?_, ?_, ?_⟩
  · rw [set_ne (Or.inr (by decide)), set_at h2]
  · exact set_at ((set_ne (Or.inr (by decide))).trans h3)
  · simpa using h4
  · simpa using h5
theorem Var2.other {w : World} {b c : Nat} {x y : Int} (h : Var2 w b x y) (hne : b ≠ c) (x' y' : Int) : Var2 ((w.setCell ⟨c, 0, none⟩ (.int .i64 x')).setCell ⟨c, 1, none⟩ (.int .i64 y')) b x y := by
  obtain ⟨h1, h2, h3, h4, h5⟩ := h
  refine ⟨by simpa using h1, ?_, ?_, ?_, ?_⟩
  · rw [set_ne (Or.inl hne), set_ne (Or.inl hne)]; exact h2
  · rw [set_ne (Or.inl hne), set_ne (Or.inl hne)]; exact h3
  · simpa using h4
  · simpa using h5
theorem Var2.grown {w w' : World} {b : Nat} {x y : Int} (h : Var2 w b x y) {r : Option Nat} (hg : w.grownBy w' r) (hne : some b ≠ r) : Var2 w' b x y :=
  ⟨Nat.lt_of_lt_of_le h.lt hg.size, (hg.cell_far ⟨b, 0, none⟩ h.lt hne).trans h.c0, (hg.cell_far ⟨b, 1, none⟩ h.lt hne).trans h.c1, (hg.frozen_far ⟨b, 0, none⟩ h.lt hne).trans h.f0, (hg.frozen_far ⟨b, 1, none⟩ h.lt hne).trans h.f1⟩
theorem Var2.set0 {w : World} {b : Nat} {x y : Int} (h : Var2 w b x y) (x' : Int) : Var2 (w.setCell ⟨b, 0, none⟩ (.int .i64 x')) b x' y := by
  obtain ⟨h1, h2, h3, h4, h5⟩ := h
  exact ⟨by simpa using h1, set_at h2, (set_ne (Or.inr (by decide))).trans h3, by simpa using h4, by simpa using h5⟩
theorem Var2.set1 {w : World} {b : Nat} {x y : Int} (h : Var2 w b x y) (y' : Int) : Var2 (w.setCell ⟨b, 1, none⟩ (.int .i64 y')) b x y' := by
  obtain ⟨h1, h2, h3, h4, h5⟩ := h
  exact ⟨by simpa using h1, (set_ne (Or.inr (by decide))).trans h2, set_at h3, by simpa using h4, by simpa using h5⟩
theorem Var2.one {w : World} {b c : Nat} {x y : Int} (h : Var2 w b x y) (hne : b ≠ c) (i : Nat) (u : Value) : Var2 (w.setCell ⟨c, i, none⟩ u) b x y := by
  obtain ⟨h1, h2, h3, h4, h5⟩ := h
  exact ⟨by simpa using h1, (set_ne (Or.inl hne)).trans h2, (set_ne (Or.inl hne)).trans h3, by simpa using h4, by simpa using h5⟩
end Go.Proofs.YteeopjcbpngofaaGreat
/- Contracts of chapter 5: Meets, SinceOf, AllowedFace, GainsOf, the program's and the model's. -/
namespace Go.Proofs.YteeopjcbpngofaaGreat
set_option linter.unusedVariables false
open Go.RowKit
set_option maxHeartbeats 1600000 in
theorem implMeets_any (x y : VersionD) (w : World) :
    Calls Tryz.prog 183 #[vVersion x, vVersion y] w fun e w' => e = .returned (.bool (meetsB x y)) ∧ Below w.heap.size w w' := by
  have HR := Lib.hid (meetsB_cmp x y)
  have HC := Lib.hid (implCmp_any x y)
  obtain ⟨a0, a1⟩ := x
  obtain ⟨b0, b1⟩ := y
  unfold vVersion at *
  generalize meetsB ⟨a0, a1⟩ ⟨b0, b1⟩ = res at *
  generalize cmpV ⟨a0, a1⟩ ⟨b0, b1⟩ = r at *
  by_cases h : a0 = b0
  · rw [show (decide (VersionD.fMajor ⟨a0, a1⟩ = VersionD.fMajor ⟨b0, b1⟩)) = true from decide_eq_true h] at HR
    subst h
    by_cases hr : 0 ≤ r
    · rw [decide_eq_true hr] at HR
      go_enter Tryz.func183, Tryz.ntmps183
      go_wp2_with fail
      refine (HC.out _).mono ?_
      rintro e w1 ⟨rfl, hb⟩
      go_wp2_with fail
      go_ret
      exact ⟨ret_bool (by rw [HR.out]; first | rfl | (simp; omega)), bel_to (box2 _ _ _) hb⟩
    · rw [decide_eq_false hr] at HR
      go_enter Tryz.func183, Tryz.ntmps183
      go_wp2_with fail
      refine (HC.out _).mono ?_
      rintro e w1 ⟨rfl, hb⟩
      go_wp2_with fail
      go_ret
      exact ⟨ret_bool (by rw [HR.out]; first | rfl | (simp; omega)), bel_to (box2 _ _ _) hb⟩
  · rw [show (decide (VersionD.fMajor ⟨a0, a1⟩ = VersionD.fMajor ⟨b0, b1⟩)) = false from decide_eq_false h] at HR
    have h2 : (a0 == b0) = false := by simpa using h
    clear h HC
    go_enter Tryz.func183, Tryz.ntmps183
    go_wp2
    go_ret
    exact ⟨ret_bool (by rw [HR.out]; rfl), box2 _ _ _⟩
set_option maxHeartbeats 1600000 in
theorem specMeets_any (x y : VersionD) (w : World) :
    Calls Tryz.prog 154 #[vVersion x, vVersion y] w fun e w' => e = .returned (.bool (meetsB x y)) ∧ Below w.heap.size w w' := by
  obtain ⟨a0, a1⟩ := x
  obtain ⟨b0, b1⟩ := y
  unfold vVersion meetsB
  simp only
  by_cases h : a0 = b0
  · subst h
    rw [decide_eq_true rfl, Bool.true_and]
    by_cases hr : b1 ≤ a1
    · rw [decide_eq_true hr]
      go_enter Tryz.func154, Tryz.ntmps154
      go_wp2
      go_ret
      exact ⟨ret_bool (by simp; try omega), box2 _ _ _⟩
    · rw [decide_eq_false hr]
      go_enter Tryz.func154, Tryz.ntmps154
      go_wp2
      go_ret
      exact ⟨ret_bool (by simp; try omega), box2 _ _ _⟩
  · rw [decide_eq_false h, Bool.false_and]
    have h2 : (a0 == b0) = false := by simpa using h
    clear h
    go_enter Tryz.func154, Tryz.ntmps154
    go_wp2
    go_ret
    exact ⟨rfl, box2 _ _ _⟩
end Go.Proofs.YteeopjcbpngofaaGreat
/- Who serves, in plain words. -/
namespace Go.Proofs.YteeopjcbpngofaaGreat
set_option linter.unusedVariables false
set_option linter.unusedSimpArgs false
open Go.RowKit
def servesB (x : EntryD) (d : NeedD) : Bool := entryB x && needB d && (decide (d.fFrom = []) || d.fFrom == x.fName) && offersF (recI x.fRecipe) d.fFace && meetsB x.fVersion ⟨d.fMajor, d.fMinor⟩
theorem entryI_yes {x : EntryD} (h : entryB x = true) : entryI x = recI x.fRecipe := by
  unfold entryB at h
  simp only [Bool.and_eq_true] at h
  exact if_pos h.1
/-- the first other entry that serves -/
def provL (l : List EntryD) (nm : List UInt8) (d : NeedD) : List UInt8 := match l with | [] => [] | e :: r => if e.fName ≠ nm ∧ servesB e d = true then e.fName else provL r nm d
theorem provL_len (l : List EntryD) (nm : List UInt8) (d : NeedD) (M : Nat) (h : ∀ e ∈ l, e.fName.length ≤ M) : (provL l nm d).length ≤ M := by
  induction l with
  | nil => exact Nat.zero_le _
  | cons e r ih =>
    unfold provL
    split
    · exact h e (List.mem_cons_self ..)
    · exact ih (fun e he => h e (List.mem_cons_of_mem _ he))
end Go.Proofs.YteeopjcbpngofaaGreat
/- Link: what the laws' own helpers do with it. Written by gen/flat.py. -/
namespace Go.Proofs.YteeopjcbpngofaaGreat
set_option linter.unusedVariables false
open Go.RowKit
structure LinkD where
  fFrom : List UInt8
  fTo : List UInt8
  fFace : Int
deriving DecidableEq
def okLink (d : LinkD) : Prop := (d.fFrom.length ≤ maxLen) ∧ (d.fTo.length ≤ maxLen) ∧ (-9223372036854775808 ≤ d.fFace ∧ d.fFace ≤ 9223372036854775807)
def vLink (d : LinkD) : Value := .agg #[.string ⟨d.fFrom.toArray⟩, .string ⟨d.fTo.toArray⟩, .int .i64 d.fFace]
def cLink (d : LinkD) : List Value := [.string ⟨d.fFrom.toArray⟩, .string ⟨d.fTo.toArray⟩, .int .i64 d.fFace]
theorem cLink_len (d : LinkD) : (cLink d).length = 3 := rfl
theorem cLink_one (d : LinkD) : ∀ u ∈ cLink d, u.oneCell' = true := by intro u hu; simp only [cLink, List.mem_cons, List.not_mem_nil, or_false] at hu; rcases hu with rfl | rfl | rfl <;> rfl
set_option maxHeartbeats 800000 in
theorem eqLink_any (x y : LinkD) (w : World) :
    Calls Tryz.prog 74 #[vLink x, vLink y] w fun e w' => e = .returned (.bool (decide (x = y))) ∧ Below w.heap.size w w' := by
  obtain ⟨a0, a1, a2⟩ := x
  obtain ⟨b0, b1, b2⟩ := y
  unfold vLink
  by_cases h0 : a0 = b0
  · by_cases h1 : a1 = b1
    · by_cases h2 : a2 = b2
      · have HN := Lib.hid (show decide ((⟨a0, a1, a2⟩ : LinkD) = (⟨b0, b1, b2⟩ : LinkD)) = true by rw [h0, h1, h2]; simp)
        subst h0 h1 h2
        go_enter Tryz.func74, Tryz.ntmps74
        go_wp2
        go_ret
        exact ⟨ret_bool HN.out.symm, ((Below.refl _ _).alloc (Nat.le_refl _) _).alloc (by simp) _⟩
      · have HN := Lib.hid (show decide ((⟨a0, a1, a2⟩ : LinkD) = (⟨b0, b1, b2⟩ : LinkD)) = false by rw [decide_eq_false_iff_not]; exact fun e => h2 (by injection e))
        have hne2 : (a2 == b2) = false := by simpa using h2
        have hnf2 : (a2 != b2) = true := by simpa using h2
        subst h0 h1
        clear h2
        go_enter Tryz.func74, Tryz.ntmps74
        go_wp2
        go_ret
        exact ⟨ret_bool HN.out.symm, ((Below.refl _ _).alloc (Nat.le_refl _) _).alloc (by simp) _⟩
    · have HN := Lib.hid (show decide ((⟨a0, a1, a2⟩ : LinkD) = (⟨b0, b1, b2⟩ : LinkD)) = false by rw [decide_eq_false_iff_not]; exact fun e => h1 (by injection e))
      have hne1 : (a1 == b1) = false := by simpa using h1
      have hnf1 : (a1 != b1) = true := by simpa using h1
      subst h0
      clear h1
      go_enter Tryz.func74, Tryz.ntmps74
      go_wp2
      go_ret
      exact ⟨ret_bool HN.out.symm, ((Below.refl _ _).alloc (Nat.le_refl _) _).alloc (by simp) _⟩
  · have HN := Lib.hid (show decide ((⟨a0, a1, a2⟩ : LinkD) = (⟨b0, b1, b2⟩ : LinkD)) = false by rw [decide_eq_false_iff_not]; exact fun e => h0 (by injection e))
    have hne0 : (a0 == b0) = false := by simpa using h0
    have hnf0 : (a0 != b0) = true := by simpa using h0
    clear h0
    go_enter Tryz.func74, Tryz.ntmps74
    go_wp2
    go_ret
    exact ⟨ret_bool HN.out.symm, ((Below.refl _ _).alloc (Nat.le_refl _) _).alloc (by simp) _⟩
set_option maxRecDepth 100000 in
set_option maxHeartbeats 1600000 in
theorem eqLinkS_any (v u : Value) (x y : List LinkD) (w : World) (hx : FlatAt cLink 3 w v x) (hy : FlatAt cLink 3 w u y) :
    Calls Tryz.prog 29 #[v, u] w fun e w' => e = .returned (.bool (decide (x = y))) ∧ Below w.heap.size w w' := by
  obtain ⟨a, c, rfl, hl⟩ := flatAt_len hx
  obtain ⟨a2, c2, rfl, hl2⟩ := flatAt_len hy
  have HX := Lib.hid hx
  have HY := Lib.hid hy
  clear hx hy
  unfold maxLen at hl hl2
  by_cases he : x.length = y.length
  · have hb : ((x.length : Int) == y.length) = true := beq_iff_eq.2 (by omega)
    have hbn : ((x.length : Int) != y.length) = false := by rw [bne_eq_false_iff_eq]; omega
    have HE := Lib.hid he
    clear he
    go_enter Tryz.func29, Tryz.ntmps29
    go_wp2
    go_loopw [5] (fun i wr => ∃ k : Nat, k ≤ x.length ∧ i = .int .i64 k ∧ x.take k = y.take k ∧ Below w.heap.size w wr) (fun i _ => x.length - (intOf i).toNat)
    case atStart => exact ⟨0, Nat.zero_le _, rfl, rfl, Below.refl _ _⟩
    case round =>
      obtain ⟨k, hk, rfl, ht, hbr⟩ := hrel
      have HT := Lib.hid ht
      have HB := Lib.hid hbr
      have HXr := Lib.hid (FlatAt.below HX.out hbr (Nat.le_refl _))
      have HYr := Lib.hid (FlatAt.below HY.out hbr (Nat.le_refl _))
      clear ht hbr
      by_cases hlt : k < x.length
      · have hky : k < y.length := by have := HE.out; omega
        obtain ⟨b, o, rfl, _, hd⟩ := flatAt_cell cLink_len HXr.out k hlt (by decide)
        obtain ⟨b2, o2, rfl, _, hd2⟩ := flatAt_cell cLink_len HYr.out k hky (by decide)
        have d0 := hd 0 (by decide)
        have d1 := hd 1 (by decide)
        have d2 := hd 2 (by decide)
        have q0 := hd2 0 (by decide)
        have q1 := hd2 1 (by decide)
        have q2 := hd2 2 (by decide)
        clear hd hd2
        have HS := Lib.hid (take_eq_step x y HE.out k hlt HT.out)
        have HD := Lib.hid (show x[k] ≠ y[k] → ¬ x = y from fun h e => h (by subst e; rfl))
        have HC := Lib.hid (eqLink_any x[k] y[k])
        generalize x[k] = p at *
        generalize y[k] = q at *
        obtain ⟨a0, a1, a2⟩ := p
        obtain ⟨b0, b1, b2⟩ := q
        simp only [cLink, vLink, List.getElem?_cons_zero, List.getElem?_cons_succ, Nat.add_zero] at d0 q0 d1 q1 d2 q2 HC
        go_wp2
        go_still_tail 8, (by kernel_rfl)
        have HB1 := Lib.hid (show Below w.heap.size w wr.drew from ⟨HB.out.os, HB.out.tape, HB.out.output, HB.out.size, HB.out.block⟩)
        change wpList _ _ _ _ _ wr.drew
        generalize wr.drew = w1 at *
        go_wp2_with fail
        refine (HC.out _).mono ?_
        rintro e w2 ⟨rfl, hb0⟩
        have HB2 := Lib.hid (HB1.out.trans (hb0.mono HB1.out.size))
        clear hb0
        by_cases heq : (⟨a0, a1, a2⟩ : LinkD) = (⟨b0, b1, b2⟩ : LinkD)
        · have HN := Lib.hid (HS.out heq)
          rw [show decide ((⟨a0, a1, a2⟩ : LinkD) = (⟨b0, b1, b2⟩ : LinkD)) = true by simpa using heq]
          clear heq
          go_wp2_with fail
          exact ⟨⟨k + 1, by omega, by go_num, HN.out, HB2.out⟩, by simp [intOf]; omega⟩
        · have HN := Lib.hid (HD.out heq)
          rw [show decide ((⟨a0, a1, a2⟩ : LinkD) = (⟨b0, b1, b2⟩ : LinkD)) = false by rw [decide_eq_false_iff_not]; exact heq]
          clear heq
          go_wp2_with fail
          go_ret
          exact ⟨ret_bool (by simp [HN.out]), HB2.out⟩
      · have HN := Lib.hid (show x = y from by
          have h := HT.out
          rw [List.take_of_length_le (by omega), List.take_of_length_le (by have := HE.out; omega)] at h
          exact h)
        go_wp2
        go_ret
        exact ⟨ret_bool (by simp [HN.out]), HB.out⟩
  · have hb : ((x.length : Int) == y.length) = false := beq_eq_false_iff_ne.2 (by omega)
    have hbn : ((x.length : Int) != y.length) = true := by rw [bne_iff_ne]; omega
    have HN := Lib.hid (show ¬ x = y from fun e => he (by rw [e]))
    clear he
    go_enter Tryz.func29, Tryz.ntmps29
    go_wp2
    go_ret
    exact ⟨ret_bool (by simp [HN.out]), Below.refl _ _⟩
def zLink (d : LinkD) : Nat := d.fFrom.length + d.fTo.length
theorem infoLink : (Tryz.prog.info? 100).map (fun i => (i.zero, i.size, i.bytes)) = some (some (.agg #[.string ⟨#[]⟩, .string ⟨#[]⟩, .int .i64 0]), 3, 40) := by kernel_rfl
def marksLink (k : Int) (n : Nat) : List LinkD := (List.range n).map fun i : Nat => ⟨markL (k + i * 3), markL (k + i * 3 + 1), k + i * 3 + 1 + 1⟩
theorem marksLink_len (k : Int) (n : Nat) : (marksLink k n).length = n := by simp [marksLink]
theorem marksLink_get (k : Int) (n i : Nat) (h : i < n) : (marksLink k n)[i]'(by rw [marksLink_len]; exact h) = ⟨markL (k + i * 3), markL (k + i * 3 + 1), k + i * 3 + 1 + 1⟩ := by simp [marksLink]
set_option maxRecDepth 100000 in
set_option maxHeartbeats 1600000 in
theorem markLinkS_any (B : Nat) (v : Value) (x : List LinkD) (k : Int) (w : World) (hO : OwnsF cLink 100 3 w B v x) (hm : x.length ≤ 2097152) (h0 : 1 ≤ k) (h1 : k ≤ 16777216) :
    Calls Tryz.prog 32 #[v, .int .i64 k] w fun e w' => e = .returned (.int .i64 (k + x.length * 3)) ∧ OwnsF cLink 100 3 w' B v (marksLink k x.length) ∧ w.grownBy w' v.ownBlock := by
  unfold OwnsF at hO
  rcases hO.2 with ⟨rfl, hn⟩ | ⟨g, cap, cur, rfl, _⟩
  · have hx : x = [] := List.eq_nil_of_length_eq_zero hn
    subst hx
    go_enter Tryz.func32, Tryz.ntmps32
    go_wp2_with fail
    refine wp_loop_rounds 1 ?_
    rw [rounds_succ]
    go_wp2_with fail
    go_ret
    exact ⟨ret_int (by simp), by simpa [OwnsF, marksLink] using hO, grownBy_refl _ _⟩
  · have HO := Lib.hid (show ∃ xs, w.ownsRow B 100 3 (.slice (some ⟨g, 0, none⟩) x.length cap) x.length xs ∧ xs.take (0 * 3) = ((marksLink k x.length).flatMap cLink).take (0 * 3) from ⟨_, hO, by simp⟩)
    have hgw : g < w.heap.size := (hO.lt g rfl).2
    clear hO
    go_enter Tryz.func32, Tryz.ntmps32
    go_wp2_with fail
    go_loopw [1, 5] (fun kv i wr => ∃ j : Nat, j ≤ x.length ∧ i = .int .i64 j ∧ kv = .int .i64 (k + j * 3) ∧ (∃ xs, wr.ownsRow B 100 3 (.slice (some ⟨g, 0, none⟩) x.length cap) x.length xs ∧ xs.take (j * 3) = ((marksLink k x.length).flatMap cLink).take (j * 3)) ∧ w.grownBy wr (some g)) (fun _ i _ => x.length - (intOf i).toNat)
    case atStart => exact ⟨0, Nat.zero_le _, rfl, by simp, HO.out, grownBy_refl _ _⟩
    case round =>
      obtain ⟨j, hj, rfl, rfl, ⟨xs, hown, htake⟩, hg⟩ := hrel
      have HG := Lib.hid hg
      have HOw := Lib.hid hown
      have HT := Lib.hid htake
      have HXL := Lib.hid (show xs.length = x.length * 3 from hown.1)
      clear hg hown htake
      by_cases hlt : j < x.length
      · have G0 := Lib.hid (flat_get cLink 3 cLink_len (marksLink k x.length) j (by rw [marksLink_len]; exact hlt) 0 (by decide))
        have G1 := Lib.hid (flat_get cLink 3 cLink_len (marksLink k x.length) j (by rw [marksLink_len]; exact hlt) 1 (by decide))
        have G2 := Lib.hid (flat_get cLink 3 cLink_len (marksLink k x.length) j (by rw [marksLink_len]; exact hlt) 2 (by decide))
        rw [marksLink_get k _ j hlt] at G0 G1 G2
        simp only [cLink, List.getElem?_cons_zero, List.getElem?_cons_succ, Nat.add_zero] at G0 G1 G2
        go_wp2_with fail
        refine (markText_any (k + j * 3) _ (by omega) (by omega)).mono ?_
        rintro e w1 ⟨rfl, hb⟩
        have HO1 := Lib.hid (ownsRow_below HOw.out hb (Nat.le_refl _))
        have HG1 := Lib.hid (grownBy_below (HG.out) hb (HG.out).size)
        clear hb
        obtain ⟨u0, c0⟩ : ∃ u, w1.cell? ⟨g, j * 3, none⟩ = some u := by
          rw [World.ownsRow.cellAt HO1.out (j * 3) (by omega), List.getElem?_eq_getElem (by have := HXL.out; (try simp only [List.length_set]); omega)]
          exact ⟨_, rfl⟩
        have f0 := World.ownsRow.frozenAt HO1.out (j * 3)
        have HS0 := Lib.hid (World.ownsRow.stored HO1.out (j * 3) (.string ⟨(markL (k + j * 3)).toArray⟩))
        have HT0 := Lib.hid (take_set_get _ _ (j * 3) _ (by have := HXL.out; (try simp only [List.length_set]); omega) G0.out HT.out)
        go_wp2_with fail
        refine (markText_any (k + j * 3 + 1) _ (by omega) (by omega)).mono ?_
        rintro e w2 ⟨rfl, hb⟩
        have HO2 := Lib.hid (ownsRow_below HS0.out.1 hb (Nat.le_refl _))
        have HG2 := Lib.hid (grownBy_below ((grownBy_trans HG1.out HS0.out.2)) hb ((grownBy_trans HG1.out HS0.out.2)).size)
        clear hb
        obtain ⟨u1, c1⟩ : ∃ u, w2.cell? ⟨g, j * 3 + 1, none⟩ = some u := by
          rw [World.ownsRow.cellAt HO2.out (j * 3 + 1) (by omega), List.getElem?_eq_getElem (by have := HXL.out; (try simp only [List.length_set]); omega)]
          exact ⟨_, rfl⟩
        have f1 := World.ownsRow.frozenAt HO2.out (j * 3 + 1)
        obtain ⟨u2, c2⟩ : ∃ u, w2.cell? ⟨g, j * 3 + 2, none⟩ = some u := by
          rw [World.ownsRow.cellAt HO2.out (j * 3 + 2) (by omega), List.getElem?_eq_getElem (by have := HXL.out; (try simp only [List.length_set]); omega)]
          exact ⟨_, rfl⟩
        have f2 := World.ownsRow.frozenAt HO2.out (j * 3 + 2)
        have HS1 := Lib.hid (World.ownsRow.stored HO2.out (j * 3 + 1) (.string ⟨(markL (k + j * 3 + 1)).toArray⟩))
        have HT1 := Lib.hid (take_set_get _ _ (j * 3 + 1) _ (by have := HXL.out; (try simp only [List.length_set]); omega) G1.out HT0.out)
        have HS2 := Lib.hid (World.ownsRow.stored HS1.out.1 (j * 3 + 2) (.int .i64 (k + j * 3 + 1 + 1)))
        have HT2 := Lib.hid (take_set_get _ _ (j * 3 + 2) _ (by have := HXL.out; (try simp only [List.length_set]); omega) G2.out HT1.out)
        go_wp2_with fail
        refine ⟨⟨j + 1, by omega, by go_num, ?_, ⟨_, HS2.out.1, by rw [show (j + 1) * 3 = j * 3 + 2 + 1 by omega]; exact HT2.out⟩, ?_⟩, by simp [intOf]; omega⟩
        · congr 1; push_cast; omega
        · exact (grownBy_trans (grownBy_trans HG2.out HS1.out.2) HS2.out.2)
      · have HN := Lib.hid (show xs = (marksLink k x.length).flatMap cLink from by
          have h := HT.out
          rw [List.take_of_length_le (by have := HXL.out; omega), List.take_of_length_le (by rw [flat_len cLink 3 cLink_len, marksLink_len]; omega)] at h
          exact h)
        go_wp2_with fail
        go_ret
        exact ⟨ret_int (by rw [show j = x.length by omega]), by have h := HOw.out; rw [HN.out] at h; unfold OwnsF; rw [marksLink_len]; exact h, HG.out⟩
set_option maxRecDepth 100000 in
set_option maxHeartbeats 1600000 in
theorem heldLinkS_any (v : Value) (n : Nat) (k : Int) (w : World) (hR : FlatAt cLink 3 w v (marksLink k n)) (hm : n ≤ 2097152) (h0 : 1 ≤ k) (h1 : k ≤ 16777216) :
    Calls Tryz.prog 33 #[v, .int .i64 k] w fun e w' => e = .returned (.int .i64 (k + n * 3)) ∧ Below w.heap.size w w' := by
  obtain ⟨a, c, rfl, hl⟩ := flatAt_len hR
  rw [marksLink_len] at *
  have HR := Lib.hid hR
  clear hR
  unfold maxLen at hl
  go_enter Tryz.func33, Tryz.ntmps33
  go_wp2_with fail
  go_loopw [1, 5] (fun kv i wr => ∃ j : Nat, j ≤ n ∧ i = .int .i64 j ∧ kv = .int .i64 (k + j * 3) ∧ Below w.heap.size w wr) (fun _ i _ => n - (intOf i).toNat)
  case atStart => exact ⟨0, Nat.zero_le _, rfl, by simp, Below.refl _ _⟩
  case round =>
    obtain ⟨j, hj, rfl, rfl, hb⟩ := hrel
    have HB := Lib.hid hb
    have HRr := Lib.hid (FlatAt.below HR.out hb (Nat.le_refl _))
    clear hb
    by_cases hlt : j < n
    · obtain ⟨b, o, rfl, hbw, hd⟩ := flatAt_cell cLink_len HRr.out j (by rw [marksLink_len]; exact hlt) (by decide)
      rw [marksLink_get k n j hlt] at hd
      have d0 := hd 0 (by decide)
      have d1 := hd 1 (by decide)
      have d2 := hd 2 (by decide)
      clear hd
      simp only [cLink, List.getElem?_cons_zero, List.getElem?_cons_succ, Nat.add_zero] at d0 d1 d2
      have hj0 : (0 : Int) ≤ (j : Int) := Int.natCast_nonneg _
      have hj1 : (j : Int) < (n : Int) := by omega
      have D0 := Lib.hid d0
      have D1 := Lib.hid d1
      have D2 := Lib.hid d2
      clear d0 d1 d2
      have HBL := Lib.hid hbw
      have d0 := D0.out
      have hbeq0 : (markL (k + j * 3) == markL (k + j * 3)) = true := by simp
      go_wp2_with fail
      go_region_held3 (fun w' => w'.cell? ⟨b, o + j * 3, none⟩ = some (.string ⟨(markL (k + j * 3)).toArray⟩))
        (first
          | go_keep
          | (rw [hb1.cell (p := ⟨b, o + j * 3, none⟩) (by simpa using hbw)]; assumption))
        ((go_at_call 63; refine (markText_any (k + j * 3) _ (by omega) (by omega)).mono ?_; rintro e w1 ⟨rfl, hb1⟩))
      have hB1 : Below wr.heap.size wr w1 := ⟨hb1.os, hb1.tape, hb1.output, hb1.size, hb1.block⟩
      have HB1 := Lib.hid (HB.out.trans (hB1.mono HB.out.size))
      have E1_1 := Lib.hid (show w1.cell? ⟨b, o + j * 3 + 1, none⟩ = some (.string ⟨(markL (k + j * 3 + 1)).toArray⟩) by rw [hB1.cell (p := ⟨b, o + j * 3 + 1, none⟩) hbw]; exact D1.out)
      have E1_2 := Lib.hid (show w1.cell? ⟨b, o + j * 3 + 2, none⟩ = some (.int .i64 (k + j * 3 + 1 + 1)) by rw [hB1.cell (p := ⟨b, o + j * 3 + 2, none⟩) hbw]; exact D2.out)
      have hbw1 : b < w1.heap.size := Nat.lt_of_lt_of_le hbw hB1.size
      clear hb1 hB1
      have hbw := hbw1
      have d1 := E1_1.out
      have hbeq1 : (markL (k + j * 3 + 1) == markL (k + j * 3 + 1)) = true := by simp
      go_wp2_with fail
      go_region_held3 (fun w' => w'.cell? ⟨b, o + j * 3 + 1, none⟩ = some (.string ⟨(markL (k + j * 3 + 1)).toArray⟩))
        (first
          | go_keep
          | (rw [hb1.cell (p := ⟨b, o + j * 3 + 1, none⟩) (by simpa using hbw)]; assumption))
        ((go_at_call 63; refine (markText_any (k + j * 3 + 1) _ (by omega) (by omega)).mono ?_; rintro e w2 ⟨rfl, hb1⟩))
      have hB2 : Below w1.heap.size w1 w2 := ⟨hb1.os, hb1.tape, hb1.output, hb1.size, hb1.block⟩
      have HB2 := Lib.hid (HB1.out.trans (hB2.mono HB1.out.size))
      have E2_2 := Lib.hid (show w2.cell? ⟨b, o + j * 3 + 2, none⟩ = some (.int .i64 (k + j * 3 + 1 + 1)) by rw [hB2.cell (p := ⟨b, o + j * 3 + 2, none⟩) hbw]; exact E1_2.out)
      have hbw2 : b < w2.heap.size := Nat.lt_of_lt_of_le hbw hB2.size
      clear hb1 hB2
      have hbw := hbw2
      have d2 := E2_2.out
      go_wp2_with fail
      exact ⟨⟨j + 1, by omega, by go_num, by congr 1; push_cast; omega, HB2.out⟩, by simp [intOf]; omega⟩
    · go_wp2_with fail
      go_ret
      exact ⟨ret_int (by rw [show j = n by omega]), HB.out⟩
end Go.Proofs.YteeopjcbpngofaaGreat
/- What is reached by links, plain: depth first with a list of what was reached, breadth first with a queue. -/
namespace Go.Proofs.YteeopjcbpngofaaGreat
set_option linter.unusedVariables false
abbrev Nm := List UInt8
abbrev Edges := List (Nm × Nm)
def nxt (E : Edges) (a : Nm) : List Nm := (E.filter fun e => e.1 == a).map (·.2)
theorem mem_nxt {E : Edges} {a b : Nm} : b ∈ nxt E a ↔ (a, b) ∈ E := by
  unfold nxt
  simp only [List.mem_map, List.mem_filter, beq_iff_eq]
  constructor
  · rintro ⟨⟨x, y⟩, ⟨h1, h2⟩, h3⟩
    simp only at h2 h3; subst h2; subst h3; exact h1
  · intro h; exact ⟨(a, b), ⟨h, rfl⟩, rfl⟩
inductive Rch (E : Edges) (a : Nm) : Nm → Prop
  | one {b : Nm} : (a, b) ∈ E → Rch E a b
  | more {b c : Nm} : Rch E a b → (b, c) ∈ E → Rch E a c
theorem Rch.head {E : Edges} {a b c : Nm} (h : (a, b) ∈ E) (k : Rch E b c) : Rch E a c := by
  induction k with
  | one e => exact .more (.one h) e
  | more _ e ih => exact .more ih e
theorem Rch.trans {E : Edges} {a b c : Nm} (h : Rch E a b) (k : Rch E b c) : Rch E a c := by
  induction k with
  | one e => exact .more h e
  | more _ e ih => exact .more ih e
theorem Rch.target {E : Edges} {a b : Nm} (h : Rch E a b) : b ∈ E.map (·.2) := by
  cases h with
  | one e => exact List.mem_map.2 ⟨_, e, rfl⟩
  | more _ e => exact List.mem_map.2 ⟨_, e, rfl⟩
/-- how many targets are not yet in a list -/
def lack (E : Edges) (r : List Nm) : Nat := ((ascL (E.map (·.2))).filter fun x => decide (x ∉ r)).length
theorem filter_lt {α : Type} {p q : α → Bool} (l : List α) (h : ∀ x ∈ l, q x = true → p x = true) (x : α) (hx : x ∈ l) (h1 : p x = true) (h2 : q x = false) : (l.filter q).length < (l.filter p).length := by
  induction l with
  | nil => cases hx
  | cons y r ih =>
    have hle : ∀ (l : List α), (∀ x ∈ l, q x = true → p x = true) → (l.filter q).length ≤ (l.filter p).length := by
      intro l h
      induction l with
      | nil => exact Nat.le_refl _
      | cons z t iht =>
        have := iht fun x hx => h x (List.mem_cons_of_mem _ hx)
        simp only [List.filter_cons]
        cases hq : q z with
        | true => rw [h z (List.mem_cons_self ..) hq]; simpa using this
        | false => cases p z <;> simp <;> omega
    simp only [List.filter_cons]
    rcases List.mem_cons.1 hx with rfl | hx
    · rw [h1, h2]
      have := hle r fun x hx => h x (List.mem_cons_of_mem _ hx)
      simp; omega
    · have := ih (fun x hx => h x (List.mem_cons_of_mem _ hx)) hx
      cases hq : q y with
      | true => rw [h y (List.mem_cons_self ..) hq]; simpa using this
      | false => cases p y <;> simp <;> omega
theorem lack_lt {E : Edges} {r s : List Nm} {a b : Nm} (h : ∀ x ∈ r, x ∈ s) (he : (a, b) ∈ E) (hb : b ∉ r) (hs : b ∈ s) : lack E s < lack E r := by
  unfold lack
  refine filter_lt _ (fun x _ hx => ?_) b ((asc_mem _ _).2 (List.mem_map.2 ⟨_, he, rfl⟩)) (by simpa using hb) (by simpa using hs)
  have h1 : x ∉ s := by simpa using hx
  have : x ∉ r := fun h2 => h1 (h x h2)
  simpa using this
theorem lack_le {E : Edges} {r s : List Nm} (h : ∀ x ∈ r, x ∈ s) : lack E s ≤ lack E r := by
  unfold lack
  generalize ascL (E.map (·.2)) = l
  induction l with
  | nil => exact Nat.le_refl _
  | cons z t iht =>
    simp only [List.filter_cons]
    by_cases hz : z ∈ r
    · have h1 : decide (z ∉ r) = false := by simpa using hz
      have h2 : decide (z ∉ s) = false := by simpa using h z hz
      rw [h1, h2]; simpa using iht
    · have h1 : decide (z ∉ r) = true := by simpa using hz
      rw [h1, if_pos rfl]
      by_cases hs : z ∈ s
      · have h2 : decide (z ∉ s) = false := by simpa using hs
        rw [h2, if_neg (by decide), List.length_cons]; exact Nat.le_succ_of_le iht
      · have h2 : decide (z ∉ s) = true := by simpa using hs
        rw [h2, if_pos rfl, List.length_cons, List.length_cons]; exact Nat.succ_le_succ iht
/-- depth first -/
def dfs (E : Edges) : Nat → Nm → List Nm → List Nm
  | 0, _, acc => acc
  | f + 1, a, acc => (nxt E a).foldl (fun r b => if b ∈ r then r else dfs E f b (r ++ [b])) acc
/-- what holds behind a list of targets -/
structure DfsOk (E : Edges) (a : Nm) (acc r : List Nm) : Prop where
  sub : ∀ x ∈ acc, x ∈ r
  cl : ∀ b ∈ r, b ∉ acc → ∀ c, (b, c) ∈ E → c ∈ r
  rch : ∀ b ∈ r, b ∉ acc → Rch E a b
theorem dfs_fold (E : Edges) (f : Nat) (a : Nm) (acc : List Nm)
    (ih : ∀ b r, (a, b) ∈ E → (∀ x ∈ acc, x ∈ r) → b ∉ r → DfsOk E b (r ++ [b]) (dfs E f b (r ++ [b])) ∧ ∀ c, (b, c) ∈ E → c ∈ dfs E f b (r ++ [b])) :
    ∀ (l : List Nm) (r : List Nm), (∀ b ∈ l, (a, b) ∈ E) → DfsOk E a acc r →
      DfsOk E a acc (l.foldl (fun r b => if b ∈ r then r else dfs E f b (r ++ [b])) r) ∧ (∀ x ∈ r, x ∈ l.foldl (fun r b => if b ∈ r then r else dfs E f b (r ++ [b])) r) ∧ ∀ b ∈ l, b ∈ l.foldl (fun r b => if b ∈ r then r else dfs E f b (r ++ [b])) r := by
  intro l
  induction l with
  | nil => intro r _ h; exact ⟨h, fun x hx => hx, fun b hb => by cases hb⟩
  | cons y t iht =>
    intro r hl h
    have hy := hl y (List.mem_cons_self ..)
    rw [List.foldl_cons]
    by_cases hm : y ∈ r
    · rw [if_pos hm]
      obtain ⟨k1, k2, k3⟩ := iht r (fun b hb => hl b (List.mem_cons_of_mem _ hb)) h
      refine ⟨k1, k2, fun b hb => ?_⟩
      rcases List.mem_cons.1 hb with rfl | hb
      · exact k2 _ hm
      · exact k3 b hb
    · rw [if_neg hm]
      obtain ⟨d1, d2⟩ := ih y r hy h.sub hm
      have hsub : ∀ x ∈ r, x ∈ dfs E f y (r ++ [y]) := fun x hx => d1.sub x (List.mem_append.2 (Or.inl hx))
      have hyin : y ∈ dfs E f y (r ++ [y]) := d1.sub y (List.mem_append.2 (Or.inr (List.mem_singleton.2 rfl)))
      have hnew : DfsOk E a acc (dfs E f y (r ++ [y])) := by
        refine ⟨fun x hx => hsub x (h.sub x hx), fun b hb hba c hc => ?_, fun b hb hba => ?_⟩
        · by_cases h1 : b ∈ r
          · exact hsub c (h.cl b h1 hba c hc)
          · by_cases h2 : b = y
            · subst h2; exact d2 c hc
            · exact d1.cl b hb (fun h3 => by rcases List.mem_append.1 h3 with h3 | h3; exact h1 h3; exact h2 (List.mem_singleton.1 h3)) c hc
        · by_cases h1 : b ∈ r
          · exact h.rch b h1 hba
          · by_cases h2 : b = y
            · subst h2; exact .one hy
            · exact Rch.head hy (d1.rch b hb (fun h3 => by rcases List.mem_append.1 h3 with h3 | h3; exact h1 h3; exact h2 (List.mem_singleton.1 h3)))
      obtain ⟨k1, k2, k3⟩ := iht _ (fun b hb => hl b (List.mem_cons_of_mem _ hb)) hnew
      refine ⟨k1, fun x hx => k2 x (hsub x hx), fun b hb => ?_⟩
      rcases List.mem_cons.1 hb with rfl | hb
      · exact k2 _ hyin
      · exact k3 b hb
theorem dfs_ok (E : Edges) : ∀ (f : Nat) (a : Nm) (acc : List Nm), lack E acc < f → DfsOk E a acc (dfs E f a acc) ∧ ∀ c, (a, c) ∈ E → c ∈ dfs E f a acc := by
  intro f
  induction f with
  | zero => intro a acc h; omega
  | succ f ih =>
    intro a acc hf
    have h0 : DfsOk E a acc acc := ⟨fun x hx => hx, fun b hb hba => absurd hb hba, fun b hb hba => absurd hb hba⟩
    obtain ⟨k1, _, k3⟩ := dfs_fold E f a acc (fun b r hb hr hbr => ih b (r ++ [b]) (by
      have h1 := lack_lt (E := E) (r := r) (s := r ++ [b]) (fun x hx => List.mem_append.2 (Or.inl hx)) hb hbr (by simp)
      have h2 := lack_le (E := E) hr
      omega)) (nxt E a) acc (fun b hb => mem_nxt.1 hb) h0
    exact ⟨k1, fun c hc => k3 c (mem_nxt.2 hc)⟩
/-- how much fuel there is does not matter, if there is enough -/
theorem dfs_fuel (E : Edges) : ∀ (f g : Nat) (a : Nm) (acc : List Nm), lack E acc < f → lack E acc < g → dfs E f a acc = dfs E g a acc := by
  intro f
  induction f with
  | zero => intro g a acc h; omega
  | succ f ih =>
    intro g a acc hf hg
    obtain ⟨g, rfl⟩ : ∃ k, g = k + 1 := ⟨g - 1, by omega⟩
    show (nxt E a).foldl _ acc = (nxt E a).foldl _ acc
    have key : ∀ (l : List Nm) (r : List Nm), (∀ b ∈ l, (a, b) ∈ E) → (∀ x ∈ acc, x ∈ r) →
        l.foldl (fun r b => if b ∈ r then r else dfs E f b (r ++ [b])) r = l.foldl (fun r b => if b ∈ r then r else dfs E g b (r ++ [b])) r := by
      intro l
      induction l with
      | nil => intro r _ _; rfl
      | cons y t iht =>
        intro r hl hr
        rw [List.foldl_cons, List.foldl_cons]
        by_cases hm : y ∈ r
        · rw [if_pos hm, if_pos hm]; exact iht r (fun b hb => hl b (List.mem_cons_of_mem _ hb)) hr
        · rw [if_neg hm, if_neg hm]
          have hy := hl y (List.mem_cons_self ..)
          have h1 := lack_lt (E := E) (r := r) (s := r ++ [y]) (fun x hx => List.mem_append.2 (Or.inl hx)) hy hm (by simp)
          have h2 := lack_le (E := E) hr
          rw [ih g y (r ++ [y]) (by omega) (by omega)]
          refine iht _ (fun b hb => hl b (List.mem_cons_of_mem _ hb)) fun x hx => ?_
          exact (dfs_ok E g y (r ++ [y]) (by omega)).1.sub x (List.mem_append.2 (Or.inl (hr x hx)))
    exact key _ _ (fun b hb => mem_nxt.1 hb) fun x hx => hx
/-- all that is reached from a name, in ascending order -/
def reachL (E : Edges) (a : Nm) : List Nm := ascL (dfs E (lack E [] + 1) a [])
theorem dfs_mem (E : Edges) (a x : Nm) : x ∈ dfs E (lack E [] + 1) a [] ↔ Rch E a x := by
  obtain ⟨h1, h2⟩ := dfs_ok E (lack E [] + 1) a [] (by omega)
  constructor
  · intro h; exact h1.rch x h (by simp)
  · intro h
    induction h with
    | one e => exact h2 _ e
    | more _ e ih => exact h1.cl _ ih (by simp) _ e
theorem mem_reachL (E : Edges) (a x : Nm) : x ∈ reachL E a ↔ Rch E a x := (asc_mem _ _).trans (dfs_mem E a x)
theorem reachL_strict (E : Edges) (a : Nm) : Strict (reachL E a) := asc_strict _
/-- breadth first, between two of the queue -/
structure BfsOk (E : Edges) (a : Nm) (seen nx : List Nm) : Prop where
  st : Strict seen
  rch : ∀ x ∈ seen, Rch E a x
  q : ∀ x ∈ nx, x = a ∨ x ∈ seen
  cl : ∀ x, (x = a ∨ x ∈ seen) → x ∉ nx → ∀ c, (x, c) ∈ E → c ∈ seen
theorem bfs_0 (E : Edges) (a : Nm) : BfsOk E a [] [a] :=
  ⟨List.Pairwise.nil, fun x hx => (by cases hx), fun x hx => Or.inl (List.mem_singleton.1 hx), fun x hx hn => by
    rcases hx with rfl | hx
    · exact absurd (List.mem_singleton.2 rfl) hn
    · cases hx⟩
/-- while the links of `at` are gone through: those of the first k -/
structure BfsIn (E : Edges) (a t : Nm) (k : Nat) (seen nx : List Nm) : Prop where
  st : Strict seen
  rch : ∀ x ∈ seen, Rch E a x
  q : ∀ x ∈ nx, x = a ∨ x ∈ seen
  cl : ∀ x, (x = a ∨ x ∈ seen) → x ∉ nx → x ≠ t → ∀ c, (x, c) ∈ E → c ∈ seen
  at_ : t = a ∨ t ∈ seen
  done : ∀ c, (t, c) ∈ E.take k → c ∈ seen
theorem bfsIn_0 {E : Edges} {a t : Nm} {seen nx : List Nm} (h : BfsOk E a seen (t :: nx)) : BfsIn E a t 0 seen nx :=
  ⟨h.st, h.rch, fun x hx => h.q x (List.mem_cons_of_mem _ hx), fun x hx hn ht => h.cl x hx (fun h2 => by rcases List.mem_cons.1 h2 with h3 | h3; exact ht h3; exact hn h3), h.q t (List.mem_cons_self ..), fun c hc => by simp at hc⟩
theorem bfsIn_skip {E : Edges} {a t : Nm} {k : Nat} {seen nx : List Nm} (h : BfsIn E a t k seen nx) (hk : k < E.length) (hn : E[k].1 ≠ t ∨ E[k].2 ∈ seen) : BfsIn E a t (k + 1) seen nx :=
  ⟨h.st, h.rch, h.q, h.cl, h.at_, fun c hc => by
    rw [List.take_succ_eq_append_getElem hk] at hc
    rcases List.mem_append.1 hc with h1 | h1
    · exact h.done c h1
    · have e := List.mem_singleton.1 h1
      rcases hn with h2 | h2
      · rw [← e] at h2; exact absurd rfl h2
      · rw [← e] at h2; exact h2⟩
theorem bfsIn_add {E : Edges} {a t : Nm} {k : Nat} {seen nx : List Nm} (h : BfsIn E a t k seen nx) (hk : k < E.length) (hn : E[k].1 = t) (hs : E[k].2 ∉ seen) : BfsIn E a t (k + 1) (ins E[k].2 seen) (nx ++ [E[k].2]) := by
  have hmem := mem_ins E[k].2 seen
  have he : (t, E[k].2) ∈ E := by have := List.getElem_mem hk; rw [← hn]; exact this
  have hr : Rch E a E[k].2 := by
    rcases h.at_ with h1 | h1
    · rw [← h1]; exact .one he
    · exact .more (h.rch t h1) he
  refine ⟨strict_ins _ _ h.st, fun x hx => ?_, fun x hx => ?_, fun x hx hn2 ht c hc => ?_, ?_, fun c hc => ?_⟩
  · rcases (hmem x).1 hx with rfl | h1
    · exact hr
    · exact h.rch x h1
  · rcases List.mem_append.1 hx with h1 | h1
    · rcases h.q x h1 with h2 | h2
      · exact Or.inl h2
      · exact Or.inr ((hmem x).2 (Or.inr h2))
    · exact Or.inr ((hmem x).2 (Or.inl (List.mem_singleton.1 h1)))
  · have h1 : x ∉ nx := fun h2 => hn2 (List.mem_append.2 (Or.inl h2))
    have h2 : x ≠ E[k].2 := fun h2 => hn2 (List.mem_append.2 (Or.inr (List.mem_singleton.2 h2)))
    have h3 : x = a ∨ x ∈ seen := by
      rcases hx with h3 | h3
      · exact Or.inl h3
      · rcases (hmem x).1 h3 with h4 | h4
        · exact absurd h4 h2
        · exact Or.inr h4
    exact (hmem c).2 (Or.inr (h.cl x h3 h1 ht c hc))
  · rcases h.at_ with h1 | h1
    · exact Or.inl h1
    · exact Or.inr ((hmem t).2 (Or.inr h1))
  · rw [List.take_succ_eq_append_getElem hk] at hc
    rcases List.mem_append.1 hc with h1 | h1
    · exact (hmem c).2 (Or.inr (h.done c h1))
    · have e := List.mem_singleton.1 h1
      exact (hmem c).2 (Or.inl (by rw [← e]))
theorem bfsIn_end {E : Edges} {a t : Nm} {seen nx : List Nm} (h : BfsIn E a t E.length seen nx) : BfsOk E a seen nx :=
  ⟨h.st, h.rch, h.q, fun x hx hn c hc => by
    by_cases ht : x = t
    · subst ht; exact h.done c (by rw [List.take_length]; exact hc)
    · exact h.cl x hx hn ht c hc⟩
theorem bfs_end {E : Edges} {a : Nm} {seen : List Nm} (h : BfsOk E a seen []) : seen = reachL E a := by
  refine strict_unique h.st (reachL_strict E a) fun x => ?_
  rw [mem_reachL]
  constructor
  · exact h.rch x
  · intro hr
    induction hr with
    | one e => exact h.cl a (Or.inl rfl) (by simp) _ e
    | more _ e ih => exact h.cl _ (Or.inr ih) (by simp) _ e
/-- the links the other way round -/
def revE (E : Edges) : Edges := E.map fun e => (e.2, e.1)
theorem mem_revE {E : Edges} {a b : Nm} : (a, b) ∈ revE E ↔ (b, a) ∈ E := by
  unfold revE
  simp only [List.mem_map, Prod.mk.injEq]
  constructor
  · rintro ⟨⟨x, y⟩, h, h1, h2⟩
    simp only at h1 h2; subst h1; subst h2; exact h
  · intro h; exact ⟨(b, a), h, rfl, rfl⟩
theorem rch_rev {E : Edges} {a b : Nm} (h : Rch E a b) : Rch (revE E) b a := by
  induction h with
  | one e => exact .one (mem_revE.2 e)
  | more _ e ih => exact Rch.head (mem_revE.2 e) ih
theorem revE_revE (E : Edges) : revE (revE E) = E := by unfold revE; simp [List.map_map, Function.comp_def]
theorem rch_rev_iff {E : Edges} {a b : Nm} : Rch (revE E) b a ↔ Rch E a b := ⟨fun h => by have := rch_rev h; rwa [revE_revE] at this, rch_rev⟩
theorem Rch.source {E : Edges} {a b : Nm} (h : Rch E a b) : a ∈ E.map (·.1) := by
  have := (rch_rev h).target
  unfold revE at this
  simpa [List.map_map, Function.comp_def] using this
/-- who needs a name: by way of each, and backwards -/
theorem needers_eq {E : Edges} {a : Nm} {l : List Nm} (hl : ∀ e ∈ E, e.1 ∈ l) (hs : Strict l) : (l.filter fun x => decide (a ∈ reachL E x)) = reachL (revE E) a := by
  refine strict_unique (List.Pairwise.filter _ hs) (reachL_strict _ _) fun x => ?_
  rw [List.mem_filter, decide_eq_true_iff, mem_reachL, mem_reachL, rch_rev_iff]
  exact ⟨fun h => h.2, fun h => ⟨by
    have := h.source
    obtain ⟨e, he, h2⟩ := List.mem_map.1 this
    rw [← h2]; exact hl e he, h⟩⟩
/-- the order of a start: each time the first one that is ready -/
def ordGo (l : List Nm) (rd : List Nm → Nm → Bool) : Nat → List Nm → List Nm
  | 0, out => out
  | f + 1, out => match l.find? (rd out) with
    | none => out
    | some x => ordGo l rd f (out ++ [x])
theorem ordGo_stop {l : List Nm} {rd : List Nm → Nm → Bool} {f : Nat} {out : List Nm} (h : l.find? (rd out) = none) : ordGo l rd f out = out := by
  cases f with
  | zero => rfl
  | succ f => show (match l.find? (rd out) with | none => out | some x => ordGo l rd f (out ++ [x])) = out; rw [h]
theorem ordGo_next {l : List Nm} {rd : List Nm → Nm → Bool} {f : Nat} {out : List Nm} {x : Nm} (h : l.find? (rd out) = some x) : ordGo l rd (f + 1) out = ordGo l rd f (out ++ [x]) := by
  show (match l.find? (rd out) with | none => out | some x => ordGo l rd f (out ++ [x])) = _
  rw [h]
end Go.Proofs.YteeopjcbpngofaaGreat
/- Links in plain words. -/
namespace Go.Proofs.YteeopjcbpngofaaGreat
set_option linter.unusedVariables false
set_option linter.unusedSimpArgs false
open Go.RowKit
/-- the link of a need, if there is one -/
def lnkN (l : List EntryD) (x : EntryD) (d : NeedD) : List LinkD := if provL l x.fName d = [] then [] else [⟨x.fName, provL l x.fName d, d.fFace⟩]
def lnkE (l : List EntryD) (x : EntryD) : List LinkD := x.fNeeds.flatMap (lnkN l x)
def lnkA (l : List EntryD) : List LinkD := l.flatMap (lnkE l)
def lnkL (l : List EntryD) : List LinkD := if regB l = true then lnkA l else []
/-- those from a name -/
def frm (L : List LinkD) (s : Nm) : List LinkD := L.filter fun x => x.fFrom == s
def edg (L : List LinkD) : Edges := L.map fun x => (x.fFrom, x.fTo)
theorem frm_nil (s : Nm) : frm [] s = [] := rfl
theorem frm_append (L M : List LinkD) (s : Nm) : frm (L ++ M) s = frm L s ++ frm M s := List.filter_append ..
theorem frm_snoc_same (L : List LinkD) (x : LinkD) : frm (L ++ [x]) x.fFrom = frm L x.fFrom ++ [x] := by simp [frm]
theorem frm_snoc_ne (L : List LinkD) (x : LinkD) (s : Nm) (h : s ≠ x.fFrom) : frm (L ++ [x]) s = frm L s := by
  have : (x.fFrom == s) = false := by simp; exact fun e => h e.symm
  simp [frm, this]
theorem lnkN_from {l : List EntryD} {x : EntryD} {d : NeedD} {k : LinkD} (h : k ∈ lnkN l x d) : k.fFrom = x.fName := by
  unfold lnkN at h
  split at h
  · cases h
  · rw [List.mem_singleton.1 h]
theorem lnkE_from {l : List EntryD} {x : EntryD} {k : LinkD} (h : k ∈ lnkE l x) : k.fFrom = x.fName := by
  obtain ⟨d, _, hd⟩ := List.mem_flatMap.1 h
  exact lnkN_from hd
theorem nxt_edg (L : List LinkD) (s : Nm) : nxt (edg L) s = (frm L s).map (·.fTo) := by
  unfold nxt edg frm
  induction L with
  | nil => rfl
  | cons x r ih =>
    simp only [List.map_cons, List.filter_cons]
    by_cases h : x.fFrom == s
    · rw [if_pos h, if_pos h, List.map_cons, List.map_cons, ih]
    · rw [if_neg h, if_neg h, ih]
/-- names in ascending order -/
def ups (l : List EntryD) : Prop := Strict (l.map (·.fName))
theorem regGo_ups : ∀ (l : List EntryD) (p : Option Nm), regGo p l = true → (∀ a, p = some a → ∀ e ∈ l, a < e.fName) ∧ ups l := by
  intro l
  induction l with
  | nil => intro p _; exact ⟨fun a _ e he => (by cases he), List.Pairwise.nil⟩
  | cons x r ih =>
    intro p h
    unfold regGo at h
    simp only [Bool.and_eq_true] at h
    obtain ⟨⟨h1, h2⟩, h3⟩ := h
    obtain ⟨k1, k2⟩ := ih _ h3
    refine ⟨fun a ha e he => ?_, ?_⟩
    · subst ha
      have hx : a < x.fName := by simpa [ltO] using h2
      rcases List.mem_cons.1 he with rfl | he
      · exact hx
      · exact List.lt_trans hx (k1 _ rfl e he)
    · unfold ups
      rw [List.map_cons]
      refine List.Pairwise.cons (fun b hb => ?_) k2
      obtain ⟨e, he, rfl⟩ := List.mem_map.1 hb
      exact k1 _ rfl e he
theorem reg_ups {l : List EntryD} (h : regB l = true) : ups l := by
  unfold regB at h
  simp only [Bool.and_eq_true] at h
  exact (regGo_ups l none h.1).2
theorem regGo_entry : ∀ (l : List EntryD) (p : Option Nm), regGo p l = true → ∀ e ∈ l, entryB e = true := by
  intro l
  induction l with
  | nil => intro p _ e he; cases he
  | cons x r ih =>
    intro p h e he
    unfold regGo at h
    simp only [Bool.and_eq_true] at h
    rcases List.mem_cons.1 he with rfl | he
    · exact h.1.1
    · exact ih _ h.2 e he
theorem reg_entry {l : List EntryD} (h : regB l = true) : ∀ e ∈ l, entryB e = true := by
  unfold regB at h
  simp only [Bool.and_eq_true] at h
  exact regGo_entry l none h.1
theorem reg_len {l : List EntryD} (h : regB l = true) : l.length ≤ 6 := by
  unfold regB at h
  simp only [Bool.and_eq_true, decide_eq_true_eq] at h
  exact h.2
theorem entry_needs {e : EntryD} (h : entryB e = true) : e.fNeeds.length ≤ 3 := by
  unfold entryB headB needsB at h
  simp only [Bool.and_eq_true, decide_eq_true_eq] at h
  exact h.1.2.1
theorem lnkN_len (l : List EntryD) (x : EntryD) (d : NeedD) : (lnkN l x d).length ≤ 1 := by unfold lnkN; split <;> simp
theorem flatMap_len {α β : Type} (f : α → List β) (m : Nat) : ∀ (l : List α), (∀ x ∈ l, (f x).length ≤ m) → (l.flatMap f).length ≤ l.length * m := by
  intro l
  induction l with
  | nil => intro _; simp
  | cons x r ih =>
    intro h
    have h1 := ih fun y hy => h y (List.mem_cons_of_mem _ hy)
    have h2 := h x (List.mem_cons_self ..)
    rw [List.flatMap_cons, List.length_append, List.length_cons, Nat.succ_mul]
    omega
theorem lnkE_len (l : List EntryD) (x : EntryD) : (lnkE l x).length ≤ x.fNeeds.length := by
  have := flatMap_len (lnkN l x) 1 x.fNeeds fun d _ => lnkN_len l x d
  unfold lnkE; omega
theorem lnkA_len {l : List EntryD} (h : regB l = true) : (lnkA l).length ≤ 18 := by
  have h1 := flatMap_len (lnkE l) 3 l fun x hx => Nat.le_trans (lnkE_len l x) (entry_needs (reg_entry h x hx))
  have := reg_len h
  unfold lnkA; omega
/-- the links of one name among all, where names stand once -/
theorem frm_flat (l : List EntryD) (f : EntryD → List LinkD) (hf : ∀ e, ∀ k ∈ f e, k.fFrom = e.fName) : ups l → ∀ x ∈ l, frm (l.flatMap f) x.fName = f x := by
  have hall : ∀ (e : EntryD), frm (f e) e.fName = f e := fun e => List.filter_eq_self.2 fun k hk => by simp [hf e k hk]
  have hnone : ∀ (r : List EntryD) (s : Nm), (∀ e ∈ r, e.fName ≠ s) → frm (r.flatMap f) s = [] := by
    intro r s h
    refine List.filter_eq_nil_iff.2 fun k hk => ?_
    obtain ⟨e, he, hk⟩ := List.mem_flatMap.1 hk
    simp only [beq_iff_eq]
    rw [hf e k hk]; exact h e he
  induction l with
  | nil => intro _ x hx; cases hx
  | cons y r ih =>
    intro hu x hx
    unfold ups at hu
    rw [List.map_cons] at hu
    obtain ⟨h1, h2⟩ := List.pairwise_cons.1 hu
    rw [List.flatMap_cons, frm_append]
    rcases List.mem_cons.1 hx with rfl | hx
    · rw [hall, hnone r x.fName fun e he h => absurd (h1 _ (List.mem_map.2 ⟨e, he, rfl⟩)) (by rw [h]; exact List.lt_irrefl _), List.append_nil]
    · have hne : y.fName ≠ x.fName := fun h => absurd (h1 _ (List.mem_map.2 ⟨x, hx, rfl⟩)) (by rw [h]; exact List.lt_irrefl _)
      have : frm (f y) x.fName = [] := List.filter_eq_nil_iff.2 fun k hk => by simp only [beq_iff_eq]; rw [hf y k hk]; exact hne
      rw [this, List.nil_append]
      exact ih h2 x hx
theorem frm_lnkA {l : List EntryD} (h : regB l = true) : ∀ x ∈ l, frm (lnkA l) x.fName = lnkE l x := frm_flat l (lnkE l) (fun _ _ hk => lnkE_from hk) (reg_ups h)
theorem flatMap_eq {α β : Type} {f g : α → List β} : ∀ {l : List α}, (∀ x ∈ l, f x = g x) → l.flatMap f = l.flatMap g := by
  intro l
  induction l with
  | nil => intro _; rfl
  | cons a r ih => intro h; rw [List.flatMap_cons, List.flatMap_cons, h a (List.mem_cons_self ..), ih fun x hx => h x (List.mem_cons_of_mem _ hx)]
theorem flatMap_frm {l : List EntryD} (h : regB l = true) : l.flatMap (fun x => frm (lnkA l) x.fName) = lnkA l := flatMap_eq fun x hx => frm_lnkA h x hx
end Go.Proofs.YteeopjcbpngofaaGreat
/- Contracts of chapter 6: Serves, the program's. Written by gen/ch6s.py. -/
namespace Go.Proofs.YteeopjcbpngofaaGreat
set_option linter.unusedVariables false
set_option linter.unusedSimpArgs false
open Go.RowKit
set_option maxRecDepth 100000 in
set_option maxHeartbeats 3200000 in
theorem implServes_any (v : Value) (x : EntryD) (d : NeedD) (w : World) (hx : ValAt rEntry 0 w v x) (hn : x.fName.length ≤ maxLen) (hk : ∀ d ∈ x.fNeeds, d.fFrom.length ≤ maxLen) (hr : ∀ s ∈ x.fRecipe, s.length ≤ 1048576) (hf : d.fFrom.length ≤ maxLen) :
    Calls Tryz.prog 157 #[v, vNeed d] w fun e w' => e = .returned (.bool (servesB x d)) ∧ Below w.heap.size w w' := by
  have HIN := Lib.hid (fun W => implIsNeed_any d W hf)
  have HME := Lib.hid (fun W => implMeets_any x.fVersion ⟨d.fMajor, d.fMinor⟩ W)
  have HFA := Lib.hid (fun cs W (h : rEntry 0 W cs x) => faceOfEntry_any (.agg cs.toArray) x W ⟨cs, rfl, h⟩ hn hk hr)
  have HOF := Lib.hid (fun W => implOffers_any (recI x.fRecipe) d.fFace W)
  have HEI := Lib.hid (@entryI_yes x)
  unfold servesB
  generalize needB d = nb at *
  generalize meetsB x.fVersion ⟨d.fMajor, d.fMinor⟩ = mb at *
  generalize entryB x = eb at *
  generalize entryI x = ei at *
  generalize recI x.fRecipe = ri at *
  generalize offersF ri d.fFace = ob at *
  obtain ⟨_, rfl, hx⟩ := hx
  have HX := Lib.hid (fun W (hb : Below w.heap.size w W) => goodEntry.keep hx (kept_below hb (Nat.le_refl _)))
  obtain ⟨a0, a1, ⟨a2, a3⟩, l⟩ := x
  obtain ⟨m0, m1, m2, m3⟩ := d
  obtain ⟨v1, v4, rfl, h1, h4⟩ := hx
  simp only at h1 h4 hk hn hr hf
  obtain ⟨ra, rc, rfl, _⟩ := sliceAt_len h1
  obtain ⟨sa, sc, rfl, hl⟩ := sliceAt_len h4
  have H1 := Lib.hid h1
  unfold maxLen at hl
  have BS := Lib.hid (bx_start2 w [.string ⟨a0.toArray⟩, .slice ra a1.length rc, .int .i64 a2, .int .i64 a3, .slice sa l.length sc] [.int .i64 m0, .string ⟨m1.toArray⟩, .int .i64 m2, .int .i64 m3] 95 97)
  have BX0 := Lib.hid BS.out.1
  have BN0 := Lib.hid BS.out.2.1
  have HB0 := Lib.hid BS.out.2.2
  clear h1 h4 hk hn hr hf BS
  simp only [vVersion, vNeed] at *
  cases nb
  · rw [show (eb && false && (decide (m1 = []) || m1 == a0) && ob && mb) = false by simp]
    go_enter Tryz.func157, Tryz.ntmps157
    have x0 := BX0.out.cell 0 (by simp)
    have x1 := BX0.out.cell 1 (by simp)
    have x2 := BX0.out.cell 2 (by simp)
    have x3 := BX0.out.cell 3 (by simp)
    have x4 := BX0.out.cell 4 (by simp)
    simp only [List.getElem_cons_zero, List.getElem_cons_succ] at x0 x1 x2 x3 x4
    have n0 := BN0.out.cell 0 (by simp)
    have n1 := BN0.out.cell 1 (by simp)
    have n2 := BN0.out.cell 2 (by simp)
    have n3 := BN0.out.cell 3 (by simp)
    simp only [List.getElem_cons_zero, List.getElem_cons_succ] at n0 n1 n2 n3
    go_wp2_with fail
    refine (HIN.out _).mono ?_
    rintro e w1 ⟨rfl, hb⟩
    have HB1 := Lib.hid (belS HB0.out hb)
    have BX1 := Lib.hid (BX0.out.below hb)
    have BN1 := Lib.hid (BN0.out.below hb)
    clear hb
    clear x0 x1 x2 x3 x4 n0 n1 n2 n3
    have x0 := BX1.out.cell 0 (by simp)
    have x1 := BX1.out.cell 1 (by simp)
    have x2 := BX1.out.cell 2 (by simp)
    have x3 := BX1.out.cell 3 (by simp)
    have x4 := BX1.out.cell 4 (by simp)
    simp only [List.getElem_cons_zero, List.getElem_cons_succ] at x0 x1 x2 x3 x4
    have n0 := BN1.out.cell 0 (by simp)
    have n1 := BN1.out.cell 1 (by simp)
    have n2 := BN1.out.cell 2 (by simp)
    have n3 := BN1.out.cell 3 (by simp)
    simp only [List.getElem_cons_zero, List.getElem_cons_succ] at n0 n1 n2 n3
    go_wp2_with fail
    go_ret
    exact ⟨rfl, HB1.out⟩
  cases m1 with
  | nil =>
    rw [show (eb && true && (decide (([] : List UInt8) = []) || ([] : List UInt8) == a0) && ob && mb) = (eb && ob && mb) by simp]
    cases mb
    · rw [Bool.and_false]
      go_enter Tryz.func157, Tryz.ntmps157
      have x0 := BX0.out.cell 0 (by simp)
      have x1 := BX0.out.cell 1 (by simp)
      have x2 := BX0.out.cell 2 (by simp)
      have x3 := BX0.out.cell 3 (by simp)
      have x4 := BX0.out.cell 4 (by simp)
      simp only [List.getElem_cons_zero, List.getElem_cons_succ] at x0 x1 x2 x3 x4
      have n0 := BN0.out.cell 0 (by simp)
      have n1 := BN0.out.cell 1 (by simp)
      have n2 := BN0.out.cell 2 (by simp)
      have n3 := BN0.out.cell 3 (by simp)
      simp only [List.getElem_cons_zero, List.getElem_cons_succ] at n0 n1 n2 n3
      go_wp2_with fail
      refine (HIN.out _).mono ?_
      rintro e w1 ⟨rfl, hb⟩
      have HB1 := Lib.hid (belS HB0.out hb)
      have BX1 := Lib.hid (BX0.out.below hb)
      have BN1 := Lib.hid (BN0.out.below hb)
      clear hb
      clear x0 x1 x2 x3 x4 n0 n1 n2 n3
      have x0 := BX1.out.cell 0 (by simp)
      have x1 := BX1.out.cell 1 (by simp)
      have x2 := BX1.out.cell 2 (by simp)
      have x3 := BX1.out.cell 3 (by simp)
      have x4 := BX1.out.cell 4 (by simp)
      simp only [List.getElem_cons_zero, List.getElem_cons_succ] at x0 x1 x2 x3 x4
      have n0 := BN1.out.cell 0 (by simp)
      have n1 := BN1.out.cell 1 (by simp)
      have n2 := BN1.out.cell 2 (by simp)
      have n3 := BN1.out.cell 3 (by simp)
      simp only [List.getElem_cons_zero, List.getElem_cons_succ] at n0 n1 n2 n3
      go_wp2_with fail
      refine (HME.out _).mono ?_
      rintro e w2 ⟨rfl, hb⟩
      have HB2 := Lib.hid (belS HB1.out hb)
      have BX2 := Lib.hid (BX1.out.below hb)
      have BN2 := Lib.hid (BN1.out.below hb)
      clear hb
      clear x0 x1 x2 x3 x4 n0 n1 n2 n3
      have x0 := BX2.out.cell 0 (by simp)
      have x1 := BX2.out.cell 1 (by simp)
      have x2 := BX2.out.cell 2 (by simp)
      have x3 := BX2.out.cell 3 (by simp)
      have x4 := BX2.out.cell 4 (by simp)
      simp only [List.getElem_cons_zero, List.getElem_cons_succ] at x0 x1 x2 x3 x4
      have n0 := BN2.out.cell 0 (by simp)
      have n1 := BN2.out.cell 1 (by simp)
      have n2 := BN2.out.cell 2 (by simp)
      have n3 := BN2.out.cell 3 (by simp)
      simp only [List.getElem_cons_zero, List.getElem_cons_succ] at n0 n1 n2 n3
      go_wp2_with fail
      go_ret
      exact ⟨rfl, HB2.out⟩
    cases eb
    · change Calls Tryz.prog 157 _ w (fun e w' => e = .returned (.bool false) ∧ Below w.heap.size w w')
      go_enter Tryz.func157, Tryz.ntmps157
      have x0 := BX0.out.cell 0 (by simp)
      have x1 := BX0.out.cell 1 (by simp)
      have x2 := BX0.out.cell 2 (by simp)
      have x3 := BX0.out.cell 3 (by simp)
      have x4 := BX0.out.cell 4 (by simp)
      simp only [List.getElem_cons_zero, List.getElem_cons_succ] at x0 x1 x2 x3 x4
      have n0 := BN0.out.cell 0 (by simp)
      have n1 := BN0.out.cell 1 (by simp)
      have n2 := BN0.out.cell 2 (by simp)
      have n3 := BN0.out.cell 3 (by simp)
      simp only [List.getElem_cons_zero, List.getElem_cons_succ] at n0 n1 n2 n3
      go_wp2_with fail
      refine (HIN.out _).mono ?_
      rintro e w1 ⟨rfl, hb⟩
      have HB1 := Lib.hid (belS HB0.out hb)
      have BX1 := Lib.hid (BX0.out.below hb)
      have BN1 := Lib.hid (BN0.out.below hb)
      clear hb
      clear x0 x1 x2 x3 x4 n0 n1 n2 n3
      have x0 := BX1.out.cell 0 (by simp)
      have x1 := BX1.out.cell 1 (by simp)
      have x2 := BX1.out.cell 2 (by simp)
      have x3 := BX1.out.cell 3 (by simp)
      have x4 := BX1.out.cell 4 (by simp)
      simp only [List.getElem_cons_zero, List.getElem_cons_succ] at x0 x1 x2 x3 x4
      have n0 := BN1.out.cell 0 (by simp)
      have n1 := BN1.out.cell 1 (by simp)
      have n2 := BN1.out.cell 2 (by simp)
      have n3 := BN1.out.cell 3 (by simp)
      simp only [List.getElem_cons_zero, List.getElem_cons_succ] at n0 n1 n2 n3
      go_wp2_with fail
      refine (HME.out _).mono ?_
      rintro e w2 ⟨rfl, hb⟩
      have HB2 := Lib.hid (belS HB1.out hb)
      have BX2 := Lib.hid (BX1.out.below hb)
      have BN2 := Lib.hid (BN1.out.below hb)
      clear hb
      clear x0 x1 x2 x3 x4 n0 n1 n2 n3
      have x0 := BX2.out.cell 0 (by simp)
      have x1 := BX2.out.cell 1 (by simp)
      have x2 := BX2.out.cell 2 (by simp)
      have x3 := BX2.out.cell 3 (by simp)
      have x4 := BX2.out.cell 4 (by simp)
      simp only [List.getElem_cons_zero, List.getElem_cons_succ] at x0 x1 x2 x3 x4
      have n0 := BN2.out.cell 0 (by simp)
      have n1 := BN2.out.cell 1 (by simp)
      have n2 := BN2.out.cell 2 (by simp)
      have n3 := BN2.out.cell 3 (by simp)
      simp only [List.getElem_cons_zero, List.getElem_cons_succ] at n0 n1 n2 n3
      go_wp2_with fail
      refine (HFA.out _ _ (HX.out _ HB2.out)).mono ?_
      rintro e w3 ⟨rfl, hb⟩
      have HB3 := Lib.hid (belS HB2.out hb)
      have BX3 := Lib.hid (BX2.out.below hb)
      have BN3 := Lib.hid (BN2.out.below hb)
      clear hb
      clear x0 x1 x2 x3 x4 n0 n1 n2 n3
      have x0 := BX3.out.cell 0 (by simp)
      have x1 := BX3.out.cell 1 (by simp)
      have x2 := BX3.out.cell 2 (by simp)
      have x3 := BX3.out.cell 3 (by simp)
      have x4 := BX3.out.cell 4 (by simp)
      simp only [List.getElem_cons_zero, List.getElem_cons_succ] at x0 x1 x2 x3 x4
      have n0 := BN3.out.cell 0 (by simp)
      have n1 := BN3.out.cell 1 (by simp)
      have n2 := BN3.out.cell 2 (by simp)
      have n3 := BN3.out.cell 3 (by simp)
      simp only [List.getElem_cons_zero, List.getElem_cons_succ] at n0 n1 n2 n3
      go_wp2_with fail
      go_ret
      exact ⟨rfl, HB3.out⟩
    obtain rfl : ei = ri := HEI.out rfl
    go_enter Tryz.func157, Tryz.ntmps157
    have x0 := BX0.out.cell 0 (by simp)
    have x1 := BX0.out.cell 1 (by simp)
    have x2 := BX0.out.cell 2 (by simp)
    have x3 := BX0.out.cell 3 (by simp)
    have x4 := BX0.out.cell 4 (by simp)
    simp only [List.getElem_cons_zero, List.getElem_cons_succ] at x0 x1 x2 x3 x4
    have n0 := BN0.out.cell 0 (by simp)
    have n1 := BN0.out.cell 1 (by simp)
    have n2 := BN0.out.cell 2 (by simp)
    have n3 := BN0.out.cell 3 (by simp)
    simp only [List.getElem_cons_zero, List.getElem_cons_succ] at n0 n1 n2 n3
    go_wp2_with fail
    refine (HIN.out _).mono ?_
    rintro e w1 ⟨rfl, hb⟩
    have HB1 := Lib.hid (belS HB0.out hb)
    have BX1 := Lib.hid (BX0.out.below hb)
    have BN1 := Lib.hid (BN0.out.below hb)
    clear hb
    clear x0 x1 x2 x3 x4 n0 n1 n2 n3
    have x0 := BX1.out.cell 0 (by simp)
    have x1 := BX1.out.cell 1 (by simp)
    have x2 := BX1.out.cell 2 (by simp)
    have x3 := BX1.out.cell 3 (by simp)
    have x4 := BX1.out.cell 4 (by simp)
    simp only [List.getElem_cons_zero, List.getElem_cons_succ] at x0 x1 x2 x3 x4
    have n0 := BN1.out.cell 0 (by simp)
    have n1 := BN1.out.cell 1 (by simp)
    have n2 := BN1.out.cell 2 (by simp)
    have n3 := BN1.out.cell 3 (by simp)
    simp only [List.getElem_cons_zero, List.getElem_cons_succ] at n0 n1 n2 n3
    go_wp2_with fail
    refine (HME.out _).mono ?_
    rintro e w2 ⟨rfl, hb⟩
    have HB2 := Lib.hid (belS HB1.out hb)
    have BX2 := Lib.hid (BX1.out.below hb)
    have BN2 := Lib.hid (BN1.out.below hb)
    clear hb
    clear x0 x1 x2 x3 x4 n0 n1 n2 n3
    have x0 := BX2.out.cell 0 (by simp)
    have x1 := BX2.out.cell 1 (by simp)
    have x2 := BX2.out.cell 2 (by simp)
    have x3 := BX2.out.cell 3 (by simp)
    have x4 := BX2.out.cell 4 (by simp)
    simp only [List.getElem_cons_zero, List.getElem_cons_succ] at x0 x1 x2 x3 x4
    have n0 := BN2.out.cell 0 (by simp)
    have n1 := BN2.out.cell 1 (by simp)
    have n2 := BN2.out.cell 2 (by simp)
    have n3 := BN2.out.cell 3 (by simp)
    simp only [List.getElem_cons_zero, List.getElem_cons_succ] at n0 n1 n2 n3
    go_wp2_with fail
    refine (HFA.out _ _ (HX.out _ HB2.out)).mono ?_
    rintro e w3 ⟨rfl, hb⟩
    have HB3 := Lib.hid (belS HB2.out hb)
    have BX3 := Lib.hid (BX2.out.below hb)
    have BN3 := Lib.hid (BN2.out.below hb)
    clear hb
    clear x0 x1 x2 x3 x4 n0 n1 n2 n3
    have x0 := BX3.out.cell 0 (by simp)
    have x1 := BX3.out.cell 1 (by simp)
    have x2 := BX3.out.cell 2 (by simp)
    have x3 := BX3.out.cell 3 (by simp)
    have x4 := BX3.out.cell 4 (by simp)
    simp only [List.getElem_cons_zero, List.getElem_cons_succ] at x0 x1 x2 x3 x4
    have n0 := BN3.out.cell 0 (by simp)
    have n1 := BN3.out.cell 1 (by simp)
    have n2 := BN3.out.cell 2 (by simp)
    have n3 := BN3.out.cell 3 (by simp)
    simp only [List.getElem_cons_zero, List.getElem_cons_succ] at n0 n1 n2 n3
    go_wp2_with (first | (go_at_call 172; (with_reducible refine (HOF.out _).mono ?_); rintro e w' ⟨rfl, rfl⟩))
    go_ret
    exact ⟨by simp, HB3.out⟩
  | cons c r =>
    by_cases he : (c :: r) = a0
    · rw [show (eb && true && (decide ((c :: r) = ([] : List UInt8)) || (c :: r) == a0) && ob && mb) = (eb && ob && mb) by simp [he]]
      have heq : ((c :: r) == a0) = true := by simp [he]
      have hne : ((c :: r) != a0) = false := by simp [he]
      clear he
      cases mb
      · rw [Bool.and_false]
        go_enter Tryz.func157, Tryz.ntmps157
        have x0 := BX0.out.cell 0 (by simp)
        have x1 := BX0.out.cell 1 (by simp)
        have x2 := BX0.out.cell 2 (by simp)
        have x3 := BX0.out.cell 3 (by simp)
        have x4 := BX0.out.cell 4 (by simp)
        simp only [List.getElem_cons_zero, List.getElem_cons_succ] at x0 x1 x2 x3 x4
        have n0 := BN0.out.cell 0 (by simp)
        have n1 := BN0.out.cell 1 (by simp)
        have n2 := BN0.out.cell 2 (by simp)
        have n3 := BN0.out.cell 3 (by simp)
        simp only [List.getElem_cons_zero, List.getElem_cons_succ] at n0 n1 n2 n3
        go_wp2_with fail
        refine (HIN.out _).mono ?_
        rintro e w1 ⟨rfl, hb⟩
        have HB1 := Lib.hid (belS HB0.out hb)
        have BX1 := Lib.hid (BX0.out.below hb)
        have BN1 := Lib.hid (BN0.out.below hb)
        clear hb
        clear x0 x1 x2 x3 x4 n0 n1 n2 n3
        have x0 := BX1.out.cell 0 (by simp)
        have x1 := BX1.out.cell 1 (by simp)
        have x2 := BX1.out.cell 2 (by simp)
        have x3 := BX1.out.cell 3 (by simp)
        have x4 := BX1.out.cell 4 (by simp)
        simp only [List.getElem_cons_zero, List.getElem_cons_succ] at x0 x1 x2 x3 x4
        have n0 := BN1.out.cell 0 (by simp)
        have n1 := BN1.out.cell 1 (by simp)
        have n2 := BN1.out.cell 2 (by simp)
        have n3 := BN1.out.cell 3 (by simp)
        simp only [List.getElem_cons_zero, List.getElem_cons_succ] at n0 n1 n2 n3
        go_wp2_with fail
        refine (HME.out _).mono ?_
        rintro e w2 ⟨rfl, hb⟩
        have HB2 := Lib.hid (belS HB1.out hb)
        have BX2 := Lib.hid (BX1.out.below hb)
        have BN2 := Lib.hid (BN1.out.below hb)
        clear hb
        clear x0 x1 x2 x3 x4 n0 n1 n2 n3
        have x0 := BX2.out.cell 0 (by simp)
        have x1 := BX2.out.cell 1 (by simp)
        have x2 := BX2.out.cell 2 (by simp)
        have x3 := BX2.out.cell 3 (by simp)
        have x4 := BX2.out.cell 4 (by simp)
        simp only [List.getElem_cons_zero, List.getElem_cons_succ] at x0 x1 x2 x3 x4
        have n0 := BN2.out.cell 0 (by simp)
        have n1 := BN2.out.cell 1 (by simp)
        have n2 := BN2.out.cell 2 (by simp)
        have n3 := BN2.out.cell 3 (by simp)
        simp only [List.getElem_cons_zero, List.getElem_cons_succ] at n0 n1 n2 n3
        go_wp2_with fail
        go_ret
        exact ⟨rfl, HB2.out⟩
      cases eb
      · change Calls Tryz.prog 157 _ w (fun e w' => e = .returned (.bool false) ∧ Below w.heap.size w w')
        go_enter Tryz.func157, Tryz.ntmps157
        have x0 := BX0.out.cell 0 (by simp)
        have x1 := BX0.out.cell 1 (by simp)
        have x2 := BX0.out.cell 2 (by simp)
        have x3 := BX0.out.cell 3 (by simp)
        have x4 := BX0.out.cell 4 (by simp)
        simp only [List.getElem_cons_zero, List.getElem_cons_succ] at x0 x1 x2 x3 x4
        have n0 := BN0.out.cell 0 (by simp)
        have n1 := BN0.out.cell 1 (by simp)
        have n2 := BN0.out.cell 2 (by simp)
        have n3 := BN0.out.cell 3 (by simp)
        simp only [List.getElem_cons_zero, List.getElem_cons_succ] at n0 n1 n2 n3
        go_wp2_with fail
        refine (HIN.out _).mono ?_
        rintro e w1 ⟨rfl, hb⟩
        have HB1 := Lib.hid (belS HB0.out hb)
        have BX1 := Lib.hid (BX0.out.below hb)
        have BN1 := Lib.hid (BN0.out.below hb)
        clear hb
        clear x0 x1 x2 x3 x4 n0 n1 n2 n3
        have x0 := BX1.out.cell 0 (by simp)
        have x1 := BX1.out.cell 1 (by simp)
        have x2 := BX1.out.cell 2 (by simp)
        have x3 := BX1.out.cell 3 (by simp)
        have x4 := BX1.out.cell 4 (by simp)
        simp only [List.getElem_cons_zero, List.getElem_cons_succ] at x0 x1 x2 x3 x4
        have n0 := BN1.out.cell 0 (by simp)
        have n1 := BN1.out.cell 1 (by simp)
        have n2 := BN1.out.cell 2 (by simp)
        have n3 := BN1.out.cell 3 (by simp)
        simp only [List.getElem_cons_zero, List.getElem_cons_succ] at n0 n1 n2 n3
        go_wp2_with fail
        refine (HME.out _).mono ?_
        rintro e w2 ⟨rfl, hb⟩
        have HB2 := Lib.hid (belS HB1.out hb)
        have BX2 := Lib.hid (BX1.out.below hb)
        have BN2 := Lib.hid (BN1.out.below hb)
        clear hb
        clear x0 x1 x2 x3 x4 n0 n1 n2 n3
        have x0 := BX2.out.cell 0 (by simp)
        have x1 := BX2.out.cell 1 (by simp)
        have x2 := BX2.out.cell 2 (by simp)
        have x3 := BX2.out.cell 3 (by simp)
        have x4 := BX2.out.cell 4 (by simp)
        simp only [List.getElem_cons_zero, List.getElem_cons_succ] at x0 x1 x2 x3 x4
        have n0 := BN2.out.cell 0 (by simp)
        have n1 := BN2.out.cell 1 (by simp)
        have n2 := BN2.out.cell 2 (by simp)
        have n3 := BN2.out.cell 3 (by simp)
        simp only [List.getElem_cons_zero, List.getElem_cons_succ] at n0 n1 n2 n3
        go_wp2_with fail
        refine (HFA.out _ _ (HX.out _ HB2.out)).mono ?_
        rintro e w3 ⟨rfl, hb⟩
        have HB3 := Lib.hid (belS HB2.out hb)
        have BX3 := Lib.hid (BX2.out.below hb)
        have BN3 := Lib.hid (BN2.out.below hb)
        clear hb
        clear x0 x1 x2 x3 x4 n0 n1 n2 n3
        have x0 := BX3.out.cell 0 (by simp)
        have x1 := BX3.out.cell 1 (by simp)
        have x2 := BX3.out.cell 2 (by simp)
        have x3 := BX3.out.cell 3 (by simp)
        have x4 := BX3.out.cell 4 (by simp)
        simp only [List.getElem_cons_zero, List.getElem_cons_succ] at x0 x1 x2 x3 x4
        have n0 := BN3.out.cell 0 (by simp)
        have n1 := BN3.out.cell 1 (by simp)
        have n2 := BN3.out.cell 2 (by simp)
        have n3 := BN3.out.cell 3 (by simp)
        simp only [List.getElem_cons_zero, List.getElem_cons_succ] at n0 n1 n2 n3
        go_wp2_with fail
        go_ret
        exact ⟨rfl, HB3.out⟩
      obtain rfl : ei = ri := HEI.out rfl
      go_enter Tryz.func157, Tryz.ntmps157
      have x0 := BX0.out.cell 0 (by simp)
      have x1 := BX0.out.cell 1 (by simp)
      have x2 := BX0.out.cell 2 (by simp)
      have x3 := BX0.out.cell 3 (by simp)
      have x4 := BX0.out.cell 4 (by simp)
      simp only [List.getElem_cons_zero, List.getElem_cons_succ] at x0 x1 x2 x3 x4
      have n0 := BN0.out.cell 0 (by simp)
      have n1 := BN0.out.cell 1 (by simp)
      have n2 := BN0.out.cell 2 (by simp)
      have n3 := BN0.out.cell 3 (by simp)
      simp only [List.getElem_cons_zero, List.getElem_cons_succ] at n0 n1 n2 n3
      go_wp2_with fail
      refine (HIN.out _).mono ?_
      rintro e w1 ⟨rfl, hb⟩
      have HB1 := Lib.hid (belS HB0.out hb)
      have BX1 := Lib.hid (BX0.out.below hb)
      have BN1 := Lib.hid (BN0.out.below hb)
      clear hb
      clear x0 x1 x2 x3 x4 n0 n1 n2 n3
      have x0 := BX1.out.cell 0 (by simp)
      have x1 := BX1.out.cell 1 (by simp)
      have x2 := BX1.out.cell 2 (by simp)
      have x3 := BX1.out.cell 3 (by simp)
      have x4 := BX1.out.cell 4 (by simp)
      simp only [List.getElem_cons_zero, List.getElem_cons_succ] at x0 x1 x2 x3 x4
      have n0 := BN1.out.cell 0 (by simp)
      have n1 := BN1.out.cell 1 (by simp)
      have n2 := BN1.out.cell 2 (by simp)
      have n3 := BN1.out.cell 3 (by simp)
      simp only [List.getElem_cons_zero, List.getElem_cons_succ] at n0 n1 n2 n3
      go_wp2_with fail
      refine (HME.out _).mono ?_
      rintro e w2 ⟨rfl, hb⟩
      have HB2 := Lib.hid (belS HB1.out hb)
      have BX2 := Lib.hid (BX1.out.below hb)
      have BN2 := Lib.hid (BN1.out.below hb)
      clear hb
      clear x0 x1 x2 x3 x4 n0 n1 n2 n3
      have x0 := BX2.out.cell 0 (by simp)
      have x1 := BX2.out.cell 1 (by simp)
      have x2 := BX2.out.cell 2 (by simp)
      have x3 := BX2.out.cell 3 (by simp)
      have x4 := BX2.out.cell 4 (by simp)
      simp only [List.getElem_cons_zero, List.getElem_cons_succ] at x0 x1 x2 x3 x4
      have n0 := BN2.out.cell 0 (by simp)
      have n1 := BN2.out.cell 1 (by simp)
      have n2 := BN2.out.cell 2 (by simp)
      have n3 := BN2.out.cell 3 (by simp)
      simp only [List.getElem_cons_zero, List.getElem_cons_succ] at n0 n1 n2 n3
      go_wp2_with fail
      refine (HFA.out _ _ (HX.out _ HB2.out)).mono ?_
      rintro e w3 ⟨rfl, hb⟩
      have HB3 := Lib.hid (belS HB2.out hb)
      have BX3 := Lib.hid (BX2.out.below hb)
      have BN3 := Lib.hid (BN2.out.below hb)
      clear hb
      clear x0 x1 x2 x3 x4 n0 n1 n2 n3
      have x0 := BX3.out.cell 0 (by simp)
      have x1 := BX3.out.cell 1 (by simp)
      have x2 := BX3.out.cell 2 (by simp)
      have x3 := BX3.out.cell 3 (by simp)
      have x4 := BX3.out.cell 4 (by simp)
      simp only [List.getElem_cons_zero, List.getElem_cons_succ] at x0 x1 x2 x3 x4
      have n0 := BN3.out.cell 0 (by simp)
      have n1 := BN3.out.cell 1 (by simp)
      have n2 := BN3.out.cell 2 (by simp)
      have n3 := BN3.out.cell 3 (by simp)
      simp only [List.getElem_cons_zero, List.getElem_cons_succ] at n0 n1 n2 n3
      go_wp2_with (first | (go_at_call 172; (with_reducible refine (HOF.out _).mono ?_); rintro e w' ⟨rfl, rfl⟩))
      go_ret
      exact ⟨by simp, HB3.out⟩
    · rw [show (eb && true && (decide ((c :: r) = ([] : List UInt8)) || (c :: r) == a0) && ob && mb) = false by simp [he]]
      have heq : ((c :: r) == a0) = false := by simp [he]
      have hne : ((c :: r) != a0) = true := by simp [he]
      clear he
      go_enter Tryz.func157, Tryz.ntmps157
      have x0 := BX0.out.cell 0 (by simp)
      have x1 := BX0.out.cell 1 (by simp)
      have x2 := BX0.out.cell 2 (by simp)
      have x3 := BX0.out.cell 3 (by simp)
      have x4 := BX0.out.cell 4 (by simp)
      simp only [List.getElem_cons_zero, List.getElem_cons_succ] at x0 x1 x2 x3 x4
      have n0 := BN0.out.cell 0 (by simp)
      have n1 := BN0.out.cell 1 (by simp)
      have n2 := BN0.out.cell 2 (by simp)
      have n3 := BN0.out.cell 3 (by simp)
      simp only [List.getElem_cons_zero, List.getElem_cons_succ] at n0 n1 n2 n3
      go_wp2_with fail
      refine (HIN.out _).mono ?_
      rintro e w1 ⟨rfl, hb⟩
      have HB1 := Lib.hid (belS HB0.out hb)
      have BX1 := Lib.hid (BX0.out.below hb)
      have BN1 := Lib.hid (BN0.out.below hb)
      clear hb
      clear x0 x1 x2 x3 x4 n0 n1 n2 n3
      have x0 := BX1.out.cell 0 (by simp)
      have x1 := BX1.out.cell 1 (by simp)
      have x2 := BX1.out.cell 2 (by simp)
      have x3 := BX1.out.cell 3 (by simp)
      have x4 := BX1.out.cell 4 (by simp)
      simp only [List.getElem_cons_zero, List.getElem_cons_succ] at x0 x1 x2 x3 x4
      have n0 := BN1.out.cell 0 (by simp)
      have n1 := BN1.out.cell 1 (by simp)
      have n2 := BN1.out.cell 2 (by simp)
      have n3 := BN1.out.cell 3 (by simp)
      simp only [List.getElem_cons_zero, List.getElem_cons_succ] at n0 n1 n2 n3
      go_wp2_with fail
      go_ret
      exact ⟨rfl, HB1.out⟩
end Go.Proofs.YteeopjcbpngofaaGreat
/- Contracts of chapter 6: ProviderOf, the program's. Written by gen/ch6s.py. -/
namespace Go.Proofs.YteeopjcbpngofaaGreat
set_option linter.unusedVariables false
set_option linter.unusedSimpArgs false
open Go.RowKit
set_option maxRecDepth 100000 in
set_option maxHeartbeats 3200000 in
theorem implProv_any (v : Value) (l : List EntryD) (t : List UInt8) (d : NeedD) (w : World) (hx : SliceAt rEntry 5 0 w v l) (hg : ∀ e ∈ l, e.fName.length ≤ 1048576 ∧ (∀ d ∈ e.fNeeds, d.fFrom.length ≤ maxLen) ∧ ∀ s ∈ e.fRecipe, s.length ≤ 1048576) (hf : d.fFrom.length ≤ maxLen) :
    Calls Tryz.prog 118 #[v, .string ⟨t.toArray⟩, vNeed d] w fun e w' => e = .returned (.string ⟨(provL l t d).toArray⟩) ∧ Below w.heap.size w w' := by
  obtain ⟨a, c, rfl, hl⟩ := sliceAt_len hx
  have HX := Lib.hid hx
  have HG := Lib.hid hg
  have HSV := Lib.hid (fun cs (x : EntryD) W (h : rEntry 0 W cs x) (hq : x ∈ l) => implServes_any (.agg cs.toArray) x d W ⟨cs, rfl, h⟩ (Nat.le_trans (hg x hq).1 (by decide)) (hg x hq).2.1 (hg x hq).2.2 hf)
  unfold maxLen at hl
  generalize hres : provL l t d = res
  have HRES := Lib.hid hres.symm
  clear hx hg hf hres
  obtain ⟨m0, m1, m2, m3⟩ := d
  simp only [vNeed] at HSV ⊢
  have HCT := Lib.hid (fun (s : ByteArray) W (h : s.size ≤ 140737488355328) => copyText_any s W h)
  have BS := Lib.hid (bx_start1 w [.int .i64 m0, .string ⟨m1.toArray⟩, .int .i64 m2, .int .i64 m3] 97)
  go_enter Tryz.func118, Tryz.ntmps118
  go_wp2_with fail
  go_loopw [8, 11] (fun _ i wr => ∃ k : Nat, k ≤ l.length ∧ i = .int .i64 k ∧ res = provL (l.drop k) t ⟨m0, m1, m2, m3⟩ ∧ Below w.heap.size w wr ∧ Bx wr w.heap.size [.int .i64 m0, .string ⟨m1.toArray⟩, .int .i64 m2, .int .i64 m3]) (fun _ i _ => l.length - (intOf i).toNat)
  case atStart => exact ⟨0, Nat.zero_le _, rfl, HRES.out, BS.out.2, BS.out.1⟩
  case round =>
    obtain ⟨k, hk, rfl, hres, hbr, hbx⟩ := hrel
    have HRS := Lib.hid hres
    have HBr := Lib.hid hbr
    have BNr := Lib.hid hbx
    have HXr := Lib.hid (SliceAt.below HX.out goodEntry hbr (Nat.le_refl _))
    have hszr := hbr.size
    clear hres hbr hbx
    by_cases hlt : k < l.length
    · obtain ⟨b, o, cs, rfl, hbw, hat, hd⟩ := sliceAt_cell HXr.out k hlt
      have HM := Lib.hid (List.getElem_mem hlt)
      have HDR := Lib.hid (show l.drop k = l[k] :: l.drop (k + 1) from List.drop_eq_getElem_cons hlt)
      have HS1 := Lib.hid (fun W (h : rEntry 0 W cs l[k]) => HSV.out cs l[k] W h HM.out)
      have HNL := Lib.hid (HG.out _ HM.out).1
      have HAT := Lib.hid (fun W (hb : Below wr.heap.size wr W) => goodEntry.keep hat (kept_below hb (Nat.le_refl _)))
      clear HM
      generalize l[k] = z at *
      obtain ⟨a0, a1, ⟨a2, a3⟩, l2⟩ := z
      obtain ⟨v1, v4, rfl, h1, h4⟩ := hat
      simp only at h1 h4
      obtain ⟨ra, rc, rfl, _⟩ := sliceAt_len h1
      obtain ⟨sa, sc, rfl, _⟩ := sliceAt_len h4
      have d0 := hd 0 (by decide)
      have d1 := hd 1 (by decide)
      have d2 := hd 2 (by decide)
      have d3 := hd 3 (by decide)
      have d4 := hd 4 (by decide)
      simp only [List.getElem?_cons_zero, List.getElem?_cons_succ, Nat.add_zero] at d0 d1 d2 d3 d4
      have HRS2 := Lib.hid (show res = if a0 ≠ t ∧ servesB ⟨a0, a1, ⟨a2, a3⟩, l2⟩ ⟨m0, m1, m2, m3⟩ = true then a0 else provL (l.drop (k + 1)) t ⟨m0, m1, m2, m3⟩ by rw [HRS.out, HDR.out]; rfl)
      generalize servesB ⟨a0, a1, ⟨a2, a3⟩, l2⟩ ⟨m0, m1, m2, m3⟩ = sb at *
      have BE := Lib.hid (Bx.new wr [.string ⟨a0.toArray⟩, .slice ra a1.length rc, .int .i64 a2, .int .i64 a3, .slice sa l2.length sc] 95)
      have HBN := Lib.hid (belS HBr.out (bx_box wr (.cells #[.string ⟨a0.toArray⟩, .slice ra a1.length rc, .int .i64 a2, .int .i64 a3, .slice sa l2.length sc] 95)))
      have BN1 := Lib.hid (BNr.out.alloc (.cells #[.string ⟨a0.toArray⟩, .slice ra a1.length rc, .int .i64 a2, .int .i64 a3, .slice sa l2.length sc] 95))
      have HAT1 := Lib.hid (HAT.out _ (bx_box wr (.cells #[.string ⟨a0.toArray⟩, .slice ra a1.length rc, .int .i64 a2, .int .i64 a3, .slice sa l2.length sc] 95)))
      have hkl : (k : Int) < (l.length : Int) := by omega
      clear hd HRS HDR h1 h4 HAT
      by_cases he : a0 = t
      · have HR3 := Lib.hid (show res = provL (l.drop (k + 1)) t ⟨m0, m1, m2, m3⟩ by have h := HRS2.out; rw [if_neg (by simp [he])] at h; exact h)
        have heq : (a0 == t) = true := by simp [he]
        have hne : (a0 != t) = false := by simp [he]
        clear HRS2 he
        have e0 := BE.out.cell 0 (by simp)
        have e1 := BE.out.cell 1 (by simp)
        have e2 := BE.out.cell 2 (by simp)
        have e3 := BE.out.cell 3 (by simp)
        have e4 := BE.out.cell 4 (by simp)
        simp only [List.getElem_cons_zero, List.getElem_cons_succ] at e0 e1 e2 e3 e4
        go_wp2_with fail
        exact ⟨⟨k + 1, by omega, by go_num, HR3.out, HBN.out, BN1.out⟩, by simp [intOf]; omega⟩
      · have heq : (a0 == t) = false := by simp [he]
        have hne : (a0 != t) = true := by simp [he]
        cases sb
        · have HR3 := Lib.hid (show res = provL (l.drop (k + 1)) t ⟨m0, m1, m2, m3⟩ by have h := HRS2.out; rw [if_neg (by simp)] at h; exact h)
          clear HRS2 he
          have e0 := BE.out.cell 0 (by simp)
          have e1 := BE.out.cell 1 (by simp)
          have e2 := BE.out.cell 2 (by simp)
          have e3 := BE.out.cell 3 (by simp)
          have e4 := BE.out.cell 4 (by simp)
          simp only [List.getElem_cons_zero, List.getElem_cons_succ] at e0 e1 e2 e3 e4
          have n0 := BN1.out.cell 0 (by simp)
          have n1 := BN1.out.cell 1 (by simp)
          have n2 := BN1.out.cell 2 (by simp)
          have n3 := BN1.out.cell 3 (by simp)
          simp only [List.getElem_cons_zero, List.getElem_cons_succ] at n0 n1 n2 n3
          go_wp2_with fail
          refine (HS1.out _ HAT1.out).mono ?_
          rintro e w2 ⟨rfl, hb⟩
          have HB2 := Lib.hid (belS HBN.out hb)
          have BN2 := Lib.hid (BN1.out.below hb)
          clear hb
          go_wp2_with fail
          exact ⟨⟨k + 1, by omega, by go_num, HR3.out, HB2.out, BN2.out⟩, by simp [intOf]; omega⟩
        · obtain rfl : res = a0 := by have h := HRS2.out; rw [if_pos ⟨he, rfl⟩] at h; exact h
          clear HRS2 he
          have e0 := BE.out.cell 0 (by simp)
          have e1 := BE.out.cell 1 (by simp)
          have e2 := BE.out.cell 2 (by simp)
          have e3 := BE.out.cell 3 (by simp)
          have e4 := BE.out.cell 4 (by simp)
          simp only [List.getElem_cons_zero, List.getElem_cons_succ] at e0 e1 e2 e3 e4
          have n0 := BN1.out.cell 0 (by simp)
          have n1 := BN1.out.cell 1 (by simp)
          have n2 := BN1.out.cell 2 (by simp)
          have n3 := BN1.out.cell 3 (by simp)
          simp only [List.getElem_cons_zero, List.getElem_cons_succ] at n0 n1 n2 n3
          go_wp2_with fail
          refine (HS1.out _ HAT1.out).mono ?_
          rintro e w2 ⟨rfl, hb⟩
          have HB2 := Lib.hid (belS HBN.out hb)
          have BE2 := Lib.hid (BE.out.below hb)
          clear hb e0 e1 e2 e3 e4
          have e0 := BE2.out.cell 0 (by simp)
          have e1 := BE2.out.cell 1 (by simp)
          have e2 := BE2.out.cell 2 (by simp)
          have e3 := BE2.out.cell 3 (by simp)
          have e4 := BE2.out.cell 4 (by simp)
          simp only [List.getElem_cons_zero, List.getElem_cons_succ] at e0 e1 e2 e3 e4
          go_wp2_with fail
          refine (HCT.out ⟨res.toArray⟩ _ (show res.length ≤ 140737488355328 from Nat.le_trans HNL.out (by decide))).mono ?_
          rintro e w3 ⟨rfl, hb⟩
          have HB3 := Lib.hid (belS HB2.out hb)
          clear hb
          go_wp2_with fail
          go_ret
          exact ⟨rfl, HB3.out⟩
    · obtain rfl : res = [] := by have h := HRS.out; rw [List.drop_eq_nil_of_le (by omega)] at h; exact h
      have hkl : ¬ (k : Int) < (l.length : Int) := by omega
      go_wp2_with fail
      go_ret
      exact ⟨rfl, HBr.out⟩
end Go.Proofs.YteeopjcbpngofaaGreat
/- A region that draws its order, in which a condition on the world holds behind every operation but one, and that one waits for all that lean on it. -/
namespace Go.Proofs.YteeopjcbpngofaaGreat
open Go
section
variable {P : Program} {ops : Array Oper} {Q : Exit → Act → World → Prop} {md : Region.Mode} {S : World → Prop} {t : Nat}
/-- what has come up has come up behind all that it waits for -/
def ClosedL (md : Region.Mode) (ops : Array Oper) (listed : Array Bool) : Prop :=
  ∀ k o, ops[k]? = some o → k < ops.size → listed.getD k false = true → ∀ e ∈ o.after, Region.binds md e = true → listed.getD e.on false = true
def closedB (md : Region.Mode) (ops : Array Oper) (listed : Array Bool) : Bool :=
  (List.range ops.size).all fun k => !listed.getD k false || match ops[k]? with
    | some o => o.after.all fun e => !Region.binds md e || listed.getD e.on false
    | none => true
/-- t waits for i, by however many steps -/
def reachB (md : Region.Mode) (ops : Array Oper) (i : Nat) : Nat → Nat → Bool
  | 0, _ => false
  | n + 1, t => match ops[t]? with
    | some o => o.after.any fun e => Region.binds md e && (e.on == i || reachB md ops i n e.on)
    | none => false
theorem closed_of {listed : Array Bool} (h : closedB md ops listed = true) : ClosedL md ops listed := by
  intro k o hk hlt hl e he hb
  have h1 := List.all_eq_true.1 h k (List.mem_range.2 hlt)
  simp only [hl, hk, Bool.not_true, Bool.false_or] at h1
  have h2 := Array.all_eq_true_iff_forall_mem.1 h1 e he
  simpa [hb] using h2
theorem closed_set {listed : Array Bool} {j : Nat} (hc : ClosedL md ops listed) (hj : j ∈ Region.ready md ops listed) : ClosedL md ops (listed.setIfInBounds j true) := by
  intro k o hk hlt hl e he hb
  obtain ⟨_, oj, hoj, hall⟩ := mem_ready.1 hj
  by_cases hjk : j = k
  · subst hjk
    rw [hoj] at hk; injection hk with hk; subst hk
    exact getD_set_true (hall e he hb)
  · rw [getD_set_ne false hjk] at hl
    exact getD_set_true (hc k o hk hlt hl e he hb)
theorem reach_listed {listed : Array Bool} (hc : ClosedL md ops listed) (i : Nat) : ∀ n s, reachB md ops i n s = true →
    (∀ o, ops[s]? = some o → ∀ e ∈ o.after, Region.binds md e = true → listed.getD e.on false = true) → listed.getD i false = true := by
  intro n
  induction n with
  | zero => intro s h; cases h
  | succ n ih =>
    intro s h hall
    unfold reachB at h
    split at h
    case h_2 => cases h
    rename_i o ho
    obtain ⟨e, he, h1⟩ := Array.any_eq_true'.1 h
    rw [Bool.and_eq_true, Bool.or_eq_true, beq_iff_eq] at h1
    have h2 := hall o ho e he h1.1
    rcases h1.2 with h3 | h3
    · rw [← h3]; exact h2
    · refine ih e.on h3 fun o' ho' => ?_
      exact hc e.on o' ho' (Array.getElem?_eq_some_iff.1 ho').1 h2
/-- whatever order is picked from here on; S holds behind every operation but t -/
def wpAnyT (P : Program) (md : Region.Mode) (ops : Array Oper) (Q : Exit → Act → World → Prop) (S : World → Prop) (t : Nat) : Nat → Array Bool → Act → World → Prop
  | 0, listed, a, w => Region.ready md ops listed = [] ∧ Q .normal a w
  | fuel + 1, listed, a, w =>
    (Region.ready md ops listed = [] → Q .normal a w) ∧
    ∀ i ∈ Region.ready md ops listed, wpOp P ops Q i (fun a' w' => (i ≠ t → S w') ∧ wpAnyT P md ops Q S t fuel (listed.setIfInBounds i true) a' w') a w
theorem any_of_T : ∀ (fuel : Nat) (listed : Array Bool) (a : Act) (w : World), wpAnyT P md ops Q S t fuel listed a w → wpAny P md ops Q fuel listed a w
  | 0, _, _, _, h => h
  | fuel + 1, _, _, _, h => ⟨h.1, fun i hi => wpOp_mono (fun a' w' h' => any_of_T fuel _ a' w' h'.2) (h.2 i hi)⟩
theorem anyT_first {i n : Nat} {oi : Oper} {v : Value} (hi : ops[i]? = some oi) (hsel : ∀ (j : Nat) (o : Oper) cs b, ops[j]? = some o → o.op ≠ .select cs b)
    (hQ : ∀ c a w, Q (.panic c) (a.put oi.dst v) w → Q (.panic c) a w) (hre : reachB md ops i n t = true) :
    ∀ (fuel : Nat) (listed : Array Bool) (a : Act) (w : World), ClosedL md ops listed →
      (∀ j oj, ops[j]? = some oj → j ≠ i → listed.getD j true = false → (∀ e ∈ oj.after, Region.binds md e = true → e.on ≠ i) → oi.apart ops oj = true) →
      i ∈ Region.ready md ops listed → YieldsIf P ops S oi v a → S w →
      wpAnyT P md ops Q S t fuel (listed.setIfInBounds i true) (a.put oi.dst v) w → wpAnyT P md ops Q S t (fuel + 1) listed a w := by
  intro fuel
  have unl : ∀ listed : Array Bool, i ∈ Region.ready md ops listed → listed.getD i false = false := fun listed hr => by
    have h0 := (mem_ready.1 hr).1
    rcases Nat.lt_or_ge i listed.size with h' | h'
    · simp [h'] at h0 ⊢; exact h0
    · simp [Array.getElem?_eq_none h']
  induction fuel with
  | zero =>
    intro listed a w hc _ hr hy hS H
    refine ⟨fun h => (by rw [h] at hr; cases hr), fun j hj => ?_⟩
    by_cases hji : j = i
    · subst hji; exact hy.wpOp hi hS ⟨fun _ => hS, H⟩
    · have := ready_mono hj hji
      rw [H.1] at this; cases this
  | succ fuel ih =>
    intro listed a w hc hfree hr hy hS H
    refine ⟨fun h => (by rw [h] at hr; cases hr), fun j hj => ?_⟩
    by_cases hji : j = i
    · subst hji; exact hy.wpOp hi hS ⟨fun _ => hS, H⟩
    · obtain ⟨hjun, oj, hoj, hall⟩ := mem_ready.1 hj
      have hjt : j ≠ t := fun e => by
        have := reach_listed hc i n t hre (fun o ho e' he' hb' => by rw [← e, hoj] at ho; injection ho with ho; subst ho; exact hall e' he' hb')
        rw [unl listed hr] at this; cases this
      have hnot : ∀ e ∈ oj.after, Region.binds md e = true → e.on ≠ i := fun e he hb heq => by
        have h1 := hall e he hb
        rw [heq, unl listed hr] at h1; cases h1
      have h2 := wpOp_putIf hoj (hfree j oj hoj hji hjun hnot) (fun cs b => hsel i oi cs b hi) (fun cs b => hsel j oj cs b hoj) hQ hy (H.2 j (ready_mono hj hji))
      refine wpOp_mono (fun a' w' h3 => ⟨fun _ => h3.2.1 hjt, ih (listed.setIfInBounds j true) a' w' (closed_set hc hj) ?_ (ready_mono hr (Ne.symm hji)) h3.1 (h3.2.1 hjt) ?_⟩) h2
      · intro k ok hk hki hun hno
        refine hfree k ok hk hki ?_ hno
        by_cases hjk : j = k
        · subst hjk; exact hjun
        · rw [getD_set_ne true hjk] at hun; exact hun
      · rw [Array.setIfInBounds_comm _ _ hji]; exact h3.2.2
theorem anyT_take {i : Nat} {oi : Oper} {v : Value} {fuel : Nat} {listed : Array Bool} {a : Act} {w : World} (hi : ops[i]? = some oi)
    (hs : Region.noSelect ops = true) (hf : Region.free md ops listed i = true) (hr : (Region.ready md ops listed).contains i = true) (hre : reachB md ops i ops.size t = true) (hc : closedB md ops listed = true)
    (hQ : ∀ c a w, Q (.panic c) (a.put oi.dst v) w → Q (.panic c) a w) (hy : YieldsIf P ops S oi v a) (hS : S w)
    (h : wpAnyT P md ops Q S t fuel (listed.setIfInBounds i true) (a.put oi.dst v) w) : wpAnyT P md ops Q S t (fuel + 1) listed a w :=
  anyT_first hi (Region.noSelect_spec hs) hQ hre fuel listed a w (closed_of hc) (Region.free_spec hi hf) (by simpa using hr) hy hS h
/-- the only one that may come up comes up: behind it S is to be shown anew -/
theorem anyT_only {i : Nat} {o : Oper} {fuel : Nat} {listed : Array Bool} {a : Act} {w : World} (hr : Region.ready md ops listed = [i]) (ho : ops[i]? = some o)
    (h : ∀ K' : Act → World → Prop, Shut (∀ a w, S w → (S w → wpAnyT P md ops Q S t fuel (listed.setIfInBounds i true) a w) → K' a w) → if Region.wanted o (yielded ops a.tmps) = true then Oper.wp P o a w K' Q else K' (a.put o.dst undef) w) :
    wpAnyT P md ops Q S t (fuel + 1) listed a w := by
  refine ⟨fun h0 => (by rw [h0] at hr; cases hr), fun j hj => ?_⟩
  rw [hr] at hj
  obtain rfl : j = i := by simpa using hj
  exact wpOp_step ho (fun K' hK => h K' (fun a w hS hW => hK a w ⟨fun _ => hS, hW hS⟩))
/-- t comes up, the last but for nothing -/
theorem anyT_tail {o : Oper} {fuel : Nat} {listed : Array Bool} {a : Act} {w : World} (hr : Region.ready md ops listed = [t]) (ho : ops[t]? = some o)
    (h : ∀ K' : Act → World → Prop, Shut (∀ a w, wpAnyT P md ops Q S t fuel (listed.setIfInBounds t true) a w → K' a w) → if Region.wanted o (yielded ops a.tmps) = true then Oper.wp P o a w K' Q else K' (a.put o.dst undef) w) :
    wpAnyT P md ops Q S t (fuel + 1) listed a w := by
  refine ⟨fun h0 => (by rw [h0] at hr; cases hr), fun j hj => ?_⟩
  rw [hr] at hj
  obtain rfl : j = t := by simpa using hj
  exact wpOp_step ho (fun K' hK => h K' (fun a w hW => hK a w ⟨fun h => absurd rfl h, hW⟩))
theorem anyT_done {listed : Array Bool} {a : Act} {w : World} (hr : Region.ready md ops listed = []) (h : Q .normal a w) : ∀ fuel, wpAnyT P md ops Q S t fuel listed a w
  | 0 => ⟨hr, h⟩
  | _ + 1 => ⟨fun _ => h, by rw [hr]; simp⟩
theorem region_T {id : Nat} {a : Act} {w : World} (hm : P.follows .mixedOrders = true) (hS : S w.drew)
    (h : S w.drew → wpAnyT P .any ops Q S t ops.size (Array.replicate ops.size false) a w.drew) : (Code.region id ops true).wp P Q a w :=
  wp_region_any hm (any_of_T _ _ _ _ (h hS))
end
end Go.Proofs.YteeopjcbpngofaaGreat
/- Contracts of chapter 6: linksByName, lacksProvider. Written by gen/ch6l.py. -/
namespace Go.Proofs.YteeopjcbpngofaaGreat
set_option linter.unusedVariables false
set_option linter.unusedSimpArgs false
open Go.RowKit
theorem infoLinkL : (Tryz.prog.info? 100).map (fun i => (i.zero, i.size, i.bytes)) = some (some (.agg #[.string ⟨#[]⟩, .string ⟨#[]⟩, .int .i64 0]), 3, 40) := by kernel_rfl
theorem zeroLinks (w : World) : (zeroValue 47).run Tryz.prog w = .ok (.slice none 0 0) w := by kernel_rfl
theorem oneCellLink : ∀ x : LinkD, ∀ u ∈ cLink x, u.oneCell' = true := by intro x u hu; simp [cLink] at hu; rcases hu with rfl | rfl | rfl <;> rfl
/-- links while they are gathered: each name's in a row of its own, from block B on -/
def LnkOwn (w : World) (B b X : Nat) (L : List LinkD) : Prop :=
  ∃ f, MapAt w b L.length (.slice none 0 0) f ∧ (∀ s, OwnsF cLink 100 3 w B (f s) (frm L s)) ∧ (∀ s t c, s ≠ t → (f s).ownBlock = some c → (f t).ownBlock ≠ some c) ∧ ∀ s, (f s).ownBlock ≠ some X
theorem lnkOwn_new (w : World) (B X : Nat) : LnkOwn (w.alloc (.map #[] 0)) B w.heap.size X [] :=
  ⟨_, mapAt_new w _, fun s => ownsF_no _ _ _ _ _, fun s t c _ h => (by cases h), fun s h => (by cases h)⟩
theorem LnkOwn.below {w w' : World} {B b X B' : Nat} {L : List LinkD} (h : LnkOwn w B b X L) (hb : Below B' w w') (hB : w.heap.size ≤ B') : LnkOwn w' B b X L := by
  obtain ⟨f, h1, h2, h3, h4⟩ := h
  exact ⟨f, h1.below hb hB, fun s => ownsF_below (h2 s) hb hB, h3, h4⟩
theorem LnkOwn.lt {w : World} {B b X : Nat} {L : List LinkD} (h : LnkOwn w B b X L) : b < w.heap.size := by obtain ⟨f, h1, _⟩ := h; exact h1.lt
theorem LnkOwn.avoid {w : World} {B b X Y : Nat} {L : List LinkD} (h : LnkOwn w B b X L) (hY : Y < B ∨ w.heap.size ≤ Y) : LnkOwn w B b Y L := by
  obtain ⟨f, h1, h2, h3, _⟩ := h
  refine ⟨f, h1, h2, h3, fun s e => ?_⟩
  have := World.ownsRow.lt (h2 s) Y e
  omega
theorem frm_len (L : List LinkD) (s : Nm) : (frm L s).length ≤ L.length := List.length_filter_le ..
/-- one link more -/
theorem lnkOwn_step {w w1 w2 w3 : World} {B b X : Nat} {L : List LinkD} {f : Nm → Value} {y : LinkD} {v' : Value} (hB : b < B) (hX : X < w.heap.size) (hav : ∀ s, (f s).ownBlock ≠ some X) (h2 : ∀ s, OwnsF cLink 100 3 w B (f s) (frm L s)) (h3 : ∀ s t c, s ≠ t → (f s).ownBlock = some c → (f t).ownBlock ≠ some c)
    (hal : Below w.heap.size w w1) (h1 : OwnsF cLink 100 3 w2 B v' (frm L y.fFrom ++ [y])) (hg : w1.grownBy w2 (f y.fFrom).ownBlock) (hloc : ∀ c, c < w1.heap.size → (f y.fFrom).ownBlock ≠ some c → v'.ownBlock ≠ some c)
    (hm : MapAt w3 b (L.length + 1) (.slice none 0 0) (fun t => if t = y.fFrom then v' else f t)) (hg2 : w2.grownBy w3 (some b)) : LnkOwn w3 B b X (L ++ [y]) := by
  have hv : ∀ c, v'.ownBlock = some c → B ≤ c := fun c hc => (World.ownsRow.lt h1 c hc).1
  have hf : ∀ s c, (f s).ownBlock = some c → c < w1.heap.size := fun s c hc => Nat.lt_of_lt_of_le (World.ownsRow.lt (h2 s) c hc).2 hal.size
  refine ⟨_, by rw [List.length_append]; exact hm, fun s => ?_, fun s t c hst hs ht => ?_, fun s hs => ?_⟩
  · by_cases hs : s = y.fFrom
    · subst hs
      rw [if_pos rfl, frm_snoc_same]
      exact World.ownsRow.kept h1 hg2 (Or.inr fun e => by have := hv b e; omega)
    · rw [if_neg hs, frm_snoc_ne _ _ _ hs]
      have k1 := ownsF_below (h2 s) hal (Nat.le_refl _)
      have k2 : OwnsF cLink 100 3 w2 B (f s) (frm L s) := World.ownsRow.kept k1 hg (by
        cases he : (f s).ownBlock with
        | none => exact Or.inl rfl
        | some c => exact Or.inr (by rw [← he]; rw [he]; exact fun e => h3 s y.fFrom c hs he e.symm))
      exact World.ownsRow.kept k2 hg2 (by
        cases he : (f s).ownBlock with
        | none => exact Or.inl rfl
        | some c => exact Or.inr fun e => by injection e with e; have := (World.ownsRow.lt (h2 s) c he).1; omega)
  · by_cases h4 : s = y.fFrom
    · rw [if_pos h4] at hs
      have h5 : t ≠ y.fFrom := fun e => hst (h4.trans e.symm)
      rw [if_neg h5] at ht
      exact hloc c (hf t c ht) (h3 t y.fFrom c h5 ht) hs
    · rw [if_neg h4] at hs
      by_cases h5 : t = y.fFrom
      · rw [if_pos h5] at ht
        exact hloc c (hf s c hs) (h3 s y.fFrom c h4 hs) ht
      · rw [if_neg h5] at ht
        exact h3 s t c hst hs ht
  · by_cases h4 : s = y.fFrom
    · rw [if_pos h4] at hs
      exact hloc X (Nat.lt_of_lt_of_le hX hal.size) (hav _) hs
    · rw [if_neg h4] at hs
      exact hav s hs
/-- links by name, in blocks from lo on and below hi -/
def LnkAt (w : World) (lo hi b : Nat) (L : List LinkD) : Prop := ∃ n f, MapAt w b n (.slice none 0 0) f ∧ (lo ≤ b ∧ b < hi) ∧ ∀ s, OwnR cLink 100 3 w lo hi (f s) (frm L s)
theorem LnkAt.grown {w w' : World} {lo hi b : Nat} {L : List LinkD} {r : Option Nat} (h : LnkAt w lo hi b L) (hg : w.grownBy w' r) (hr : ∀ g, r = some g → g < lo ∨ hi ≤ g) : LnkAt w' lo hi b L := by
  obtain ⟨n, f, h1, h2, h3⟩ := h
  refine ⟨n, f, h1.kept hg (fun e => by have := hr b e.symm; omega), h2, fun s => ⟨World.ownsRow.kept (h3 s).1 hg ?_, (h3 s).2⟩⟩
  cases he : (f s).ownBlock with
  | none => exact Or.inl rfl
  | some c => exact Or.inr fun e => by have h4 := hr c e.symm; have h5 := (h3 s).2 c he; have h6 := (World.ownsRow.lt (h3 s).1 c he).1; omega
theorem LnkAt.below {w w' : World} {lo hi b B' : Nat} {L : List LinkD} (h : LnkAt w lo hi b L) (hb : Below B' w w') (hB : w.heap.size ≤ B') : LnkAt w' lo hi b L :=
  h.grown (grown_of_below hb hB) (fun g e => by cases e)
theorem lnkAt_of {w : World} {B b X : Nat} {L : List LinkD} (h : LnkOwn w B b X L) (hb : b ≤ B) : LnkAt w b w.heap.size b L := by
  obtain ⟨f, h1, h2, _, _⟩ := h
  exact ⟨_, f, h1, ⟨Nat.le_refl _, h1.lt⟩, fun s => ownR_of (ownsF_base (h2 s) hb)⟩
/-- what is said of a list of entries that is looked at for links -/
structure RegOk (l : List EntryD) : Prop where
  each : ∀ e ∈ l, e.fName.length ≤ 1048576 ∧ (∀ d ∈ e.fNeeds, d.fFrom.length ≤ maxLen) ∧ ∀ s ∈ e.fRecipe, s.length ≤ 1048576
  many : (l.map fun e => e.fNeeds.length).sum ≤ 1048576
theorem lnk_some {l : List EntryD} {x : EntryD} {j : Nat} (hj : j < x.fNeeds.length) (h : provL l x.fName x.fNeeds[j] ≠ []) : (x.fNeeds.take (j + 1)).flatMap (lnkN l x) = (x.fNeeds.take j).flatMap (lnkN l x) ++ [⟨x.fName, provL l x.fName x.fNeeds[j], x.fNeeds[j].fFace⟩] := by
  rw [List.take_succ_eq_append_getElem hj, List.flatMap_append]
  congr 1
  simp [lnkN, h]
theorem lnk_none {l : List EntryD} {x : EntryD} {j : Nat} (hj : j < x.fNeeds.length) (h : provL l x.fName x.fNeeds[j] = []) : (x.fNeeds.take (j + 1)).flatMap (lnkN l x) = (x.fNeeds.take j).flatMap (lnkN l x) := by
  rw [List.take_succ_eq_append_getElem hj, List.flatMap_append]
  simp [lnkN, h]
theorem lnk_bound {l : List EntryD} (h : RegOk l) (k j : Nat) (hk : k < l.length) : ((l.take k).flatMap (lnkE l) ++ ((l[k].fNeeds).take j).flatMap (lnkN l l[k])).length ≤ 1048576 := by
  have h1 : ((l.take k).flatMap (lnkE l)).length ≤ ((l.take k).map fun e => e.fNeeds.length).sum := by
    generalize l.take k = m
    induction m with
    | nil => exact Nat.le_refl _
    | cons a r ih => simp only [List.flatMap_cons, List.length_append, List.map_cons, List.sum_cons]; have := lnkE_len l a; omega
  have h2 : (((l[k].fNeeds).take j).flatMap (lnkN l l[k])).length ≤ l[k].fNeeds.length := by
    have h3 := flatMap_len (lnkN l l[k]) 1 ((l[k].fNeeds).take j) fun d _ => lnkN_len l l[k] d
    rw [List.length_take] at h3; omega
  have h3 := h.many
  have h4 : l.map (fun e => e.fNeeds.length) = (l.take k).map (fun e => e.fNeeds.length) ++ l[k].fNeeds.length :: (l.drop (k + 1)).map (fun e => e.fNeeds.length) := by
    conv => lhs; rw [← List.take_append_drop k l, List.map_append, List.drop_eq_getElem_cons hk, List.map_cons]
  rw [h4, List.sum_append, List.sum_cons] at h3
  rw [List.length_append]; omega
theorem needs_sum (l : List EntryD) : (l.map fun e => e.fNeeds.length).sum ≤ sumF zEntry l := by
  induction l with
  | nil => exact Nat.le_refl _
  | cons a r ih =>
    have h : a.fNeeds.length ≤ zEntry a := by unfold zEntry; omega
    simp only [List.map_cons, List.sum_cons, sumF]; omega
theorem lnkA_bound2 {l : List EntryD} (h : RegOk l) : (lnkA l).length ≤ 1048576 := by
  have h1 : (lnkA l).length ≤ (l.map fun e => e.fNeeds.length).sum := by
    unfold lnkA
    have : ∀ m : List EntryD, (m.flatMap (lnkE l)).length ≤ (m.map fun e => e.fNeeds.length).sum := fun m => by
      induction m with
      | nil => exact Nat.le_refl _
      | cons a r ih => simp only [List.flatMap_cons, List.length_append, List.map_cons, List.sum_cons]; have := lnkE_len l a; omega
    exact this l
  have := h.many
  omega
theorem lnkA_bound {l : List EntryD} (h : RegOk l) : (lnkA l).length ≤ 4194304 := Nat.le_trans (lnkA_bound2 h) (by decide)
set_option maxRecDepth 100000 in
set_option maxHeartbeats 3200000 in
theorem linksByName_c (v : Value) (l : List EntryD) (w : World) (hx : SliceAt rEntry 5 0 w v l) (hg : RegOk l) :
    Calls Tryz.prog 73 #[v] w fun e w' => ∃ b, e = .returned (.map (some b)) ∧ LnkAt w' w.heap.size w'.heap.size b (lnkA l) ∧ Below w.heap.size w w' := by
  have hl0 := sliceAt_len hx
  have HX := Lib.hid hx
  have HG := Lib.hid hg
  have HPV := Lib.hid (fun (t : Nm) (d : NeedD) W (h : SliceAt rEntry 5 0 W v l) (hf : d.fFrom.length ≤ maxLen) => implProv_any v l t d W h hg.each hf)
  have HCT := Lib.hid (fun (s : ByteArray) W (h : s.size ≤ 140737488355328) => copyText_any s W h)
  have hmm := @run_makeMap Tryz.prog
  obtain ⟨a, c, rfl, hl⟩ := hl0
  unfold maxLen at hl
  clear hx hg
  have HO0 := Lib.hid (lnkOwn_new w (w.heap.size + 1) w.heap.size)
  have HB0 := Lib.hid (bx_box w (.map #[] 0))
  have HS0 := Lib.hid (show w.heap.size + 1 ≤ (w.alloc (.map #[] 0)).heap.size by simp)
  go_enter Tryz.func73, Tryz.ntmps73
  go_wp2_with fail
  generalize w.alloc (.map #[] 0) = wS at *
  go_loopw [5, 7, 8, 12] (fun _ _ _ i wr => ∃ k : Nat, k ≤ l.length ∧ i = .int .i64 k ∧ LnkOwn wr (w.heap.size + 1) w.heap.size w.heap.size ((l.take k).flatMap (lnkE l)) ∧ Below w.heap.size w wr ∧ w.heap.size + 1 ≤ wr.heap.size) (fun _ _ _ i _ => l.length - (intOf i).toNat)
  case atStart => exact ⟨0, Nat.zero_le _, rfl, HO0.out, HB0.out, HS0.out⟩
  case round =>
    obtain ⟨k, hk, rfl, hO, hbr, hsr⟩ := hrel
    have HO := Lib.hid hO
    have HBr := Lib.hid hbr
    clear hO hbr
    by_cases hlt : k < l.length
    · obtain ⟨b, o, cs, rfl, hbw, hat, hd⟩ := sliceAt_cell HX.out k hlt
      have HM := Lib.hid (List.getElem_mem hlt)
      have HTK := Lib.hid (show (l.take (k + 1)).flatMap (lnkE l) = (l.take k).flatMap (lnkE l) ++ lnkE l l[k] by rw [List.take_succ_eq_append_getElem hlt, List.flatMap_append]; simp)
      have HBD := Lib.hid (fun j => lnk_bound HG.out k j hlt)
      have HGE := Lib.hid (HG.out.each _ HM.out)
      clear HM
      generalize l[k] = z at *
      obtain ⟨a0, a1, ⟨a2, a3⟩, l2⟩ := z
      obtain ⟨v1, v4, rfl, h1, h4⟩ := hat
      simp only at h1 h4
      obtain ⟨ra, rc, rfl, _⟩ := sliceAt_len h1
      obtain ⟨sa, sc, rfl, hl4⟩ := sliceAt_len h4
      unfold maxLen at hl4
      have HN4 := Lib.hid h4
      have hbw2 : b < w.heap.size := hbw
      have d0 := (HBr.out.cell (p := ⟨b, o + k * 5 + 0, none⟩) hbw).trans (hd 0 (by decide))
      have d1 := (HBr.out.cell (p := ⟨b, o + k * 5 + 1, none⟩) hbw).trans (hd 1 (by decide))
      have d2 := (HBr.out.cell (p := ⟨b, o + k * 5 + 2, none⟩) hbw).trans (hd 2 (by decide))
      have d3 := (HBr.out.cell (p := ⟨b, o + k * 5 + 3, none⟩) hbw).trans (hd 3 (by decide))
      have d4 := (HBr.out.cell (p := ⟨b, o + k * 5 + 4, none⟩) hbw).trans (hd 4 (by decide))
      simp only [List.getElem?_cons_zero, List.getElem?_cons_succ, Nat.add_zero] at d0 d1 d2 d3 d4
      have hkl : (k : Int) < (l.length : Int) := by omega
      have BE := Lib.hid (Bx.new wr [.string ⟨a0.toArray⟩, .slice ra a1.length rc, .int .i64 a2, .int .i64 a3, .slice sa l2.length sc] 95)
      have HBE := Lib.hid (belS HBr.out (bx_box wr (.cells #[.string ⟨a0.toArray⟩, .slice ra a1.length rc, .int .i64 a2, .int .i64 a3, .slice sa l2.length sc] 95)))
      have HOE := Lib.hid (show LnkOwn (wr.alloc (.cells #[.string ⟨a0.toArray⟩, .slice ra a1.length rc, .int .i64 a2, .int .i64 a3, .slice sa l2.length sc] 95)) (w.heap.size + 1) w.heap.size wr.heap.size ((l.take k).flatMap (lnkE l) ++ (l2.take 0).flatMap (lnkN l ⟨a0, a1, ⟨a2, a3⟩, l2⟩)) by rw [List.take_zero, List.flatMap_nil, List.append_nil]; exact (HO.out.avoid (Or.inr (Nat.le_refl _))).below (bx_box wr _) (Nat.le_refl _))
      clear hd h1 h4 HO
      obtain ⟨bE, hbE⟩ : ∃ q, q = wr.heap.size := ⟨_, rfl⟩
      have hbE2 : w.heap.size + 1 ≤ bE := by omega
      rw [← hbE] at BE HOE
      have e0 := BE.out.cell 0 (by simp)
      have e1 := BE.out.cell 1 (by simp)
      have e2 := BE.out.cell 2 (by simp)
      have e3 := BE.out.cell 3 (by simp)
      have e4 := BE.out.cell 4 (by simp)
      simp only [List.getElem_cons_zero, List.getElem_cons_succ] at e0 e1 e2 e3 e4
      rw [hbE] at e0 e1 e2 e3 e4
      go_wp2_with fail
      rw [← hbE]
      clear hbE
      clear e0 e1 e2 e3 e4 d0 d1 d2 d3 d4
      generalize wr.alloc (.cells #[.string ⟨a0.toArray⟩, .slice ra a1.length rc, .int .i64 a2, .int .i64 a3, .slice sa l2.length sc] 95) = wE at *
      generalize hP0 : (l.take k).flatMap (lnkE l) = P0 at *
      go_loopw [7, 8, 19] (fun _ _ i w2 => ∃ j : Nat, j ≤ l2.length ∧ i = .int .i64 j ∧ LnkOwn w2 (w.heap.size + 1) w.heap.size bE (P0 ++ (l2.take j).flatMap (lnkN l ⟨a0, a1, ⟨a2, a3⟩, l2⟩)) ∧ Below w.heap.size w w2 ∧ Bx w2 bE [.string ⟨a0.toArray⟩, .slice ra a1.length rc, .int .i64 a2, .int .i64 a3, .slice sa l2.length sc]) (fun _ _ i _ => l2.length - (intOf i).toNat)
      case atStart => exact ⟨0, Nat.zero_le _, rfl, HOE.out, HBE.out, BE.out⟩
      case round =>
        obtain ⟨j, hj, rfl, hO2, hb2, hbe⟩ := hrel
        have HO2 := Lib.hid hO2
        have HB2 := Lib.hid hb2
        have BE2 := Lib.hid hbe
        clear hO2 hb2 hbe
        have hbz := HB2.out.size
        by_cases hlj : j < l2.length
        · obtain ⟨q, o2, cs2, rfl, hq, hat2, hd2⟩ := sliceAt_cell HN4.out j hlj
          have HFJ := Lib.hid (HGE.out.2.1 _ (List.getElem_mem hlj))
          have HLB := Lib.hid (HBD.out j)
          have HYS := Lib.hid (fun (h : provL l a0 l2[j] ≠ []) => (show P0 ++ (l2.take (j + 1)).flatMap (lnkN l ⟨a0, a1, ⟨a2, a3⟩, l2⟩) = P0 ++ (l2.take j).flatMap (lnkN l ⟨a0, a1, ⟨a2, a3⟩, l2⟩) ++ [⟨a0, provL l a0 l2[j], l2[j].fFace⟩] by rw [lnk_some (l := l) (x := ⟨a0, a1, ⟨a2, a3⟩, l2⟩) hlj h, List.append_assoc]))
          have HNO := Lib.hid (fun (h : provL l a0 l2[j] = []) => (show P0 ++ (l2.take (j + 1)).flatMap (lnkN l ⟨a0, a1, ⟨a2, a3⟩, l2⟩) = P0 ++ (l2.take j).flatMap (lnkN l ⟨a0, a1, ⟨a2, a3⟩, l2⟩) by rw [lnk_none (l := l) (x := ⟨a0, a1, ⟨a2, a3⟩, l2⟩) hlj h]))
          try simp only at HFJ HLB
          generalize hL1 : P0 ++ (l2.take (j + 1)).flatMap (lnkN l ⟨a0, a1, ⟨a2, a3⟩, l2⟩) = L1 at HYS HNO
          have HE1 := Lib.hid hL1
          clear hL1
          generalize P0 ++ (l2.take j).flatMap (lnkN l ⟨a0, a1, ⟨a2, a3⟩, l2⟩) = L at *
          generalize l2[j] = y at *
          obtain ⟨m0, m1, m2, m3⟩ := y
          simp only [rFlat, cNeed] at hat2
          subst hat2
          have d0 := (HB2.out.cell (p := ⟨q, o2 + j * 4 + 0, none⟩) hq).trans (hd2 0 (by decide))
          have d1 := (HB2.out.cell (p := ⟨q, o2 + j * 4 + 1, none⟩) hq).trans (hd2 1 (by decide))
          have d2 := (HB2.out.cell (p := ⟨q, o2 + j * 4 + 2, none⟩) hq).trans (hd2 2 (by decide))
          have d3 := (HB2.out.cell (p := ⟨q, o2 + j * 4 + 3, none⟩) hq).trans (hd2 3 (by decide))
          simp only [List.getElem?_cons_zero, List.getElem?_cons_succ, Nat.add_zero] at d0 d1 d2 d3
          have hkj : (j : Int) < (l2.length : Int) := by omega
          have BN := Lib.hid (Bx.new wr [.int .i64 m0, .string ⟨m1.toArray⟩, .int .i64 m2, .int .i64 m3] 97)
          have HBN := Lib.hid (belS HB2.out (bx_box wr (.cells #[.int .i64 m0, .string ⟨m1.toArray⟩, .int .i64 m2, .int .i64 m3] 97)))
          have HON := Lib.hid (HO2.out.below (bx_box wr (.cells #[.int .i64 m0, .string ⟨m1.toArray⟩, .int .i64 m2, .int .i64 m3] 97)) (Nat.le_refl _))
          have BEN := Lib.hid (BE2.out.alloc (.cells #[.int .i64 m0, .string ⟨m1.toArray⟩, .int .i64 m2, .int .i64 m3] 97))
          have HP := Lib.hid (HPV.out a0 ⟨m0, m1, m2, m3⟩)
          simp only [vNeed] at HP HFJ HYS HNO
          generalize provL l a0 ⟨m0, m1, m2, m3⟩ = p at *
          have HXN := Lib.hid (HX.out.below goodEntry HBN.out (Nat.le_refl _))
          clear hd2
          have e0 := BEN.out.cell 0 (by simp)
          have e1 := BEN.out.cell 1 (by simp)
          have e2 := BEN.out.cell 2 (by simp)
          have e3 := BEN.out.cell 3 (by simp)
          have e4 := BEN.out.cell 4 (by simp)
          simp only [List.getElem_cons_zero, List.getElem_cons_succ] at e0 e1 e2 e3 e4
          have n0 := BN.out.cell 0 (by simp)
          have n1 := BN.out.cell 1 (by simp)
          have n2 := BN.out.cell 2 (by simp)
          have n3 := BN.out.cell 3 (by simp)
          simp only [List.getElem_cons_zero, List.getElem_cons_succ] at n0 n1 n2 n3
          go_wp2_with fail
          refine (HP.out _ HXN.out HFJ.out).mono ?_
          rintro e w3 ⟨rfl, hb⟩
          have HB3 := Lib.hid (belS HBN.out hb)
          have HO3 := Lib.hid (HON.out.below hb (Nat.le_refl _))
          have BE3 := Lib.hid (BEN.out.below hb)
          have BN3 := Lib.hid (BN.out.below hb)
          have HW3 := Lib.hid (belS (bx_box wr (.cells #[.int .i64 m0, .string ⟨m1.toArray⟩, .int .i64 m2, .int .i64 m3] 97)) hb)
          clear hb e0 e1 e2 e3 e4 n0 n1 n2 n3 d0 d1 d2 d3 HXN BEN BN HON HBN
          cases p with
          | nil =>
            have HL1 := Lib.hid (HNO.out rfl)
            clear HNO HYS
            go_wp2_with fail
            exact ⟨⟨j + 1, by omega, by go_num, by rw [HE1.out, HL1.out]; exact HO3.out, HB3.out, BE3.out⟩, by simp [intOf]; omega⟩
          | cons c r =>
            have HL1 := Lib.hid (HYS.out (by simp))
            clear HNO HYS
            obtain ⟨f, hm, ho, hap, hav⟩ := HO2.out
            have HMM := Lib.hid (hm.below HW3.out (Nat.le_refl _))
            have HOO := Lib.hid ho
            have HAP := Lib.hid hap
            have HAV := Lib.hid hav
            have HNL := Lib.hid (show a0.length ≤ 140737488355328 from Nat.le_trans HGE.out.1 (by decide))
            have HLK := Lib.hid (fun W (h : MapAt W w.heap.size L.length (.slice none 0 0) f) => h.look Tryz.underlying102 (zeroLinks W) a0 (Nat.le_trans HGE.out.1 (by decide)))
            clear hm ho hap hav
            have e0 := BE3.out.cell 0 (by simp)
            have e1 := BE3.out.cell 1 (by simp)
            have e2 := BE3.out.cell 2 (by simp)
            have e3 := BE3.out.cell 3 (by simp)
            have e4 := BE3.out.cell 4 (by simp)
            simp only [List.getElem_cons_zero, List.getElem_cons_succ] at e0 e1 e2 e3 e4
            have n0 := BN3.out.cell 0 (by simp)
            have n1 := BN3.out.cell 1 (by simp)
            have n2 := BN3.out.cell 2 (by simp)
            have n3 := BN3.out.cell 3 (by simp)
            simp only [List.getElem_cons_zero, List.getElem_cons_succ] at n0 n1 n2 n3
            have HLE := Lib.hid BE3.out.lt
            have HLN := Lib.hid BN3.out.lt
            have HLM := Lib.hid HMM.out.lt
            go_wp2_with fail
            refine region_T (S := (fun w' => w'.cell? ⟨bE, 0, none⟩ = some (.string ⟨a0.toArray⟩) ∧ w'.cell? ⟨wr.heap.size, 0, none⟩ = some (.int .i64 m0) ∧ MapAt w' w.heap.size L.length (.slice none 0 0) f)) (t := 16) (by kernel_rfl) ?_ (fun hHeld => ?_)
            · exact ⟨e0, n0, HMM.out⟩
            have hbd := belD (Below.refl w3.heap.size w3)
            have HBD3 := Lib.hid hbd
            clear hbd
            generalize w3.drew = wD at *
            refine anyT_take (i := 0) (v := ?_) rfl (by kernel_rfl) (by kernel_rfl) (by kernel_rfl) (by kernel_rfl) (by kernel_rfl) (fun _ _ _ h => h) (Or.inl ⟨by rfl, ?_⟩) (by assumption) ?_
            rotate_left
            · intro w hSw; (try dsimp only at hSw); go_simp; with_reducible rfl
            try simp only [Act.put, List.getElem_toArray, List.getElem_cons_zero, List.getElem_cons_succ, List.setIfInBounds_toArray, List.set_cons_zero, List.set_cons_succ]
            refine anyT_take (i := 1) (v := ?_) rfl (by kernel_rfl) (by kernel_rfl) (by kernel_rfl) (by kernel_rfl) (by kernel_rfl) (fun _ _ _ h => h) (Or.inl ⟨by rfl, ?_⟩) (by assumption) ?_
            rotate_left
            · intro w hSw; (try dsimp only at hSw); go_simp; with_reducible rfl
            try simp only [Act.put, List.getElem_toArray, List.getElem_cons_zero, List.getElem_cons_succ, List.setIfInBounds_toArray, List.set_cons_zero, List.set_cons_succ]
            refine anyT_take (i := 2) (v := ?_) rfl (by kernel_rfl) (by kernel_rfl) (by kernel_rfl) (by kernel_rfl) (by kernel_rfl) (fun _ _ _ h => h) (Or.inl ⟨by rfl, ?_⟩) (by assumption) ?_
            rotate_left
            · intro w hSw; (try dsimp only at hSw); go_simp; with_reducible rfl
            try simp only [Act.put, List.getElem_toArray, List.getElem_cons_zero, List.getElem_cons_succ, List.setIfInBounds_toArray, List.set_cons_zero, List.set_cons_succ]
            refine anyT_take (i := 3) (v := ?_) rfl (by kernel_rfl) (by kernel_rfl) (by kernel_rfl) (by kernel_rfl) (by kernel_rfl) (fun _ _ _ h => h) (Or.inl ⟨by rfl, ?_⟩) (by assumption) ?_
            rotate_left
            · intro w hSw; (try dsimp only at hSw); go_simp; with_reducible rfl
            try simp only [Act.put, List.getElem_toArray, List.getElem_cons_zero, List.getElem_cons_succ, List.setIfInBounds_toArray, List.set_cons_zero, List.set_cons_succ]
            refine anyT_take (i := 4) (v := ?_) rfl (by kernel_rfl) (by kernel_rfl) (by kernel_rfl) (by kernel_rfl) (by kernel_rfl) (fun _ _ _ h => h) (Or.inl ⟨by rfl, ?_⟩) (by assumption) ?_
            rotate_left
            · intro w hSw; (try dsimp only at hSw); go_simp; with_reducible rfl
            try simp only [Act.put, List.getElem_toArray, List.getElem_cons_zero, List.getElem_cons_succ, List.setIfInBounds_toArray, List.set_cons_zero, List.set_cons_succ]
            refine anyT_take (i := 5) (v := ?_) rfl (by kernel_rfl) (by kernel_rfl) (by kernel_rfl) (by kernel_rfl) (by kernel_rfl) (fun _ _ _ h => h) (Or.inl ⟨by rfl, ?_⟩) (by assumption) ?_
            rotate_left
            · intro w hSw; (try dsimp only at hSw); go_simp; with_reducible rfl
            try simp only [Act.put, List.getElem_toArray, List.getElem_cons_zero, List.getElem_cons_succ, List.setIfInBounds_toArray, List.set_cons_zero, List.set_cons_succ]
            refine anyT_take (i := 6) (v := ?_) rfl (by kernel_rfl) (by kernel_rfl) (by kernel_rfl) (by kernel_rfl) (by kernel_rfl) (fun _ _ _ h => h) (Or.inl ⟨by rfl, ?_⟩) (by assumption) ?_
            rotate_left
            · intro w hSw; have hlk := HLK.out w hSw.2.2; (try dsimp only at hSw); go_simp; with_reducible rfl
            try simp only [Act.put, List.getElem_toArray, List.getElem_cons_zero, List.getElem_cons_succ, List.setIfInBounds_toArray, List.set_cons_zero, List.set_cons_succ]
            refine anyT_take (i := 7) (v := ?_) rfl (by kernel_rfl) (by kernel_rfl) (by kernel_rfl) (by kernel_rfl) (by kernel_rfl) (fun _ _ _ h => h) (Or.inl ⟨by rfl, ?_⟩) (by assumption) ?_
            rotate_left
            · intro w hSw; (try dsimp only at hSw); go_simp; with_reducible rfl
            try simp only [Act.put, List.getElem_toArray, List.getElem_cons_zero, List.getElem_cons_succ, List.setIfInBounds_toArray, List.set_cons_zero, List.set_cons_succ]
            refine anyT_take (i := 8) (v := ?_) rfl (by kernel_rfl) (by kernel_rfl) (by kernel_rfl) (by kernel_rfl) (by kernel_rfl) (fun _ _ _ h => h) (Or.inl ⟨by rfl, ?_⟩) (by assumption) ?_
            rotate_left
            · intro w hSw; (try dsimp only at hSw); go_simp; with_reducible rfl
            try simp only [Act.put, List.getElem_toArray, List.getElem_cons_zero, List.getElem_cons_succ, List.setIfInBounds_toArray, List.set_cons_zero, List.set_cons_succ]
            refine anyT_take (i := 10) (v := ?_) rfl (by kernel_rfl) (by kernel_rfl) (by kernel_rfl) (by kernel_rfl) (by kernel_rfl) (fun _ _ _ h => h) (Or.inl ⟨by rfl, ?_⟩) (by assumption) ?_
            rotate_left
            · intro w hSw; (try dsimp only at hSw); go_simp; with_reducible rfl
            try simp only [Act.put, List.getElem_toArray, List.getElem_cons_zero, List.getElem_cons_succ, List.setIfInBounds_toArray, List.set_cons_zero, List.set_cons_succ]
            refine anyT_take (i := 11) (v := ?_) rfl (by kernel_rfl) (by kernel_rfl) (by kernel_rfl) (by kernel_rfl) (by kernel_rfl) (fun _ _ _ h => h) (Or.inl ⟨by rfl, ?_⟩) (by assumption) ?_
            rotate_left
            · intro w hSw; (try dsimp only at hSw); go_simp; with_reducible rfl
            try simp only [Act.put, List.getElem_toArray, List.getElem_cons_zero, List.getElem_cons_succ, List.setIfInBounds_toArray, List.set_cons_zero, List.set_cons_succ]
            refine anyT_take (i := 12) (v := ?_) rfl (by kernel_rfl) (by kernel_rfl) (by kernel_rfl) (by kernel_rfl) (by kernel_rfl) (fun _ _ _ h => h) (Or.inl ⟨by rfl, ?_⟩) (by assumption) ?_
            rotate_left
            · intro w hSw; (try dsimp only at hSw); go_simp; with_reducible rfl
            try simp only [Act.put, List.getElem_toArray, List.getElem_cons_zero, List.getElem_cons_succ, List.setIfInBounds_toArray, List.set_cons_zero, List.set_cons_succ]
            refine anyT_only (i := 9) (by kernel_rfl) rfl (fun K hK => ?_)
            go_simp
            go_at_call 91
            refine (HCT.out ⟨a0.toArray⟩ _ HNL.out).mono ?_
            rintro e w4 ⟨rfl, hb⟩
            have HB4 := Lib.hid (HBD3.out.trans (hb.mono HBD3.out.size))
            clear hb
            refine hK.out _ _ ?_ (fun hHeld => ?_)
            · exact ⟨(HB4.out.cell (p := ⟨bE, 0, none⟩) HLE.out).trans e0, (HB4.out.cell (p := ⟨wr.heap.size, 0, none⟩) HLN.out).trans n0, HMM.out.below HB4.out (Nat.le_refl _)⟩
            clear hK K
            try simp only [Act.put, List.getElem_toArray, List.getElem_cons_zero, List.getElem_cons_succ, List.setIfInBounds_toArray, List.set_cons_zero, List.set_cons_succ]
            refine anyT_take (i := 13) (v := ?_) rfl (by kernel_rfl) (by kernel_rfl) (by kernel_rfl) (by kernel_rfl) (by kernel_rfl) (fun _ _ _ h => h) (Or.inl ⟨by rfl, ?_⟩) (by assumption) ?_
            rotate_left
            · intro w hSw; (try dsimp only at hSw); go_simp; with_reducible rfl
            try simp only [Act.put, List.getElem_toArray, List.getElem_cons_zero, List.getElem_cons_succ, List.setIfInBounds_toArray, List.set_cons_zero, List.set_cons_succ]
            refine anyT_only (i := 14) (by kernel_rfl) rfl (fun K hK => ?_)
            go_simp
            have HB5 := Lib.hid (HB4.out.alloc HB4.out.size (.cells #[.string ⟨a0.toArray⟩, .string ⟨(c :: r).toArray⟩, .int .i64 m0] 100))
            refine hK.out _ _ ?_ (fun hHeld => ?_)
            · exact ⟨(HB5.out.cell (p := ⟨bE, 0, none⟩) HLE.out).trans e0, (HB5.out.cell (p := ⟨wr.heap.size, 0, none⟩) HLN.out).trans n0, HMM.out.below HB5.out (Nat.le_refl _)⟩
            clear hK K
            try simp only [Act.put, List.getElem_toArray, List.getElem_cons_zero, List.getElem_cons_succ, List.setIfInBounds_toArray, List.set_cons_zero, List.set_cons_succ]
            have HCB := Lib.hid (show ∀ i, i < 3 → (w4.alloc (.cells #[.string ⟨a0.toArray⟩, .string ⟨(c :: r).toArray⟩, .int .i64 m0] 100)).cell? ⟨w4.heap.size, i, none⟩ = (cLink ⟨a0, c :: r, m0⟩)[i]? from fun i hi => by rw [cell_of_row _ _ _ _ 100 (0, 0) (heap_alloc_new _ _)]; rcases (show i = 0 ∨ i = 1 ∨ i = 2 by omega) with rfl | rfl | rfl <;> rfl)
            generalize w4.alloc (.cells #[.string ⟨a0.toArray⟩, .string ⟨(c :: r).toArray⟩, .int .i64 m0] 100) = w5 at *
            refine anyT_only (i := 15) (by kernel_rfl) rfl (fun K hK => ?_)
            refine step_flat cLink_len oneCellLink infoLinkL rfl (by decide) (by decide) Tryz.underlying47 rfl _ _ rfl (w.heap.size + 1) (f a0) (frm L a0) ⟨a0, c :: r, m0⟩ _ w4.heap.size (by rfl) (ownsF_below (HOO.out a0) (belS HW3.out HB5.out) (Nat.le_refl _)) (by rfl) HCB.out (Nat.le_trans (frm_len L a0) (Nat.le_trans HLB.out (by decide))) (by have h1 := HB5.out.size; have h2 := HLE.out; omega) ?_
            intro v6 w6 hO6 hg6 hl6
            have HO6 := Lib.hid hO6
            have HG6 := Lib.hid hg6
            have HL6 := Lib.hid hl6
            clear hO6 hg6 hl6
            have HFL := Lib.hid (show ∀ q, (f a0).ownBlock = some q → w.heap.size + 1 ≤ q ∧ q < wr.heap.size from fun q h => World.ownsRow.lt (HOO.out a0) q h)
            have HM6 := Lib.hid ((HMM.out.below HB5.out (Nat.le_refl _)).kept HG6.out (fun e => by have := HFL.out _ e.symm; omega))
            have BE6 := Lib.hid ((BE3.out.below HB5.out).grown HG6.out (HAV.out a0))
            have BN6 := Lib.hid ((BN3.out.below HB5.out).grown HG6.out (fun e => by have := HFL.out _ e; omega))
            refine hK.out _ _ ?_ (fun hHeld => ?_)
            · exact ⟨BE6.out.cell 0 (by simp), BN6.out.cell 0 (by simp), HM6.out⟩
            clear hK K
            try simp only [Act.put, List.getElem_toArray, List.getElem_cons_zero, List.getElem_cons_succ, List.setIfInBounds_toArray, List.set_cons_zero, List.set_cons_succ]
            refine anyT_tail (by kernel_rfl) rfl (fun K hK => ?_)
            refine step_store rfl _ _ _ 102 47 rfl Tryz.underlying102 w.heap.size L.length (.slice none 0 0) f (by rfl) HM6.out (by have := HLB.out; unfold maxLen; omega) a0 v6 (by rfl) (by rfl) (Nat.le_trans HGE.out.1 (by decide)) ?_
            intro w7 hm7 hg7
            have HM7 := Lib.hid hm7
            have HG7 := Lib.hid hg7
            clear hm7 hg7
            have HO7 := Lib.hid (lnkOwn_step (X := bE) (y := ⟨a0, c :: r, m0⟩) (Nat.lt_succ_self _) BE2.out.lt HAV.out HOO.out HAP.out (belS HW3.out HB5.out) (show OwnsF cLink 100 3 w6 (w.heap.size + 1) v6 (frm L a0 ++ [⟨a0, c :: r, m0⟩]) from HO6.out) HG6.out HL6.out HM7.out HG7.out)
            have BE7 := Lib.hid (BE6.out.grown HG7.out (fun e => by injection e with e; omega))
            have HB7 := Lib.hid (Below.grown (Below.grown (belS HB3.out HB5.out) HG6.out (by have h1 := HB3.out.size; have h2 := HB5.out.size; omega) (fun q h => by have := HFL.out q h; omega)) HG7.out (by have h1 := HB3.out.size; have h2 := HB5.out.size; have h3 := HG6.out.size; omega) (fun q h => by injection h with h; omega))
            refine hK.out _ _ ?_
            clear hK K
            try simp only [Act.put, List.getElem_toArray, List.getElem_cons_zero, List.getElem_cons_succ, List.setIfInBounds_toArray, List.set_cons_zero, List.set_cons_succ]
            refine anyT_done (by kernel_rfl) ?_ _
            go_wp2_with fail
            exact ⟨⟨j + 1, by omega, by go_num, by rw [HE1.out, HL1.out]; exact HO7.out, HB7.out, BE7.out⟩, by simp [intOf]; omega⟩
        · have hkj : ¬ (j : Int) < (l2.length : Int) := by omega
          have HTL := Lib.hid (show P0 ++ (l2.take j).flatMap (lnkN l ⟨a0, a1, ⟨a2, a3⟩, l2⟩) = (l.take (k + 1)).flatMap (lnkE l) by rw [HTK.out, List.take_of_length_le (by omega)]; rfl)
          go_wp2_with fail
          exact ⟨⟨k + 1, by omega, by go_num, by rw [← HTL.out]; exact HO2.out.avoid (Or.inl (by omega)), HB2.out, by have := BE2.out.lt; omega⟩, by simp [intOf]; omega⟩
    · have HTL := Lib.hid (show (l.take k).flatMap (lnkE l) = lnkA l by rw [List.take_of_length_le (by omega)]; rfl)
      have hkl : ¬ (k : Int) < (l.length : Int) := by omega
      go_wp2_with fail
      go_ret
      exact ⟨_, rfl, lnkAt_of (by rw [← HTL.out]; exact HO.out) (Nat.le_succ _), HBr.out⟩
end Go.Proofs.YteeopjcbpngofaaGreat
/- Contracts of chapter 6: lacksProvider, LinksOf, MissingOf, the program's. Written by gen/ch6m.py. -/
namespace Go.Proofs.YteeopjcbpngofaaGreat
set_option linter.unusedVariables false
set_option linter.unusedSimpArgs false
open Go.RowKit
/-- an entry has fewer links than needs -/
def lacksB (l : List EntryD) (e : EntryD) : Bool := decide ((frm (lnkA l) e.fName).length < e.fNeeds.length)
def missN (l m : List EntryD) : List Nm := (m.filter (lacksB l)).map (·.fName)
def missL (l : List EntryD) : List Nm := if regB l = true then ascL (missN l l) else []
theorem missN_take {l : List EntryD} {k : Nat} (hk : k < l.length) : missN l (l.take (k + 1)) = missN l (l.take k) ++ (if lacksB l l[k] = true then [l[k].fName] else []) := by
  unfold missN
  rw [List.take_succ_eq_append_getElem hk, List.filter_append, List.map_append]
  congr 1
  by_cases h : lacksB l l[k] = true <;> simp [h]
theorem missN_len (l m : List EntryD) : (missN l m).length ≤ m.length := by unfold missN; rw [List.length_map]; exact List.length_filter_le ..
set_option maxRecDepth 100000 in
set_option maxHeartbeats 3200000 in
theorem lacks_c (b lo hi : Nat) (L : List LinkD) (x : EntryD) (v : Value) (w : World) (hL : LnkAt w lo hi b L) (hx : ValAt rEntry 0 w v x) (hn : x.fName.length ≤ 1048576) :
    Calls Tryz.prog 78 #[.map (some b), v] w fun e w' => e = .returned (.bool (decide ((frm L x.fName).length < x.fNeeds.length))) ∧ Below w.heap.size w w' := by
  obtain ⟨cs, rfl, hx⟩ := hx
  obtain ⟨a0, a1, ⟨a2, a3⟩, l2⟩ := x
  obtain ⟨v1, v4, rfl, h1, h4⟩ := hx
  simp only at h1 h4 hn ⊢
  obtain ⟨ra, rc, rfl, _⟩ := sliceAt_len h1
  obtain ⟨sa, sc, rfl, hl4⟩ := sliceAt_len h4
  unfold maxLen at hl4
  have hb := bx_box w (.cells #[.string ⟨a0.toArray⟩, .slice ra a1.length rc, .int .i64 a2, .int .i64 a3, .slice sa l2.length sc] 95)
  have BX := Lib.hid (Bx.new w [.string ⟨a0.toArray⟩, .slice ra a1.length rc, .int .i64 a2, .int .i64 a3, .slice sa l2.length sc] 95)
  obtain ⟨n, f, hm, _, hf⟩ := hL.below hb (Nat.le_refl _)
  have hlk := hm.look Tryz.underlying102 (zeroLinks _) a0 (Nat.le_trans hn (by decide))
  obtain ⟨fa, fc, hfa⟩ := slice_of (hf a0).1
  rw [hfa] at hlk
  have HB := Lib.hid hb
  generalize (frm L a0).length = q at *
  clear hb hm hf hfa hL h1 h4
  have e0 := BX.out.cell 0 (by simp)
  have e1 := BX.out.cell 1 (by simp)
  have e2 := BX.out.cell 2 (by simp)
  have e3 := BX.out.cell 3 (by simp)
  have e4 := BX.out.cell 4 (by simp)
  simp only [List.getElem_cons_zero, List.getElem_cons_succ] at e0 e1 e2 e3 e4
  go_enter Tryz.func78, Tryz.ntmps78
  by_cases hq : q < l2.length
  · have hqi : (q : Int) < (l2.length : Int) := by omega
    go_wp2_with fail
    go_ret
    exact ⟨ret_bool (by simp [hq]), HB.out⟩
  · have hqi : ¬ (q : Int) < (l2.length : Int) := by omega
    go_wp2_with fail
    go_ret
    exact ⟨ret_bool (by simp [hq]), HB.out⟩
set_option maxRecDepth 100000 in
set_option maxHeartbeats 3200000 in
theorem implLinksOf_any (v : Value) (l : List EntryD) (w : World) (hx : SliceAt rEntry 5 0 w v l) (hg : RegOk l) :
    Calls Tryz.prog 28 #[v] w fun e w' => GivesF cLink 100 3 (lnkL l) w e w' := by
  have hl0 := sliceAt_len hx
  have HX := Lib.hid hx
  have HG := Lib.hid hg
  have HIR := Lib.hid (fun W (h : SliceAt rEntry 5 0 W v l) => implIsReg_any v l W h hg.each)
  have HLN := Lib.hid (fun W (h : SliceAt rEntry 5 0 W v l) => linksByName_c v l W h hg)
  obtain ⟨a, c, rfl, hl⟩ := hl0
  unfold maxLen at hl
  clear hx hg
  have HO0 := Lib.hid (ownsF_new cLink 100 3 w)
  have HB0 := Lib.hid (bx_box w (.cells #[] 100))
  have HAB := Lib.hid (lnkA_bound HG.out)
  have HZ0 := Lib.hid (show (w.alloc (.cells #[] 100)).heap.size = w.heap.size + 1 by simp)
  go_enter Tryz.func28, Tryz.ntmps28
  go_wp2_with fail
  generalize w.alloc (.cells #[] 100) = wS at *
  refine (HIR.out _ (HX.out.below goodEntry HB0.out (Nat.le_refl _))).mono ?_
  rintro e w1 ⟨rfl, hb⟩
  have HB1 := Lib.hid (belS HB0.out hb)
  have HO1 := Lib.hid (ownsF_below HO0.out hb (Nat.le_refl _))
  have HZ1 := Lib.hid (show w.heap.size + 1 ≤ w1.heap.size by have := hb.size; have := HZ0.out; omega)
  clear hb
  cases hrb : regB l
  · have HR := Lib.hid (show lnkL l = [] by unfold lnkL; rw [hrb]; rfl)
    clear hrb
    go_wp2_with fail
    go_ret
    exact ⟨_, rfl, by rw [HR.out]; exact HO1.out, HB1.out⟩
  · have HR := Lib.hid (show lnkL l = lnkA l by unfold lnkL; rw [hrb]; rfl)
    have HFL := Lib.hid (flatMap_frm hrb)
    have HSM := Lib.hid (fun k => (show (l.take k).flatMap (fun x => frm (lnkA l) x.fName) = (l.take k).flatMap (lnkE l) from flatMap_eq fun x hx => frm_lnkA hrb x (List.mem_of_mem_take hx)))
    have HSL := Lib.hid (fun k => (show ((l.take k).flatMap (lnkE l)).length ≤ (lnkA l).length from by
      have : lnkA l = (l.take k).flatMap (lnkE l) ++ (l.drop k).flatMap (lnkE l) := by unfold lnkA; rw [← List.flatMap_append, List.take_append_drop]
      rw [this, List.length_append]; omega))
    clear hrb
    go_wp2_with fail
    refine (HLN.out _ (HX.out.below goodEntry HB1.out (Nat.le_refl _))).mono ?_
    rintro e w2 ⟨bM, rfl, hL, hb⟩
    have HB2 := Lib.hid (belS HB1.out hb)
    have HO2 := Lib.hid (ownsF_below HO1.out hb (Nat.le_refl _))
    have HL2 := Lib.hid hL
    have HZ2 := Lib.hid hb.size
    clear hb hL
    go_wp2_with fail
    go_loopw [3, 6, 16] (fun ov _ i wr => ∃ k : Nat, k ≤ l.length ∧ i = .int .i64 k ∧ OwnsF cLink 100 3 wr w.heap.size ov ((l.take k).flatMap fun x => frm (lnkA l) x.fName) ∧ ov ≠ .slice none 0 0 ∧ (∀ q, w1.heap.size ≤ q → q < w2.heap.size → ov.ownBlock ≠ some q) ∧ LnkAt wr w1.heap.size w2.heap.size bM (lnkA l) ∧ Below w.heap.size w wr ∧ w2.heap.size ≤ wr.heap.size) (fun _ _ i _ => l.length - (intOf i).toNat)
    case atStart => exact ⟨0, Nat.zero_le _, rfl, HO2.out, by simp, fun q h1 h2 e => by have := HZ1.out; simp [Value.ownBlock] at e; omega, HL2.out, HB2.out, Nat.le_refl _⟩
    case round =>
      obtain ⟨k, hk, rfl, hO, hnn, hap, hL, hbr, hzr⟩ := hrel
      have HO := Lib.hid hO
      have HNN := Lib.hid hnn
      have HAP := Lib.hid hap
      have HL := Lib.hid hL
      have HBr := Lib.hid hbr
      clear hO hnn hap hL hbr
      by_cases hlt : k < l.length
      · skip
        obtain ⟨b, o, cs, rfl, hbw, hat, hd⟩ := sliceAt_cell HX.out k hlt
        have HM := Lib.hid (List.getElem_mem hlt)
        have HGE := Lib.hid (HG.out.each _ HM.out)
        have HTK := Lib.hid (show (l.take (k + 1)).flatMap (fun x => frm (lnkA l) x.fName) = (l.take k).flatMap (fun x => frm (lnkA l) x.fName) ++ frm (lnkA l) l[k].fName by rw [List.take_succ_eq_append_getElem hlt, List.flatMap_append]; simp)
        generalize l[k] = z at *
        obtain ⟨a0, a1, ⟨a2, a3⟩, l2⟩ := z
        have HAT := Lib.hid (fun W (hb : Below w.heap.size w W) => goodEntry.keep hat (kept_below hb (Nat.le_refl _)))
        obtain ⟨v1, v4, rfl, h1, h4⟩ := hat
        simp only at h1 h4 HGE HTK
        obtain ⟨ra, rc, rfl, _⟩ := sliceAt_len h1
        obtain ⟨sa, sc, rfl, hl4⟩ := sliceAt_len h4
        unfold maxLen at hl4
        have HN4 := Lib.hid h4
        have d0 := (HBr.out.cell (p := ⟨b, o + k * 5 + 0, none⟩) hbw).trans (hd 0 (by decide))
        have d1 := (HBr.out.cell (p := ⟨b, o + k * 5 + 1, none⟩) hbw).trans (hd 1 (by decide))
        have d2 := (HBr.out.cell (p := ⟨b, o + k * 5 + 2, none⟩) hbw).trans (hd 2 (by decide))
        have d3 := (HBr.out.cell (p := ⟨b, o + k * 5 + 3, none⟩) hbw).trans (hd 3 (by decide))
        have d4 := (HBr.out.cell (p := ⟨b, o + k * 5 + 4, none⟩) hbw).trans (hd 4 (by decide))
        simp only [List.getElem?_cons_zero, List.getElem?_cons_succ, Nat.add_zero] at d0 d1 d2 d3 d4
        have hkl : (k : Int) < (l.length : Int) := by omega
        clear hd h1 h4 HM
        have HLT := Lib.hid (show ((l.take k).flatMap (fun x => frm (lnkA l) x.fName)).length + (frm (lnkA l) a0).length ≤ 4194304 by rw [← List.length_append, ← HTK.out, HSM.out]; exact Nat.le_trans (HSL.out _) HAB.out)
        generalize (l.take k).flatMap (fun x => frm (lnkA l) x.fName) = M at *
        have hb := bx_box wr (.cells #[.string ⟨a0.toArray⟩, .slice ra a1.length rc, .int .i64 a2, .int .i64 a3, .slice sa l2.length sc] 95)
        have HB3 := Lib.hid (belS HBr.out hb)
        have HO3 := Lib.hid (ownsF_below HO.out hb (Nat.le_refl _))
        have HL3 := Lib.hid (HL.out.below hb (Nat.le_refl _))
        have BX := Lib.hid (Bx.new wr [.string ⟨a0.toArray⟩, .slice ra a1.length rc, .int .i64 a2, .int .i64 a3, .slice sa l2.length sc] 95)
        obtain ⟨n, f, hm, _, hf⟩ := HL3.out
        have hlk := hm.look Tryz.underlying102 (zeroLinks _) a0 (Nat.le_trans HGE.out.1 (by decide))
        have HFA := Lib.hid (ownsF_at (hf a0).1 (by have := HLT.out; omega))
        have HZ3 := Lib.hid hb.size
        clear hb hm hf
        generalize f a0 = fv at *
        have e0 := BX.out.cell 0 (by simp)
        have e1 := BX.out.cell 1 (by simp)
        have e2 := BX.out.cell 2 (by simp)
        have e3 := BX.out.cell 3 (by simp)
        have e4 := BX.out.cell 4 (by simp)
        simp only [List.getElem_cons_zero, List.getElem_cons_succ] at e0 e1 e2 e3 e4
        go_wp2_with (at_builtin; (refine append_flatS cLink_len oneCellLink infoLinkL rfl (by decide) (by decide) Tryz.underlying47 zeroLinksA rfl _ _ rfl w.heap.size _ fv M (frm (lnkA l) a0) _ (by rfl) HO3.out HNN.out (by rfl) HFA.out HLT.out HB3.out.size ?_; intro v3 w3 hO3 hg3 hl3 hn3; have HO4 := Lib.hid hO3; have HG4 := Lib.hid hg3; have HL4 := Lib.hid hl3; have HN4' := Lib.hid hn3; clear hO3 hg3 hl3 hn3))
        refine ⟨⟨k + 1, by omega, by go_num, by rw [HTK.out]; exact HO4.out, HN4'.out, fun q h1 h2 => HL4.out q (by have := HZ3.out; omega) (HAP.out q h1 h2), HL3.out.grown HG4.out (fun g e => ?_), Below.grown HB3.out HG4.out HB3.out.size (fun g e => (World.ownsRow.lt HO3.out g e).1), by have := HG4.out.size; have := HZ3.out; omega⟩, by simp [intOf]; omega⟩
        by_cases h : w1.heap.size ≤ g ∧ g < w2.heap.size
        · exact absurd e (HAP.out g h.1 h.2)
        · omega
      · have HTL := Lib.hid (show (l.take k).flatMap (fun x => frm (lnkA l) x.fName) = lnkL l by rw [HR.out, List.take_of_length_le (by omega)]; exact HFL.out)
        have hkl : ¬ (k : Int) < (l.length : Int) := by omega
        go_wp2_with fail
        go_ret
        exact ⟨_, rfl, by rw [← HTL.out]; exact HO.out, HBr.out⟩
set_option maxRecDepth 100000 in
set_option maxHeartbeats 3200000 in
theorem implMissing_any (v : Value) (l : List EntryD) (w : World) (hx : SliceAt rEntry 5 0 w v l) (hg : RegOk l) :
    Calls Tryz.prog 35 #[v] w fun e w' => GivesRow (missL l) w e w' := by
  have hl0 := sliceAt_len hx
  have HX := Lib.hid hx
  have HG := Lib.hid hg
  have HIR := Lib.hid (fun W (h : SliceAt rEntry 5 0 W v l) => implIsReg_any v l W h hg.each)
  have HLN := Lib.hid (fun W (h : SliceAt rEntry 5 0 W v l) => linksByName_c v l W h hg)
  obtain ⟨a, c, rfl, hl⟩ := hl0
  unfold maxLen at hl
  clear hx hg
  have HO0 := Lib.hid (owns_new w)
  have HB0 := Lib.hid (bx_box w (.cells #[] 9))
  have HZ0 := Lib.hid (show (w.alloc (.cells #[] 9)).heap.size = w.heap.size + 1 by simp)
  go_enter Tryz.func35, Tryz.ntmps35
  go_wp2_with fail
  generalize w.alloc (.cells #[] 9) = wS at *
  refine (HIR.out _ (HX.out.below goodEntry HB0.out (Nat.le_refl _))).mono ?_
  rintro e w1 ⟨rfl, hb⟩
  have HB1 := Lib.hid (belS HB0.out hb)
  have HO1 := Lib.hid (owns_below HO0.out hb (Nat.le_refl _))
  have HZ1 := Lib.hid (show w.heap.size + 1 ≤ w1.heap.size by have := hb.size; have := HZ0.out; omega)
  clear hb
  cases hrb : regB l
  · have HR := Lib.hid (show missL l = [] by unfold missL; rw [hrb]; rfl)
    clear hrb
    go_wp2_with fail
    go_ret
    exact ⟨_, rfl, by rw [HR.out]; exact HO1.out, HB1.out⟩
  · have HR := Lib.hid (show missL l = ascL (missN l l) by unfold missL; rw [hrb]; rfl)
    have HL6 := Lib.hid (reg_len hrb)
    clear hrb
    go_wp2_with fail
    refine (HLN.out _ (HX.out.below goodEntry HB1.out (Nat.le_refl _))).mono ?_
    rintro e w2 ⟨bM, rfl, hL, hb⟩
    have HB2 := Lib.hid (belS HB1.out hb)
    have HO2 := Lib.hid (owns_below HO1.out hb (Nat.le_refl _))
    have HL2 := Lib.hid hL
    clear hb hL
    go_wp2_with fail
    go_loopw [3, 6, 16] (fun ov _ i wr => ∃ k : Nat, k ≤ l.length ∧ i = .int .i64 k ∧ (Owns wr w.heap.size ov (missN l (l.take k)) ∧ ∀ q, w1.heap.size ≤ q → q < w2.heap.size → ov.ownBlock ≠ some q) ∧ LnkAt wr w1.heap.size w2.heap.size bM (lnkA l) ∧ Below w.heap.size w wr ∧ w2.heap.size ≤ wr.heap.size) (fun _ _ i _ => l.length - (intOf i).toNat)
    case atStart => exact ⟨0, Nat.zero_le _, rfl, ⟨HO2.out, fun q h1 h2 e => by have := HZ1.out; simp [Value.ownBlock] at e; omega⟩, HL2.out, HB2.out, Nat.le_refl _⟩
    case round =>
      obtain ⟨k, hk, rfl, ⟨hO, hap⟩, hL, hbr, hzr⟩ := hrel
      have HO := Lib.hid hO
      have HAP := Lib.hid hap
      have HL := Lib.hid hL
      have HBr := Lib.hid hbr
      clear hO hap hL hbr
      by_cases hlt : k < l.length
      · skip
        obtain ⟨b, o, cs, rfl, hbw, hat, hd⟩ := sliceAt_cell HX.out k hlt
        have HM := Lib.hid (List.getElem_mem hlt)
        have HGE := Lib.hid (HG.out.each _ HM.out)
        have HTK := Lib.hid (missN_take hlt)
        have HMK := Lib.hid (show (missN l (l.take k)).length ≤ 6 from Nat.le_trans (missN_len _ _) (by rw [List.length_take]; have := HL6.out; omega))
        have HLF := Lib.hid (show lacksB l l[k] = decide ((frm (lnkA l) l[k].fName).length < l[k].fNeeds.length) from rfl)
        generalize l[k] = z at *
        obtain ⟨a0, a1, ⟨a2, a3⟩, l2⟩ := z
        have HAT := Lib.hid (fun W (hb : Below w.heap.size w W) => goodEntry.keep hat (kept_below hb (Nat.le_refl _)))
        obtain ⟨v1, v4, rfl, h1, h4⟩ := hat
        simp only at h1 h4 HGE HTK HLF
        obtain ⟨ra, rc, rfl, _⟩ := sliceAt_len h1
        obtain ⟨sa, sc, rfl, hl4⟩ := sliceAt_len h4
        unfold maxLen at hl4
        have HN4 := Lib.hid h4
        have d0 := (HBr.out.cell (p := ⟨b, o + k * 5 + 0, none⟩) hbw).trans (hd 0 (by decide))
        have d1 := (HBr.out.cell (p := ⟨b, o + k * 5 + 1, none⟩) hbw).trans (hd 1 (by decide))
        have d2 := (HBr.out.cell (p := ⟨b, o + k * 5 + 2, none⟩) hbw).trans (hd 2 (by decide))
        have d3 := (HBr.out.cell (p := ⟨b, o + k * 5 + 3, none⟩) hbw).trans (hd 3 (by decide))
        have d4 := (HBr.out.cell (p := ⟨b, o + k * 5 + 4, none⟩) hbw).trans (hd 4 (by decide))
        simp only [List.getElem?_cons_zero, List.getElem?_cons_succ, Nat.add_zero] at d0 d1 d2 d3 d4
        have hkl : (k : Int) < (l.length : Int) := by omega
        clear hd h1 h4 HM
        have hb := bx_box wr (.cells #[.string ⟨a0.toArray⟩, .slice ra a1.length rc, .int .i64 a2, .int .i64 a3, .slice sa l2.length sc] 95)
        have HB3 := Lib.hid (belS HBr.out hb)
        have HO3 := Lib.hid (owns_below HO.out hb (Nat.le_refl _))
        have HL3 := Lib.hid (HL.out.below hb (Nat.le_refl _))
        have BX := Lib.hid (Bx.new wr [.string ⟨a0.toArray⟩, .slice ra a1.length rc, .int .i64 a2, .int .i64 a3, .slice sa l2.length sc] 95)
        have HZ3 := Lib.hid hb.size
        have HLC := Lib.hid (fun W (h : LnkAt W w1.heap.size w2.heap.size bM (lnkA l)) (h2 : rEntry 0 W [.string ⟨a0.toArray⟩, .slice ra a1.length rc, .int .i64 a2, .int .i64 a3, .slice sa l2.length sc] ⟨a0, a1, ⟨a2, a3⟩, l2⟩) => lacks_c bM _ _ _ ⟨a0, a1, ⟨a2, a3⟩, l2⟩ (.agg #[.string ⟨a0.toArray⟩, .slice ra a1.length rc, .int .i64 a2, .int .i64 a3, .slice sa l2.length sc]) W h ⟨_, rfl, h2⟩ HGE.out.1)
        simp only at HLC
        rw [← HLF.out] at HLC
        generalize lacksB l ⟨a0, a1, ⟨a2, a3⟩, l2⟩ = lk at *
        clear hb HLF
        have HA3 := Lib.hid (HAT.out _ HB3.out)
        have e0 := BX.out.cell 0 (by simp)
        have e1 := BX.out.cell 1 (by simp)
        have e2 := BX.out.cell 2 (by simp)
        have e3 := BX.out.cell 3 (by simp)
        have e4 := BX.out.cell 4 (by simp)
        simp only [List.getElem_cons_zero, List.getElem_cons_succ] at e0 e1 e2 e3 e4
        go_wp2_with fail
        refine (HLC.out _ HL3.out HA3.out).mono ?_
        rintro e w4 ⟨rfl, hb⟩
        have HB4 := Lib.hid (belS HB3.out hb)
        have HO4 := Lib.hid (owns_below HO3.out hb (Nat.le_refl _))
        have HL4 := Lib.hid (HL3.out.below hb (Nat.le_refl _))
        have BX4 := Lib.hid (BX.out.below hb)
        have HZ4 := Lib.hid (show w2.heap.size ≤ w4.heap.size by have := hb.size; have := HZ3.out; omega)
        clear hb e0 e1 e2 e3 e4 HA3 HLC
        cases lk
        · go_wp2_with fail
          exact ⟨⟨k + 1, by omega, by go_num, ⟨by rw [HTK.out]; simpa using HO4.out, HAP.out⟩, HL4.out, HB4.out, HZ4.out⟩, by simp [intOf]; omega⟩
        · skip
          have e0 := BX4.out.cell 0 (by simp)
          have e1 := BX4.out.cell 1 (by simp)
          have e2 := BX4.out.cell 2 (by simp)
          have e3 := BX4.out.cell 3 (by simp)
          have e4 := BX4.out.cell 4 (by simp)
          simp only [List.getElem_cons_zero, List.getElem_cons_succ] at e0 e1 e2 e3 e4
          have HOA := Lib.hid (ownsF_str HO4.out)
          have HCB := Lib.hid (show ∀ j, j < 1 → (w4.alloc (.cells #[.string ⟨a0.toArray⟩] 9)).cell? ⟨w4.heap.size, j, none⟩ = (cStr a0)[j]? from fun j hj => by rw [cell_of_row _ _ _ _ 9 (0, 0) (heap_alloc_new _ _)]; obtain rfl : j = 0 := (by omega); rfl)
          have HB5 := Lib.hid (HB4.out.alloc HB4.out.size (.cells #[.string ⟨a0.toArray⟩] 9))
          go_wp2_with (at_builtin; (refine append_flatN cStr_len cStr_one infoStrB rfl (by decide) (by decide) Tryz.underlying24 rfl _ _ rfl w.heap.size _ (missN l (l.take k)) a0 _ w4.heap.size (by rfl) (ownsF_alloc HOA.out _) (by rfl) HCB.out (by have := HMK.out; omega) HB5.out.size ?_; intro v3 w5 hO3 hg3 hl3; have HO5 := Lib.hid hO3; have HG5 := Lib.hid hg3; have HL5 := Lib.hid hl3; clear hO3 hg3 hl3))
          refine ⟨⟨k + 1, by omega, by go_num, ⟨by rw [HTK.out]; simpa using owns_strF HO5.out, fun q h1 h2 => HL5.out q (by have := HZ4.out; simp; omega) (HAP.out q h1 h2)⟩, (HL4.out.below (bx_box w4 _) (Nat.le_refl _)).grown HG5.out (fun g e => ?_), Below.grown HB5.out HG5.out HB5.out.size (fun g e => (World.ownsRow.lt HOA.out g e).1), by have h1 := HG5.out.size; have h2 := HZ4.out; simp at h1; omega⟩, by simp [intOf]; omega⟩
          by_cases h : w1.heap.size ≤ g ∧ g < w2.heap.size
          · exact absurd e (HAP.out g h.1 h.2)
          · omega
      · have HTL := Lib.hid (show l.take k = l from List.take_of_length_le (by omega))
        have HSZ := Lib.hid (show ∀ s ∈ missN l l, s.length ≤ 140737488355328 from fun s hs => by
          unfold missN at hs
          obtain ⟨e, he, rfl⟩ := List.mem_map.1 hs
          exact Nat.le_trans (HG.out.each e (List.mem_filter.1 he).1).1 (by decide))
        have HLN6 := Lib.hid (show (missN l l).length ≤ 6 from Nat.le_trans (missN_len _ _) HL6.out)
        have HOL := Lib.hid (show Owns wr w.heap.size u3 (missN l l) by have h := HO.out; rwa [HTL.out] at h)
        have HAS := Lib.hid (fun v W (h : RowAt W v ((missN l l).map strV)) => implAsc_any v (missN l l) W h (by have := HLN6.out; omega) HSZ.out)
        have HRR := Lib.hid (owns_row HOL.out (by have := HLN6.out; omega))
        have hkl : ¬ (k : Int) < (l.length : Int) := by omega
        go_wp2_with fail
        refine (HAS.out _ _ HRR.out).mono ?_
        rintro e w5 ⟨u, rfl, hu, hb⟩
        have HB5 := Lib.hid (belS HBr.out hb)
        have HU := Lib.hid hu
        have HZ5 := Lib.hid HBr.out.size
        clear hb hu
        go_wp2_with fail
        go_ret
        exact ⟨_, rfl, by rw [HR.out]; exact owns_strF (ownsF_base (ownsF_str HU.out) HZ5.out), HB5.out⟩
end Go.Proofs.YteeopjcbpngofaaGreat
/- Contracts of chapter 4: IsPart, the model's. -/
namespace Go.Proofs.YteeopjcbpngofaaGreat
set_option linter.unusedVariables false
set_option linter.unusedSimpArgs false
open Go.RowKit
set_option maxRecDepth 100000 in
set_option maxHeartbeats 3200000 in
theorem specIsPart_any (v : Value) (x : PartD) (w : World) (hx : ValAt rPart 0 w v x) (hs : ∀ c ∈ x.fCore.fCells, c.fKey.length ≤ maxLen) :
    Calls Tryz.prog 138 #[v] w fun e w' => e = .returned (.bool (partB x)) ∧ Below w.heap.size w w' := by
  obtain ⟨_, rfl, hx⟩ := hx
  have HX := Lib.hid hx
  have HBAD := Lib.hid (fun k => partB_bad (x := x) (k := k))
  have HOK := Lib.hid (fun i h y hy => layOk_of x i h y hy)
  have HSU := Lib.hid (layTo_succ x)
  have HFN := Lib.hid (faceN_take x.fCore x.fLayers)
  have HP := Lib.hid (show partB x = (coreB x.fCore && decide (x.fLayers.length ≤ 3) && layTo x x.fLayers.length) from rfl)
  obtain ⟨xc, ls⟩ := x
  obtain ⟨v3, v5, rfl, h3, h5⟩ := hx
  have HC := Lib.hid (fun W (hb : Below w.heap.size w W) => specIsCore_any (vCore xc v3) xc W ⟨v3, rfl, FlatAt.below (flatAt_of_slice cCell_len (by decide) h3) hb (Nat.le_refl _)⟩ hs)
  obtain ⟨a0, a1, a2, a3, a4⟩ := xc
  unfold vCore at HC
  simp only at h3 h5 HX HC HP HFN HBAD HOK
  obtain ⟨ra, rc, rfl, _⟩ := sliceAt_len h3
  obtain ⟨sa, sc, rfl, hl, hcap⟩ := sliceAt_cap h5
  have H5 := Lib.hid h5
  have H3 := Lib.hid h3
  unfold maxLen at hl
  have HB0 := Lib.hid (show ∀ o, Below w.heap.size w (w.alloc o) from fun o => part_box w o)
  have HS0 := Lib.hid (Bx.new w [.string ⟨a0.toArray⟩, .bool a1, .bool a2, .slice ra a3.length rc, .int .i64 a4, .slice sa ls.length sc] 74)
  clear h3 h5
  have HPB := Lib.hid (show partB ⟨⟨a0, a1, a2, a3, a4⟩, ls⟩ = partB ⟨⟨a0, a1, a2, a3, a4⟩, ls⟩ from rfl)
  generalize partB ⟨⟨a0, a1, a2, a3, a4⟩, ls⟩ = pb at *
  have HCB := Lib.hid (show coreB ⟨a0, a1, a2, a3, a4⟩ = coreB ⟨a0, a1, a2, a3, a4⟩ from rfl)
  generalize coreB ⟨a0, a1, a2, a3, a4⟩ = cb at *
  clear HPB HCB HX
  cases cb with
  | false =>
    have HR := Lib.hid (show pb = false by rw [HP.out]; rfl)
    go_enter Tryz.func138, Tryz.ntmps138
    go_wp2_with fail
    refine (HC.out _ (HB0.out _)).mono ?_
    rintro e w1 ⟨rfl, hb⟩
    have HB := Lib.hid (belS (HB0.out _) hb)
    clear hb
    go_wp2_with fail
    go_ret
    exact ⟨ret_bool HR.out.symm, HB.out⟩
  | true =>
    by_cases h3 : 3 < ls.length
    · have HR := Lib.hid (show pb = false by rw [HP.out, show decide (ls.length ≤ 3) = false by simpa using h3]; rfl)
      go_enter Tryz.func138, Tryz.ntmps138
      go_wp2_with fail
      refine (HC.out _ (HB0.out _)).mono ?_
      rintro e w1 ⟨rfl, hb⟩
      have HB := Lib.hid (belS (HB0.out _) hb)
      have BX := Lib.hid (HS0.out.below hb)
      clear hb
      have e0 := BX.out.cell 0 (by simp)
      have e1 := BX.out.cell 1 (by simp)
      have e2 := BX.out.cell 2 (by simp)
      have e3 := BX.out.cell 3 (by simp)
      have e4 := BX.out.cell 4 (by simp)
      have e5 := BX.out.cell 5 (by simp)
      simp only [List.getElem_cons_zero, List.getElem_cons_succ] at e0 e1 e2 e3 e4 e5
      go_wp2_with fail
      go_ret
      exact ⟨ret_bool HR.out.symm, HB.out⟩
    · have HR := Lib.hid (show pb = layTo ⟨⟨a0, a1, a2, a3, a4⟩, ls⟩ ls.length by rw [HP.out, show decide (ls.length ≤ 3) = true by simpa using h3]; simp)
      go_enter Tryz.func138, Tryz.ntmps138
      go_wp2_with fail
      refine (HC.out _ (HB0.out _)).mono ?_
      rintro e w1 ⟨rfl, hb⟩
      have HB := Lib.hid (belS (HB0.out _) hb)
      have BX := Lib.hid (HS0.out.below hb)
      clear hb
      have e0 := BX.out.cell 0 (by simp)
      have e1 := BX.out.cell 1 (by simp)
      have e2 := BX.out.cell 2 (by simp)
      have e3 := BX.out.cell 3 (by simp)
      have e4 := BX.out.cell 4 (by simp)
      have e5 := BX.out.cell 5 (by simp)
      simp only [List.getElem_cons_zero, List.getElem_cons_succ] at e0 e1 e2 e3 e4 e5
      go_wp2_with fail
      clear e0 e1 e2 e3 e4 e5
      go_loopw [3, 4, 21] (fun _ _ i wr => ∃ k : Nat, k ≤ ls.length ∧ i = .int .i64 k ∧ layTo ⟨⟨a0, a1, a2, a3, a4⟩, ls⟩ k = true ∧ Below w.heap.size w wr ∧ Bx wr w.heap.size [.string ⟨a0.toArray⟩, .bool a1, .bool a2, .slice ra a3.length rc, .int .i64 a4, .slice sa ls.length sc]) (fun _ _ i _ => ls.length - (intOf i).toNat)
      case atStart => exact ⟨0, Nat.zero_le _, rfl, rfl, HB.out, BX.out⟩
      case round =>
        obtain ⟨k, hk, rfl, ht, hbr, hbx⟩ := hrel
        have HT := Lib.hid ht
        have HBr := Lib.hid hbr
        have BXr := Lib.hid hbx
        have HXr := Lib.hid (SliceAt.below H5.out (good_flat cLayer_len) hbr (Nat.le_refl _))
        clear ht hbr hbx
        by_cases hlt : k < ls.length
        · obtain ⟨b, o, cs, rfl, hbw, hat, hd⟩ := sliceAt_cell HXr.out k hlt
          have HLO := Lib.hid (HOK.out k hlt _ rfl)
          have HBD := Lib.hid (fun h => HBAD.out k hlt h)
          have HNX := Lib.hid (show layOk ⟨⟨a0, a1, a2, a3, a4⟩, ls⟩ k = true → layTo ⟨⟨a0, a1, a2, a3, a4⟩, ls⟩ (k + 1) = true from fun h => by rw [HSU.out, HT.out, h]; rfl)
          have HFO := Lib.hid (fun W hW => l4Face_any (.agg #[.string ⟨a0.toArray⟩, .bool a1, .bool a2, .slice ra a3.length rc, .int .i64 a4, .slice (some ⟨b, o, none⟩) ls.length sc]) ⟨⟨a0, a1, a2, a3, a4⟩, ls⟩ k W ⟨_, rfl, _, _, rfl, SliceAt.below H3.out (good_flat cCell_len) hW (Nat.le_refl _), SliceAt.below H5.out (good_flat cLayer_len) hW (Nat.le_refl _)⟩ (Nat.le_of_lt hlt))
          generalize ls[k] = z at *
          obtain ⟨z0, z1⟩ := z
          simp only [rFlat, cLayer] at hat HLO
          subst hat
          have d0 := hd 0 (by decide)
          have d1 := hd 1 (by decide)
          simp only [List.getElem?_cons_zero, List.getElem?_cons_succ, Nat.add_zero] at d0 d1
          have HLN := Lib.hid (specLayerNeeds_any ⟨z0.toArray⟩)
          simp only [ndV, List.toList_toArray] at HLN
          have HOF := Lib.hid (specOffers_any (faceN ⟨⟨a0, a1, a2, a3, a4⟩, ls⟩ k) (needI (layI z0)))
          have hkc : (k : Int) < (ls.length : Int) := by omega
          generalize layOk ⟨⟨a0, a1, a2, a3, a4⟩, ls⟩ k = lo at *
          generalize faceN ⟨⟨a0, a1, a2, a3, a4⟩, ls⟩ k = fc at *
          generalize needI (layI z0) = nd at *
          generalize offersF fc nd = ob at *
          generalize hge : decide (0 ≤ layI z0) = q at *
          clear hd hge HXr
          have HW0 := Lib.hid (part_box wr (.cells #[.string ⟨z0.toArray⟩, .int .i64 z1] 137))
          have BL := Lib.hid (Bx.new wr [.string ⟨z0.toArray⟩, .int .i64 z1] 137)
          have BX1 := Lib.hid (BXr.out.alloc (.cells #[.string ⟨z0.toArray⟩, .int .i64 z1] 137))
          have HB1 := Lib.hid (belS HBr.out HW0.out)
          by_cases h0 : z0 = [99, 111, 117, 110, 116, 115]
          · subst h0
            have HCD := Lib.hid (show countedB [99, 111, 117, 110, 116, 115] = true from rfl)
            have HCN := Lib.hid (show True from trivial)
            have e0 := BX1.out.cell 0 (by simp)
            have e1 := BX1.out.cell 1 (by simp)
            have e2 := BX1.out.cell 2 (by simp)
            have e3 := BX1.out.cell 3 (by simp)
            have e4 := BX1.out.cell 4 (by simp)
            have e5 := BX1.out.cell 5 (by simp)
            simp only [List.getElem_cons_zero, List.getElem_cons_succ] at e0 e1 e2 e3 e4 e5
            go_wp2_with fail
            refine (HLN.out _).mono ?_
            rintro e w2 ⟨rfl, hb⟩
            have HB2 := Lib.hid (belS HB1.out hb)
            have BL2 := Lib.hid (BL.out.below hb)
            have BX2 := Lib.hid (BX1.out.below hb)
            clear hb
            clear e0 e1 e2 e3 e4 e5
            have e0 := BX2.out.cell 0 (by simp)
            have e1 := BX2.out.cell 1 (by simp)
            have e2 := BX2.out.cell 2 (by simp)
            have e3 := BX2.out.cell 3 (by simp)
            have e4 := BX2.out.cell 4 (by simp)
            have e5 := BX2.out.cell 5 (by simp)
            simp only [List.getElem_cons_zero, List.getElem_cons_succ] at e0 e1 e2 e3 e4 e5
            have g0 := BL2.out.cell 0 (by simp)
            have g1 := BL2.out.cell 1 (by simp)
            simp only [List.getElem_cons_zero, List.getElem_cons_succ] at g0 g1
            cases q with
            | false =>
              have HR2 := Lib.hid (show pb = false from HBD.out (by rw [HLO.out]; rfl))
              go_wp2_with fail
              go_ret
              exact ⟨ret_bool HR2.out.symm, HB2.out⟩
            | true =>
              go_wp2_with fail
              refine (HFO.out _ HB2.out).mono ?_
              rintro e w3 ⟨rfl, hb⟩
              have HB3 := Lib.hid (belS HB2.out hb)
              have BL3 := Lib.hid (BL2.out.below hb)
              have BX3 := Lib.hid (BX2.out.below hb)
              clear hb
              clear e0 e1 e2 e3 e4 e5 g0 g1
              have g0 := BL3.out.cell 0 (by simp)
              have g1 := BL3.out.cell 1 (by simp)
              simp only [List.getElem_cons_zero, List.getElem_cons_succ] at g0 g1
              cases ob with
              | false =>
                have HR2 := Lib.hid (show pb = false from HBD.out (by rw [HLO.out]; rfl))
                go_wp2_with (first | (go_at_call 139; (with_reducible refine (HOF.out _).mono ?_); rintro e w' ⟨rfl, rfl⟩))
                go_ret
                exact ⟨ret_bool HR2.out.symm, HB3.out⟩
              | true =>
                by_cases hc0 : z1 < 0
                · skip
                  have HR2 := Lib.hid (show pb = false from HBD.out (by rw [HLO.out]; unfold cntB; rw [HCD.out]; simp [numB]; omega))
                  go_wp2_with (first | (go_at_call 139; (with_reducible refine (HOF.out _).mono ?_); rintro e w' ⟨rfl, rfl⟩))
                  go_ret
                  exact ⟨ret_bool HR2.out.symm, HB3.out⟩
                · by_cases hc9 : 999 < z1
                  · skip
                    have HR2 := Lib.hid (show pb = false from HBD.out (by rw [HLO.out]; unfold cntB; rw [HCD.out]; simp [numB]; omega))
                    go_wp2_with (first | (go_at_call 139; (with_reducible refine (HOF.out _).mono ?_); rintro e w' ⟨rfl, rfl⟩))
                    go_ret
                    exact ⟨ret_bool HR2.out.symm, HB3.out⟩
                  · have HR2 := Lib.hid (HNX.out (by rw [HLO.out]; unfold cntB; rw [HCD.out]; simp [numB]; omega))
                    by_cases hcp : 0 < z1
                    · go_wp2_with (first | (go_at_call 139; (with_reducible refine (HOF.out _).mono ?_); rintro e w' ⟨rfl, rfl⟩))
                      exact ⟨⟨k + 1, by omega, by go_num, HR2.out, HB3.out, BX3.out⟩, by simp [intOf]; omega⟩
                    · go_wp2_with (first | (go_at_call 139; (with_reducible refine (HOF.out _).mono ?_); rintro e w' ⟨rfl, rfl⟩))
                      exact ⟨⟨k + 1, by omega, by go_num, HR2.out, HB3.out, BX3.out⟩, by simp [intOf]; omega⟩
          · by_cases h1 : z0 = [104, 101, 97, 114, 115]
            · subst h1
              clear h0
              have HCD := Lib.hid (show countedB [104, 101, 97, 114, 115] = true from rfl)
              have e0 := BX1.out.cell 0 (by simp)
              have e1 := BX1.out.cell 1 (by simp)
              have e2 := BX1.out.cell 2 (by simp)
              have e3 := BX1.out.cell 3 (by simp)
              have e4 := BX1.out.cell 4 (by simp)
              have e5 := BX1.out.cell 5 (by simp)
              simp only [List.getElem_cons_zero, List.getElem_cons_succ] at e0 e1 e2 e3 e4 e5
              go_wp2_with fail
              refine (HLN.out _).mono ?_
              rintro e w2 ⟨rfl, hb⟩
              have HB2 := Lib.hid (belS HB1.out hb)
              have BL2 := Lib.hid (BL.out.below hb)
              have BX2 := Lib.hid (BX1.out.below hb)
              clear hb
              clear e0 e1 e2 e3 e4 e5
              have e0 := BX2.out.cell 0 (by simp)
              have e1 := BX2.out.cell 1 (by simp)
              have e2 := BX2.out.cell 2 (by simp)
              have e3 := BX2.out.cell 3 (by simp)
              have e4 := BX2.out.cell 4 (by simp)
              have e5 := BX2.out.cell 5 (by simp)
              simp only [List.getElem_cons_zero, List.getElem_cons_succ] at e0 e1 e2 e3 e4 e5
              have g0 := BL2.out.cell 0 (by simp)
              have g1 := BL2.out.cell 1 (by simp)
              simp only [List.getElem_cons_zero, List.getElem_cons_succ] at g0 g1
              cases q with
              | false =>
                have HR2 := Lib.hid (show pb = false from HBD.out (by rw [HLO.out]; rfl))
                go_wp2_with fail
                go_ret
                exact ⟨ret_bool HR2.out.symm, HB2.out⟩
              | true =>
                go_wp2_with fail
                refine (HFO.out _ HB2.out).mono ?_
                rintro e w3 ⟨rfl, hb⟩
                have HB3 := Lib.hid (belS HB2.out hb)
                have BL3 := Lib.hid (BL2.out.below hb)
                have BX3 := Lib.hid (BX2.out.below hb)
                clear hb
                clear e0 e1 e2 e3 e4 e5 g0 g1
                have g0 := BL3.out.cell 0 (by simp)
                have g1 := BL3.out.cell 1 (by simp)
                simp only [List.getElem_cons_zero, List.getElem_cons_succ] at g0 g1
                cases ob with
                | false =>
                  have HR2 := Lib.hid (show pb = false from HBD.out (by rw [HLO.out]; rfl))
                  go_wp2_with (first | (go_at_call 139; (with_reducible refine (HOF.out _).mono ?_); rintro e w' ⟨rfl, rfl⟩))
                  go_ret
                  exact ⟨ret_bool HR2.out.symm, HB3.out⟩
                | true =>
                  by_cases hc0 : z1 < 0
                  · skip
                    have HR2 := Lib.hid (show pb = false from HBD.out (by rw [HLO.out]; unfold cntB; rw [HCD.out]; simp [numB]; omega))
                    go_wp2_with (first | (go_at_call 139; (with_reducible refine (HOF.out _).mono ?_); rintro e w' ⟨rfl, rfl⟩))
                    go_ret
                    exact ⟨ret_bool HR2.out.symm, HB3.out⟩
                  · by_cases hc9 : 999 < z1
                    · skip
                      have HR2 := Lib.hid (show pb = false from HBD.out (by rw [HLO.out]; unfold cntB; rw [HCD.out]; simp [numB]; omega))
                      go_wp2_with (first | (go_at_call 139; (with_reducible refine (HOF.out _).mono ?_); rintro e w' ⟨rfl, rfl⟩))
                      go_ret
                      exact ⟨ret_bool HR2.out.symm, HB3.out⟩
                    · have HR2 := Lib.hid (HNX.out (by rw [HLO.out]; unfold cntB; rw [HCD.out]; simp [numB]; omega))
                      by_cases hcp : 0 < z1
                      · go_wp2_with (first | (go_at_call 139; (with_reducible refine (HOF.out _).mono ?_); rintro e w' ⟨rfl, rfl⟩))
                        exact ⟨⟨k + 1, by omega, by go_num, HR2.out, HB3.out, BX3.out⟩, by simp [intOf]; omega⟩
                      · go_wp2_with (first | (go_at_call 139; (with_reducible refine (HOF.out _).mono ?_); rintro e w' ⟨rfl, rfl⟩))
                        exact ⟨⟨k + 1, by omega, by go_num, HR2.out, HB3.out, BX3.out⟩, by simp [intOf]; omega⟩
            · have HCD := Lib.hid (show countedB z0 = false by simp [countedB, h0, h1])
              have k0 : (z0 == [99, 111, 117, 110, 116, 115]) = false := by simp [h0]
              have k1 : (z0 == [104, 101, 97, 114, 115]) = false := by simp [h1]
              clear h0 h1
              have e0 := BX1.out.cell 0 (by simp)
              have e1 := BX1.out.cell 1 (by simp)
              have e2 := BX1.out.cell 2 (by simp)
              have e3 := BX1.out.cell 3 (by simp)
              have e4 := BX1.out.cell 4 (by simp)
              have e5 := BX1.out.cell 5 (by simp)
              simp only [List.getElem_cons_zero, List.getElem_cons_succ] at e0 e1 e2 e3 e4 e5
              go_wp2_with fail
              refine (HLN.out _).mono ?_
              rintro e w2 ⟨rfl, hb⟩
              have HB2 := Lib.hid (belS HB1.out hb)
              have BL2 := Lib.hid (BL.out.below hb)
              have BX2 := Lib.hid (BX1.out.below hb)
              clear hb
              clear e0 e1 e2 e3 e4 e5
              have e0 := BX2.out.cell 0 (by simp)
              have e1 := BX2.out.cell 1 (by simp)
              have e2 := BX2.out.cell 2 (by simp)
              have e3 := BX2.out.cell 3 (by simp)
              have e4 := BX2.out.cell 4 (by simp)
              have e5 := BX2.out.cell 5 (by simp)
              simp only [List.getElem_cons_zero, List.getElem_cons_succ] at e0 e1 e2 e3 e4 e5
              have g0 := BL2.out.cell 0 (by simp)
              have g1 := BL2.out.cell 1 (by simp)
              simp only [List.getElem_cons_zero, List.getElem_cons_succ] at g0 g1
              cases q with
              | false =>
                have HR2 := Lib.hid (show pb = false from HBD.out (by rw [HLO.out]; rfl))
                go_wp2_with fail
                go_ret
                exact ⟨ret_bool HR2.out.symm, HB2.out⟩
              | true =>
                go_wp2_with fail
                refine (HFO.out _ HB2.out).mono ?_
                rintro e w3 ⟨rfl, hb⟩
                have HB3 := Lib.hid (belS HB2.out hb)
                have BL3 := Lib.hid (BL2.out.below hb)
                have BX3 := Lib.hid (BX2.out.below hb)
                clear hb
                clear e0 e1 e2 e3 e4 e5 g0 g1
                have g0 := BL3.out.cell 0 (by simp)
                have g1 := BL3.out.cell 1 (by simp)
                simp only [List.getElem_cons_zero, List.getElem_cons_succ] at g0 g1
                cases ob with
                | false =>
                  have HR2 := Lib.hid (show pb = false from HBD.out (by rw [HLO.out]; rfl))
                  go_wp2_with (first | (go_at_call 139; (with_reducible refine (HOF.out _).mono ?_); rintro e w' ⟨rfl, rfl⟩))
                  go_ret
                  exact ⟨ret_bool HR2.out.symm, HB3.out⟩
                | true =>
                  by_cases hc0 : z1 < 0
                  · skip
                    have HR2 := Lib.hid (show pb = false from HBD.out (by rw [HLO.out]; unfold cntB; rw [HCD.out]; simp; omega))
                    go_wp2_with (first | (go_at_call 139; (with_reducible refine (HOF.out _).mono ?_); rintro e w' ⟨rfl, rfl⟩))
                    go_ret
                    exact ⟨ret_bool HR2.out.symm, HB3.out⟩
                  · by_cases hc9 : 999 < z1
                    · skip
                      have HR2 := Lib.hid (show pb = false from HBD.out (by rw [HLO.out]; unfold cntB; rw [HCD.out]; simp; omega))
                      go_wp2_with (first | (go_at_call 139; (with_reducible refine (HOF.out _).mono ?_); rintro e w' ⟨rfl, rfl⟩))
                      go_ret
                      exact ⟨ret_bool HR2.out.symm, HB3.out⟩
                    · by_cases hcp : 0 < z1
                      · skip
                        have HR2 := Lib.hid (show pb = false from HBD.out (by rw [HLO.out]; unfold cntB; rw [HCD.out]; simp; omega))
                        go_wp2_with (first | (go_at_call 139; (with_reducible refine (HOF.out _).mono ?_); rintro e w' ⟨rfl, rfl⟩))
                        go_ret
                        exact ⟨ret_bool HR2.out.symm, HB3.out⟩
                      · have HR2 := Lib.hid (HNX.out (by rw [HLO.out]; unfold cntB; rw [HCD.out]; simp; omega))
                        go_wp2_with (first | (go_at_call 139; (with_reducible refine (HOF.out _).mono ?_); rintro e w' ⟨rfl, rfl⟩))
                        exact ⟨⟨k + 1, by omega, by go_num, HR2.out, HB3.out, BX3.out⟩, by simp [intOf]; omega⟩
        · have HR2 := Lib.hid (show pb = true by rw [HR.out]; have h := HT.out; rwa [show k = ls.length by omega] at h)
          go_wp2
          go_ret
          exact ⟨ret_bool HR2.out.symm, HBr.out⟩
end Go.Proofs.YteeopjcbpngofaaGreat
namespace Go.Proofs.YteeopjcbpngofaaGreat
set_option linter.unusedVariables false
set_option linter.unusedSimpArgs false
open Go.RowKit
set_option maxRecDepth 100000 in
set_option maxHeartbeats 3200000 in
theorem l3Copy_any (v : Value) (d : CoreD) (w : World) (hx : CoreAt w v d) (hm : d.fCells.length ≤ 2097152) :
    Calls Tryz.prog 165 #[v] w fun e w' => GivesCore d w e w' := by
  obtain ⟨cv, rfl, hx⟩ := hx
  obtain ⟨i0, hi, hz0, hz1, hz2⟩ := info_parts cell_info
  obtain ⟨kd, on, br, l, cnt⟩ := d
  unfold vCore
  simp only at *
  have HX := Lib.hid hx
  obtain ⟨a, c, rfl, hml⟩ := flatAt_len hx
  clear hx
  have HB3 := Lib.hid (show ∀ o1 o2 o3, Below w.heap.size w (((w.alloc o1).alloc o2).alloc o3) from fun o1 o2 o3 => (((Below.refl _ _).alloc (Nat.le_refl _) _).alloc (by simp) _).alloc (by simp; omega) _)
  have HO3 := Lib.hid (show ∀ o1 o2, OwnsF cCell 135 2 (((w.alloc o1).alloc o2).alloc (.cells #[] 135)) (w.heap.size + 1 + 1) (.slice (some ⟨w.heap.size + 1 + 1, 0, none⟩) 0 0) [] from fun o1 o2 => by have h := ownsF_new cCell 135 2 ((w.alloc o1).alloc o2); simpa using h)
  cases a with
  | none =>
    have hl0 : l = [] := by
      obtain ⟨a', c', e, _, _, h⟩ := HX.out
      injection e with e1 e2
      rcases h with h | ⟨b, o, rfl, _⟩
      · exact List.eq_nil_of_length_eq_zero h
      · simp at e1
    subst hl0
    simp only [List.length_nil] at *
    go_enter Tryz.func165, Tryz.ntmps165
    go_wp2_with fail
    refine bodyPost_ret (v := .agg #[.string ⟨kd.toArray⟩, .bool on, .bool br, .slice (some ⟨w.heap.size + 1 + 1, 0, none⟩) 0 0, .int .i64 cnt]) (by simp [results, Tryz.results165, go_sem, cell_set_at, cell_set_ne]) rfl ?_
    exact ⟨_, rfl, ⟨_, rfl, ownsF_base (HO3.out _ _) (by omega)⟩, HB3.out _ _ _⟩
  | some ad =>
    have HN := Lib.hid (fun o1 o2 o3 => show ∀ j u, (l.flatMap cCell)[j]? = some u → (((w.alloc o1).alloc o2).alloc o3).cell? (ad.add j) = some u from fun j u hj => by
      have h9 := HX.out.below (HB3.out o1 o2 o3) (Nat.le_refl _)
      obtain ⟨a', c', e, _, _, h⟩ := h9
      injection e with e1 e2
      have hjl : j < (l.flatMap cCell).length := (List.getElem?_eq_some_iff.1 hj).1
      rw [flat_len cCell 2 cCell_len] at hjl
      rcases h with h | ⟨b, o, rfl, _, h⟩
      · omega
      · injection e1 with e1
        subst e1
        rw [Addr.add_lit, h j hjl]; exact hj)
    have h1c : ∀ u ∈ l.flatMap cCell, u.oneCell' = true := fun u hu => by
      obtain ⟨y, _, hy⟩ := List.mem_flatMap.1 hu
      exact cCell_one y u hy
    have hfl := flat_len cCell 2 cCell_len l
    have H1 := Lib.hid h1c
    have HFL := Lib.hid hfl
    clear h1c hfl
    go_enter Tryz.func165, Tryz.ntmps165
    go_wp2_with (at_builtin; refine wpList_append_own _ rfl _ _ 69 rfl (w.heap.size + 1 + 1) 135 i0 _ 2 24 Tryz.underlying69 hi hz0 hz1 hz2 rfl (by decide) (.slice (some ⟨w.heap.size + 1 + 1, 0, none⟩) 0 0) 0 [] (by rfl) (HO3.out _ _) ad l.length c (l.flatMap cCell) (by rfl) HFL.out (HN.out _ _ _) H1.out (by unfold maxLen; omega) (by omega) (by simp; try omega) ?_; intro v' w' ho hgr hnil; clear hnil; have q0 : w'.cell? ⟨w.heap.size, 0, none⟩ = some (.string ⟨kd.toArray⟩) := (hgr.cell_far ⟨w.heap.size, 0, none⟩ (by simp <;> omega) (by simp [Value.ownBlock] <;> omega)).trans (by simp [go_sem]); have q1 : w'.cell? ⟨w.heap.size, 1, none⟩ = some (.bool on) := (hgr.cell_far ⟨w.heap.size, 1, none⟩ (by simp <;> omega) (by simp [Value.ownBlock] <;> omega)).trans (by simp [go_sem]); have q2 : w'.cell? ⟨w.heap.size, 2, none⟩ = some (.bool br) := (hgr.cell_far ⟨w.heap.size, 2, none⟩ (by simp <;> omega) (by simp [Value.ownBlock] <;> omega)).trans (by simp [go_sem]); have q3 : w'.cell? ⟨w.heap.size, 3, none⟩ = some (.slice (some ad) l.length c) := (hgr.cell_far ⟨w.heap.size, 3, none⟩ (by simp <;> omega) (by simp [Value.ownBlock] <;> omega)).trans (by simp [go_sem]); have q4 : w'.cell? ⟨w.heap.size, 4, none⟩ = some (.int .i64 cnt) := (hgr.cell_far ⟨w.heap.size, 4, none⟩ (by simp <;> omega) (by simp [Value.ownBlock] <;> omega)).trans (by simp [go_sem]); have r0 : w'.cell? ⟨w.heap.size + 1, 0, none⟩ = some (.string ⟨#[]⟩) := (hgr.cell_far ⟨w.heap.size + 1, 0, none⟩ (by simp <;> omega) (by simp [Value.ownBlock] <;> omega)).trans (by simp [go_sem]); have r1 : w'.cell? ⟨w.heap.size + 1, 1, none⟩ = some (.bool false) := (hgr.cell_far ⟨w.heap.size + 1, 1, none⟩ (by simp <;> omega) (by simp [Value.ownBlock] <;> omega)).trans (by simp [go_sem]); have r2 : w'.cell? ⟨w.heap.size + 1, 2, none⟩ = some (.bool false) := (hgr.cell_far ⟨w.heap.size + 1, 2, none⟩ (by simp <;> omega) (by simp [Value.ownBlock] <;> omega)).trans (by simp [go_sem]); have r3 : w'.cell? ⟨w.heap.size + 1, 3, none⟩ = some (.slice none 0 0) := (hgr.cell_far ⟨w.heap.size + 1, 3, none⟩ (by simp <;> omega) (by simp [Value.ownBlock] <;> omega)).trans (by simp [go_sem]); have r4 : w'.cell? ⟨w.heap.size + 1, 4, none⟩ = some (.int .i64 0) := (hgr.cell_far ⟨w.heap.size + 1, 4, none⟩ (by simp <;> omega) (by simp [Value.ownBlock] <;> omega)).trans (by simp [go_sem]); have y0 : ∀ o, w'.frozen? ⟨w.heap.size, o, none⟩ = false := (fun o => (hgr.frozen_far ⟨w.heap.size, o, none⟩ (by simp <;> omega) (by simp [Value.ownBlock] <;> omega)).trans (by simp [go_sem])); have y1 : ∀ o, w'.frozen? ⟨w.heap.size + 1, o, none⟩ = false := (fun o => (hgr.frozen_far ⟨w.heap.size + 1, o, none⟩ (by simp <;> omega) (by simp [Value.ownBlock] <;> omega)).trans (by simp [go_sem])); have HG := Lib.hid hgr; have HO := Lib.hid (show OwnsF cCell 135 2 w' (w.heap.size + 1 + 1) v' l from by simpa [OwnsF] using ho); obtain ⟨ua, uc, rfl⟩ := slice_of HO.out)
    refine bodyPost_ret (v := .agg #[.string ⟨kd.toArray⟩, .bool on, .bool br, .slice ua l.length uc, .int .i64 cnt]) (by simp [results, Tryz.results165, go_sem, cell_set_at, cell_set_ne, q0, q1, q2, q3, q4, r0, r1, r2, r3, r4]) rfl ?_
    refine ⟨_, rfl, ⟨_, rfl, ?_⟩, ?_⟩
    · refine ownsF_base (B := w.heap.size + 1 + 1) ?_ (by omega)
      repeat (with_reducible refine ownsF_set ?_ (by simp; try omega))
      exact HO.out
    · repeat (with_reducible refine Below.setCell ?_ (by simp; try omega) _)
      exact (HB3.out _ _ _).grown HG.out (by simp; omega) (fun k h => by simp [Value.ownBlock] at h; omega)
end Go.Proofs.YteeopjcbpngofaaGreat
