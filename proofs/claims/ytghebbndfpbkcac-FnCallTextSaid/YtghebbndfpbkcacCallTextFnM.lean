/- FnCallText: cells and calls are read from what is written, and only valid ones are written, at every code that is drawn from. No condition. -/
import Derived.Test.YtghebbndfpbkcacCallTextFnM1
import Derived.Test.YtghebbndfpbkcacCallTextFnM0
import Derived.Deep.RegionHeld3
import Derived.HandedShaped
import Derived.Deep.CutRange
import Derived.Deep.QuietTactic
import Derived.BigQuiet
/- The draws of chapter 3: calls. Written by gen/ch3dk.py. -/
namespace Go.Proofs.Ytghebbndfpbkcac
set_option linter.unusedVariables false
set_option linter.unusedSimpArgs false
open Go.RowKit
def okCl (d : CallD) : Prop := d.fMethod.length ≤ 9 ∧ d.fKey.length ≤ 9 ∧ I64 d.fValue ∧ d.fText.length ≤ 120
def DrawnCall (b : Nat) (v : Value) (l : List UInt8) (w : World) (e : Ending) (w' : World) : Prop := ∃ d : CallD, e = .returned (vCall d) ∧ okCl d ∧ w.grownBy w' (some b) ∧ Cur w' b v l
abbrev zCallV : List Value := [.string ⟨#[]⟩, .string ⟨#[]⟩, .int .i64 0, .string ⟨#[]⟩]
abbrev cCallV (d : CallD) : List Value := [.string ⟨d.fMethod.toArray⟩, .string ⟨d.fKey.toArray⟩, .int .i64 d.fValue, .string ⟨d.fText.toArray⟩]
structure KSt (w : World) (b : Nat) (v : Value) (l : List UInt8) (R B : Nat) (d : CallD) (wx : World) : Prop where
  grown : w.grownBy wx (some b)
  cur : Cur wx b v l
  res : Bx wx R zCallV
  box : Bx wx B (cCallV d)
  bw : b < w.heap.size
  wR : w.heap.size ≤ R
  RB : R < B
theorem KSt.draw {w : World} {b : Nat} {v : Value} {l : List UInt8} {R B : Nat} {d : CallD} {wx w' : World} (h : KSt w b v l R B d wx) (hg : wx.grownBy w' (some b)) (hC : Cur w' b v l) : KSt w b v l R B d w' :=
  ⟨grown_trans h.grown hg, hC, bx_grownC h.res hg (by have := h.bw; have := h.wR; omega), bx_grownC h.box hg (by have := h.bw; have := h.wR; have := h.RB; omega), h.bw, h.wR, h.RB⟩
theorem KSt.set {w : World} {b : Nat} {v : Value} {l : List UInt8} {R B : Nat} {d d' : CallD} {wx : World} (h : KSt w b v l R B d wx) (j : Nat) (hj : j < 4) (u : Value) (hd : (cCallV d).set j u = cCallV d') : KSt w b v l R B d' (wx.setCell ⟨B, j, none⟩ u) :=
  ⟨grown_setO h.grown (by have := h.wR; have := h.RB; omega) j u, cur_setO h.cur (by have := h.bw; have := h.wR; have := h.RB; omega) j u, h.res.other (by have := h.RB; omega) j u, by rw [← hd]; exact h.box.set j hj u, h.bw, h.wR, h.RB⟩
theorem KSt.fin {w : World} {b : Nat} {v : Value} {l : List UInt8} {R B : Nat} {d : CallD} {wx : World} (h : KSt w b v l R B d wx) (hk : okCl d) (u0 u1 u2 u3 : Value) :
    DrawnCall b v l w (.returned (vCall d)) ((((wx.setCell ⟨R, 0, none⟩ u0).setCell ⟨R, 1, none⟩ u1).setCell ⟨R, 2, none⟩ u2).setCell ⟨R, 3, none⟩ u3) :=
  have hb : b < R := Nat.lt_of_lt_of_le h.bw h.wR
  ⟨d, rfl, hk, grown_setO (grown_setO (grown_setO (grown_setO h.grown h.wR 0 u0) h.wR 1 u1) h.wR 2 u2) h.wR 3 u3, cur_setO (cur_setO (cur_setO (cur_setO h.cur hb 0 u0) hb 1 u1) hb 2 u2) hb 3 u3⟩
theorem size_appS (a b : ByteArray) : (a ++ b).size = a.size + b.size := ByteArray.size_append
theorem size_litS (l : List UInt8) : (⟨l.toArray⟩ : ByteArray).size = l.length := by simp [ByteArray.size]
set_option maxHeartbeats 800000 in
theorem l2Method_any (b : Nat) (v : Value) (l : List UInt8) (w : World) (hC : Cur w b v l) :
    Calls Try.prog 111 #[.pointer (some ⟨b, 0, none⟩)] w fun e w' => DrawnStr (fun x => x.size ≤ 9) b v l w e w' := by
  have HC0 := Lib.hid hC
  clear hC
  go_enter Try.func111, Try.ntmps111
  go_wp2_with fail
  refine (l1Once_any b v l _ w HC0.out (by omega) (by omega)).mono ?_
  rintro e w1 ⟨x, rfl, hg, hC⟩
  have HG1 := Lib.hid (hg)
  have HC1 := Lib.hid hC
  clear hg hC
  cases x
  · go_wp2_with fail
    refine (l1Str_new b v l w1 _ _ _ _ 9 HC1.out (by rfl) (by decide) (by decide) (by decide)).mono ?_
    rintro e w2 ⟨x, rfl, hx, hg1, hC1⟩
    have HG := Lib.hid (grown_trans HG1.out hg1)
    have HC2 := Lib.hid hC1
    clear hg1 hC1
    go_wp2_with fail
    go_ret
    exact ⟨_, rfl, hx, HG.out, HC2.out⟩
  · go_wp2_with fail
    refine (l1Str_new b v l w1 _ _ _ _ 9 HC1.out (by rfl) (by decide) (by decide) (by decide)).mono ?_
    rintro e w2 ⟨x, rfl, hx, hg1, hC1⟩
    have HG := Lib.hid (grown_trans HG1.out hg1)
    have HC2 := Lib.hid hC1
    clear hg1 hC1
    go_wp2_with fail
    go_ret
    exact ⟨_, rfl, hx, HG.out, HC2.out⟩
theorem fmtC_len (x : List CellD) : (fmtC x).length ≤ 100 := by
  unfold fmtC
  split
  · rename_i h
    split
    · simp
    · have hc := h
      simp only [cellsB, Bool.and_eq_true, decide_eq_true_eq] at hc
      refine fmt_small x (fun d hd => ?_) hc.1
      obtain ⟨i, hi, rfl⟩ := List.mem_iff_getElem.1 hd
      have := okTo_at x _ i hc.2 hi
      simp only [okAt, Bool.and_eq_true] at this
      rw [getD_at x i hi] at this
      exact this.1
  · simp
set_option maxRecDepth 100000 in
set_option maxHeartbeats 1600000 in
theorem l3Text_any (b : Nat) (v : Value) (l : List UInt8) (w : World) (hC : Cur w b v l) :
    Calls Try.prog 115 #[.pointer (some ⟨b, 0, none⟩)] w fun e w' => DrawnStr (fun x => x.size ≤ 120) b v l w e w' := by
  have HC0 := Lib.hid hC
  clear hC
  go_enter Try.func115, Try.ntmps115
  go_wp2_with fail
  refine (l3Cells_any b v l _ HC0.out).mono ?_
  rintro e w1 ⟨u, y, rfl, ho, hsm, hg, hC⟩
  have HFC := Lib.hid (specFormatCells_any u y w1 (ownsF_at ho (by have := hsm.1; omega)) (fun d hd => by have := (hsm.2 d hd).1; unfold maxLen; omega))
  have HG1 := Lib.hid hg
  have HC1 := Lib.hid hC
  have hfl := fmtC_len y
  generalize fmtC y = ft at *
  obtain ⟨ua, uc, rfl⟩ := slice_of ho
  clear ho hsm hg hC
  go_wp2_with fail
  refine HFC.out.mono ?_
  rintro e w2 ⟨rfl, hb⟩
  have HG2 := Lib.hid (grown_below HG1.out hb HG1.out.size)
  have HC2 := Lib.hid (HC1.out.below hb HC1.out.lt)
  clear hb
  go_wp2_with fail
  refine (l1Below_any b v l _ _ HC2.out (by omega) (by omega)).mono ?_
  rintro e w3 ⟨k, rfl, ⟨k0, k1, k2⟩, hg, hC⟩
  have HG3 := Lib.hid (grown_trans HG2.out hg)
  have HC3 := Lib.hid hC
  clear hg hC k1 k2
  by_cases e0 : k = 0
  · subst e0
    go_wp2_with fail
    refine (l1Str_new b v l _ _ _ _ _ 9 HC3.out (by rfl) (by decide) (by decide) (by decide)).mono ?_
    rintro e w4 ⟨z, rfl, hz, hg, hC⟩
    have HG4 := Lib.hid (grown_trans HG3.out hg)
    have HC4 := Lib.hid hC
    clear hg hC
    go_wp2_with fail
    go_ret
    exact ⟨_, rfl, by show ByteArray.size _ ≤ 120; rw [size_appS, size_litS]; omega, HG4.out, HC4.out⟩
  · have E0 : (k == 0) = false := by simpa using e0
    by_cases e1 : k = 1
    · subst e1
      clear e0 E0
      go_wp2_with fail
      refine (l1Str_new b v l _ _ _ _ _ 30 HC3.out (by rfl) (by decide) (by decide) (by decide)).mono ?_
      rintro e w4 ⟨z, rfl, hz, hg, hC⟩
      have HG4 := Lib.hid (grown_trans HG3.out hg)
      have HC4 := Lib.hid hC
      clear hg hC
      go_wp2_with fail
      go_ret
      exact ⟨_, rfl, by show ByteArray.size _ ≤ 120; omega, HG4.out, HC4.out⟩
    · have E1 : (k == 1) = false := by simpa using e1
      clear e0 e1
      go_wp2_with fail
      go_ret
      exact ⟨_, rfl, by show ByteArray.size _ ≤ 120; rw [size_litS]; omega, HG3.out, HC3.out⟩
set_option maxRecDepth 100000 in
set_option maxHeartbeats 6400000 in
theorem l3Call_any (b : Nat) (v : Value) (l : List UInt8) (w : World) (hC : Cur w b v l) :
    Calls Try.prog 69 #[.pointer (some ⟨b, 0, none⟩)] w fun e w' => DrawnCall b v l w e w' := by
  have hbl := hC.lt
  have HC0 := Lib.hid (cur_alloc hC (.cells #[.string ⟨#[]⟩, .string ⟨#[]⟩, .int .i64 0, .string ⟨#[]⟩] 51))
  have BR0 := Lib.hid (Bx.new w zCallV 51)
  have HG0 := Lib.hid (grown_alloc (grown_refl w (some b)) (.cells #[.string ⟨#[]⟩, .string ⟨#[]⟩, .int .i64 0, .string ⟨#[]⟩] 51))
  clear hC
  go_enter Try.func69, Try.ntmps69
  go_wp2_with fail
  have HST := Lib.hid (l1Str_new b v l (w.alloc (.cells #[.string ⟨#[]⟩, .string ⟨#[]⟩, .int .i64 0, .string ⟨#[]⟩] 51)) #[.string ⟨#[83, 116, 97, 114, 116]⟩, .string ⟨#[83, 116, 97, 114, 116]⟩, .string ⟨#[83, 116, 111, 112]⟩, .string ⟨#[71, 101, 116]⟩, .string ⟨#[71, 101, 116]⟩, .string ⟨#[80, 117, 116]⟩, .string ⟨#[80, 117, 116]⟩, .string ⟨#[84, 101, 108, 108]⟩, .string ⟨#[72, 101, 97, 114]⟩, .string ⟨#[76, 111, 97, 100]⟩, .string ⟨#[83, 97, 118, 101]⟩, .string ⟨#[72, 101, 97, 108]⟩] 9 12 12 9 HC0.out (by rfl) (by decide) (by decide) (by decide))
  rw [show (w.alloc (.cells #[.string ⟨#[]⟩, .string ⟨#[]⟩, .int .i64 0, .string ⟨#[]⟩] 51)).heap.size = w.heap.size + 1 by simp] at HST
  refine HST.out.mono ?_
  rintro e w1 ⟨z, rfl, hz, hg, hC⟩
  obtain ⟨m, rfl⟩ : ∃ m : List UInt8, z = ⟨m.toArray⟩ := ⟨z.data.toList, by cases z; simp⟩
  have hml : m.length ≤ 9 := by rw [size_litS] at hz; exact hz
  have hwl : w.heap.size < w1.heap.size := Nat.lt_of_lt_of_le BR0.out.lt hg.size
  have S := Lib.hid (show KSt w b v l w.heap.size w1.heap.size ⟨m, [], 0, []⟩ (w1.alloc (.cells #[.string ⟨m.toArray⟩, .string ⟨#[]⟩, .int .i64 0, .string ⟨#[]⟩] 51)) from ⟨grown_alloc (grown_trans HG0.out hg) _, cur_alloc hC _, (bx_grownC BR0.out hg (by omega)).alloc _, Bx.new w1 (cCallV ⟨m, [], 0, []⟩) 51, hbl, Nat.le_refl _, hwl⟩)
  have BRw := Lib.hid (bx_grownC BR0.out hg (by omega))
  have HGw := Lib.hid (grown_trans HG0.out hg)
  have HCw := Lib.hid hC
  clear hg hC HC0 BR0 HG0 hz HST
  by_cases e0 : m = [71, 101, 116]
  · subst e0
    go_wp2_with fail
    generalize w1.alloc (.cells #[.string ⟨#[71, 101, 116]⟩, .string ⟨#[]⟩, .int .i64 0, .string ⟨#[]⟩] 51) = w2 at *
    refine (l3Key_any b v l _ S.out.cur).mono ?_
    rintro e w4 ⟨z, rfl, hz, hg, hC⟩
    obtain ⟨⟨zl⟩⟩ := z
    have hzl : zl.length ≤ 9 := hz
    have S := Lib.hid (S.out.draw hg hC)
    clear hg hC hz
    have BP := Lib.hid S.out.box
    have BR := Lib.hid S.out.res
    have p0 := BP.out.cell 0 (by simp)
    have p1 := BP.out.cell 1 (by simp)
    have p2 := BP.out.cell 2 (by simp)
    have p3 := BP.out.cell 3 (by simp)
    simp only [List.getElem_cons_zero, List.getElem_cons_succ] at p0 p1 p2 p3
    have x0 := BP.out.froz 0 (by simp)
    have x1 := BP.out.froz 1 (by simp)
    have x2 := BP.out.froz 2 (by simp)
    have x3 := BP.out.froz 3 (by simp)
    have r0 := BR.out.cell 0 (by simp)
    have r1 := BR.out.cell 1 (by simp)
    have r2 := BR.out.cell 2 (by simp)
    have r3 := BR.out.cell 3 (by simp)
    simp only [List.getElem_cons_zero, List.getElem_cons_succ] at r0 r1 r2 r3
    have y0 := BR.out.froz 0 (by simp)
    have y1 := BR.out.froz 1 (by simp)
    have y2 := BR.out.froz 2 (by simp)
    have y3 := BR.out.froz 3 (by simp)
    have lB := BP.out.lt
    have lR := BR.out.lt
    have hRB := S.out.RB
    have S9 := Lib.hid (KSt.set (d' := ⟨[71, 101, 116], zl, 0, []⟩) S.out 1 (by decide) (.string ⟨zl.toArray⟩) rfl)
    go_wp2_with fail
    refine bodyPost_ret (v := .agg #[.string ⟨#[71, 101, 116]⟩, .string ⟨zl.toArray⟩, .int .i64 0, .string ⟨#[]⟩]) (by simp [results, Try.results69, go_sem, cell_set_at, cell_set_ne, r0, r1, r2, r3]) rfl ?_
    exact KSt.fin (d := ⟨[71, 101, 116], zl, 0, []⟩) S9.out ⟨by simp, hzl, (show I64 0 from ⟨by omega, by omega⟩), by simp⟩ _ _ _ _
  have E0 : (m == [71, 101, 116]) = false := by simpa using e0
  by_cases e1 : m = [80, 117, 116]
  · subst e1
    go_wp2_with fail
    generalize w1.alloc (.cells #[.string ⟨#[80, 117, 116]⟩, .string ⟨#[]⟩, .int .i64 0, .string ⟨#[]⟩] 51) = w2 at *
    refine (l3Key_any b v l _ S.out.cur).mono ?_
    rintro e w4 ⟨z, rfl, hz, hg, hC⟩
    obtain ⟨⟨zl⟩⟩ := z
    have hzl : zl.length ≤ 9 := hz
    have S0 := Lib.hid (S.out.draw hg hC)
    clear hg hC hz
    have S1 := Lib.hid (KSt.set (d' := ⟨[80, 117, 116], zl, 0, []⟩) S0.out 1 (by decide) (.string ⟨zl.toArray⟩) rfl)
    have BP := Lib.hid S0.out.box
    have BR := Lib.hid S0.out.res
    have p0 := BP.out.cell 0 (by simp)
    have p1 := BP.out.cell 1 (by simp)
    have p2 := BP.out.cell 2 (by simp)
    have p3 := BP.out.cell 3 (by simp)
    simp only [List.getElem_cons_zero, List.getElem_cons_succ] at p0 p1 p2 p3
    have x0 := BP.out.froz 0 (by simp)
    have x1 := BP.out.froz 1 (by simp)
    have x2 := BP.out.froz 2 (by simp)
    have x3 := BP.out.froz 3 (by simp)
    have r0 := BR.out.cell 0 (by simp)
    have r1 := BR.out.cell 1 (by simp)
    have r2 := BR.out.cell 2 (by simp)
    have r3 := BR.out.cell 3 (by simp)
    simp only [List.getElem_cons_zero, List.getElem_cons_succ] at r0 r1 r2 r3
    have y0 := BR.out.froz 0 (by simp)
    have y1 := BR.out.froz 1 (by simp)
    have y2 := BR.out.froz 2 (by simp)
    have y3 := BR.out.froz 3 (by simp)
    have lB := BP.out.lt
    have lR := BR.out.lt
    have hRB := S0.out.RB
    go_wp2_with fail
    clear BP BR p0 p1 p2 p3 x0 x1 x2 x3 r0 r1 r2 r3 y0 y1 y2 y3 lB lR hRB
    refine (l1Below_any b v l _ _ S1.out.cur (by omega) (by omega)).mono ?_
    rintro e w5 ⟨q, rfl, ⟨q0, q1, q2⟩, hg, hC⟩
    have q3 := q2 (by omega)
    have S := Lib.hid (S1.out.draw hg hC)
    clear hg hC q1 q2 S0 S1
    have BP := Lib.hid S.out.box
    have BR := Lib.hid S.out.res
    have p0 := BP.out.cell 0 (by simp)
    have p1 := BP.out.cell 1 (by simp)
    have p2 := BP.out.cell 2 (by simp)
    have p3 := BP.out.cell 3 (by simp)
    simp only [List.getElem_cons_zero, List.getElem_cons_succ] at p0 p1 p2 p3
    have x0 := BP.out.froz 0 (by simp)
    have x1 := BP.out.froz 1 (by simp)
    have x2 := BP.out.froz 2 (by simp)
    have x3 := BP.out.froz 3 (by simp)
    have r0 := BR.out.cell 0 (by simp)
    have r1 := BR.out.cell 1 (by simp)
    have r2 := BR.out.cell 2 (by simp)
    have r3 := BR.out.cell 3 (by simp)
    simp only [List.getElem_cons_zero, List.getElem_cons_succ] at r0 r1 r2 r3
    have y0 := BR.out.froz 0 (by simp)
    have y1 := BR.out.froz 1 (by simp)
    have y2 := BR.out.froz 2 (by simp)
    have y3 := BR.out.froz 3 (by simp)
    have lB := BP.out.lt
    have lR := BR.out.lt
    have hRB := S.out.RB
    have S9 := Lib.hid (KSt.set (d' := ⟨[80, 117, 116], zl, q, []⟩) S.out 2 (by decide) (.int .i64 q) rfl)
    go_wp2_with fail
    refine bodyPost_ret (v := .agg #[.string ⟨#[80, 117, 116]⟩, .string ⟨zl.toArray⟩, .int .i64 q, .string ⟨#[]⟩]) (by simp [results, Try.results69, go_sem, cell_set_at, cell_set_ne, r0, r1, r2, r3]) rfl ?_
    exact KSt.fin (d := ⟨[80, 117, 116], zl, q, []⟩) S9.out ⟨by simp, hzl, (show I64 q from ⟨by omega, by omega⟩), by simp⟩ _ _ _ _
  have E1 : (m == [80, 117, 116]) = false := by simpa using e1
  by_cases e2 : m = [72, 101, 97, 114]
  · subst e2
    go_wp2_with fail
    generalize w1.alloc (.cells #[.string ⟨#[72, 101, 97, 114]⟩, .string ⟨#[]⟩, .int .i64 0, .string ⟨#[]⟩] 51) = w2 at *
    refine (l1Below_any b v l _ _ S.out.cur (by omega) (by omega)).mono ?_
    rintro e w5 ⟨q, rfl, ⟨q0, q1, q2⟩, hg, hC⟩
    have q3 := q2 (by omega)
    have S := Lib.hid (S.out.draw hg hC)
    clear hg hC q1 q2
    have BP := Lib.hid S.out.box
    have BR := Lib.hid S.out.res
    have p0 := BP.out.cell 0 (by simp)
    have p1 := BP.out.cell 1 (by simp)
    have p2 := BP.out.cell 2 (by simp)
    have p3 := BP.out.cell 3 (by simp)
    simp only [List.getElem_cons_zero, List.getElem_cons_succ] at p0 p1 p2 p3
    have x0 := BP.out.froz 0 (by simp)
    have x1 := BP.out.froz 1 (by simp)
    have x2 := BP.out.froz 2 (by simp)
    have x3 := BP.out.froz 3 (by simp)
    have r0 := BR.out.cell 0 (by simp)
    have r1 := BR.out.cell 1 (by simp)
    have r2 := BR.out.cell 2 (by simp)
    have r3 := BR.out.cell 3 (by simp)
    simp only [List.getElem_cons_zero, List.getElem_cons_succ] at r0 r1 r2 r3
    have y0 := BR.out.froz 0 (by simp)
    have y1 := BR.out.froz 1 (by simp)
    have y2 := BR.out.froz 2 (by simp)
    have y3 := BR.out.froz 3 (by simp)
    have lB := BP.out.lt
    have lR := BR.out.lt
    have hRB := S.out.RB
    have S9 := Lib.hid (KSt.set (d' := ⟨[72, 101, 97, 114], [], q, []⟩) S.out 2 (by decide) (.int .i64 q) rfl)
    go_wp2_with fail
    refine bodyPost_ret (v := .agg #[.string ⟨#[72, 101, 97, 114]⟩, .string ⟨#[]⟩, .int .i64 q, .string ⟨#[]⟩]) (by simp [results, Try.results69, go_sem, cell_set_at, cell_set_ne, r0, r1, r2, r3]) rfl ?_
    exact KSt.fin (d := ⟨[72, 101, 97, 114], [], q, []⟩) S9.out ⟨by simp, by simp, (show I64 q from ⟨by omega, by omega⟩), by simp⟩ _ _ _ _
  have E2 : (m == [72, 101, 97, 114]) = false := by simpa using e2
  by_cases e3 : m = [76, 111, 97, 100]
  · subst e3
    go_wp2_with fail
    generalize w1.alloc (.cells #[.string ⟨#[76, 111, 97, 100]⟩, .string ⟨#[]⟩, .int .i64 0, .string ⟨#[]⟩] 51) = w2 at *
    refine (l3Text_any b v l _ S.out.cur).mono ?_
    rintro e w4 ⟨z, rfl, hz, hg, hC⟩
    obtain ⟨⟨zl⟩⟩ := z
    have hzl : zl.length ≤ 120 := hz
    have S := Lib.hid (S.out.draw hg hC)
    clear hg hC hz
    have BP := Lib.hid S.out.box
    have BR := Lib.hid S.out.res
    have p0 := BP.out.cell 0 (by simp)
    have p1 := BP.out.cell 1 (by simp)
    have p2 := BP.out.cell 2 (by simp)
    have p3 := BP.out.cell 3 (by simp)
    simp only [List.getElem_cons_zero, List.getElem_cons_succ] at p0 p1 p2 p3
    have x0 := BP.out.froz 0 (by simp)
    have x1 := BP.out.froz 1 (by simp)
    have x2 := BP.out.froz 2 (by simp)
    have x3 := BP.out.froz 3 (by simp)
    have r0 := BR.out.cell 0 (by simp)
    have r1 := BR.out.cell 1 (by simp)
    have r2 := BR.out.cell 2 (by simp)
    have r3 := BR.out.cell 3 (by simp)
    simp only [List.getElem_cons_zero, List.getElem_cons_succ] at r0 r1 r2 r3
    have y0 := BR.out.froz 0 (by simp)
    have y1 := BR.out.froz 1 (by simp)
    have y2 := BR.out.froz 2 (by simp)
    have y3 := BR.out.froz 3 (by simp)
    have lB := BP.out.lt
    have lR := BR.out.lt
    have hRB := S.out.RB
    have S9 := Lib.hid (KSt.set (d' := ⟨[76, 111, 97, 100], [], 0, zl⟩) S.out 3 (by decide) (.string ⟨zl.toArray⟩) rfl)
    go_wp2_with fail
    refine bodyPost_ret (v := .agg #[.string ⟨#[76, 111, 97, 100]⟩, .string ⟨#[]⟩, .int .i64 0, .string ⟨zl.toArray⟩]) (by simp [results, Try.results69, go_sem, cell_set_at, cell_set_ne, r0, r1, r2, r3]) rfl ?_
    exact KSt.fin (d := ⟨[76, 111, 97, 100], [], 0, zl⟩) S9.out ⟨by simp, by simp, (show I64 0 from ⟨by omega, by omega⟩), hzl⟩ _ _ _ _
  have E3 : (m == [76, 111, 97, 100]) = false := by simpa using e3
  clear e0 e1 e2 e3
  have r0 := BRw.out.cell 0 (by simp)
  have r1 := BRw.out.cell 1 (by simp)
  have r2 := BRw.out.cell 2 (by simp)
  have r3 := BRw.out.cell 3 (by simp)
  simp only [List.getElem_cons_zero, List.getElem_cons_succ] at r0 r1 r2 r3
  have y0 := BRw.out.froz 0 (by simp)
  have y1 := BRw.out.froz 1 (by simp)
  have y2 := BRw.out.froz 2 (by simp)
  have y3 := BRw.out.froz 3 (by simp)
  have lR := BRw.out.lt
  have hRB := S.out.RB
  go_wp2_with fail
  refine bodyPost_ret (v := .agg #[.string ⟨m.toArray⟩, .string ⟨#[]⟩, .int .i64 0, .string ⟨#[]⟩]) (by simp [results, Try.results69, go_sem, past_cellN, lR, cell_set_at, cell_set_ne, r0, r1, r2, r3]) rfl ?_
  exact ⟨⟨m, [], 0, []⟩, rfl, ⟨hml, by simp, (show I64 0 from ⟨by omega, by omega⟩), by simp⟩, grown_alloc (grown_setO (grown_setO (grown_setO (grown_setO HGw.out (Nat.le_refl _) 0 _) (Nat.le_refl _) 1 _) (Nat.le_refl _) 2 _) (Nat.le_refl _) 3 _) _, cur_alloc (cur_setO (cur_setO (cur_setO (cur_setO HCw.out hbl 0 _) hbl 1 _) hbl 2 _) hbl 3 _) _⟩
set_option maxRecDepth 100000 in
set_option maxHeartbeats 6400000 in
theorem l3AnyCall_any (b : Nat) (v : Value) (l : List UInt8) (w : World) (hC : Cur w b v l) :
    Calls Try.prog 63 #[.pointer (some ⟨b, 0, none⟩)] w fun e w' => DrawnCall b v l w e w' := by
  have hbl := hC.lt
  have HC0 := Lib.hid (cur_alloc hC (.cells #[.string ⟨#[]⟩, .string ⟨#[]⟩, .int .i64 0, .string ⟨#[]⟩] 51))
  have BR0 := Lib.hid (Bx.new w zCallV 51)
  have HG0 := Lib.hid (grown_alloc (grown_refl w (some b)) (.cells #[.string ⟨#[]⟩, .string ⟨#[]⟩, .int .i64 0, .string ⟨#[]⟩] 51))
  clear hC
  go_enter Try.func63, Try.ntmps63
  go_wp2_with fail
  refine (l3Call_any b v l _ HC0.out).mono ?_
  rintro e w1 ⟨⟨m, k, n, t⟩, rfl, hok, hg, hC⟩
  have HOK := Lib.hid hok
  have hwl : w.heap.size < w1.heap.size := Nat.lt_of_lt_of_le BR0.out.lt hg.size
  have S := Lib.hid (show KSt w b v l w.heap.size w1.heap.size ⟨m, k, n, t⟩ (w1.alloc (.cells #[.string ⟨m.toArray⟩, .string ⟨k.toArray⟩, .int .i64 n, .string ⟨t.toArray⟩] 51)) from ⟨grown_alloc (grown_trans HG0.out hg) _, cur_alloc hC _, (bx_grownC BR0.out hg (by omega)).alloc _, Bx.new w1 (cCallV ⟨m, k, n, t⟩) 51, hbl, Nat.le_refl _, hwl⟩)
  clear hok hg hC HC0 BR0 HG0
  unfold vCall
  simp only
  go_wp2_with fail
  generalize w1.alloc (.cells #[.string ⟨m.toArray⟩, .string ⟨k.toArray⟩, .int .i64 n, .string ⟨t.toArray⟩] 51) = w2 at *
  refine (l1Below_any b v l _ _ S.out.cur (by omega) (by omega)).mono ?_
  rintro e w3 ⟨j, rfl, ⟨j0, j1, j2⟩, hg, hC⟩
  have S := Lib.hid (S.out.draw hg hC)
  clear hg hC j1 j2
  by_cases e0 : j = 0
  · subst e0
    go_wp2_with fail
    refine (l2Method_any b v l _ S.out.cur).mono ?_
    rintro e w4 ⟨z, rfl, hz, hg, hC⟩
    obtain ⟨⟨zl⟩⟩ := z
    have hzl : zl.length ≤ 9 := hz
    have S := Lib.hid (S.out.draw hg hC)
    clear hg hC hz
    have BP := Lib.hid S.out.box
    have BR := Lib.hid S.out.res
    have p0 := BP.out.cell 0 (by simp)
    have p1 := BP.out.cell 1 (by simp)
    have p2 := BP.out.cell 2 (by simp)
    have p3 := BP.out.cell 3 (by simp)
    simp only [List.getElem_cons_zero, List.getElem_cons_succ] at p0 p1 p2 p3
    have x0 := BP.out.froz 0 (by simp)
    have x1 := BP.out.froz 1 (by simp)
    have x2 := BP.out.froz 2 (by simp)
    have x3 := BP.out.froz 3 (by simp)
    have r0 := BR.out.cell 0 (by simp)
    have r1 := BR.out.cell 1 (by simp)
    have r2 := BR.out.cell 2 (by simp)
    have r3 := BR.out.cell 3 (by simp)
    simp only [List.getElem_cons_zero, List.getElem_cons_succ] at r0 r1 r2 r3
    have y0 := BR.out.froz 0 (by simp)
    have y1 := BR.out.froz 1 (by simp)
    have y2 := BR.out.froz 2 (by simp)
    have y3 := BR.out.froz 3 (by simp)
    have lB := BP.out.lt
    have lR := BR.out.lt
    have hRB := S.out.RB
    have S9 := Lib.hid (KSt.set (d' := ⟨zl, k, n, t⟩) S.out 0 (by decide) (.string ⟨zl.toArray⟩) rfl)
    go_wp2_with fail
    refine bodyPost_ret (v := .agg #[.string ⟨zl.toArray⟩, .string ⟨k.toArray⟩, .int .i64 n, .string ⟨t.toArray⟩]) (by simp [results, Try.results63, go_sem, cell_set_at, cell_set_ne, r0, r1, r2, r3]) rfl ?_
    exact KSt.fin (d := ⟨zl, k, n, t⟩) S9.out ⟨(Nat.le_trans hzl (by decide)), HOK.out.2.1, HOK.out.2.2.1, HOK.out.2.2.2⟩ _ _ _ _
  have E0 : (j == 0) = false := by simpa using e0
  by_cases e1 : j = 1
  · subst e1
    go_wp2_with fail
    refine (l1Word_any b v l _ S.out.cur).mono ?_
    rintro e w4 ⟨z, rfl, hz, hg, hC⟩
    obtain ⟨⟨zl⟩⟩ := z
    have hzl : zl.length ≤ 9 := hz
    have S := Lib.hid (S.out.draw hg hC)
    clear hg hC hz
    have BP := Lib.hid S.out.box
    have BR := Lib.hid S.out.res
    have p0 := BP.out.cell 0 (by simp)
    have p1 := BP.out.cell 1 (by simp)
    have p2 := BP.out.cell 2 (by simp)
    have p3 := BP.out.cell 3 (by simp)
    simp only [List.getElem_cons_zero, List.getElem_cons_succ] at p0 p1 p2 p3
    have x0 := BP.out.froz 0 (by simp)
    have x1 := BP.out.froz 1 (by simp)
    have x2 := BP.out.froz 2 (by simp)
    have x3 := BP.out.froz 3 (by simp)
    have r0 := BR.out.cell 0 (by simp)
    have r1 := BR.out.cell 1 (by simp)
    have r2 := BR.out.cell 2 (by simp)
    have r3 := BR.out.cell 3 (by simp)
    simp only [List.getElem_cons_zero, List.getElem_cons_succ] at r0 r1 r2 r3
    have y0 := BR.out.froz 0 (by simp)
    have y1 := BR.out.froz 1 (by simp)
    have y2 := BR.out.froz 2 (by simp)
    have y3 := BR.out.froz 3 (by simp)
    have lB := BP.out.lt
    have lR := BR.out.lt
    have hRB := S.out.RB
    have S9 := Lib.hid (KSt.set (d' := ⟨m, zl, n, t⟩) S.out 1 (by decide) (.string ⟨zl.toArray⟩) rfl)
    go_wp2_with fail
    refine bodyPost_ret (v := .agg #[.string ⟨m.toArray⟩, .string ⟨zl.toArray⟩, .int .i64 n, .string ⟨t.toArray⟩]) (by simp [results, Try.results63, go_sem, cell_set_at, cell_set_ne, r0, r1, r2, r3]) rfl ?_
    exact KSt.fin (d := ⟨m, zl, n, t⟩) S9.out ⟨HOK.out.1, (Nat.le_trans hzl (by decide)), HOK.out.2.2.1, HOK.out.2.2.2⟩ _ _ _ _
  have E1 : (j == 1) = false := by simpa using e1
  by_cases e2 : j = 2
  · subst e2
    go_wp2_with fail
    refine (l1Odd_any b v l _ S.out.cur).mono ?_
    rintro e w4 ⟨z, rfl, ⟨z0, z1⟩, hg, hC⟩
    have S := Lib.hid (S.out.draw hg hC)
    clear hg hC
    have BP := Lib.hid S.out.box
    have BR := Lib.hid S.out.res
    have p0 := BP.out.cell 0 (by simp)
    have p1 := BP.out.cell 1 (by simp)
    have p2 := BP.out.cell 2 (by simp)
    have p3 := BP.out.cell 3 (by simp)
    simp only [List.getElem_cons_zero, List.getElem_cons_succ] at p0 p1 p2 p3
    have x0 := BP.out.froz 0 (by simp)
    have x1 := BP.out.froz 1 (by simp)
    have x2 := BP.out.froz 2 (by simp)
    have x3 := BP.out.froz 3 (by simp)
    have r0 := BR.out.cell 0 (by simp)
    have r1 := BR.out.cell 1 (by simp)
    have r2 := BR.out.cell 2 (by simp)
    have r3 := BR.out.cell 3 (by simp)
    simp only [List.getElem_cons_zero, List.getElem_cons_succ] at r0 r1 r2 r3
    have y0 := BR.out.froz 0 (by simp)
    have y1 := BR.out.froz 1 (by simp)
    have y2 := BR.out.froz 2 (by simp)
    have y3 := BR.out.froz 3 (by simp)
    have lB := BP.out.lt
    have lR := BR.out.lt
    have hRB := S.out.RB
    have S9 := Lib.hid (KSt.set (d' := ⟨m, k, z, t⟩) S.out 2 (by decide) (.int .i64 z) rfl)
    go_wp2_with fail
    refine bodyPost_ret (v := .agg #[.string ⟨m.toArray⟩, .string ⟨k.toArray⟩, .int .i64 z, .string ⟨t.toArray⟩]) (by simp [results, Try.results63, go_sem, cell_set_at, cell_set_ne, r0, r1, r2, r3]) rfl ?_
    exact KSt.fin (d := ⟨m, k, z, t⟩) S9.out ⟨HOK.out.1, HOK.out.2.1, (show I64 z from ⟨z0, z1⟩), HOK.out.2.2.2⟩ _ _ _ _
  have E2 : (j == 2) = false := by simpa using e2
  by_cases e3 : j = 3
  · subst e3
    go_wp2_with fail
    refine (l1Str_new b v l _ _ _ _ _ 9 S.out.cur (by rfl) (by decide) (by decide) (by decide)).mono ?_
    rintro e w4 ⟨z, rfl, hz, hg, hC⟩
    obtain ⟨⟨zl⟩⟩ := z
    have hzl : zl.length ≤ 9 := hz
    have S := Lib.hid (S.out.draw hg hC)
    clear hg hC hz
    have BP := Lib.hid S.out.box
    have BR := Lib.hid S.out.res
    have p0 := BP.out.cell 0 (by simp)
    have p1 := BP.out.cell 1 (by simp)
    have p2 := BP.out.cell 2 (by simp)
    have p3 := BP.out.cell 3 (by simp)
    simp only [List.getElem_cons_zero, List.getElem_cons_succ] at p0 p1 p2 p3
    have x0 := BP.out.froz 0 (by simp)
    have x1 := BP.out.froz 1 (by simp)
    have x2 := BP.out.froz 2 (by simp)
    have x3 := BP.out.froz 3 (by simp)
    have r0 := BR.out.cell 0 (by simp)
    have r1 := BR.out.cell 1 (by simp)
    have r2 := BR.out.cell 2 (by simp)
    have r3 := BR.out.cell 3 (by simp)
    simp only [List.getElem_cons_zero, List.getElem_cons_succ] at r0 r1 r2 r3
    have y0 := BR.out.froz 0 (by simp)
    have y1 := BR.out.froz 1 (by simp)
    have y2 := BR.out.froz 2 (by simp)
    have y3 := BR.out.froz 3 (by simp)
    have lB := BP.out.lt
    have lR := BR.out.lt
    have hRB := S.out.RB
    have S9 := Lib.hid (KSt.set (d' := ⟨m, k, n, zl⟩) S.out 3 (by decide) (.string ⟨zl.toArray⟩) rfl)
    go_wp2_with fail
    refine bodyPost_ret (v := .agg #[.string ⟨m.toArray⟩, .string ⟨k.toArray⟩, .int .i64 n, .string ⟨zl.toArray⟩]) (by simp [results, Try.results63, go_sem, cell_set_at, cell_set_ne, r0, r1, r2, r3]) rfl ?_
    exact KSt.fin (d := ⟨m, k, n, zl⟩) S9.out ⟨HOK.out.1, HOK.out.2.1, HOK.out.2.2.1, (Nat.le_trans hzl (by decide))⟩ _ _ _ _
  have E3 : (j == 3) = false := by simpa using e3
  clear e0 e1 e2 e3
  have BP := Lib.hid S.out.box
  have BR := Lib.hid S.out.res
  have p0 := BP.out.cell 0 (by simp)
  have p1 := BP.out.cell 1 (by simp)
  have p2 := BP.out.cell 2 (by simp)
  have p3 := BP.out.cell 3 (by simp)
  simp only [List.getElem_cons_zero, List.getElem_cons_succ] at p0 p1 p2 p3
  have x0 := BP.out.froz 0 (by simp)
  have x1 := BP.out.froz 1 (by simp)
  have x2 := BP.out.froz 2 (by simp)
  have x3 := BP.out.froz 3 (by simp)
  have r0 := BR.out.cell 0 (by simp)
  have r1 := BR.out.cell 1 (by simp)
  have r2 := BR.out.cell 2 (by simp)
  have r3 := BR.out.cell 3 (by simp)
  simp only [List.getElem_cons_zero, List.getElem_cons_succ] at r0 r1 r2 r3
  have y0 := BR.out.froz 0 (by simp)
  have y1 := BR.out.froz 1 (by simp)
  have y2 := BR.out.froz 2 (by simp)
  have y3 := BR.out.froz 3 (by simp)
  have lB := BP.out.lt
  have lR := BR.out.lt
  have hRB := S.out.RB
  go_wp2_with fail
  refine bodyPost_ret (v := .agg #[.string ⟨m.toArray⟩, .string ⟨k.toArray⟩, .int .i64 n, .string ⟨t.toArray⟩]) (by simp [results, Try.results63, go_sem, cell_set_at, cell_set_ne, r0, r1, r2, r3]) rfl ?_
  exact KSt.fin (d := ⟨m, k, n, t⟩) S.out ⟨HOK.out.1, HOK.out.2.1, HOK.out.2.2.1, HOK.out.2.2.2⟩ _ _ _ _
end Go.Proofs.Ytghebbndfpbkcac
/- Calls, plain; takesKey, takesValue, takesText, WantOf. Written by gen/ch3calls.py. -/
namespace Go.Proofs.Ytghebbndfpbkcac
set_option linter.unusedVariables false
open Go.RowKit
abbrev mStart : List UInt8 := [83, 116, 97, 114, 116]
abbrev mStop : List UInt8 := [83, 116, 111, 112]
abbrev mGet : List UInt8 := [71, 101, 116]
abbrev mPut : List UInt8 := [80, 117, 116]
abbrev mTell : List UInt8 := [84, 101, 108, 108]
abbrev mHear : List UInt8 := [72, 101, 97, 114]
abbrev mLoad : List UInt8 := [76, 111, 97, 100]
abbrev mSave : List UInt8 := [83, 97, 118, 101]
abbrev mHeal : List UInt8 := [72, 101, 97, 108]
def takesK (m : List UInt8) : Bool := m == mGet || m == mPut
def takesV (m : List UInt8) : Bool := m == mPut || m == mHear
def takesT (m : List UInt8) : Bool := m == mLoad
def callB (d : CallD) : Bool := (wantF d.fMethod != 0) && (if takesK d.fMethod then nameB d.fKey else d.fKey.isEmpty) && (if takesV d.fMethod then numB d.fValue else d.fValue == 0) && (d.fText.isEmpty || takesT d.fMethod)
/-- a text is one of the nine methods, or wants nothing and is none of them -/
theorem meth_cases (m : List UInt8) : m = mStart ∨ m = mStop ∨ m = mGet ∨ m = mPut ∨ m = mTell ∨ m = mHear ∨ m = mLoad ∨ m = mSave ∨ m = mHeal ∨ (wantF m = 0 ∧ m ≠ mStart ∧ m ≠ mStop ∧ m ≠ mGet ∧ m ≠ mPut ∧ m ≠ mTell ∧ m ≠ mHear ∧ m ≠ mLoad ∧ m ≠ mSave ∧ m ≠ mHeal) := by
  by_cases h : wantF m = 0
  · iterate 9 right
    refine ⟨h, ?_, ?_, ?_, ?_, ?_, ?_, ?_, ?_, ?_⟩ <;> (rintro rfl; exact absurd h (by decide))
  · unfold wantF at h
    rcases findK_bd (fun k => decide (m ∈ mthN k)) 6 0 with e | ⟨j, e, hj, hm⟩
    · exact absurd (show wantI (abOfM m) = 0 by unfold abOfM; rw [e]; rfl) h
    · have hm := of_decide_eq_true hm
      rcases (show j = 0 ∨ j = 1 ∨ j = 2 ∨ j = 3 ∨ j = 4 ∨ j = 5 by omega) with rfl | rfl | rfl | rfl | rfl | rfl <;> simp [mthN] at hm <;> (first | (rcases hm with hm | hm <;> subst hm <;> decide) | (subst hm; decide))
set_option maxHeartbeats 800000 in
theorem takesKey_any (m : List UInt8) (w : World) : Calls Try.prog 65 #[.string ⟨m.toArray⟩] w fun e w' => e = .returned (.bool (takesK m)) ∧ w = w' := by
  by_cases hGet : m = mGet
  · subst hGet
    go_enter Try.func65, Try.ntmps65
    go_wp2
    go_ret
    exact ⟨rfl, rfl⟩
  by_cases hPut : m = mPut
  · subst hPut
    go_enter Try.func65, Try.ntmps65
    go_wp2
    go_ret
    exact ⟨rfl, rfl⟩
  have bGet : (m == [71, 101, 116]) = false := by simpa using hGet
  have bPut : (m == [80, 117, 116]) = false := by simpa using hPut
  have HR := Lib.hid (show takesK m = false by simp only [takesK, bGet, bPut] <;> rfl)
  clear hGet hPut
  go_enter Try.func65, Try.ntmps65
  go_wp2
  go_ret
  exact ⟨ret_bool HR.out.symm, rfl⟩
theorem takesKey_b (m : List UInt8) (x : Bool) (h : takesK m = x) (w : World) : Calls Try.prog 65 #[.string ⟨m.toArray⟩] w fun e w' => e = .returned (.bool x) ∧ w = w' := by subst h; exact takesKey_any m w
set_option maxHeartbeats 800000 in
theorem takesValue_any (m : List UInt8) (w : World) : Calls Try.prog 66 #[.string ⟨m.toArray⟩] w fun e w' => e = .returned (.bool (takesV m)) ∧ w = w' := by
  by_cases hPut : m = mPut
  · subst hPut
    go_enter Try.func66, Try.ntmps66
    go_wp2
    go_ret
    exact ⟨rfl, rfl⟩
  by_cases hHear : m = mHear
  · subst hHear
    go_enter Try.func66, Try.ntmps66
    go_wp2
    go_ret
    exact ⟨rfl, rfl⟩
  have bPut : (m == [80, 117, 116]) = false := by simpa using hPut
  have bHear : (m == [72, 101, 97, 114]) = false := by simpa using hHear
  have HR := Lib.hid (show takesV m = false by simp only [takesV, bPut, bHear] <;> rfl)
  clear hPut hHear
  go_enter Try.func66, Try.ntmps66
  go_wp2
  go_ret
  exact ⟨ret_bool HR.out.symm, rfl⟩
theorem takesValue_b (m : List UInt8) (x : Bool) (h : takesV m = x) (w : World) : Calls Try.prog 66 #[.string ⟨m.toArray⟩] w fun e w' => e = .returned (.bool x) ∧ w = w' := by subst h; exact takesValue_any m w
set_option maxHeartbeats 800000 in
theorem takesText_any (m : List UInt8) (w : World) : Calls Try.prog 67 #[.string ⟨m.toArray⟩] w fun e w' => e = .returned (.bool (takesT m)) ∧ w = w' := by
  by_cases hLoad : m = mLoad
  · subst hLoad
    go_enter Try.func67, Try.ntmps67
    go_wp2
    go_ret
    exact ⟨rfl, rfl⟩
  have bLoad : (m == [76, 111, 97, 100]) = false := by simpa using hLoad
  have HR := Lib.hid (show takesT m = false by simp only [takesT, bLoad] <;> rfl)
  clear hLoad
  go_enter Try.func67, Try.ntmps67
  go_wp2
  go_ret
  exact ⟨ret_bool HR.out.symm, rfl⟩
theorem takesText_b (m : List UInt8) (x : Bool) (h : takesT m = x) (w : World) : Calls Try.prog 67 #[.string ⟨m.toArray⟩] w fun e w' => e = .returned (.bool x) ∧ w = w' := by subst h; exact takesText_any m w
set_option maxHeartbeats 800000 in
theorem implWant_any (s : ByteArray) (w : World) :
    Calls Try.prog 71 #[.string s] w fun e w' => e = .returned (.int .i64 (wantF s.data.toList)) ∧ Below w.heap.size w w' := by
  have HA := Lib.hid (implAbilityOfMethod_any s)
  have hb := abOfM_bd s.data.toList
  unfold wantF
  generalize abOfM s.data.toList = k at *
  rcases hb with rfl | ⟨j, rfl, hj⟩
  · go_enter Try.func71, Try.ntmps71
    go_wp2_with fail
    refine (HA.out w).mono ?_
    rintro e w1 ⟨rfl, hb⟩
    go_wp2_with fail
    go_ret
    exact ⟨rfl, hb⟩
  · have HP := Lib.hid (show wrap64 (2 ^ j) = wantI (j : Nat) by unfold wantI; rw [if_neg (by omega), pow_of j hj]; simp)
    go_enter Try.func71, Try.ntmps71
    go_wp2_with fail
    refine (HA.out w).mono ?_
    rintro e w1 ⟨rfl, hb⟩
    go_wp2_with fail
    go_ret
    exact ⟨ret_int HP.out, hb⟩
theorem implWant_b (m : List UInt8) (x : Int) (h : wantF m = x) (w : World) : Calls Try.prog 71 #[.string ⟨m.toArray⟩] w fun e w' => e = .returned (.int .i64 x) ∧ Below w.heap.size w w' := by
  subst h; exact implWant_any ⟨m.toArray⟩ w
theorem specWant_b (m : List UInt8) (x : Int) (h : wantF m = x) (w : World) : Calls Try.prog 132 #[.string ⟨m.toArray⟩] w fun e w' => e = .returned (.int .i64 x) ∧ Below w.heap.size w w' := by
  subst h; exact specWant_any ⟨m.toArray⟩ w
end Go.Proofs.Ytghebbndfpbkcac
/- FormatCall, plain. Written by gen/ch3fmt.py. -/
namespace Go.Proofs.Ytghebbndfpbkcac
set_option linter.unusedVariables false
open Go.RowKit
/-- the words of a call -/
def wordsC (d : CallD) : List (List UInt8) := [d.fMethod] ++ (if takesK d.fMethod then [d.fKey] else []) ++ (if takesV d.fMethod then [numL d.fValue] else []) ++ (if takesT d.fMethod then [d.fText] else [])
def fmtCall (d : CallD) : List UInt8 := if callB d = true then joinL (wordsC d) [32] else []
theorem fmtCall_no {d : CallD} (h : callB d = false) : fmtCall d = [] := if_neg (by simp [h])
theorem fmtCall_yes {d : CallD} (h : callB d = true) : fmtCall d = joinL (wordsC d) [32] := if_pos h
theorem join3_len (a b c : List UInt8) : (joinL [a, b, c] [32]).length = a.length + b.length + c.length + 2 := by
  rw [joinL_cons a [b, c] [32] (by simp), joinL_two]; simp; omega
theorem join2_len (a b : List UInt8) : (joinL [a, b] [32]).length = a.length + b.length + 1 := by rw [joinL_two]; simp; omega
/-- what a valid call's fields are -/
theorem callB_parts {d : CallD} (h : callB d = true) : (takesK d.fMethod = true → nameB d.fKey = true) ∧ (takesK d.fMethod = false → d.fKey = []) ∧ (takesV d.fMethod = true → numB d.fValue = true) ∧ (takesV d.fMethod = false → d.fValue = 0) ∧ (takesT d.fMethod = false → d.fText = []) := by
  simp only [callB, Bool.and_eq_true] at h
  obtain ⟨⟨⟨h1, h2⟩, h3⟩, h4⟩ := h
  refine ⟨fun e => ?_, fun e => ?_, fun e => ?_, fun e => ?_, fun e => ?_⟩
  · rw [e] at h2; exact h2
  · rw [e] at h2; exact List.isEmpty_iff.1 h2
  · rw [e] at h3; exact h3
  · rw [e] at h3; exact beq_iff_eq.1 h3
  · rw [e] at h4; simpa using h4
end Go.Proofs.Ytghebbndfpbkcac
/- The model's IsCall, method by method: three of them. Written by gen/ch3calls.py. -/
namespace Go.Proofs.Ytghebbndfpbkcac
set_option linter.unusedVariables false
open Go.RowKit
set_option maxRecDepth 100000 in
set_option maxHeartbeats 3200000 in
theorem specIsCall_Start (key : List UInt8) (v : Int) (text : List UInt8) (w : World) (hk : key.length ≤ maxLen) :
    Calls Try.prog 112 #[.agg #[.string ⟨#[83, 116, 97, 114, 116]⟩, .string ⟨key.toArray⟩, .int .i64 v, .string ⟨text.toArray⟩]] w fun e w' => e = .returned (.bool (callB ⟨mStart, key, v, text⟩)) ∧ Below w.heap.size w w' := by
  have HR := Lib.hid (show callB ⟨mStart, key, v, text⟩ = (key.isEmpty && (v == 0) && (text.isEmpty || false)) from rfl)
  have HW := Lib.hid (show ∀ w0, Calls Try.prog 132 #[.string ⟨#[83, 116, 97, 114, 116]⟩] w0 fun e w' => e = .returned (.int .i64 1) ∧ Below w0.heap.size w0 w' from fun w0 => specWant_b mStart 1 rfl w0)
  generalize callB ⟨mStart, key, v, text⟩ = res at *
  clear hk
  have HB0 := Lib.hid (show ∀ o, Below w.heap.size w (w.alloc o) from fun o => (Below.refl w.heap.size w).alloc (Nat.le_refl _) o)
  go_enter Try.func112, Try.ntmps112
  go_wp2_with fail
  refine (HW.out _).mono ?_
  rintro e w1 ⟨rfl, hb⟩
  have HB := Lib.hid ((HB0.out _).trans (hb.mono (HB0.out _).size))
  obtain ⟨hcc, _⟩ := bcell hb
  simp at hcc
  have c0 := hcc w.heap.size 0 (by omega)
  have c1 := hcc w.heap.size 1 (by omega)
  have c2 := hcc w.heap.size 2 (by omega)
  have c3 := hcc w.heap.size 3 (by omega)
  simp at c0 c1 c2 c3
  clear hb hcc
  cases key <;> cases text
  all_goals
    by_cases h0 : v = 0
    · subst h0
      go_wp2_with fail
      go_ret
      exact ⟨ret_bool (by rw [HR.out]; rfl), HB.out⟩
    · have hv0 : (v == 0) = false := by simpa using h0
      rw [hv0] at HR
      clear h0
      go_wp2_with fail
      go_ret
      exact ⟨ret_bool (by rw [HR.out]; rfl), HB.out⟩
set_option maxRecDepth 100000 in
set_option maxHeartbeats 3200000 in
theorem specIsCall_Stop (key : List UInt8) (v : Int) (text : List UInt8) (w : World) (hk : key.length ≤ maxLen) :
    Calls Try.prog 112 #[.agg #[.string ⟨#[83, 116, 111, 112]⟩, .string ⟨key.toArray⟩, .int .i64 v, .string ⟨text.toArray⟩]] w fun e w' => e = .returned (.bool (callB ⟨mStop, key, v, text⟩)) ∧ Below w.heap.size w w' := by
  have HR := Lib.hid (show callB ⟨mStop, key, v, text⟩ = (key.isEmpty && (v == 0) && (text.isEmpty || false)) from rfl)
  have HW := Lib.hid (show ∀ w0, Calls Try.prog 132 #[.string ⟨#[83, 116, 111, 112]⟩] w0 fun e w' => e = .returned (.int .i64 1) ∧ Below w0.heap.size w0 w' from fun w0 => specWant_b mStop 1 rfl w0)
  generalize callB ⟨mStop, key, v, text⟩ = res at *
  clear hk
  have HB0 := Lib.hid (show ∀ o, Below w.heap.size w (w.alloc o) from fun o => (Below.refl w.heap.size w).alloc (Nat.le_refl _) o)
  go_enter Try.func112, Try.ntmps112
  go_wp2_with fail
  refine (HW.out _).mono ?_
  rintro e w1 ⟨rfl, hb⟩
  have HB := Lib.hid ((HB0.out _).trans (hb.mono (HB0.out _).size))
  obtain ⟨hcc, _⟩ := bcell hb
  simp at hcc
  have c0 := hcc w.heap.size 0 (by omega)
  have c1 := hcc w.heap.size 1 (by omega)
  have c2 := hcc w.heap.size 2 (by omega)
  have c3 := hcc w.heap.size 3 (by omega)
  simp at c0 c1 c2 c3
  clear hb hcc
  cases key <;> cases text
  all_goals
    by_cases h0 : v = 0
    · subst h0
      go_wp2_with fail
      go_ret
      exact ⟨ret_bool (by rw [HR.out]; rfl), HB.out⟩
    · have hv0 : (v == 0) = false := by simpa using h0
      rw [hv0] at HR
      clear h0
      go_wp2_with fail
      go_ret
      exact ⟨ret_bool (by rw [HR.out]; rfl), HB.out⟩
set_option maxRecDepth 100000 in
set_option maxHeartbeats 3200000 in
theorem specIsCall_Get (key : List UInt8) (v : Int) (text : List UInt8) (w : World) (hk : key.length ≤ maxLen) :
    Calls Try.prog 112 #[.agg #[.string ⟨#[71, 101, 116]⟩, .string ⟨key.toArray⟩, .int .i64 v, .string ⟨text.toArray⟩]] w fun e w' => e = .returned (.bool (callB ⟨mGet, key, v, text⟩)) ∧ Below w.heap.size w w' := by
  have HR := Lib.hid (show callB ⟨mGet, key, v, text⟩ = (nameB key && (v == 0) && (text.isEmpty || false)) from rfl)
  have HW := Lib.hid (show ∀ w0, Calls Try.prog 132 #[.string ⟨#[71, 101, 116]⟩] w0 fun e w' => e = .returned (.int .i64 2) ∧ Below w0.heap.size w0 w' from fun w0 => specWant_b mGet 2 rfl w0)
  have HN := Lib.hid (specIsName_b key _ rfl hk)
  generalize callB ⟨mGet, key, v, text⟩ = res at *
  generalize nameB key = kn at *
  clear hk
  have HB0 := Lib.hid (show ∀ o, Below w.heap.size w (w.alloc o) from fun o => (Below.refl w.heap.size w).alloc (Nat.le_refl _) o)
  go_enter Try.func112, Try.ntmps112
  go_wp2_with fail
  refine (HW.out _).mono ?_
  rintro e w1 ⟨rfl, hb⟩
  have HB := Lib.hid ((HB0.out _).trans (hb.mono (HB0.out _).size))
  obtain ⟨hcc, _⟩ := bcell hb
  simp at hcc
  have c0 := hcc w.heap.size 0 (by omega)
  have c1 := hcc w.heap.size 1 (by omega)
  have c2 := hcc w.heap.size 2 (by omega)
  have c3 := hcc w.heap.size 3 (by omega)
  simp at c0 c1 c2 c3
  clear hb hcc
  cases kn <;> cases text
  all_goals
    by_cases h0 : v = 0
    · subst h0
      go_wp2_with (first | (go_at_call 62; (with_reducible refine (HN.out _).mono ?_); rintro e w' ⟨rfl, rfl⟩))
      go_ret
      exact ⟨ret_bool (by rw [HR.out]; rfl), HB.out⟩
    · have hv0 : (v == 0) = false := by simpa using h0
      rw [hv0] at HR
      clear h0
      go_wp2_with (first | (go_at_call 62; (with_reducible refine (HN.out _).mono ?_); rintro e w' ⟨rfl, rfl⟩))
      go_ret
      exact ⟨ret_bool (by rw [HR.out]; rfl), HB.out⟩
end Go.Proofs.Ytghebbndfpbkcac
/- The model's IsCall, method by method: three more. Written by gen/ch3calls.py. -/
namespace Go.Proofs.Ytghebbndfpbkcac
set_option linter.unusedVariables false
open Go.RowKit
set_option maxRecDepth 100000 in
set_option maxHeartbeats 3200000 in
theorem specIsCall_Put (key : List UInt8) (v : Int) (text : List UInt8) (w : World) (hk : key.length ≤ maxLen) :
    Calls Try.prog 112 #[.agg #[.string ⟨#[80, 117, 116]⟩, .string ⟨key.toArray⟩, .int .i64 v, .string ⟨text.toArray⟩]] w fun e w' => e = .returned (.bool (callB ⟨mPut, key, v, text⟩)) ∧ Below w.heap.size w w' := by
  have HR := Lib.hid (show callB ⟨mPut, key, v, text⟩ = (nameB key && numB v && (text.isEmpty || false)) from rfl)
  have HW := Lib.hid (show ∀ w0, Calls Try.prog 132 #[.string ⟨#[80, 117, 116]⟩] w0 fun e w' => e = .returned (.int .i64 2) ∧ Below w0.heap.size w0 w' from fun w0 => specWant_b mPut 2 rfl w0)
  have HN := Lib.hid (specIsName_b key _ rfl hk)
  generalize callB ⟨mPut, key, v, text⟩ = res at *
  generalize nameB key = kn at *
  clear hk
  have HB0 := Lib.hid (show ∀ o, Below w.heap.size w (w.alloc o) from fun o => (Below.refl w.heap.size w).alloc (Nat.le_refl _) o)
  go_enter Try.func112, Try.ntmps112
  go_wp2_with fail
  refine (HW.out _).mono ?_
  rintro e w1 ⟨rfl, hb⟩
  have HB := Lib.hid ((HB0.out _).trans (hb.mono (HB0.out _).size))
  obtain ⟨hcc, _⟩ := bcell hb
  simp at hcc
  have c0 := hcc w.heap.size 0 (by omega)
  have c1 := hcc w.heap.size 1 (by omega)
  have c2 := hcc w.heap.size 2 (by omega)
  have c3 := hcc w.heap.size 3 (by omega)
  simp at c0 c1 c2 c3
  clear hb hcc
  cases kn <;> cases text
  all_goals
    by_cases h0 : v = 0
    · subst h0
      rw [show numB 0 = true from rfl] at HR
      go_wp2_with (first | (go_at_call 62; (with_reducible refine (HN.out _).mono ?_); rintro e w' ⟨rfl, rfl⟩))
      go_ret
      exact ⟨ret_bool (by rw [HR.out]; rfl), HB.out⟩
    · have hv0 : (v == 0) = false := by simpa using h0
      by_cases h1 : v < 0
      · rw [show numB v = false by simp [numB]; omega] at HR
        have hv1 : decide (0 < v) = false := decide_eq_false (by omega)
        clear h0
        go_wp2_with (first | (go_at_call 62; (with_reducible refine (HN.out _).mono ?_); rintro e w' ⟨rfl, rfl⟩))
        go_ret
        exact ⟨ret_bool (by rw [HR.out]; rfl), HB.out⟩
      · by_cases h2 : 999 < v
        · rw [show numB v = false by simp [numB]; omega] at HR
          have hv1 : decide (0 < v) = true := decide_eq_true (by omega)
          have hv2 : decide (v ≤ 999) = false := decide_eq_false (by omega)
          clear h0
          go_wp2_with (first | (go_at_call 62; (with_reducible refine (HN.out _).mono ?_); rintro e w' ⟨rfl, rfl⟩))
          go_ret
          exact ⟨ret_bool (by rw [HR.out]; rfl), HB.out⟩
        · rw [show numB v = true by simp [numB]; omega] at HR
          have hv1 : decide (0 < v) = true := decide_eq_true (by omega)
          have hv2 : decide (v ≤ 999) = true := decide_eq_true (by omega)
          have hv3 : 0 < v := by omega
          have hv4 : v ≤ 999 := by omega
          clear h0
          go_wp2_with (first | (go_at_call 62; (with_reducible refine (HN.out _).mono ?_); rintro e w' ⟨rfl, rfl⟩))
          go_ret
          exact ⟨ret_bool (by rw [HR.out]; rfl), HB.out⟩
set_option maxRecDepth 100000 in
set_option maxHeartbeats 3200000 in
theorem specIsCall_Tell (key : List UInt8) (v : Int) (text : List UInt8) (w : World) (hk : key.length ≤ maxLen) :
    Calls Try.prog 112 #[.agg #[.string ⟨#[84, 101, 108, 108]⟩, .string ⟨key.toArray⟩, .int .i64 v, .string ⟨text.toArray⟩]] w fun e w' => e = .returned (.bool (callB ⟨mTell, key, v, text⟩)) ∧ Below w.heap.size w w' := by
  have HR := Lib.hid (show callB ⟨mTell, key, v, text⟩ = (key.isEmpty && (v == 0) && (text.isEmpty || false)) from rfl)
  have HW := Lib.hid (show ∀ w0, Calls Try.prog 132 #[.string ⟨#[84, 101, 108, 108]⟩] w0 fun e w' => e = .returned (.int .i64 4) ∧ Below w0.heap.size w0 w' from fun w0 => specWant_b mTell 4 rfl w0)
  generalize callB ⟨mTell, key, v, text⟩ = res at *
  clear hk
  have HB0 := Lib.hid (show ∀ o, Below w.heap.size w (w.alloc o) from fun o => (Below.refl w.heap.size w).alloc (Nat.le_refl _) o)
  go_enter Try.func112, Try.ntmps112
  go_wp2_with fail
  refine (HW.out _).mono ?_
  rintro e w1 ⟨rfl, hb⟩
  have HB := Lib.hid ((HB0.out _).trans (hb.mono (HB0.out _).size))
  obtain ⟨hcc, _⟩ := bcell hb
  simp at hcc
  have c0 := hcc w.heap.size 0 (by omega)
  have c1 := hcc w.heap.size 1 (by omega)
  have c2 := hcc w.heap.size 2 (by omega)
  have c3 := hcc w.heap.size 3 (by omega)
  simp at c0 c1 c2 c3
  clear hb hcc
  cases key <;> cases text
  all_goals
    by_cases h0 : v = 0
    · subst h0
      go_wp2_with fail
      go_ret
      exact ⟨ret_bool (by rw [HR.out]; rfl), HB.out⟩
    · have hv0 : (v == 0) = false := by simpa using h0
      rw [hv0] at HR
      clear h0
      go_wp2_with fail
      go_ret
      exact ⟨ret_bool (by rw [HR.out]; rfl), HB.out⟩
set_option maxRecDepth 100000 in
set_option maxHeartbeats 3200000 in
theorem specIsCall_Hear (key : List UInt8) (v : Int) (text : List UInt8) (w : World) (hk : key.length ≤ maxLen) :
    Calls Try.prog 112 #[.agg #[.string ⟨#[72, 101, 97, 114]⟩, .string ⟨key.toArray⟩, .int .i64 v, .string ⟨text.toArray⟩]] w fun e w' => e = .returned (.bool (callB ⟨mHear, key, v, text⟩)) ∧ Below w.heap.size w w' := by
  have HR := Lib.hid (show callB ⟨mHear, key, v, text⟩ = (key.isEmpty && numB v && (text.isEmpty || false)) from rfl)
  have HW := Lib.hid (show ∀ w0, Calls Try.prog 132 #[.string ⟨#[72, 101, 97, 114]⟩] w0 fun e w' => e = .returned (.int .i64 8) ∧ Below w0.heap.size w0 w' from fun w0 => specWant_b mHear 8 rfl w0)
  generalize callB ⟨mHear, key, v, text⟩ = res at *
  clear hk
  have HB0 := Lib.hid (show ∀ o, Below w.heap.size w (w.alloc o) from fun o => (Below.refl w.heap.size w).alloc (Nat.le_refl _) o)
  go_enter Try.func112, Try.ntmps112
  go_wp2_with fail
  refine (HW.out _).mono ?_
  rintro e w1 ⟨rfl, hb⟩
  have HB := Lib.hid ((HB0.out _).trans (hb.mono (HB0.out _).size))
  obtain ⟨hcc, _⟩ := bcell hb
  simp at hcc
  have c0 := hcc w.heap.size 0 (by omega)
  have c1 := hcc w.heap.size 1 (by omega)
  have c2 := hcc w.heap.size 2 (by omega)
  have c3 := hcc w.heap.size 3 (by omega)
  simp at c0 c1 c2 c3
  clear hb hcc
  cases key <;> cases text
  all_goals
    by_cases h0 : v = 0
    · subst h0
      rw [show numB 0 = true from rfl] at HR
      go_wp2_with fail
      go_ret
      exact ⟨ret_bool (by rw [HR.out]; rfl), HB.out⟩
    · have hv0 : (v == 0) = false := by simpa using h0
      by_cases h1 : v < 0
      · rw [show numB v = false by simp [numB]; omega] at HR
        have hv1 : decide (0 < v) = false := decide_eq_false (by omega)
        clear h0
        go_wp2_with fail
        go_ret
        exact ⟨ret_bool (by rw [HR.out]; rfl), HB.out⟩
      · by_cases h2 : 999 < v
        · rw [show numB v = false by simp [numB]; omega] at HR
          have hv1 : decide (0 < v) = true := decide_eq_true (by omega)
          have hv2 : decide (v ≤ 999) = false := decide_eq_false (by omega)
          clear h0
          go_wp2_with fail
          go_ret
          exact ⟨ret_bool (by rw [HR.out]; rfl), HB.out⟩
        · rw [show numB v = true by simp [numB]; omega] at HR
          have hv1 : decide (0 < v) = true := decide_eq_true (by omega)
          have hv2 : decide (v ≤ 999) = true := decide_eq_true (by omega)
          have hv3 : 0 < v := by omega
          have hv4 : v ≤ 999 := by omega
          clear h0
          go_wp2_with fail
          go_ret
          exact ⟨ret_bool (by rw [HR.out]; rfl), HB.out⟩
end Go.Proofs.Ytghebbndfpbkcac
/- The model's IsCall, method by method: the last three; whatever the method is. Written by gen/ch3calls.py. -/
namespace Go.Proofs.Ytghebbndfpbkcac
set_option linter.unusedVariables false
open Go.RowKit
set_option maxRecDepth 100000 in
set_option maxHeartbeats 3200000 in
theorem specIsCall_Load (key : List UInt8) (v : Int) (text : List UInt8) (w : World) (hk : key.length ≤ maxLen) :
    Calls Try.prog 112 #[.agg #[.string ⟨#[76, 111, 97, 100]⟩, .string ⟨key.toArray⟩, .int .i64 v, .string ⟨text.toArray⟩]] w fun e w' => e = .returned (.bool (callB ⟨mLoad, key, v, text⟩)) ∧ Below w.heap.size w w' := by
  have HR := Lib.hid (show callB ⟨mLoad, key, v, text⟩ = (key.isEmpty && (v == 0) && (text.isEmpty || true)) from rfl)
  have HW := Lib.hid (show ∀ w0, Calls Try.prog 132 #[.string ⟨#[76, 111, 97, 100]⟩] w0 fun e w' => e = .returned (.int .i64 16) ∧ Below w0.heap.size w0 w' from fun w0 => specWant_b mLoad 16 rfl w0)
  generalize callB ⟨mLoad, key, v, text⟩ = res at *
  clear hk
  have HB0 := Lib.hid (show ∀ o, Below w.heap.size w (w.alloc o) from fun o => (Below.refl w.heap.size w).alloc (Nat.le_refl _) o)
  go_enter Try.func112, Try.ntmps112
  go_wp2_with fail
  refine (HW.out _).mono ?_
  rintro e w1 ⟨rfl, hb⟩
  have HB := Lib.hid ((HB0.out _).trans (hb.mono (HB0.out _).size))
  obtain ⟨hcc, _⟩ := bcell hb
  simp at hcc
  have c0 := hcc w.heap.size 0 (by omega)
  have c1 := hcc w.heap.size 1 (by omega)
  have c2 := hcc w.heap.size 2 (by omega)
  have c3 := hcc w.heap.size 3 (by omega)
  simp at c0 c1 c2 c3
  clear hb hcc
  cases key <;> cases text
  all_goals
    by_cases h0 : v = 0
    · subst h0
      go_wp2_with fail
      go_ret
      exact ⟨ret_bool (by rw [HR.out]; rfl), HB.out⟩
    · have hv0 : (v == 0) = false := by simpa using h0
      rw [hv0] at HR
      clear h0
      go_wp2_with fail
      go_ret
      exact ⟨ret_bool (by rw [HR.out]; rfl), HB.out⟩
set_option maxRecDepth 100000 in
set_option maxHeartbeats 3200000 in
theorem specIsCall_Save (key : List UInt8) (v : Int) (text : List UInt8) (w : World) (hk : key.length ≤ maxLen) :
    Calls Try.prog 112 #[.agg #[.string ⟨#[83, 97, 118, 101]⟩, .string ⟨key.toArray⟩, .int .i64 v, .string ⟨text.toArray⟩]] w fun e w' => e = .returned (.bool (callB ⟨mSave, key, v, text⟩)) ∧ Below w.heap.size w w' := by
  have HR := Lib.hid (show callB ⟨mSave, key, v, text⟩ = (key.isEmpty && (v == 0) && (text.isEmpty || false)) from rfl)
  have HW := Lib.hid (show ∀ w0, Calls Try.prog 132 #[.string ⟨#[83, 97, 118, 101]⟩] w0 fun e w' => e = .returned (.int .i64 16) ∧ Below w0.heap.size w0 w' from fun w0 => specWant_b mSave 16 rfl w0)
  generalize callB ⟨mSave, key, v, text⟩ = res at *
  clear hk
  have HB0 := Lib.hid (show ∀ o, Below w.heap.size w (w.alloc o) from fun o => (Below.refl w.heap.size w).alloc (Nat.le_refl _) o)
  go_enter Try.func112, Try.ntmps112
  go_wp2_with fail
  refine (HW.out _).mono ?_
  rintro e w1 ⟨rfl, hb⟩
  have HB := Lib.hid ((HB0.out _).trans (hb.mono (HB0.out _).size))
  obtain ⟨hcc, _⟩ := bcell hb
  simp at hcc
  have c0 := hcc w.heap.size 0 (by omega)
  have c1 := hcc w.heap.size 1 (by omega)
  have c2 := hcc w.heap.size 2 (by omega)
  have c3 := hcc w.heap.size 3 (by omega)
  simp at c0 c1 c2 c3
  clear hb hcc
  cases key <;> cases text
  all_goals
    by_cases h0 : v = 0
    · subst h0
      go_wp2_with fail
      go_ret
      exact ⟨ret_bool (by rw [HR.out]; rfl), HB.out⟩
    · have hv0 : (v == 0) = false := by simpa using h0
      rw [hv0] at HR
      clear h0
      go_wp2_with fail
      go_ret
      exact ⟨ret_bool (by rw [HR.out]; rfl), HB.out⟩
set_option maxRecDepth 100000 in
set_option maxHeartbeats 3200000 in
theorem specIsCall_Heal (key : List UInt8) (v : Int) (text : List UInt8) (w : World) (hk : key.length ≤ maxLen) :
    Calls Try.prog 112 #[.agg #[.string ⟨#[72, 101, 97, 108]⟩, .string ⟨key.toArray⟩, .int .i64 v, .string ⟨text.toArray⟩]] w fun e w' => e = .returned (.bool (callB ⟨mHeal, key, v, text⟩)) ∧ Below w.heap.size w w' := by
  have HR := Lib.hid (show callB ⟨mHeal, key, v, text⟩ = (key.isEmpty && (v == 0) && (text.isEmpty || false)) from rfl)
  have HW := Lib.hid (show ∀ w0, Calls Try.prog 132 #[.string ⟨#[72, 101, 97, 108]⟩] w0 fun e w' => e = .returned (.int .i64 32) ∧ Below w0.heap.size w0 w' from fun w0 => specWant_b mHeal 32 rfl w0)
  generalize callB ⟨mHeal, key, v, text⟩ = res at *
  clear hk
  have HB0 := Lib.hid (show ∀ o, Below w.heap.size w (w.alloc o) from fun o => (Below.refl w.heap.size w).alloc (Nat.le_refl _) o)
  go_enter Try.func112, Try.ntmps112
  go_wp2_with fail
  refine (HW.out _).mono ?_
  rintro e w1 ⟨rfl, hb⟩
  have HB := Lib.hid ((HB0.out _).trans (hb.mono (HB0.out _).size))
  obtain ⟨hcc, _⟩ := bcell hb
  simp at hcc
  have c0 := hcc w.heap.size 0 (by omega)
  have c1 := hcc w.heap.size 1 (by omega)
  have c2 := hcc w.heap.size 2 (by omega)
  have c3 := hcc w.heap.size 3 (by omega)
  simp at c0 c1 c2 c3
  clear hb hcc
  cases key <;> cases text
  all_goals
    by_cases h0 : v = 0
    · subst h0
      go_wp2_with fail
      go_ret
      exact ⟨ret_bool (by rw [HR.out]; rfl), HB.out⟩
    · have hv0 : (v == 0) = false := by simpa using h0
      rw [hv0] at HR
      clear h0
      go_wp2_with fail
      go_ret
      exact ⟨ret_bool (by rw [HR.out]; rfl), HB.out⟩
set_option maxRecDepth 100000 in
set_option maxHeartbeats 1600000 in
theorem specIsCall_any (d : CallD) (w : World) (hk : d.fKey.length ≤ maxLen) :
    Calls Try.prog 112 #[vCall d] w fun e w' => e = .returned (.bool (callB d)) ∧ Below w.heap.size w w' := by
  obtain ⟨m, key, v, text⟩ := d
  unfold vCall
  simp only at *
  rcases meth_cases m with rfl | rfl | rfl | rfl | rfl | rfl | rfl | rfl | rfl | ⟨hw, hStart, hStop, hGet, hPut, hTell, hHear, hLoad, hSave, hHeal⟩
  · exact specIsCall_Start key v text w hk
  · exact specIsCall_Stop key v text w hk
  · exact specIsCall_Get key v text w hk
  · exact specIsCall_Put key v text w hk
  · exact specIsCall_Tell key v text w hk
  · exact specIsCall_Hear key v text w hk
  · exact specIsCall_Load key v text w hk
  · exact specIsCall_Save key v text w hk
  · exact specIsCall_Heal key v text w hk
  · have HR := Lib.hid (show callB ⟨m, key, v, text⟩ = false by unfold callB; simp only; rw [hw]; rfl)
    have bGet : (m == [71, 101, 116]) = false := by simpa using hGet
    have bPut : (m == [80, 117, 116]) = false := by simpa using hPut
    have bHear : (m == [72, 101, 97, 114]) = false := by simpa using hHear
    have bLoad : (m == [76, 111, 97, 100]) = false := by simpa using hLoad
    have HW := Lib.hid (specWant_b m 0 hw)
    have HB0 := Lib.hid (show ∀ o, Below w.heap.size w (w.alloc o) from fun o => (Below.refl w.heap.size w).alloc (Nat.le_refl _) o)
    generalize callB ⟨m, key, v, text⟩ = res at *
    clear hw hk hStart hStop hGet hPut hTell hHear hLoad hSave hHeal
    go_enter Try.func112, Try.ntmps112
    go_wp2_with fail
    refine (HW.out _).mono ?_
    rintro e w1 ⟨rfl, hb⟩
    have HB := Lib.hid ((HB0.out _).trans (hb.mono (HB0.out _).size))
    clear hb
    go_wp2_with fail
    go_ret
    exact ⟨ret_bool HR.out.symm, HB.out⟩
end Go.Proofs.Ytghebbndfpbkcac
/- The model's FormatCall, method by method. Written by gen/ch3fmt.py. -/
namespace Go.Proofs.Ytghebbndfpbkcac
set_option linter.unusedVariables false
open Go.RowKit
set_option maxRecDepth 100000 in
set_option maxHeartbeats 1600000 in
theorem specFormatCall_Start (key : List UInt8) (v : Int) (text : List UInt8) (w : World) (hk : key.length ≤ maxLen) (ht : text.length ≤ 1048576) (hc : callB ⟨mStart, key, v, text⟩ = true) :
    Calls Try.prog 68 #[.agg #[.string ⟨#[83, 116, 97, 114, 116]⟩, .string ⟨key.toArray⟩, .int .i64 v, .string ⟨text.toArray⟩]] w fun e w' => e = .returned (.string ⟨(fmtCall ⟨mStart, key, v, text⟩).toArray⟩) ∧ Below w.heap.size w w' := by
  have HIC := Lib.hid (fun w0 => specIsCall_any ⟨mStart, key, v, text⟩ w0 hk)
  rw [hc] at HIC
  unfold vCall at HIC
  simp only at HIC
  obtain ⟨p1, p2, p3, p4, p5⟩ := callB_parts hc
  have HF := Lib.hid (fmtCall_yes hc)
  clear hc
  obtain rfl : key = [] := p2 rfl
  obtain rfl : v = 0 := p4 rfl
  obtain rfl : text = [] := p5 rfl
  have HW := Lib.hid (show joinL [mStart] [32] = joinL (wordsC ⟨mStart, [], 0, []⟩) [32] from rfl)
  clear p1 p2 p3 p4 p5
  have HB0 := Lib.hid (show ∀ o, Below w.heap.size w (w.alloc o) from fun o => (Below.refl w.heap.size w).alloc (Nat.le_refl _) o)
  go_enter Try.func68, Try.ntmps68
  go_wp2_with fail
  refine (HIC.out _).mono ?_
  rintro e w1 ⟨rfl, hb⟩
  have HB := Lib.hid ((HB0.out _).trans (hb.mono (HB0.out _).size))
  obtain ⟨hcc, _⟩ := bcell hb
  simp at hcc
  have c0 := hcc w.heap.size 0 (by omega)
  have c1 := hcc w.heap.size 1 (by omega)
  have c2 := hcc w.heap.size 2 (by omega)
  have c3 := hcc w.heap.size 3 (by omega)
  simp at c0 c1 c2 c3
  have hlt : w.heap.size < w1.heap.size := by have h := hb.size; simp at h; omega
  clear hb hcc
  go_wp2_with fail
  go_ret
  exact ⟨ret_strB (by rw [HF.out, ← HW.out]; rw [joinL_one]), HB.out⟩
set_option maxRecDepth 100000 in
set_option maxHeartbeats 1600000 in
theorem specFormatCall_Stop (key : List UInt8) (v : Int) (text : List UInt8) (w : World) (hk : key.length ≤ maxLen) (ht : text.length ≤ 1048576) (hc : callB ⟨mStop, key, v, text⟩ = true) :
    Calls Try.prog 68 #[.agg #[.string ⟨#[83, 116, 111, 112]⟩, .string ⟨key.toArray⟩, .int .i64 v, .string ⟨text.toArray⟩]] w fun e w' => e = .returned (.string ⟨(fmtCall ⟨mStop, key, v, text⟩).toArray⟩) ∧ Below w.heap.size w w' := by
  have HIC := Lib.hid (fun w0 => specIsCall_any ⟨mStop, key, v, text⟩ w0 hk)
  rw [hc] at HIC
  unfold vCall at HIC
  simp only at HIC
  obtain ⟨p1, p2, p3, p4, p5⟩ := callB_parts hc
  have HF := Lib.hid (fmtCall_yes hc)
  clear hc
  obtain rfl : key = [] := p2 rfl
  obtain rfl : v = 0 := p4 rfl
  obtain rfl : text = [] := p5 rfl
  have HW := Lib.hid (show joinL [mStop] [32] = joinL (wordsC ⟨mStop, [], 0, []⟩) [32] from rfl)
  clear p1 p2 p3 p4 p5
  have HB0 := Lib.hid (show ∀ o, Below w.heap.size w (w.alloc o) from fun o => (Below.refl w.heap.size w).alloc (Nat.le_refl _) o)
  go_enter Try.func68, Try.ntmps68
  go_wp2_with fail
  refine (HIC.out _).mono ?_
  rintro e w1 ⟨rfl, hb⟩
  have HB := Lib.hid ((HB0.out _).trans (hb.mono (HB0.out _).size))
  obtain ⟨hcc, _⟩ := bcell hb
  simp at hcc
  have c0 := hcc w.heap.size 0 (by omega)
  have c1 := hcc w.heap.size 1 (by omega)
  have c2 := hcc w.heap.size 2 (by omega)
  have c3 := hcc w.heap.size 3 (by omega)
  simp at c0 c1 c2 c3
  have hlt : w.heap.size < w1.heap.size := by have h := hb.size; simp at h; omega
  clear hb hcc
  go_wp2_with fail
  go_ret
  exact ⟨ret_strB (by rw [HF.out, ← HW.out]; rw [joinL_one]), HB.out⟩
set_option maxRecDepth 100000 in
set_option maxHeartbeats 1600000 in
theorem specFormatCall_Get (key : List UInt8) (v : Int) (text : List UInt8) (w : World) (hk : key.length ≤ maxLen) (ht : text.length ≤ 1048576) (hc : callB ⟨mGet, key, v, text⟩ = true) :
    Calls Try.prog 68 #[.agg #[.string ⟨#[71, 101, 116]⟩, .string ⟨key.toArray⟩, .int .i64 v, .string ⟨text.toArray⟩]] w fun e w' => e = .returned (.string ⟨(fmtCall ⟨mGet, key, v, text⟩).toArray⟩) ∧ Below w.heap.size w w' := by
  have HIC := Lib.hid (fun w0 => specIsCall_any ⟨mGet, key, v, text⟩ w0 hk)
  rw [hc] at HIC
  unfold vCall at HIC
  simp only at HIC
  obtain ⟨p1, p2, p3, p4, p5⟩ := callB_parts hc
  have HF := Lib.hid (fmtCall_yes hc)
  clear hc
  have hn := nameB_len8 (p1 rfl)
  simp only at hn
  obtain rfl : v = 0 := p4 rfl
  obtain rfl : text = [] := p5 rfl
  have HW := Lib.hid (show joinL [mGet, key] [32] = joinL (wordsC ⟨mGet, key, 0, []⟩) [32] from rfl)
  clear p1 p2 p3 p4 p5
  have HB0 := Lib.hid (show ∀ o, Below w.heap.size w (w.alloc o) from fun o => (Below.refl w.heap.size w).alloc (Nat.le_refl _) o)
  go_enter Try.func68, Try.ntmps68
  go_wp2_with fail
  refine (HIC.out _).mono ?_
  rintro e w1 ⟨rfl, hb⟩
  have HB := Lib.hid ((HB0.out _).trans (hb.mono (HB0.out _).size))
  obtain ⟨hcc, _⟩ := bcell hb
  simp at hcc
  have c0 := hcc w.heap.size 0 (by omega)
  have c1 := hcc w.heap.size 1 (by omega)
  have c2 := hcc w.heap.size 2 (by omega)
  have c3 := hcc w.heap.size 3 (by omega)
  simp at c0 c1 c2 c3
  have hlt : w.heap.size < w1.heap.size := by have h := hb.size; simp at h; omega
  clear hb hcc
  have hs3 := size_strB key
  go_wp2_with fail
  go_ret
  exact ⟨ret_strB (by rw [HF.out, ← HW.out]; rw [joinL_two, data_app]; simp), HB.out⟩
set_option maxRecDepth 100000 in
set_option maxHeartbeats 1600000 in
theorem specFormatCall_Put (key : List UInt8) (v : Int) (text : List UInt8) (w : World) (hk : key.length ≤ maxLen) (ht : text.length ≤ 1048576) (hc : callB ⟨mPut, key, v, text⟩ = true) :
    Calls Try.prog 68 #[.agg #[.string ⟨#[80, 117, 116]⟩, .string ⟨key.toArray⟩, .int .i64 v, .string ⟨text.toArray⟩]] w fun e w' => e = .returned (.string ⟨(fmtCall ⟨mPut, key, v, text⟩).toArray⟩) ∧ Below w.heap.size w w' := by
  have HIC := Lib.hid (fun w0 => specIsCall_any ⟨mPut, key, v, text⟩ w0 hk)
  rw [hc] at HIC
  unfold vCall at HIC
  simp only at HIC
  obtain ⟨p1, p2, p3, p4, p5⟩ := callB_parts hc
  have HF := Lib.hid (fmtCall_yes hc)
  clear hc
  have hn := nameB_len8 (p1 rfl)
  simp only at hn
  obtain ⟨z, hz, hz9⟩ := numB_nat (p3 rfl)
  simp only at hz
  subst hz
  have hl3 := numL_len hz9
  have HFN := Lib.hid (fun w0 => specFormat_any z w0 (by omega) (by omega))
  obtain rfl : text = [] := p5 rfl
  have HW := Lib.hid (show joinL [mPut, key, numL z] [32] = joinL (wordsC ⟨mPut, key, (z : Int), []⟩) [32] from rfl)
  clear p1 p2 p3 p4 p5
  have HB0 := Lib.hid (show ∀ o, Below w.heap.size w (w.alloc o) from fun o => (Below.refl w.heap.size w).alloc (Nat.le_refl _) o)
  go_enter Try.func68, Try.ntmps68
  go_wp2_with fail
  refine (HIC.out _).mono ?_
  rintro e w1 ⟨rfl, hb⟩
  have HB := Lib.hid ((HB0.out _).trans (hb.mono (HB0.out _).size))
  obtain ⟨hcc, _⟩ := bcell hb
  simp at hcc
  have c0 := hcc w.heap.size 0 (by omega)
  have c1 := hcc w.heap.size 1 (by omega)
  have c2 := hcc w.heap.size 2 (by omega)
  have c3 := hcc w.heap.size 3 (by omega)
  simp at c0 c1 c2 c3
  have hlt : w.heap.size < w1.heap.size := by have h := hb.size; simp at h; omega
  clear hb hcc
  have hs3 := size_strB (numL z)
  have hs1 := size_strB key
  have hq1 : ∀ w0, (Op.stringOp .add ⟨#[80, 117, 116, 32]⟩ ⟨key.toArray⟩).run Try.prog w0 = .ok (.string (⟨#[80, 117, 116, 32]⟩ ++ ⟨key.toArray⟩)) w0 := fun w0 => run_string_add_sum w0 _ _ (by rw [hs1]; show 4 + _ ≤ _; omega)
  have hq2 : ∀ w0, (Op.stringOp .add (⟨#[80, 117, 116, 32]⟩ ++ ⟨key.toArray⟩) ⟨#[32]⟩).run Try.prog w0 = .ok (.string (⟨#[80, 117, 116, 32]⟩ ++ ⟨key.toArray⟩ ++ ⟨#[32]⟩)) w0 := fun w0 => run_string_add_sum w0 _ _ (by rw [ByteArray.size_append, hs1]; show 4 + _ + 1 ≤ _; omega)
  have hq3 : ∀ w0, (Op.stringOp .add (⟨#[80, 117, 116, 32]⟩ ++ ⟨key.toArray⟩ ++ ⟨#[32]⟩) ⟨(numL z).toArray⟩).run Try.prog w0 = .ok (.string (⟨#[80, 117, 116, 32]⟩ ++ ⟨key.toArray⟩ ++ ⟨#[32]⟩ ++ ⟨(numL z).toArray⟩)) w0 := fun w0 => run_string_add_sum w0 _ _ (by rw [ByteArray.size_append, ByteArray.size_append, hs1, hs3]; show 4 + _ + 1 + _ ≤ _; omega)
  clear hs1 hs3
  go_wp2_with fail
  go_region_held3 (fun w' => w'.cell? ⟨w.heap.size, 1, none⟩ = some (.string ⟨key.toArray⟩) ∧ w'.cell? ⟨w.heap.size, 2, none⟩ = some (.int .i64 z))
    (first
      | go_keep
      | exact ⟨(hb1.cell (p := ⟨w.heap.size, 1, none⟩) (by simp; omega)).trans c1, (hb1.cell (p := ⟨w.heap.size, 2, none⟩) (by simp; omega)).trans c2⟩)
    (first
      | (go_at_call 113; refine (HFN.out _).mono ?_; rintro e w2 ⟨rfl, hb1⟩))
  have HB1 := Lib.hid (HB.out.trans ((show Below w1.heap.size w1 w2 from ⟨hb1.os, hb1.tape, hb1.output, hb1.size, hb1.block⟩).mono HB.out.size))
  clear hb1
  go_wp2_with fail
  go_ret
  exact ⟨ret_strB (by rw [HF.out, ← HW.out]; rw [joinL_cons _ _ _ (by simp), joinL_two, data_app, data_app, data_app]; simp), HB1.out⟩
set_option maxRecDepth 100000 in
set_option maxHeartbeats 1600000 in
theorem specFormatCall_Tell (key : List UInt8) (v : Int) (text : List UInt8) (w : World) (hk : key.length ≤ maxLen) (ht : text.length ≤ 1048576) (hc : callB ⟨mTell, key, v, text⟩ = true) :
    Calls Try.prog 68 #[.agg #[.string ⟨#[84, 101, 108, 108]⟩, .string ⟨key.toArray⟩, .int .i64 v, .string ⟨text.toArray⟩]] w fun e w' => e = .returned (.string ⟨(fmtCall ⟨mTell, key, v, text⟩).toArray⟩) ∧ Below w.heap.size w w' := by
  have HIC := Lib.hid (fun w0 => specIsCall_any ⟨mTell, key, v, text⟩ w0 hk)
  rw [hc] at HIC
  unfold vCall at HIC
  simp only at HIC
  obtain ⟨p1, p2, p3, p4, p5⟩ := callB_parts hc
  have HF := Lib.hid (fmtCall_yes hc)
  clear hc
  obtain rfl : key = [] := p2 rfl
  obtain rfl : v = 0 := p4 rfl
  obtain rfl : text = [] := p5 rfl
  have HW := Lib.hid (show joinL [mTell] [32] = joinL (wordsC ⟨mTell, [], 0, []⟩) [32] from rfl)
  clear p1 p2 p3 p4 p5
  have HB0 := Lib.hid (show ∀ o, Below w.heap.size w (w.alloc o) from fun o => (Below.refl w.heap.size w).alloc (Nat.le_refl _) o)
  go_enter Try.func68, Try.ntmps68
  go_wp2_with fail
  refine (HIC.out _).mono ?_
  rintro e w1 ⟨rfl, hb⟩
  have HB := Lib.hid ((HB0.out _).trans (hb.mono (HB0.out _).size))
  obtain ⟨hcc, _⟩ := bcell hb
  simp at hcc
  have c0 := hcc w.heap.size 0 (by omega)
  have c1 := hcc w.heap.size 1 (by omega)
  have c2 := hcc w.heap.size 2 (by omega)
  have c3 := hcc w.heap.size 3 (by omega)
  simp at c0 c1 c2 c3
  have hlt : w.heap.size < w1.heap.size := by have h := hb.size; simp at h; omega
  clear hb hcc
  go_wp2_with fail
  go_ret
  exact ⟨ret_strB (by rw [HF.out, ← HW.out]; rw [joinL_one]), HB.out⟩
set_option maxRecDepth 100000 in
set_option maxHeartbeats 1600000 in
theorem specFormatCall_Hear (key : List UInt8) (v : Int) (text : List UInt8) (w : World) (hk : key.length ≤ maxLen) (ht : text.length ≤ 1048576) (hc : callB ⟨mHear, key, v, text⟩ = true) :
    Calls Try.prog 68 #[.agg #[.string ⟨#[72, 101, 97, 114]⟩, .string ⟨key.toArray⟩, .int .i64 v, .string ⟨text.toArray⟩]] w fun e w' => e = .returned (.string ⟨(fmtCall ⟨mHear, key, v, text⟩).toArray⟩) ∧ Below w.heap.size w w' := by
  have HIC := Lib.hid (fun w0 => specIsCall_any ⟨mHear, key, v, text⟩ w0 hk)
  rw [hc] at HIC
  unfold vCall at HIC
  simp only at HIC
  obtain ⟨p1, p2, p3, p4, p5⟩ := callB_parts hc
  have HF := Lib.hid (fmtCall_yes hc)
  clear hc
  obtain rfl : key = [] := p2 rfl
  obtain ⟨z, hz, hz9⟩ := numB_nat (p3 rfl)
  simp only at hz
  subst hz
  have hl3 := numL_len hz9
  have HFN := Lib.hid (fun w0 => specFormat_any z w0 (by omega) (by omega))
  obtain rfl : text = [] := p5 rfl
  have HW := Lib.hid (show joinL [mHear, numL z] [32] = joinL (wordsC ⟨mHear, [], (z : Int), []⟩) [32] from rfl)
  clear p1 p2 p3 p4 p5
  have HB0 := Lib.hid (show ∀ o, Below w.heap.size w (w.alloc o) from fun o => (Below.refl w.heap.size w).alloc (Nat.le_refl _) o)
  go_enter Try.func68, Try.ntmps68
  go_wp2_with fail
  refine (HIC.out _).mono ?_
  rintro e w1 ⟨rfl, hb⟩
  have HB := Lib.hid ((HB0.out _).trans (hb.mono (HB0.out _).size))
  obtain ⟨hcc, _⟩ := bcell hb
  simp at hcc
  have c0 := hcc w.heap.size 0 (by omega)
  have c1 := hcc w.heap.size 1 (by omega)
  have c2 := hcc w.heap.size 2 (by omega)
  have c3 := hcc w.heap.size 3 (by omega)
  simp at c0 c1 c2 c3
  have hlt : w.heap.size < w1.heap.size := by have h := hb.size; simp at h; omega
  clear hb hcc
  have hs3 := size_strB (numL z)
  go_wp2_with fail
  refine (HFN.out _).mono ?_
  rintro e w2 ⟨rfl, hb1⟩
  have HB1 := Lib.hid (HB.out.trans (hb1.mono HB.out.size))
  clear hb1
  go_wp2_with fail
  go_ret
  exact ⟨ret_strB (by rw [HF.out, ← HW.out]; rw [joinL_two, data_app]; simp), HB1.out⟩
set_option maxRecDepth 100000 in
set_option maxHeartbeats 1600000 in
theorem specFormatCall_Load (key : List UInt8) (v : Int) (text : List UInt8) (w : World) (hk : key.length ≤ maxLen) (ht : text.length ≤ 1048576) (hc : callB ⟨mLoad, key, v, text⟩ = true) :
    Calls Try.prog 68 #[.agg #[.string ⟨#[76, 111, 97, 100]⟩, .string ⟨key.toArray⟩, .int .i64 v, .string ⟨text.toArray⟩]] w fun e w' => e = .returned (.string ⟨(fmtCall ⟨mLoad, key, v, text⟩).toArray⟩) ∧ Below w.heap.size w w' := by
  have HIC := Lib.hid (fun w0 => specIsCall_any ⟨mLoad, key, v, text⟩ w0 hk)
  rw [hc] at HIC
  unfold vCall at HIC
  simp only at HIC
  obtain ⟨p1, p2, p3, p4, p5⟩ := callB_parts hc
  have HF := Lib.hid (fmtCall_yes hc)
  clear hc
  obtain rfl : key = [] := p2 rfl
  obtain rfl : v = 0 := p4 rfl
  have HW := Lib.hid (show joinL [mLoad, text] [32] = joinL (wordsC ⟨mLoad, [], 0, text⟩) [32] from rfl)
  clear p1 p2 p3 p4 p5
  have HB0 := Lib.hid (show ∀ o, Below w.heap.size w (w.alloc o) from fun o => (Below.refl w.heap.size w).alloc (Nat.le_refl _) o)
  go_enter Try.func68, Try.ntmps68
  go_wp2_with fail
  refine (HIC.out _).mono ?_
  rintro e w1 ⟨rfl, hb⟩
  have HB := Lib.hid ((HB0.out _).trans (hb.mono (HB0.out _).size))
  obtain ⟨hcc, _⟩ := bcell hb
  simp at hcc
  have c0 := hcc w.heap.size 0 (by omega)
  have c1 := hcc w.heap.size 1 (by omega)
  have c2 := hcc w.heap.size 2 (by omega)
  have c3 := hcc w.heap.size 3 (by omega)
  simp at c0 c1 c2 c3
  have hlt : w.heap.size < w1.heap.size := by have h := hb.size; simp at h; omega
  clear hb hcc
  have hs3 := size_strB text
  go_wp2_with fail
  go_ret
  exact ⟨ret_strB (by rw [HF.out, ← HW.out]; rw [joinL_two, data_app]; simp), HB.out⟩
set_option maxRecDepth 100000 in
set_option maxHeartbeats 1600000 in
theorem specFormatCall_Save (key : List UInt8) (v : Int) (text : List UInt8) (w : World) (hk : key.length ≤ maxLen) (ht : text.length ≤ 1048576) (hc : callB ⟨mSave, key, v, text⟩ = true) :
    Calls Try.prog 68 #[.agg #[.string ⟨#[83, 97, 118, 101]⟩, .string ⟨key.toArray⟩, .int .i64 v, .string ⟨text.toArray⟩]] w fun e w' => e = .returned (.string ⟨(fmtCall ⟨mSave, key, v, text⟩).toArray⟩) ∧ Below w.heap.size w w' := by
  have HIC := Lib.hid (fun w0 => specIsCall_any ⟨mSave, key, v, text⟩ w0 hk)
  rw [hc] at HIC
  unfold vCall at HIC
  simp only at HIC
  obtain ⟨p1, p2, p3, p4, p5⟩ := callB_parts hc
  have HF := Lib.hid (fmtCall_yes hc)
  clear hc
  obtain rfl : key = [] := p2 rfl
  obtain rfl : v = 0 := p4 rfl
  obtain rfl : text = [] := p5 rfl
  have HW := Lib.hid (show joinL [mSave] [32] = joinL (wordsC ⟨mSave, [], 0, []⟩) [32] from rfl)
  clear p1 p2 p3 p4 p5
  have HB0 := Lib.hid (show ∀ o, Below w.heap.size w (w.alloc o) from fun o => (Below.refl w.heap.size w).alloc (Nat.le_refl _) o)
  go_enter Try.func68, Try.ntmps68
  go_wp2_with fail
  refine (HIC.out _).mono ?_
  rintro e w1 ⟨rfl, hb⟩
  have HB := Lib.hid ((HB0.out _).trans (hb.mono (HB0.out _).size))
  obtain ⟨hcc, _⟩ := bcell hb
  simp at hcc
  have c0 := hcc w.heap.size 0 (by omega)
  have c1 := hcc w.heap.size 1 (by omega)
  have c2 := hcc w.heap.size 2 (by omega)
  have c3 := hcc w.heap.size 3 (by omega)
  simp at c0 c1 c2 c3
  have hlt : w.heap.size < w1.heap.size := by have h := hb.size; simp at h; omega
  clear hb hcc
  go_wp2_with fail
  go_ret
  exact ⟨ret_strB (by rw [HF.out, ← HW.out]; rw [joinL_one]), HB.out⟩
set_option maxRecDepth 100000 in
set_option maxHeartbeats 1600000 in
theorem specFormatCall_Heal (key : List UInt8) (v : Int) (text : List UInt8) (w : World) (hk : key.length ≤ maxLen) (ht : text.length ≤ 1048576) (hc : callB ⟨mHeal, key, v, text⟩ = true) :
    Calls Try.prog 68 #[.agg #[.string ⟨#[72, 101, 97, 108]⟩, .string ⟨key.toArray⟩, .int .i64 v, .string ⟨text.toArray⟩]] w fun e w' => e = .returned (.string ⟨(fmtCall ⟨mHeal, key, v, text⟩).toArray⟩) ∧ Below w.heap.size w w' := by
  have HIC := Lib.hid (fun w0 => specIsCall_any ⟨mHeal, key, v, text⟩ w0 hk)
  rw [hc] at HIC
  unfold vCall at HIC
  simp only at HIC
  obtain ⟨p1, p2, p3, p4, p5⟩ := callB_parts hc
  have HF := Lib.hid (fmtCall_yes hc)
  clear hc
  obtain rfl : key = [] := p2 rfl
  obtain rfl : v = 0 := p4 rfl
  obtain rfl : text = [] := p5 rfl
  have HW := Lib.hid (show joinL [mHeal] [32] = joinL (wordsC ⟨mHeal, [], 0, []⟩) [32] from rfl)
  clear p1 p2 p3 p4 p5
  have HB0 := Lib.hid (show ∀ o, Below w.heap.size w (w.alloc o) from fun o => (Below.refl w.heap.size w).alloc (Nat.le_refl _) o)
  go_enter Try.func68, Try.ntmps68
  go_wp2_with fail
  refine (HIC.out _).mono ?_
  rintro e w1 ⟨rfl, hb⟩
  have HB := Lib.hid ((HB0.out _).trans (hb.mono (HB0.out _).size))
  obtain ⟨hcc, _⟩ := bcell hb
  simp at hcc
  have c0 := hcc w.heap.size 0 (by omega)
  have c1 := hcc w.heap.size 1 (by omega)
  have c2 := hcc w.heap.size 2 (by omega)
  have c3 := hcc w.heap.size 3 (by omega)
  simp at c0 c1 c2 c3
  have hlt : w.heap.size < w1.heap.size := by have h := hb.size; simp at h; omega
  clear hb hcc
  go_wp2_with fail
  go_ret
  exact ⟨ret_strB (by rw [HF.out, ← HW.out]; rw [joinL_one]), HB.out⟩
set_option maxHeartbeats 1600000 in
theorem specFormatCall_any (d : CallD) (w : World) (hk : d.fKey.length ≤ maxLen) (ht : d.fText.length ≤ 1048576) :
    Calls Try.prog 68 #[vCall d] w fun e w' => e = .returned (.string ⟨(fmtCall d).toArray⟩) ∧ Below w.heap.size w w' := by
  cases hc : callB d with
  | false =>
    have HF := Lib.hid (fmtCall_no hc)
    have HIC := Lib.hid (fun w0 => specIsCall_any d w0 hk)
    rw [hc] at HIC
    clear hc
    obtain ⟨m, key, v, text⟩ := d
    unfold vCall at *
    simp only at *
    have HB0 := Lib.hid (show ∀ o, Below w.heap.size w (w.alloc o) from fun o => (Below.refl w.heap.size w).alloc (Nat.le_refl _) o)
    go_enter Try.func68, Try.ntmps68
    go_wp2_with fail
    refine (HIC.out _).mono ?_
    rintro e w1 ⟨rfl, hb⟩
    have HB := Lib.hid ((HB0.out _).trans (hb.mono (HB0.out _).size))
    clear hb
    go_wp2_with fail
    go_ret
    exact ⟨ret_str (by rw [HF.out]), HB.out⟩
  | true =>
    obtain ⟨m, key, v, text⟩ := d
    rcases meth_cases m with rfl | rfl | rfl | rfl | rfl | rfl | rfl | rfl | rfl | ⟨hw, _⟩
    · exact specFormatCall_Start key v text w hk ht hc
    · exact specFormatCall_Stop key v text w hk ht hc
    · exact specFormatCall_Get key v text w hk ht hc
    · exact specFormatCall_Put key v text w hk ht hc
    · exact specFormatCall_Tell key v text w hk ht hc
    · exact specFormatCall_Hear key v text w hk ht hc
    · exact specFormatCall_Load key v text w hk ht hc
    · exact specFormatCall_Save key v text w hk ht hc
    · exact specFormatCall_Heal key v text w hk ht hc
    · exfalso; unfold callB at hc; simp only at hc; rw [hw] at hc; simp at hc
end Go.Proofs.Ytghebbndfpbkcac
/- The draws of chapter 3: cells, a call, a text of a call. -/
namespace Go.Proofs.Ytghebbndfpbkcac
set_option linter.unusedVariables false
set_option linter.unusedSimpArgs false
open Go.RowKit
theorem total_le3 (l : List (List UInt8)) (M : Nat) (h : ∀ t ∈ l, t.length ≤ M) : total l ≤ l.length * M := by
  induction l with
  | nil => simp [total]
  | cons a r ih =>
    have h1 := h a List.mem_cons_self
    have h2 := ih fun t ht => h t (List.mem_cons_of_mem _ ht)
    simp only [total, List.length_cons, Nat.succ_mul]; omega
theorem join_le (l : List (List UInt8)) (M : Nat) (h : ∀ t ∈ l, t.length ≤ M) : (joinL l [32]).length ≤ l.length + l.length * M := by
  have h1 := joinK_len l [32] l.length (Nat.le_refl _)
  rw [List.take_length] at h1
  have h2 := total_le3 l M h
  unfold joinL; simp only [List.length_cons, List.length_nil] at h1; omega
def GivesDC (w : World) (e : Ending) (w' : World) : Prop := ∃ u x, e = .returned u ∧ OwnsF cCell 49 2 w' w.heap.size u x ∧ x.length ≤ 7 ∧ (∀ c ∈ x, c.fKey.length ≤ 9) ∧ Below w.heap.size w w'
def GivesDT (w : World) (e : Ending) (w' : World) : Prop := ∃ z : ByteArray, e = .returned (.string z) ∧ z.size ≤ 700 ∧ Below w.heap.size w w'
theorem fmtCall_le {d : CallD} (h : okCl d) : (fmtCall d).length ≤ 600 := by
  cases hb : callB d with
  | false => rw [fmtCall_no hb]; simp
  | true =>
    rw [fmtCall_yes hb]
    have hv := (callB_parts hb).2.2.1
    have h1 : ∀ t ∈ wordsC d, t.length ≤ 120 := by
      intro t ht
      unfold wordsC at ht
      simp only [List.mem_append, List.mem_singleton] at ht
      obtain ⟨k1, k2, k3, k4⟩ := h
      rcases ht with ((ht | ht) | ht) | ht
      · subst ht; omega
      · split at ht
        · rw [List.mem_singleton.1 ht]; omega
        · simp at ht
      · split at ht
        · rename_i hh
          rw [List.mem_singleton.1 ht]
          obtain ⟨k, e, hk⟩ := numB_nat (hv hh)
          have h3 := numL_len hk
          rw [e]; omega
        · simp at ht
      · split at ht
        · rw [List.mem_singleton.1 ht]; omega
        · simp at ht
    have h2 := join_le (wordsC d) 120 h1
    have h3 : (wordsC d).length ≤ 4 := by unfold wordsC; simp only [List.length_append, List.length_singleton]; repeat' split <;> simp
    omega
set_option maxRecDepth 100000 in
set_option maxHeartbeats 1600000 in
theorem drawFormatCells_any (v : Value) (l : List UInt8) (w : World) (hR : RowAt w v (Lib.byteCells l)) :
    Calls Try.prog 19 #[v] w fun e w' => GivesDC w e w' := by
  have HN := Lib.hid (l1New_any v l _ hR)
  clear hR
  go_enter Try.func19, Try.ntmps19
  go_wp2_with fail
  refine HN.out.mono ?_
  rintro e w1 ⟨b, rfl, hb, hB, hC⟩
  have HB1 := Lib.hid hB
  have HC1 := Lib.hid hC
  clear hB hC HN
  go_wp2_with fail
  refine (l3Any_any b v l _ HC1.out).mono ?_
  rintro e w2 ⟨⟨kd, on, br, y, cnt⟩, cv, rfl, ho, hok, hg, hC⟩
  have HOK := Lib.hid hok
  have hfd : ∀ (s : ByteArray) (a c : Bool) (p : Option Addr) (q r : Nat) (z : Int) (w : World), (Instr.field 83 (.agg #[.string s, .bool a, .bool c, .slice p q r, .int .i64 z]) 3).run Try.prog w = .ok (.slice p q r) w := by intros; kernel_rfl
  have HB2 := Lib.hid (below_grown HB1.out hg (by omega) HB1.out.size)
  have HO := Lib.hid (ownsF_base ho HB1.out.size)
  obtain ⟨ua, uc, rfl⟩ := slice_of ho
  clear ho hok hg hC HC1
  unfold vCore
  simp only
  go_wp2_with fail
  go_ret
  exact ⟨_, y, rfl, HO.out, HOK.out.2.1, fun c hc => (HOK.out.2.2.1 c hc).1, HB2.out⟩
set_option maxRecDepth 100000 in
set_option maxHeartbeats 1600000 in
theorem drawFormatCall_any (v : Value) (l : List UInt8) (w : World) (hR : RowAt w v (Lib.byteCells l)) :
    Calls Try.prog 24 #[v] w fun e w' => ∃ d : CallD, e = .returned (vCall d) ∧ okCl d ∧ Below w.heap.size w w' := by
  obtain ⟨B1, HB0⟩ := bx_start1 w zCallV 51
  have HR := Lib.hid (RowAt.below hR HB0 (Nat.le_refl _))
  have B1 := Lib.hid B1
  have HB0 := Lib.hid HB0
  have HN := Lib.hid (l1New_any v l _ HR.out)
  clear hR
  go_enter Try.func24, Try.ntmps24
  go_wp2_with fail
  generalize w.alloc (.cells #[.string ⟨#[]⟩, .string ⟨#[]⟩, .int .i64 0, .string ⟨#[]⟩] 51) = w0 at *
  refine HN.out.mono ?_
  rintro e w1 ⟨b, rfl, hb, hB, hC⟩
  have hl1 := B1.out.lt
  have B1 := Lib.hid (B1.out.below hB)
  have HB1 := Lib.hid (belS HB0.out hB)
  have HC1 := Lib.hid hC
  have hbw : w.heap.size < b := by omega
  clear hB hC hb HB0 HN HR hl1
  go_wp2_with fail
  refine (l3AnyCall_any b v l _ HC1.out).mono ?_
  rintro e w3 ⟨⟨m, k, n, t⟩, rfl, hokx, hg, hC⟩
  have HOX := Lib.hid hokx
  have B1 := Lib.hid (bx_grownC B1.out hg (by omega))
  have HB3 := Lib.hid (below_grown HB1.out hg (by omega) HB1.out.size)
  clear hokx hg hC HC1 HB1
  unfold vCall
  simp only
  have r0 := B1.out.cell 0 (by simp)
  have r1 := B1.out.cell 1 (by simp)
  have r2 := B1.out.cell 2 (by simp)
  have r3 := B1.out.cell 3 (by simp)
  simp only [List.getElem_cons_zero, List.getElem_cons_succ] at r0 r1 r2 r3
  have z0 := B1.out.froz 0 (by simp)
  have z1 := B1.out.froz 1 (by simp)
  have z2 := B1.out.froz 2 (by simp)
  have z3 := B1.out.froz 3 (by simp)
  have lB := B1.out.lt
  go_wp2_with fail
  refine bodyPost_ret (v := .agg #[.string ⟨m.toArray⟩, .string ⟨k.toArray⟩, .int .i64 n, .string ⟨t.toArray⟩]) (by simp [results, Try.results24, go_sem, cell_set_at, cell_set_ne, r0, r1, r2, r3]) rfl ?_
  refine ⟨⟨m, k, n, t⟩, rfl, HOX.out, ?_⟩
  repeat (with_reducible refine Below.setCell ?_ (by simp; try omega) _)
  exact HB3.out
set_option maxRecDepth 100000 in
set_option maxHeartbeats 3200000 in
theorem drawParseCall_any (v : Value) (l : List UInt8) (w : World) (hR : RowAt w v (Lib.byteCells l)) :
    Calls Try.prog 27 #[v] w fun e w' => GivesDT w e w' := by
  have HN := Lib.hid (l1New_any v l _ hR)
  clear hR
  go_enter Try.func27, Try.ntmps27
  go_wp2_with fail
  refine HN.out.mono ?_
  rintro e w1 ⟨b, rfl, hb, hB, hC⟩
  have HB1 := Lib.hid hB
  have HC1 := Lib.hid hC
  have hbw : w.heap.size ≤ b := by omega
  clear hB hC HN
  go_wp2_with fail
  refine (l3Call_any b v l _ HC1.out).mono ?_
  rintro e w2 ⟨⟨m, k, n, t⟩, rfl, hokx, hg, hC⟩
  have HF := Lib.hid (specFormatCall_any (⟨m, k, n, t⟩ : CallD) w2 (show k.length ≤ maxLen by have := hokx.2.1; simp only at this; unfold maxLen; omega) (show t.length ≤ 1048576 by have := hokx.2.2.2; simp only at this; omega))
  have HLN := Lib.hid (fmtCall_le hokx)
  have HG2 := Lib.hid (below_grown HB1.out hg hbw HB1.out.size)
  have HC2 := Lib.hid hC
  clear hokx hg hC HC1 HB1
  unfold vCall at HF ⊢
  generalize fmtCall ⟨m, k, n, t⟩ = ft at *
  have hfl := HLN.out
  simp only at HF ⊢
  go_wp2_with fail
  refine HF.out.mono ?_
  rintro e w3 ⟨rfl, hbF⟩
  have HG3 := Lib.hid (belS HG2.out hbF)
  have HC3 := Lib.hid (HC2.out.below hbF HC2.out.lt)
  clear hbF
  go_wp2_with fail
  refine (l1Below_any b v l _ _ HC3.out (by omega) (by omega)).mono ?_
  rintro e w4 ⟨q, rfl, ⟨k0, k1, k2⟩, hg, hC⟩
  have HG4 := Lib.hid (below_grown HG3.out hg hbw HG3.out.size)
  have HC4 := Lib.hid hC
  clear hg hC k1 k2
  by_cases e0 : q = 0
  · subst e0
    go_wp2_with fail
    refine (l1Str_new b v l _ _ _ _ _ 9 HC4.out (by rfl) (by decide) (by decide) (by decide)).mono ?_
    rintro e w5 ⟨z, rfl, hz, hg, hC⟩
    have HG5 := Lib.hid (below_grown HG4.out hg hbw HG4.out.size)
    clear hg hC
    go_wp2_with fail
    go_ret
    exact ⟨_, rfl, by rw [size_appS, size_litS]; omega, HG5.out⟩
  · have E0 : (q == 0) = false := by simpa using e0
    by_cases e1 : q = 1
    · subst e1
      clear e0 E0
      go_wp2_with fail
      refine (l1Str_new b v l _ _ _ _ _ 30 HC4.out (by rfl) (by decide) (by decide) (by decide)).mono ?_
      rintro e w5 ⟨z, rfl, hz, hg, hC⟩
      have HG5 := Lib.hid (below_grown HG4.out hg hbw HG4.out.size)
      clear hg hC
      go_wp2_with fail
      go_ret
      exact ⟨_, rfl, by omega, HG5.out⟩
    · have E1 : (q == 1) = false := by simpa using e1
      clear e0 e1
      go_wp2_with fail
      go_ret
      exact ⟨_, rfl, by rw [size_litS]; omega, HG4.out⟩
end Go.Proofs.Ytghebbndfpbkcac
/- Contracts of chapter 3: the program's ParseCells. -/
namespace Go.Proofs.Ytghebbndfpbkcac
set_option linter.unusedVariables false
open Go.RowKit
def GivesCells (s : List UInt8) (w : World) (e : Ending) (w' : World) : Prop := ∃ v, e = .returned (.tuple #[v, .bool (prsB s)]) ∧ OwnsF cCell 49 2 w' w.heap.size v (prsC s) ∧ Below w.heap.size w w'
theorem rdCs_len (s : List UInt8) : (rdCs s).length ≤ s.length + 1 := by
  unfold rdCs
  split
  · simp
  · have := splitL_len s [44]; simpa using this
theorem rdCs_key (s : List UInt8) : ∀ d ∈ rdCs s, d.fKey.length ≤ s.length := by
  intro d hd
  unfold rdCs at hd
  split at hd
  · simp at hd
  · obtain ⟨p, hp, rfl⟩ := List.mem_map.1 hd
    have h1 := split_part s 44 p hp
    have h2 := (cut_len p [61]).1
    unfold rdC; simp only; omega
theorem prsC_len (s : List UInt8) : (prsC s).length ≤ s.length + 1 := by
  unfold prsC
  split
  · exact rdCs_len s
  · simp
theorem ret_pairV {v : Value} {c d : Bool} (h : c = d) : Ending.returned (.tuple #[v, .bool c]) = .returned (.tuple #[v, .bool d]) := by rw [h]
set_option maxRecDepth 100000 in
set_option maxHeartbeats 1600000 in
theorem implParseCells_any (s : ByteArray) (m : Int) (w : World) (hm : w.cell? ⟨0, 0, none⟩ = some (.int .i64 m)) (hs : s.size ≤ 1048576) :
    Calls Try.prog 20 #[.string s] w fun e w' => GivesCells s.data.toList w e w' := by
  have HR := Lib.hid (implReadCells_any s m w hm hs)
  have HLN := Lib.hid (show (rdCs s.data.toList).length ≤ 1048577 by have := rdCs_len s.data.toList; rw [size_list] at this; omega)
  have HK := Lib.hid (show ∀ d ∈ rdCs s.data.toList, d.fKey.length ≤ maxLen from fun d hd => by have := rdCs_key _ d hd; rw [size_list] at this; unfold maxLen; omega)
  have HP := Lib.hid (show prsB s.data.toList = (cellsB (rdCs s.data.toList) && decide (fmtC (rdCs s.data.toList) = s.data.toList)) from rfl)
  have HY := Lib.hid (@prsC_yes s.data.toList)
  have HN := Lib.hid (@prsC_no s.data.toList)
  unfold GivesCells
  generalize prsC s.data.toList = z at *
  generalize prsB s.data.toList = y at *
  generalize rdCs s.data.toList = l at *
  clear hm
  cases hc : cellsB l with
  | false =>
    have HYF := Lib.hid (show y = false by rw [HP.out, hc]; rfl)
    have HZ := Lib.hid (HN.out HYF.out)
    go_enter Try.func20, Try.ntmps20
    go_wp2_with fail
    refine HR.out.mono ?_
    rintro e w1 ⟨u, rfl, ho, hb⟩
    have HB := Lib.hid hb
    have HIC := Lib.hid (implIsCells_any u l w1 (ownsF_at ho (by have := HLN.out; omega)) HK.out)
    rw [hc] at HIC
    clear ho hb hc
    go_wp2_with fail
    refine HIC.out.mono ?_
    rintro e w2 ⟨rfl, hb⟩
    have HB2 := Lib.hid (HB.out.trans (hb.mono HB.out.size))
    clear hb
    go_wp2_with fail
    go_ret2
    exact ⟨_, ret_pairV HYF.out.symm, by rw [HZ.out]; exact ownsF_base (ownsF_new cCell 49 2 w2) HB2.out.size, HB2.out.alloc HB2.out.size _⟩
  | true =>
    cases hf : decide (fmtC l = s.data.toList) with
    | false =>
      have HYF := Lib.hid (show y = false by rw [HP.out, hc, hf]; rfl)
      have HZ := Lib.hid (HN.out HYF.out)
      have hne : (fmtC l == s.toList) = false := by rw [Lib.toList_data]; simpa using hf
      have hne2 : (fmtC l != s.toList) = true := by rw [bne, hne]; rfl
      clear hf
      go_enter Try.func20, Try.ntmps20
      go_wp2_with fail
      refine HR.out.mono ?_
      rintro e w1 ⟨u, rfl, ho, hb⟩
      have HB := Lib.hid hb
      have HU := Lib.hid (ownsF_at ho (by have := HLN.out; omega))
      have HIC := Lib.hid (implIsCells_any u l w1 HU.out HK.out)
      rw [hc] at HIC
      clear ho hb hc
      go_wp2_with fail
      refine HIC.out.mono ?_
      rintro e w2 ⟨rfl, hb⟩
      have HB2 := Lib.hid (HB.out.trans (hb.mono HB.out.size))
      have HFC := Lib.hid (implFormatCells_any u l w2 (HU.out.below hb (Nat.le_refl _)) HK.out)
      clear hb
      go_wp2_with fail
      refine HFC.out.mono ?_
      rintro e w3 ⟨rfl, hb⟩
      have HB3 := Lib.hid (HB2.out.trans (hb.mono HB2.out.size))
      clear hb
      go_wp2_with fail
      go_ret2
      exact ⟨_, ret_pairV HYF.out.symm, by rw [HZ.out]; exact ownsF_base (ownsF_new cCell 49 2 w3) HB3.out.size, HB3.out.alloc HB3.out.size _⟩
    | true =>
      have HYF := Lib.hid (show y = true by rw [HP.out, hc, hf]; rfl)
      have HZ := Lib.hid (HY.out HYF.out)
      have hne : (fmtC l == s.toList) = true := by rw [Lib.toList_data]; simpa using hf
      have hne2 : (fmtC l != s.toList) = false := by rw [bne, hne]; rfl
      clear hf
      go_enter Try.func20, Try.ntmps20
      go_wp2_with fail
      refine HR.out.mono ?_
      rintro e w1 ⟨u, rfl, ho, hb⟩
      have HB := Lib.hid hb
      have HO := Lib.hid ho
      have HU := Lib.hid (ownsF_at ho (by have := HLN.out; omega))
      have HIC := Lib.hid (implIsCells_any u l w1 HU.out HK.out)
      rw [hc] at HIC
      clear ho hb hc
      go_wp2_with fail
      refine HIC.out.mono ?_
      rintro e w2 ⟨rfl, hb⟩
      have HB2 := Lib.hid (HB.out.trans (hb.mono HB.out.size))
      have HO2 := Lib.hid (ownsF_below HO.out hb (Nat.le_refl _))
      have HFC := Lib.hid (implFormatCells_any u l w2 (HU.out.below hb (Nat.le_refl _)) HK.out)
      clear hb
      go_wp2_with fail
      refine HFC.out.mono ?_
      rintro e w3 ⟨rfl, hb⟩
      have HB3 := Lib.hid (HB2.out.trans (hb.mono HB2.out.size))
      have HO3 := Lib.hid (ownsF_below HO2.out hb (Nat.le_refl _))
      clear hb
      go_wp2_with fail
      go_ret2
      exact ⟨_, ret_pairV HYF.out.symm, by rw [HZ.out]; exact HO3.out, HB3.out⟩
end Go.Proofs.Ytghebbndfpbkcac
/- The program's IsCall, method by method: three of them. Written by gen/ch3calls.py. -/
namespace Go.Proofs.Ytghebbndfpbkcac
set_option linter.unusedVariables false
open Go.RowKit
set_option maxRecDepth 100000 in
set_option maxHeartbeats 3200000 in
theorem implIsCall_Start (key : List UInt8) (v : Int) (text : List UInt8) (w : World) (hk : key.length ≤ maxLen) :
    Calls Try.prog 28 #[.agg #[.string ⟨#[83, 116, 97, 114, 116]⟩, .string ⟨key.toArray⟩, .int .i64 v, .string ⟨text.toArray⟩]] w fun e w' => e = .returned (.bool (callB ⟨mStart, key, v, text⟩)) ∧ Below w.heap.size w w' := by
  have HR := Lib.hid (show callB ⟨mStart, key, v, text⟩ = (key.isEmpty && (v == 0) && (text.isEmpty || false)) from rfl)
  have HW := Lib.hid (show ∀ w0, Calls Try.prog 71 #[.string ⟨#[83, 116, 97, 114, 116]⟩] w0 fun e w' => e = .returned (.int .i64 1) ∧ Below w0.heap.size w0 w' from fun w0 => implWant_b mStart 1 rfl w0)
  have HTK := Lib.hid (show ∀ w0, Calls Try.prog 65 #[.string ⟨#[83, 116, 97, 114, 116]⟩] w0 fun e w' => e = .returned (.bool false) ∧ w0 = w' from takesKey_b mStart _ rfl)
  have HTV := Lib.hid (show ∀ w0, Calls Try.prog 66 #[.string ⟨#[83, 116, 97, 114, 116]⟩] w0 fun e w' => e = .returned (.bool false) ∧ w0 = w' from takesValue_b mStart _ rfl)
  have HTT := Lib.hid (show ∀ w0, Calls Try.prog 67 #[.string ⟨#[83, 116, 97, 114, 116]⟩] w0 fun e w' => e = .returned (.bool false) ∧ w0 = w' from takesText_b mStart _ rfl)
  generalize callB ⟨mStart, key, v, text⟩ = res at *
  clear hk
  have HB0 := Lib.hid (show ∀ o, Below w.heap.size w (w.alloc o) from fun o => (Below.refl w.heap.size w).alloc (Nat.le_refl _) o)
  go_enter Try.func28, Try.ntmps28
  go_wp2_with fail
  refine (HW.out _).mono ?_
  rintro e w1 ⟨rfl, hb⟩
  have HB := Lib.hid ((HB0.out _).trans (hb.mono (HB0.out _).size))
  obtain ⟨hcc, _⟩ := bcell hb
  simp at hcc
  have c0 := hcc w.heap.size 0 (by omega)
  have c1 := hcc w.heap.size 1 (by omega)
  have c2 := hcc w.heap.size 2 (by omega)
  have c3 := hcc w.heap.size 3 (by omega)
  simp at c0 c1 c2 c3
  clear hb hcc
  cases key <;> cases text
  all_goals
    by_cases h0 : v = 0
    · subst h0
      go_wp2_with (first | (go_at_call 65; (with_reducible refine (HTK.out _).mono ?_); rintro e w' ⟨rfl, rfl⟩) | (go_at_call 66; (with_reducible refine (HTV.out _).mono ?_); rintro e w' ⟨rfl, rfl⟩) | (go_at_call 67; (with_reducible refine (HTT.out _).mono ?_); rintro e w' ⟨rfl, rfl⟩))
      go_ret
      exact ⟨ret_bool (by rw [HR.out]; rfl), HB.out⟩
    · have hv0 : (v == 0) = false := by simpa using h0
      rw [hv0] at HR
      clear h0
      go_wp2_with (first | (go_at_call 65; (with_reducible refine (HTK.out _).mono ?_); rintro e w' ⟨rfl, rfl⟩) | (go_at_call 66; (with_reducible refine (HTV.out _).mono ?_); rintro e w' ⟨rfl, rfl⟩) | (go_at_call 67; (with_reducible refine (HTT.out _).mono ?_); rintro e w' ⟨rfl, rfl⟩))
      go_ret
      exact ⟨ret_bool (by rw [HR.out]; rfl), HB.out⟩
set_option maxRecDepth 100000 in
set_option maxHeartbeats 3200000 in
theorem implIsCall_Stop (key : List UInt8) (v : Int) (text : List UInt8) (w : World) (hk : key.length ≤ maxLen) :
    Calls Try.prog 28 #[.agg #[.string ⟨#[83, 116, 111, 112]⟩, .string ⟨key.toArray⟩, .int .i64 v, .string ⟨text.toArray⟩]] w fun e w' => e = .returned (.bool (callB ⟨mStop, key, v, text⟩)) ∧ Below w.heap.size w w' := by
  have HR := Lib.hid (show callB ⟨mStop, key, v, text⟩ = (key.isEmpty && (v == 0) && (text.isEmpty || false)) from rfl)
  have HW := Lib.hid (show ∀ w0, Calls Try.prog 71 #[.string ⟨#[83, 116, 111, 112]⟩] w0 fun e w' => e = .returned (.int .i64 1) ∧ Below w0.heap.size w0 w' from fun w0 => implWant_b mStop 1 rfl w0)
  have HTK := Lib.hid (show ∀ w0, Calls Try.prog 65 #[.string ⟨#[83, 116, 111, 112]⟩] w0 fun e w' => e = .returned (.bool false) ∧ w0 = w' from takesKey_b mStop _ rfl)
  have HTV := Lib.hid (show ∀ w0, Calls Try.prog 66 #[.string ⟨#[83, 116, 111, 112]⟩] w0 fun e w' => e = .returned (.bool false) ∧ w0 = w' from takesValue_b mStop _ rfl)
  have HTT := Lib.hid (show ∀ w0, Calls Try.prog 67 #[.string ⟨#[83, 116, 111, 112]⟩] w0 fun e w' => e = .returned (.bool false) ∧ w0 = w' from takesText_b mStop _ rfl)
  generalize callB ⟨mStop, key, v, text⟩ = res at *
  clear hk
  have HB0 := Lib.hid (show ∀ o, Below w.heap.size w (w.alloc o) from fun o => (Below.refl w.heap.size w).alloc (Nat.le_refl _) o)
  go_enter Try.func28, Try.ntmps28
  go_wp2_with fail
  refine (HW.out _).mono ?_
  rintro e w1 ⟨rfl, hb⟩
  have HB := Lib.hid ((HB0.out _).trans (hb.mono (HB0.out _).size))
  obtain ⟨hcc, _⟩ := bcell hb
  simp at hcc
  have c0 := hcc w.heap.size 0 (by omega)
  have c1 := hcc w.heap.size 1 (by omega)
  have c2 := hcc w.heap.size 2 (by omega)
  have c3 := hcc w.heap.size 3 (by omega)
  simp at c0 c1 c2 c3
  clear hb hcc
  cases key <;> cases text
  all_goals
    by_cases h0 : v = 0
    · subst h0
      go_wp2_with (first | (go_at_call 65; (with_reducible refine (HTK.out _).mono ?_); rintro e w' ⟨rfl, rfl⟩) | (go_at_call 66; (with_reducible refine (HTV.out _).mono ?_); rintro e w' ⟨rfl, rfl⟩) | (go_at_call 67; (with_reducible refine (HTT.out _).mono ?_); rintro e w' ⟨rfl, rfl⟩))
      go_ret
      exact ⟨ret_bool (by rw [HR.out]; rfl), HB.out⟩
    · have hv0 : (v == 0) = false := by simpa using h0
      rw [hv0] at HR
      clear h0
      go_wp2_with (first | (go_at_call 65; (with_reducible refine (HTK.out _).mono ?_); rintro e w' ⟨rfl, rfl⟩) | (go_at_call 66; (with_reducible refine (HTV.out _).mono ?_); rintro e w' ⟨rfl, rfl⟩) | (go_at_call 67; (with_reducible refine (HTT.out _).mono ?_); rintro e w' ⟨rfl, rfl⟩))
      go_ret
      exact ⟨ret_bool (by rw [HR.out]; rfl), HB.out⟩
set_option maxRecDepth 100000 in
set_option maxHeartbeats 3200000 in
theorem implIsCall_Get (key : List UInt8) (v : Int) (text : List UInt8) (w : World) (hk : key.length ≤ maxLen) :
    Calls Try.prog 28 #[.agg #[.string ⟨#[71, 101, 116]⟩, .string ⟨key.toArray⟩, .int .i64 v, .string ⟨text.toArray⟩]] w fun e w' => e = .returned (.bool (callB ⟨mGet, key, v, text⟩)) ∧ Below w.heap.size w w' := by
  have HR := Lib.hid (show callB ⟨mGet, key, v, text⟩ = (nameB key && (v == 0) && (text.isEmpty || false)) from rfl)
  have HW := Lib.hid (show ∀ w0, Calls Try.prog 71 #[.string ⟨#[71, 101, 116]⟩] w0 fun e w' => e = .returned (.int .i64 2) ∧ Below w0.heap.size w0 w' from fun w0 => implWant_b mGet 2 rfl w0)
  have HN := Lib.hid (implIsName_b key _ rfl hk)
  have HTK := Lib.hid (show ∀ w0, Calls Try.prog 65 #[.string ⟨#[71, 101, 116]⟩] w0 fun e w' => e = .returned (.bool true) ∧ w0 = w' from takesKey_b mGet _ rfl)
  have HTV := Lib.hid (show ∀ w0, Calls Try.prog 66 #[.string ⟨#[71, 101, 116]⟩] w0 fun e w' => e = .returned (.bool false) ∧ w0 = w' from takesValue_b mGet _ rfl)
  have HTT := Lib.hid (show ∀ w0, Calls Try.prog 67 #[.string ⟨#[71, 101, 116]⟩] w0 fun e w' => e = .returned (.bool false) ∧ w0 = w' from takesText_b mGet _ rfl)
  generalize callB ⟨mGet, key, v, text⟩ = res at *
  generalize nameB key = kn at *
  clear hk
  have HB0 := Lib.hid (show ∀ o, Below w.heap.size w (w.alloc o) from fun o => (Below.refl w.heap.size w).alloc (Nat.le_refl _) o)
  go_enter Try.func28, Try.ntmps28
  go_wp2_with fail
  refine (HW.out _).mono ?_
  rintro e w1 ⟨rfl, hb⟩
  have HB := Lib.hid ((HB0.out _).trans (hb.mono (HB0.out _).size))
  obtain ⟨hcc, _⟩ := bcell hb
  simp at hcc
  have c0 := hcc w.heap.size 0 (by omega)
  have c1 := hcc w.heap.size 1 (by omega)
  have c2 := hcc w.heap.size 2 (by omega)
  have c3 := hcc w.heap.size 3 (by omega)
  simp at c0 c1 c2 c3
  clear hb hcc
  cases kn <;> cases text
  all_goals
    by_cases h0 : v = 0
    · subst h0
      go_wp2_with (first | (go_at_call 60; (with_reducible refine (HN.out _).mono ?_); rintro e w' ⟨rfl, rfl⟩) | (go_at_call 65; (with_reducible refine (HTK.out _).mono ?_); rintro e w' ⟨rfl, rfl⟩) | (go_at_call 66; (with_reducible refine (HTV.out _).mono ?_); rintro e w' ⟨rfl, rfl⟩) | (go_at_call 67; (with_reducible refine (HTT.out _).mono ?_); rintro e w' ⟨rfl, rfl⟩))
      go_ret
      exact ⟨ret_bool (by rw [HR.out]; rfl), HB.out⟩
    · have hv0 : (v == 0) = false := by simpa using h0
      rw [hv0] at HR
      clear h0
      go_wp2_with (first | (go_at_call 60; (with_reducible refine (HN.out _).mono ?_); rintro e w' ⟨rfl, rfl⟩) | (go_at_call 65; (with_reducible refine (HTK.out _).mono ?_); rintro e w' ⟨rfl, rfl⟩) | (go_at_call 66; (with_reducible refine (HTV.out _).mono ?_); rintro e w' ⟨rfl, rfl⟩) | (go_at_call 67; (with_reducible refine (HTT.out _).mono ?_); rintro e w' ⟨rfl, rfl⟩))
      go_ret
      exact ⟨ret_bool (by rw [HR.out]; rfl), HB.out⟩
end Go.Proofs.Ytghebbndfpbkcac
/- The program's IsCall, method by method: three more. Written by gen/ch3calls.py. -/
namespace Go.Proofs.Ytghebbndfpbkcac
set_option linter.unusedVariables false
open Go.RowKit
set_option maxRecDepth 100000 in
set_option maxHeartbeats 3200000 in
theorem implIsCall_Put (key : List UInt8) (v : Int) (text : List UInt8) (w : World) (hk : key.length ≤ maxLen) :
    Calls Try.prog 28 #[.agg #[.string ⟨#[80, 117, 116]⟩, .string ⟨key.toArray⟩, .int .i64 v, .string ⟨text.toArray⟩]] w fun e w' => e = .returned (.bool (callB ⟨mPut, key, v, text⟩)) ∧ Below w.heap.size w w' := by
  have HR := Lib.hid (show callB ⟨mPut, key, v, text⟩ = (nameB key && numB v && (text.isEmpty || false)) from rfl)
  have HW := Lib.hid (show ∀ w0, Calls Try.prog 71 #[.string ⟨#[80, 117, 116]⟩] w0 fun e w' => e = .returned (.int .i64 2) ∧ Below w0.heap.size w0 w' from fun w0 => implWant_b mPut 2 rfl w0)
  have HN := Lib.hid (implIsName_b key _ rfl hk)
  have HTK := Lib.hid (show ∀ w0, Calls Try.prog 65 #[.string ⟨#[80, 117, 116]⟩] w0 fun e w' => e = .returned (.bool true) ∧ w0 = w' from takesKey_b mPut _ rfl)
  have HTV := Lib.hid (show ∀ w0, Calls Try.prog 66 #[.string ⟨#[80, 117, 116]⟩] w0 fun e w' => e = .returned (.bool true) ∧ w0 = w' from takesValue_b mPut _ rfl)
  have HTT := Lib.hid (show ∀ w0, Calls Try.prog 67 #[.string ⟨#[80, 117, 116]⟩] w0 fun e w' => e = .returned (.bool false) ∧ w0 = w' from takesText_b mPut _ rfl)
  have HNU := Lib.hid (isNumber_b v _ rfl)
  generalize callB ⟨mPut, key, v, text⟩ = res at *
  generalize nameB key = kn at *
  generalize numB v = vn at *
  clear hk
  have HB0 := Lib.hid (show ∀ o, Below w.heap.size w (w.alloc o) from fun o => (Below.refl w.heap.size w).alloc (Nat.le_refl _) o)
  go_enter Try.func28, Try.ntmps28
  go_wp2_with fail
  refine (HW.out _).mono ?_
  rintro e w1 ⟨rfl, hb⟩
  have HB := Lib.hid ((HB0.out _).trans (hb.mono (HB0.out _).size))
  obtain ⟨hcc, _⟩ := bcell hb
  simp at hcc
  have c0 := hcc w.heap.size 0 (by omega)
  have c1 := hcc w.heap.size 1 (by omega)
  have c2 := hcc w.heap.size 2 (by omega)
  have c3 := hcc w.heap.size 3 (by omega)
  simp at c0 c1 c2 c3
  clear hb hcc
  cases kn <;> cases text <;> cases vn
  all_goals
    go_wp2_with (first | (go_at_call 60; (with_reducible refine (HN.out _).mono ?_); rintro e w' ⟨rfl, rfl⟩) | (go_at_call 65; (with_reducible refine (HTK.out _).mono ?_); rintro e w' ⟨rfl, rfl⟩) | (go_at_call 66; (with_reducible refine (HTV.out _).mono ?_); rintro e w' ⟨rfl, rfl⟩) | (go_at_call 67; (with_reducible refine (HTT.out _).mono ?_); rintro e w' ⟨rfl, rfl⟩) | (go_at_call 61; (with_reducible refine (HNU.out _).mono ?_); rintro e w' ⟨rfl, rfl⟩))
    go_ret
    exact ⟨ret_bool (by rw [HR.out]; rfl), HB.out⟩
set_option maxRecDepth 100000 in
set_option maxHeartbeats 3200000 in
theorem implIsCall_Tell (key : List UInt8) (v : Int) (text : List UInt8) (w : World) (hk : key.length ≤ maxLen) :
    Calls Try.prog 28 #[.agg #[.string ⟨#[84, 101, 108, 108]⟩, .string ⟨key.toArray⟩, .int .i64 v, .string ⟨text.toArray⟩]] w fun e w' => e = .returned (.bool (callB ⟨mTell, key, v, text⟩)) ∧ Below w.heap.size w w' := by
  have HR := Lib.hid (show callB ⟨mTell, key, v, text⟩ = (key.isEmpty && (v == 0) && (text.isEmpty || false)) from rfl)
  have HW := Lib.hid (show ∀ w0, Calls Try.prog 71 #[.string ⟨#[84, 101, 108, 108]⟩] w0 fun e w' => e = .returned (.int .i64 4) ∧ Below w0.heap.size w0 w' from fun w0 => implWant_b mTell 4 rfl w0)
  have HTK := Lib.hid (show ∀ w0, Calls Try.prog 65 #[.string ⟨#[84, 101, 108, 108]⟩] w0 fun e w' => e = .returned (.bool false) ∧ w0 = w' from takesKey_b mTell _ rfl)
  have HTV := Lib.hid (show ∀ w0, Calls Try.prog 66 #[.string ⟨#[84, 101, 108, 108]⟩] w0 fun e w' => e = .returned (.bool false) ∧ w0 = w' from takesValue_b mTell _ rfl)
  have HTT := Lib.hid (show ∀ w0, Calls Try.prog 67 #[.string ⟨#[84, 101, 108, 108]⟩] w0 fun e w' => e = .returned (.bool false) ∧ w0 = w' from takesText_b mTell _ rfl)
  generalize callB ⟨mTell, key, v, text⟩ = res at *
  clear hk
  have HB0 := Lib.hid (show ∀ o, Below w.heap.size w (w.alloc o) from fun o => (Below.refl w.heap.size w).alloc (Nat.le_refl _) o)
  go_enter Try.func28, Try.ntmps28
  go_wp2_with fail
  refine (HW.out _).mono ?_
  rintro e w1 ⟨rfl, hb⟩
  have HB := Lib.hid ((HB0.out _).trans (hb.mono (HB0.out _).size))
  obtain ⟨hcc, _⟩ := bcell hb
  simp at hcc
  have c0 := hcc w.heap.size 0 (by omega)
  have c1 := hcc w.heap.size 1 (by omega)
  have c2 := hcc w.heap.size 2 (by omega)
  have c3 := hcc w.heap.size 3 (by omega)
  simp at c0 c1 c2 c3
  clear hb hcc
  cases key <;> cases text
  all_goals
    by_cases h0 : v = 0
    · subst h0
      go_wp2_with (first | (go_at_call 65; (with_reducible refine (HTK.out _).mono ?_); rintro e w' ⟨rfl, rfl⟩) | (go_at_call 66; (with_reducible refine (HTV.out _).mono ?_); rintro e w' ⟨rfl, rfl⟩) | (go_at_call 67; (with_reducible refine (HTT.out _).mono ?_); rintro e w' ⟨rfl, rfl⟩))
      go_ret
      exact ⟨ret_bool (by rw [HR.out]; rfl), HB.out⟩
    · have hv0 : (v == 0) = false := by simpa using h0
      rw [hv0] at HR
      clear h0
      go_wp2_with (first | (go_at_call 65; (with_reducible refine (HTK.out _).mono ?_); rintro e w' ⟨rfl, rfl⟩) | (go_at_call 66; (with_reducible refine (HTV.out _).mono ?_); rintro e w' ⟨rfl, rfl⟩) | (go_at_call 67; (with_reducible refine (HTT.out _).mono ?_); rintro e w' ⟨rfl, rfl⟩))
      go_ret
      exact ⟨ret_bool (by rw [HR.out]; rfl), HB.out⟩
set_option maxRecDepth 100000 in
set_option maxHeartbeats 3200000 in
theorem implIsCall_Hear (key : List UInt8) (v : Int) (text : List UInt8) (w : World) (hk : key.length ≤ maxLen) :
    Calls Try.prog 28 #[.agg #[.string ⟨#[72, 101, 97, 114]⟩, .string ⟨key.toArray⟩, .int .i64 v, .string ⟨text.toArray⟩]] w fun e w' => e = .returned (.bool (callB ⟨mHear, key, v, text⟩)) ∧ Below w.heap.size w w' := by
  have HR := Lib.hid (show callB ⟨mHear, key, v, text⟩ = (key.isEmpty && numB v && (text.isEmpty || false)) from rfl)
  have HW := Lib.hid (show ∀ w0, Calls Try.prog 71 #[.string ⟨#[72, 101, 97, 114]⟩] w0 fun e w' => e = .returned (.int .i64 8) ∧ Below w0.heap.size w0 w' from fun w0 => implWant_b mHear 8 rfl w0)
  have HTK := Lib.hid (show ∀ w0, Calls Try.prog 65 #[.string ⟨#[72, 101, 97, 114]⟩] w0 fun e w' => e = .returned (.bool false) ∧ w0 = w' from takesKey_b mHear _ rfl)
  have HTV := Lib.hid (show ∀ w0, Calls Try.prog 66 #[.string ⟨#[72, 101, 97, 114]⟩] w0 fun e w' => e = .returned (.bool true) ∧ w0 = w' from takesValue_b mHear _ rfl)
  have HTT := Lib.hid (show ∀ w0, Calls Try.prog 67 #[.string ⟨#[72, 101, 97, 114]⟩] w0 fun e w' => e = .returned (.bool false) ∧ w0 = w' from takesText_b mHear _ rfl)
  have HNU := Lib.hid (isNumber_b v _ rfl)
  generalize callB ⟨mHear, key, v, text⟩ = res at *
  generalize numB v = vn at *
  clear hk
  have HB0 := Lib.hid (show ∀ o, Below w.heap.size w (w.alloc o) from fun o => (Below.refl w.heap.size w).alloc (Nat.le_refl _) o)
  go_enter Try.func28, Try.ntmps28
  go_wp2_with fail
  refine (HW.out _).mono ?_
  rintro e w1 ⟨rfl, hb⟩
  have HB := Lib.hid ((HB0.out _).trans (hb.mono (HB0.out _).size))
  obtain ⟨hcc, _⟩ := bcell hb
  simp at hcc
  have c0 := hcc w.heap.size 0 (by omega)
  have c1 := hcc w.heap.size 1 (by omega)
  have c2 := hcc w.heap.size 2 (by omega)
  have c3 := hcc w.heap.size 3 (by omega)
  simp at c0 c1 c2 c3
  clear hb hcc
  cases key <;> cases text <;> cases vn
  all_goals
    go_wp2_with (first | (go_at_call 65; (with_reducible refine (HTK.out _).mono ?_); rintro e w' ⟨rfl, rfl⟩) | (go_at_call 66; (with_reducible refine (HTV.out _).mono ?_); rintro e w' ⟨rfl, rfl⟩) | (go_at_call 67; (with_reducible refine (HTT.out _).mono ?_); rintro e w' ⟨rfl, rfl⟩) | (go_at_call 61; (with_reducible refine (HNU.out _).mono ?_); rintro e w' ⟨rfl, rfl⟩))
    go_ret
    exact ⟨ret_bool (by rw [HR.out]; rfl), HB.out⟩
end Go.Proofs.Ytghebbndfpbkcac
/- The program's IsCall, method by method: the last three; whatever the method is. Written by gen/ch3calls.py. -/
namespace Go.Proofs.Ytghebbndfpbkcac
set_option linter.unusedVariables false
open Go.RowKit
set_option maxRecDepth 100000 in
set_option maxHeartbeats 3200000 in
theorem implIsCall_Load (key : List UInt8) (v : Int) (text : List UInt8) (w : World) (hk : key.length ≤ maxLen) :
    Calls Try.prog 28 #[.agg #[.string ⟨#[76, 111, 97, 100]⟩, .string ⟨key.toArray⟩, .int .i64 v, .string ⟨text.toArray⟩]] w fun e w' => e = .returned (.bool (callB ⟨mLoad, key, v, text⟩)) ∧ Below w.heap.size w w' := by
  have HR := Lib.hid (show callB ⟨mLoad, key, v, text⟩ = (key.isEmpty && (v == 0) && (text.isEmpty || true)) from rfl)
  have HW := Lib.hid (show ∀ w0, Calls Try.prog 71 #[.string ⟨#[76, 111, 97, 100]⟩] w0 fun e w' => e = .returned (.int .i64 16) ∧ Below w0.heap.size w0 w' from fun w0 => implWant_b mLoad 16 rfl w0)
  have HTK := Lib.hid (show ∀ w0, Calls Try.prog 65 #[.string ⟨#[76, 111, 97, 100]⟩] w0 fun e w' => e = .returned (.bool false) ∧ w0 = w' from takesKey_b mLoad _ rfl)
  have HTV := Lib.hid (show ∀ w0, Calls Try.prog 66 #[.string ⟨#[76, 111, 97, 100]⟩] w0 fun e w' => e = .returned (.bool false) ∧ w0 = w' from takesValue_b mLoad _ rfl)
  have HTT := Lib.hid (show ∀ w0, Calls Try.prog 67 #[.string ⟨#[76, 111, 97, 100]⟩] w0 fun e w' => e = .returned (.bool true) ∧ w0 = w' from takesText_b mLoad _ rfl)
  generalize callB ⟨mLoad, key, v, text⟩ = res at *
  clear hk
  have HB0 := Lib.hid (show ∀ o, Below w.heap.size w (w.alloc o) from fun o => (Below.refl w.heap.size w).alloc (Nat.le_refl _) o)
  go_enter Try.func28, Try.ntmps28
  go_wp2_with fail
  refine (HW.out _).mono ?_
  rintro e w1 ⟨rfl, hb⟩
  have HB := Lib.hid ((HB0.out _).trans (hb.mono (HB0.out _).size))
  obtain ⟨hcc, _⟩ := bcell hb
  simp at hcc
  have c0 := hcc w.heap.size 0 (by omega)
  have c1 := hcc w.heap.size 1 (by omega)
  have c2 := hcc w.heap.size 2 (by omega)
  have c3 := hcc w.heap.size 3 (by omega)
  simp at c0 c1 c2 c3
  clear hb hcc
  cases key <;> cases text
  all_goals
    by_cases h0 : v = 0
    · subst h0
      go_wp2_with (first | (go_at_call 65; (with_reducible refine (HTK.out _).mono ?_); rintro e w' ⟨rfl, rfl⟩) | (go_at_call 66; (with_reducible refine (HTV.out _).mono ?_); rintro e w' ⟨rfl, rfl⟩) | (go_at_call 67; (with_reducible refine (HTT.out _).mono ?_); rintro e w' ⟨rfl, rfl⟩))
      go_ret
      exact ⟨ret_bool (by rw [HR.out]; rfl), HB.out⟩
    · have hv0 : (v == 0) = false := by simpa using h0
      rw [hv0] at HR
      clear h0
      go_wp2_with (first | (go_at_call 65; (with_reducible refine (HTK.out _).mono ?_); rintro e w' ⟨rfl, rfl⟩) | (go_at_call 66; (with_reducible refine (HTV.out _).mono ?_); rintro e w' ⟨rfl, rfl⟩) | (go_at_call 67; (with_reducible refine (HTT.out _).mono ?_); rintro e w' ⟨rfl, rfl⟩))
      go_ret
      exact ⟨ret_bool (by rw [HR.out]; rfl), HB.out⟩
set_option maxRecDepth 100000 in
set_option maxHeartbeats 3200000 in
theorem implIsCall_Save (key : List UInt8) (v : Int) (text : List UInt8) (w : World) (hk : key.length ≤ maxLen) :
    Calls Try.prog 28 #[.agg #[.string ⟨#[83, 97, 118, 101]⟩, .string ⟨key.toArray⟩, .int .i64 v, .string ⟨text.toArray⟩]] w fun e w' => e = .returned (.bool (callB ⟨mSave, key, v, text⟩)) ∧ Below w.heap.size w w' := by
  have HR := Lib.hid (show callB ⟨mSave, key, v, text⟩ = (key.isEmpty && (v == 0) && (text.isEmpty || false)) from rfl)
  have HW := Lib.hid (show ∀ w0, Calls Try.prog 71 #[.string ⟨#[83, 97, 118, 101]⟩] w0 fun e w' => e = .returned (.int .i64 16) ∧ Below w0.heap.size w0 w' from fun w0 => implWant_b mSave 16 rfl w0)
  have HTK := Lib.hid (show ∀ w0, Calls Try.prog 65 #[.string ⟨#[83, 97, 118, 101]⟩] w0 fun e w' => e = .returned (.bool false) ∧ w0 = w' from takesKey_b mSave _ rfl)
  have HTV := Lib.hid (show ∀ w0, Calls Try.prog 66 #[.string ⟨#[83, 97, 118, 101]⟩] w0 fun e w' => e = .returned (.bool false) ∧ w0 = w' from takesValue_b mSave _ rfl)
  have HTT := Lib.hid (show ∀ w0, Calls Try.prog 67 #[.string ⟨#[83, 97, 118, 101]⟩] w0 fun e w' => e = .returned (.bool false) ∧ w0 = w' from takesText_b mSave _ rfl)
  generalize callB ⟨mSave, key, v, text⟩ = res at *
  clear hk
  have HB0 := Lib.hid (show ∀ o, Below w.heap.size w (w.alloc o) from fun o => (Below.refl w.heap.size w).alloc (Nat.le_refl _) o)
  go_enter Try.func28, Try.ntmps28
  go_wp2_with fail
  refine (HW.out _).mono ?_
  rintro e w1 ⟨rfl, hb⟩
  have HB := Lib.hid ((HB0.out _).trans (hb.mono (HB0.out _).size))
  obtain ⟨hcc, _⟩ := bcell hb
  simp at hcc
  have c0 := hcc w.heap.size 0 (by omega)
  have c1 := hcc w.heap.size 1 (by omega)
  have c2 := hcc w.heap.size 2 (by omega)
  have c3 := hcc w.heap.size 3 (by omega)
  simp at c0 c1 c2 c3
  clear hb hcc
  cases key <;> cases text
  all_goals
    by_cases h0 : v = 0
    · subst h0
      go_wp2_with (first | (go_at_call 65; (with_reducible refine (HTK.out _).mono ?_); rintro e w' ⟨rfl, rfl⟩) | (go_at_call 66; (with_reducible refine (HTV.out _).mono ?_); rintro e w' ⟨rfl, rfl⟩) | (go_at_call 67; (with_reducible refine (HTT.out _).mono ?_); rintro e w' ⟨rfl, rfl⟩))
      go_ret
      exact ⟨ret_bool (by rw [HR.out]; rfl), HB.out⟩
    · have hv0 : (v == 0) = false := by simpa using h0
      rw [hv0] at HR
      clear h0
      go_wp2_with (first | (go_at_call 65; (with_reducible refine (HTK.out _).mono ?_); rintro e w' ⟨rfl, rfl⟩) | (go_at_call 66; (with_reducible refine (HTV.out _).mono ?_); rintro e w' ⟨rfl, rfl⟩) | (go_at_call 67; (with_reducible refine (HTT.out _).mono ?_); rintro e w' ⟨rfl, rfl⟩))
      go_ret
      exact ⟨ret_bool (by rw [HR.out]; rfl), HB.out⟩
set_option maxRecDepth 100000 in
set_option maxHeartbeats 3200000 in
theorem implIsCall_Heal (key : List UInt8) (v : Int) (text : List UInt8) (w : World) (hk : key.length ≤ maxLen) :
    Calls Try.prog 28 #[.agg #[.string ⟨#[72, 101, 97, 108]⟩, .string ⟨key.toArray⟩, .int .i64 v, .string ⟨text.toArray⟩]] w fun e w' => e = .returned (.bool (callB ⟨mHeal, key, v, text⟩)) ∧ Below w.heap.size w w' := by
  have HR := Lib.hid (show callB ⟨mHeal, key, v, text⟩ = (key.isEmpty && (v == 0) && (text.isEmpty || false)) from rfl)
  have HW := Lib.hid (show ∀ w0, Calls Try.prog 71 #[.string ⟨#[72, 101, 97, 108]⟩] w0 fun e w' => e = .returned (.int .i64 32) ∧ Below w0.heap.size w0 w' from fun w0 => implWant_b mHeal 32 rfl w0)
  have HTK := Lib.hid (show ∀ w0, Calls Try.prog 65 #[.string ⟨#[72, 101, 97, 108]⟩] w0 fun e w' => e = .returned (.bool false) ∧ w0 = w' from takesKey_b mHeal _ rfl)
  have HTV := Lib.hid (show ∀ w0, Calls Try.prog 66 #[.string ⟨#[72, 101, 97, 108]⟩] w0 fun e w' => e = .returned (.bool false) ∧ w0 = w' from takesValue_b mHeal _ rfl)
  have HTT := Lib.hid (show ∀ w0, Calls Try.prog 67 #[.string ⟨#[72, 101, 97, 108]⟩] w0 fun e w' => e = .returned (.bool false) ∧ w0 = w' from takesText_b mHeal _ rfl)
  generalize callB ⟨mHeal, key, v, text⟩ = res at *
  clear hk
  have HB0 := Lib.hid (show ∀ o, Below w.heap.size w (w.alloc o) from fun o => (Below.refl w.heap.size w).alloc (Nat.le_refl _) o)
  go_enter Try.func28, Try.ntmps28
  go_wp2_with fail
  refine (HW.out _).mono ?_
  rintro e w1 ⟨rfl, hb⟩
  have HB := Lib.hid ((HB0.out _).trans (hb.mono (HB0.out _).size))
  obtain ⟨hcc, _⟩ := bcell hb
  simp at hcc
  have c0 := hcc w.heap.size 0 (by omega)
  have c1 := hcc w.heap.size 1 (by omega)
  have c2 := hcc w.heap.size 2 (by omega)
  have c3 := hcc w.heap.size 3 (by omega)
  simp at c0 c1 c2 c3
  clear hb hcc
  cases key <;> cases text
  all_goals
    by_cases h0 : v = 0
    · subst h0
      go_wp2_with (first | (go_at_call 65; (with_reducible refine (HTK.out _).mono ?_); rintro e w' ⟨rfl, rfl⟩) | (go_at_call 66; (with_reducible refine (HTV.out _).mono ?_); rintro e w' ⟨rfl, rfl⟩) | (go_at_call 67; (with_reducible refine (HTT.out _).mono ?_); rintro e w' ⟨rfl, rfl⟩))
      go_ret
      exact ⟨ret_bool (by rw [HR.out]; rfl), HB.out⟩
    · have hv0 : (v == 0) = false := by simpa using h0
      rw [hv0] at HR
      clear h0
      go_wp2_with (first | (go_at_call 65; (with_reducible refine (HTK.out _).mono ?_); rintro e w' ⟨rfl, rfl⟩) | (go_at_call 66; (with_reducible refine (HTV.out _).mono ?_); rintro e w' ⟨rfl, rfl⟩) | (go_at_call 67; (with_reducible refine (HTT.out _).mono ?_); rintro e w' ⟨rfl, rfl⟩))
      go_ret
      exact ⟨ret_bool (by rw [HR.out]; rfl), HB.out⟩
set_option maxRecDepth 100000 in
set_option maxHeartbeats 1600000 in
theorem implIsCall_any (d : CallD) (w : World) (hk : d.fKey.length ≤ maxLen) :
    Calls Try.prog 28 #[vCall d] w fun e w' => e = .returned (.bool (callB d)) ∧ Below w.heap.size w w' := by
  obtain ⟨m, key, v, text⟩ := d
  unfold vCall
  simp only at *
  rcases meth_cases m with rfl | rfl | rfl | rfl | rfl | rfl | rfl | rfl | rfl | ⟨hw, hStart, hStop, hGet, hPut, hTell, hHear, hLoad, hSave, hHeal⟩
  · exact implIsCall_Start key v text w hk
  · exact implIsCall_Stop key v text w hk
  · exact implIsCall_Get key v text w hk
  · exact implIsCall_Put key v text w hk
  · exact implIsCall_Tell key v text w hk
  · exact implIsCall_Hear key v text w hk
  · exact implIsCall_Load key v text w hk
  · exact implIsCall_Save key v text w hk
  · exact implIsCall_Heal key v text w hk
  · have HR := Lib.hid (show callB ⟨m, key, v, text⟩ = false by unfold callB; simp only; rw [hw]; rfl)
    have bGet : (m == [71, 101, 116]) = false := by simpa using hGet
    have bPut : (m == [80, 117, 116]) = false := by simpa using hPut
    have bHear : (m == [72, 101, 97, 114]) = false := by simpa using hHear
    have bLoad : (m == [76, 111, 97, 100]) = false := by simpa using hLoad
    have HW := Lib.hid (implWant_b m 0 hw)
    have HB0 := Lib.hid (show ∀ o, Below w.heap.size w (w.alloc o) from fun o => (Below.refl w.heap.size w).alloc (Nat.le_refl _) o)
    generalize callB ⟨m, key, v, text⟩ = res at *
    clear hw hk hStart hStop hGet hPut hTell hHear hLoad hSave hHeal
    go_enter Try.func28, Try.ntmps28
    go_wp2_with fail
    refine (HW.out _).mono ?_
    rintro e w1 ⟨rfl, hb⟩
    have HB := Lib.hid ((HB0.out _).trans (hb.mono (HB0.out _).size))
    clear hb
    go_wp2_with fail
    go_ret
    exact ⟨ret_bool HR.out.symm, HB.out⟩
end Go.Proofs.Ytghebbndfpbkcac
/- ParseCall, plain: the program's lenient reading and the model's, each held against the writing, accept the same texts. -/
namespace Go.Proofs.Ytghebbndfpbkcac
set_option linter.unusedVariables false
open Go.RowKit
/-- the program's reading -/
def rdI (s : List UInt8) : CallD :=
  let c := Lib.cut s [32]
  let c2 := if takesK c.1 = true then Lib.cut c.2.1 [32] else ([], c.2.1, false)
  ⟨c.1, c2.1, if takesV c.1 = true then pnum c2.2.1 else 0, if takesT c.1 = true then c2.2.1 else []⟩
/-- the model's reading -/
def rdS (s : List UInt8) : CallD :=
  let p := splitL s [32]
  let m := p.getD 0 []
  let last := p.getD (p.length - 1) []
  ⟨m, if m = mGet then last else if m = mPut then joinL ((p.take (p.length - min 1 (p.length - 1))).drop 1) [32] else [],
    if m = mPut then pnum last else if m = mHear then pnum last else 0, if m = mLoad then joinL (p.drop 1) [32] else []⟩
theorem split_head {a r : List UInt8} {c : UInt8} (ha : c ∉ a) : ∃ q, splitL (a ++ c :: r) [c] = a :: q ∧ q ≠ [] ∧ joinL q [c] = r := by
  have e : splitL (a ++ c :: r) [c] = a :: splitF [c] (a ++ c :: r).length r := by
    have e3 : (a ++ c :: r).drop (a.length + [c].length) = r := by simp [List.drop_append]
    have e4 : (a ++ c :: r).take a.length = a := by simp
    unfold splitL; rw [if_neg (by simp), splitF_some _ a.length (index_some1 ha), e3, e4]
  refine ⟨_, e, splitF_ne _ _ _, ?_⟩
  exact join_split [c] _ r
theorem num32 (z : Nat) : (32 : UInt8) ∉ numL z := numL_no z 32 (by decide)
theorem name32 {l : List UInt8} (h : nameB l = true) : (32 : UInt8) ∉ l := nameB_no h 32 (by decide)
theorem cut_m1 (a r : List UInt8) (h : (32 : UInt8) ∉ a) : Lib.cut (joinL [a, r] [32]) [32] = (a, r, true) := by rw [joinL_two]; exact cut_some h
theorem cut_m0 (a : List UInt8) (h : (32 : UInt8) ∉ a) : Lib.cut (joinL [a] [32]) [32] = (a, [], false) := by rw [joinL_one]; exact cut_none h
theorem cut_m2 (a b r : List UInt8) (h : (32 : UInt8) ∉ a) : Lib.cut (joinL [a, b, r] [32]) [32] = (a, joinL [b, r] [32], true) := by
  rw [joinL_cons a [b, r] [32] (by simp), List.append_assoc, List.singleton_append]; exact cut_some h
theorem rdI_fmt {d : CallD} (h : callB d = true) : rdI (fmtCall d) = d := by
  obtain ⟨p1, p2, p3, p4, p5⟩ := callB_parts h
  rw [fmtCall_yes h]
  obtain ⟨m, key, v, text⟩ := d
  simp only at *
  rcases meth_cases m with rfl | rfl | rfl | rfl | rfl | rfl | rfl | rfl | rfl | ⟨hw, _⟩
  · obtain rfl := p2 rfl; obtain rfl := p4 rfl; obtain rfl := p5 rfl
    show rdI (joinL [mStart] [32]) = _
    unfold rdI; rw [cut_m0 mStart (by decide)]; rfl
  · obtain rfl := p2 rfl; obtain rfl := p4 rfl; obtain rfl := p5 rfl
    show rdI (joinL [mStop] [32]) = _
    unfold rdI; rw [cut_m0 mStop (by decide)]; rfl
  · have hk := name32 (p1 rfl); obtain rfl := p4 rfl; obtain rfl := p5 rfl
    show rdI (joinL [mGet, key] [32]) = _
    unfold rdI; rw [cut_m1 mGet key (by decide)]
    simp only
    rw [if_pos (show takesK mGet = true from rfl), cut_none hk]; rfl
  · have hk := name32 (p1 rfl); obtain ⟨z, hz, hz9⟩ := numB_nat (p3 rfl); subst hz; obtain rfl := p5 rfl
    show rdI (joinL [mPut, key, numL z] [32]) = _
    unfold rdI; rw [cut_m2 mPut key (numL z) (by decide)]
    simp only
    rw [if_pos (show takesK mPut = true from rfl), cut_m1 key (numL z) hk]
    simp only
    rw [(parse_num (p3 rfl)).1]; rfl
  · obtain rfl := p2 rfl; obtain rfl := p4 rfl; obtain rfl := p5 rfl
    show rdI (joinL [mTell] [32]) = _
    unfold rdI; rw [cut_m0 mTell (by decide)]; rfl
  · obtain rfl := p2 rfl; obtain ⟨z, hz, hz9⟩ := numB_nat (p3 rfl); subst hz; obtain rfl := p5 rfl
    show rdI (joinL [mHear, numL z] [32]) = _
    unfold rdI; rw [cut_m1 mHear (numL z) (by decide)]
    simp only
    rw [if_neg (show ¬ takesK mHear = true by decide)]
    simp only
    rw [(parse_num (p3 rfl)).1]; rfl
  · obtain rfl := p2 rfl; obtain rfl := p4 rfl
    show rdI (joinL [mLoad, text] [32]) = _
    unfold rdI; rw [cut_m1 mLoad text (by decide)]; rfl
  · obtain rfl := p2 rfl; obtain rfl := p4 rfl; obtain rfl := p5 rfl
    show rdI (joinL [mSave] [32]) = _
    unfold rdI; rw [cut_m0 mSave (by decide)]; rfl
  · obtain rfl := p2 rfl; obtain rfl := p4 rfl; obtain rfl := p5 rfl
    show rdI (joinL [mHeal] [32]) = _
    unfold rdI; rw [cut_m0 mHeal (by decide)]; rfl
  · exfalso; unfold callB at h; simp only at h; rw [hw] at h; simp at h
theorem rdS_fmt {d : CallD} (h : callB d = true) : rdS (fmtCall d) = d := by
  obtain ⟨p1, p2, p3, p4, p5⟩ := callB_parts h
  rw [fmtCall_yes h]
  obtain ⟨m, key, v, text⟩ := d
  simp only at *
  have one : ∀ a : List UInt8, (32 : UInt8) ∉ a → splitL (joinL [a] [32]) [32] = [a] := fun a ha => splitL_joinL 32 [a] (by simp) (by simpa using ha)
  have two : ∀ a b : List UInt8, (32 : UInt8) ∉ a → (32 : UInt8) ∉ b → splitL (joinL [a, b] [32]) [32] = [a, b] := fun a b ha hb => splitL_joinL 32 [a, b] (by simp) (by simp; exact ⟨ha, hb⟩)
  have three : ∀ a b c : List UInt8, (32 : UInt8) ∉ a → (32 : UInt8) ∉ b → (32 : UInt8) ∉ c → splitL (joinL [a, b, c] [32]) [32] = [a, b, c] := fun a b c ha hb hc => splitL_joinL 32 [a, b, c] (by simp) (by simp; exact ⟨ha, hb, hc⟩)
  rcases meth_cases m with rfl | rfl | rfl | rfl | rfl | rfl | rfl | rfl | rfl | ⟨hw, _⟩
  · obtain rfl := p2 rfl; obtain rfl := p4 rfl; obtain rfl := p5 rfl
    show rdS (joinL [mStart] [32]) = _
    unfold rdS; rw [one mStart (by decide)]; rfl
  · obtain rfl := p2 rfl; obtain rfl := p4 rfl; obtain rfl := p5 rfl
    show rdS (joinL [mStop] [32]) = _
    unfold rdS; rw [one mStop (by decide)]; rfl
  · have hk := name32 (p1 rfl); obtain rfl := p4 rfl; obtain rfl := p5 rfl
    show rdS (joinL [mGet, key] [32]) = _
    unfold rdS; rw [two mGet key (by decide) hk]; rfl
  · have hk := name32 (p1 rfl); obtain ⟨z, hz, hz9⟩ := numB_nat (p3 rfl); subst hz; obtain rfl := p5 rfl
    have hp := (parse_num (p3 rfl)).1
    show rdS (joinL [mPut, key, numL z] [32]) = _
    unfold rdS; rw [three mPut key (numL z) (by decide) hk (num32 z)]
    show (⟨mPut, joinL [key] [32], pnum (numL z), []⟩ : CallD) = _
    rw [joinL_one, hp]
  · obtain rfl := p2 rfl; obtain rfl := p4 rfl; obtain rfl := p5 rfl
    show rdS (joinL [mTell] [32]) = _
    unfold rdS; rw [one mTell (by decide)]; rfl
  · obtain rfl := p2 rfl; obtain ⟨z, hz, hz9⟩ := numB_nat (p3 rfl); subst hz; obtain rfl := p5 rfl
    have hp := (parse_num (p3 rfl)).1
    show rdS (joinL [mHear, numL z] [32]) = _
    unfold rdS; rw [two mHear (numL z) (by decide) (num32 z)]
    show (⟨mHear, [], pnum (numL z), []⟩ : CallD) = _
    rw [hp]
  · obtain rfl := p2 rfl; obtain rfl := p4 rfl
    show rdS (joinL [mLoad, text] [32]) = _
    rw [joinL_two]
    obtain ⟨q, e, _, hj⟩ := split_head (a := mLoad) (r := text) (c := 32) (by decide)
    unfold rdS; rw [e]
    show (⟨mLoad, [], 0, joinL q [32]⟩ : CallD) = _
    rw [hj]
  · obtain rfl := p2 rfl; obtain rfl := p4 rfl; obtain rfl := p5 rfl
    show rdS (joinL [mSave] [32]) = _
    unfold rdS; rw [one mSave (by decide)]; rfl
  · obtain rfl := p2 rfl; obtain rfl := p4 rfl; obtain rfl := p5 rfl
    show rdS (joinL [mHeal] [32]) = _
    unfold rdS; rw [one mHeal (by decide)]; rfl
  · exfalso; unfold callB at h; simp only at h; rw [hw] at h; simp at h
def prsKB (s : List UInt8) : Bool := callB (rdI s) && decide (fmtCall (rdI s) = s)
def prsK (s : List UInt8) : CallD := if prsKB s = true then rdI s else ⟨[], [], 0, []⟩
theorem prsK_yes {s : List UInt8} (h : prsKB s = true) : prsK s = rdI s := if_pos h
theorem prsK_no {s : List UInt8} (h : prsKB s = false) : prsK s = ⟨[], [], 0, []⟩ := if_neg (by simp [h])
theorem fmtCall_ne {d : CallD} (h : callB d = true) : fmtCall d ≠ [] := by
  rw [fmtCall_yes h]
  have hm : d.fMethod ≠ [] := by
    intro e
    unfold callB at h
    rw [e] at h
    exact absurd h (by simp [show wantF [] = 0 from rfl])
  intro e
  have h1 := joinK_part (wordsC d) [32] (wordsC d).length 0 (by simp [wordsC]) (Nat.le_refl _)
  rw [show joinK (wordsC d) [32] (wordsC d).length = [] from e] at h1
  have : (wordsC d).getD 0 [] = d.fMethod := by simp [wordsC]
  rw [this] at h1
  exact hm (List.eq_nil_of_length_eq_zero (by simpa using h1))
theorem prsKB_spec (s : List UInt8) : prsKB s = (decide (fmtCall (rdS s) = s) && !s.isEmpty) := by
  rw [Bool.eq_iff_iff]
  constructor
  · intro h
    simp only [prsKB, Bool.and_eq_true, decide_eq_true_iff] at h
    have e : rdS s = rdI s := by conv => lhs; rw [← h.2]
                                 exact rdS_fmt h.1
    have hne := fmtCall_ne h.1
    rw [h.2] at hne
    rw [e, Bool.and_eq_true, decide_eq_true_iff]
    exact ⟨h.2, by cases s with | nil => exact absurd rfl hne | cons a r => rfl⟩
  · intro h
    rw [Bool.and_eq_true, decide_eq_true_iff] at h
    have hc : callB (rdS s) = true := by
      cases hc : callB (rdS s) with
      | true => rfl
      | false => have := h.1; rw [fmtCall_no hc] at this; rw [← this] at h; simp at h
    have e : rdI s = rdS s := by conv => lhs; rw [← h.1]
                                 exact rdI_fmt hc
    simp only [prsKB, Bool.and_eq_true, decide_eq_true_iff]
    rw [e]; exact ⟨hc, h.1⟩
theorem prsK_spec {s : List UInt8} (h : prsKB s = true) : prsK s = rdS s := by
  rw [prsK_yes h]
  simp only [prsKB, Bool.and_eq_true, decide_eq_true_iff] at h
  have e : rdS s = rdI s := by conv => lhs; rw [← h.2]
                               exact rdS_fmt h.1
  exact e.symm
theorem prsK_fmt {d : CallD} (h : callB d = true) : prsKB (fmtCall d) = true ∧ prsK (fmtCall d) = d := by
  have e := rdI_fmt h
  have : prsKB (fmtCall d) = true := by unfold prsKB; rw [e, h]; simp
  exact ⟨this, by rw [prsK_yes this, e]⟩
theorem prsK_ok {s : List UInt8} (h : prsKB s = true) : callB (prsK s) = true ∧ fmtCall (prsK s) = s := by
  rw [prsK_yes h]
  simp only [prsKB, Bool.and_eq_true, decide_eq_true_iff] at h; exact h
end Go.Proofs.Ytghebbndfpbkcac
/- What both ParseCalls give. -/
namespace Go.Proofs.Ytghebbndfpbkcac
open Go.RowKit
def GivesCall (d : CallD) (b : Bool) (w : World) (e : Ending) (w' : World) : Prop := e = .returned (.tuple #[vCall d, .bool b]) ∧ Below w.heap.size w w'
end Go.Proofs.Ytghebbndfpbkcac
/- The program's FormatCall, method by method. Written by gen/ch3fmt.py. -/
namespace Go.Proofs.Ytghebbndfpbkcac
set_option linter.unusedVariables false
open Go.RowKit
set_option maxRecDepth 100000 in
set_option maxHeartbeats 1600000 in
theorem implFormatCall_Start (key : List UInt8) (v : Int) (text : List UInt8) (w : World) (hk : key.length ≤ maxLen) (ht : text.length ≤ 1048576) (hc : callB ⟨mStart, key, v, text⟩ = true) :
    Calls Try.prog 26 #[.agg #[.string ⟨#[83, 116, 97, 114, 116]⟩, .string ⟨key.toArray⟩, .int .i64 v, .string ⟨text.toArray⟩]] w fun e w' => e = .returned (.string ⟨(fmtCall ⟨mStart, key, v, text⟩).toArray⟩) ∧ Below w.heap.size w w' := by
  have HIC := Lib.hid (fun w0 => implIsCall_any ⟨mStart, key, v, text⟩ w0 hk)
  rw [hc] at HIC
  unfold vCall at HIC
  simp only at HIC
  obtain ⟨p1, p2, p3, p4, p5⟩ := callB_parts hc
  have HF := Lib.hid (fmtCall_yes hc)
  clear hc
  obtain rfl : key = [] := p2 rfl
  obtain rfl : v = 0 := p4 rfl
  obtain rfl : text = [] := p5 rfl
  have HW := Lib.hid (show joinL [mStart] [32] = joinL (wordsC ⟨mStart, [], 0, []⟩) [32] from rfl)
  have HTK := Lib.hid (show ∀ w0, Calls Try.prog 65 #[.string ⟨#[83, 116, 97, 114, 116]⟩] w0 fun e w' => e = .returned (.bool false) ∧ w0 = w' from takesKey_b mStart _ rfl)
  have HTV := Lib.hid (show ∀ w0, Calls Try.prog 66 #[.string ⟨#[83, 116, 97, 114, 116]⟩] w0 fun e w' => e = .returned (.bool false) ∧ w0 = w' from takesValue_b mStart _ rfl)
  have HTT := Lib.hid (show ∀ w0, Calls Try.prog 67 #[.string ⟨#[83, 116, 97, 114, 116]⟩] w0 fun e w' => e = .returned (.bool false) ∧ w0 = w' from takesText_b mStart _ rfl)
  clear p1 p2 p3 p4 p5
  have HB0 := Lib.hid (show ∀ o, Below w.heap.size w (w.alloc o) from fun o => (Below.refl w.heap.size w).alloc (Nat.le_refl _) o)
  go_enter Try.func26, Try.ntmps26
  go_wp2_with fail
  refine (HIC.out _).mono ?_
  rintro e w1 ⟨rfl, hb⟩
  have HB := Lib.hid ((HB0.out _).trans (hb.mono (HB0.out _).size))
  obtain ⟨hcc, _⟩ := bcell hb
  simp at hcc
  have c0 := hcc w.heap.size 0 (by omega)
  have c1 := hcc w.heap.size 1 (by omega)
  have c2 := hcc w.heap.size 2 (by omega)
  have c3 := hcc w.heap.size 3 (by omega)
  simp at c0 c1 c2 c3
  have hlt : w.heap.size < w1.heap.size := by have h := hb.size; simp at h; omega
  have HLT := Lib.hid hlt
  clear hb hcc
  have HO0 := Lib.hid (owns_one w1 w1.heap.size ⟨#[83, 116, 97, 114, 116]⟩ (Nat.le_refl _))
  have HA0 := Lib.hid (show ∀ o, Below w1.heap.size w1 (w1.alloc o) from fun o => (Below.refl w1.heap.size w1).alloc (Nat.le_refl _) o)
  go_wp2_with (first | (go_at_call 65; refine (HTK.out _).mono ?_; rintro e w8 ⟨rfl, rfl⟩) | (go_at_call 66; refine (HTV.out _).mono ?_; rintro e w8 ⟨rfl, rfl⟩) | (go_at_call 67; refine (HTT.out _).mono ?_; rintro e w8 ⟨rfl, rfl⟩))
  refine (implJoin_any _ [mStart] ⟨#[32]⟩ _ (owns_row HO0.out (by simp)) (by rw [joinL_one]; decide) (by decide)).mono ?_
  rintro e w9 ⟨rfl, hb9⟩
  go_wp2_with fail
  go_ret
  exact ⟨ret_str (by rw [HF.out]; exact HW.out), HB.out.trans (((HA0.out (.cells #[.string ⟨#[83, 116, 97, 114, 116]⟩] 9)).trans (hb9.mono (HA0.out (.cells #[.string ⟨#[83, 116, 97, 114, 116]⟩] 9)).size)).mono HB.out.size)⟩
set_option maxRecDepth 100000 in
set_option maxHeartbeats 1600000 in
theorem implFormatCall_Stop (key : List UInt8) (v : Int) (text : List UInt8) (w : World) (hk : key.length ≤ maxLen) (ht : text.length ≤ 1048576) (hc : callB ⟨mStop, key, v, text⟩ = true) :
    Calls Try.prog 26 #[.agg #[.string ⟨#[83, 116, 111, 112]⟩, .string ⟨key.toArray⟩, .int .i64 v, .string ⟨text.toArray⟩]] w fun e w' => e = .returned (.string ⟨(fmtCall ⟨mStop, key, v, text⟩).toArray⟩) ∧ Below w.heap.size w w' := by
  have HIC := Lib.hid (fun w0 => implIsCall_any ⟨mStop, key, v, text⟩ w0 hk)
  rw [hc] at HIC
  unfold vCall at HIC
  simp only at HIC
  obtain ⟨p1, p2, p3, p4, p5⟩ := callB_parts hc
  have HF := Lib.hid (fmtCall_yes hc)
  clear hc
  obtain rfl : key = [] := p2 rfl
  obtain rfl : v = 0 := p4 rfl
  obtain rfl : text = [] := p5 rfl
  have HW := Lib.hid (show joinL [mStop] [32] = joinL (wordsC ⟨mStop, [], 0, []⟩) [32] from rfl)
  have HTK := Lib.hid (show ∀ w0, Calls Try.prog 65 #[.string ⟨#[83, 116, 111, 112]⟩] w0 fun e w' => e = .returned (.bool false) ∧ w0 = w' from takesKey_b mStop _ rfl)
  have HTV := Lib.hid (show ∀ w0, Calls Try.prog 66 #[.string ⟨#[83, 116, 111, 112]⟩] w0 fun e w' => e = .returned (.bool false) ∧ w0 = w' from takesValue_b mStop _ rfl)
  have HTT := Lib.hid (show ∀ w0, Calls Try.prog 67 #[.string ⟨#[83, 116, 111, 112]⟩] w0 fun e w' => e = .returned (.bool false) ∧ w0 = w' from takesText_b mStop _ rfl)
  clear p1 p2 p3 p4 p5
  have HB0 := Lib.hid (show ∀ o, Below w.heap.size w (w.alloc o) from fun o => (Below.refl w.heap.size w).alloc (Nat.le_refl _) o)
  go_enter Try.func26, Try.ntmps26
  go_wp2_with fail
  refine (HIC.out _).mono ?_
  rintro e w1 ⟨rfl, hb⟩
  have HB := Lib.hid ((HB0.out _).trans (hb.mono (HB0.out _).size))
  obtain ⟨hcc, _⟩ := bcell hb
  simp at hcc
  have c0 := hcc w.heap.size 0 (by omega)
  have c1 := hcc w.heap.size 1 (by omega)
  have c2 := hcc w.heap.size 2 (by omega)
  have c3 := hcc w.heap.size 3 (by omega)
  simp at c0 c1 c2 c3
  have hlt : w.heap.size < w1.heap.size := by have h := hb.size; simp at h; omega
  have HLT := Lib.hid hlt
  clear hb hcc
  have HO0 := Lib.hid (owns_one w1 w1.heap.size ⟨#[83, 116, 111, 112]⟩ (Nat.le_refl _))
  have HA0 := Lib.hid (show ∀ o, Below w1.heap.size w1 (w1.alloc o) from fun o => (Below.refl w1.heap.size w1).alloc (Nat.le_refl _) o)
  go_wp2_with (first | (go_at_call 65; refine (HTK.out _).mono ?_; rintro e w8 ⟨rfl, rfl⟩) | (go_at_call 66; refine (HTV.out _).mono ?_; rintro e w8 ⟨rfl, rfl⟩) | (go_at_call 67; refine (HTT.out _).mono ?_; rintro e w8 ⟨rfl, rfl⟩))
  refine (implJoin_any _ [mStop] ⟨#[32]⟩ _ (owns_row HO0.out (by simp)) (by rw [joinL_one]; decide) (by decide)).mono ?_
  rintro e w9 ⟨rfl, hb9⟩
  go_wp2_with fail
  go_ret
  exact ⟨ret_str (by rw [HF.out]; exact HW.out), HB.out.trans (((HA0.out (.cells #[.string ⟨#[83, 116, 111, 112]⟩] 9)).trans (hb9.mono (HA0.out (.cells #[.string ⟨#[83, 116, 111, 112]⟩] 9)).size)).mono HB.out.size)⟩
set_option maxRecDepth 100000 in
set_option maxHeartbeats 1600000 in
theorem implFormatCall_Get (key : List UInt8) (v : Int) (text : List UInt8) (w : World) (hk : key.length ≤ maxLen) (ht : text.length ≤ 1048576) (hc : callB ⟨mGet, key, v, text⟩ = true) :
    Calls Try.prog 26 #[.agg #[.string ⟨#[71, 101, 116]⟩, .string ⟨key.toArray⟩, .int .i64 v, .string ⟨text.toArray⟩]] w fun e w' => e = .returned (.string ⟨(fmtCall ⟨mGet, key, v, text⟩).toArray⟩) ∧ Below w.heap.size w w' := by
  have HIC := Lib.hid (fun w0 => implIsCall_any ⟨mGet, key, v, text⟩ w0 hk)
  rw [hc] at HIC
  unfold vCall at HIC
  simp only at HIC
  obtain ⟨p1, p2, p3, p4, p5⟩ := callB_parts hc
  have HF := Lib.hid (fmtCall_yes hc)
  clear hc
  have hn := nameB_len8 (p1 rfl)
  obtain rfl : v = 0 := p4 rfl
  obtain rfl : text = [] := p5 rfl
  have HW := Lib.hid (show joinL [mGet, key] [32] = joinL (wordsC ⟨mGet, key, 0, []⟩) [32] from rfl)
  have HTK := Lib.hid (show ∀ w0, Calls Try.prog 65 #[.string ⟨#[71, 101, 116]⟩] w0 fun e w' => e = .returned (.bool true) ∧ w0 = w' from takesKey_b mGet _ rfl)
  have HTV := Lib.hid (show ∀ w0, Calls Try.prog 66 #[.string ⟨#[71, 101, 116]⟩] w0 fun e w' => e = .returned (.bool false) ∧ w0 = w' from takesValue_b mGet _ rfl)
  have HTT := Lib.hid (show ∀ w0, Calls Try.prog 67 #[.string ⟨#[71, 101, 116]⟩] w0 fun e w' => e = .returned (.bool false) ∧ w0 = w' from takesText_b mGet _ rfl)
  clear p1 p2 p3 p4 p5
  have HB0 := Lib.hid (show ∀ o, Below w.heap.size w (w.alloc o) from fun o => (Below.refl w.heap.size w).alloc (Nat.le_refl _) o)
  go_enter Try.func26, Try.ntmps26
  go_wp2_with fail
  refine (HIC.out _).mono ?_
  rintro e w1 ⟨rfl, hb⟩
  have HB := Lib.hid ((HB0.out _).trans (hb.mono (HB0.out _).size))
  obtain ⟨hcc, _⟩ := bcell hb
  simp at hcc
  have c0 := hcc w.heap.size 0 (by omega)
  have c1 := hcc w.heap.size 1 (by omega)
  have c2 := hcc w.heap.size 2 (by omega)
  have c3 := hcc w.heap.size 3 (by omega)
  simp at c0 c1 c2 c3
  have hlt : w.heap.size < w1.heap.size := by have h := hb.size; simp at h; omega
  have HLT := Lib.hid hlt
  clear hb hcc
  have HO0 := Lib.hid (owns_one w1 w1.heap.size ⟨#[71, 101, 116]⟩ (Nat.le_refl _))
  have HA0 := Lib.hid (show ∀ o, Below w1.heap.size w1 (w1.alloc o) from fun o => (Below.refl w1.heap.size w1).alloc (Nat.le_refl _) o)
  go_wp2_with (first | (at_builtin; go_loud (refine append_strs rfl _ _ rfl w1.heap.size _ [mGet] (key) _ (w1.heap.size + 1) (by rfl) (owns_alloc HO0.out _) rfl (cell_newS _ _ ⟨(key).toArray⟩ _ (by simp)) (by simp) ?_ ?_; (have h1 := (HA0.out (.cells #[.string ⟨#[71, 101, 116]⟩] 9)).size; (try simp at h1); (try simp); omega)); intro va1 xa1 hOa1 hga1; have Ba1 := Lib.hid (below_append ((HA0.out (.cells #[.string ⟨#[71, 101, 116]⟩] 9)).alloc (HA0.out (.cells #[.string ⟨#[71, 101, 116]⟩] 9)).size _) (owns_alloc HO0.out _) hga1 ((HA0.out (.cells #[.string ⟨#[71, 101, 116]⟩] 9)).alloc (HA0.out (.cells #[.string ⟨#[71, 101, 116]⟩] 9)).size _).size); have Oa1 := Lib.hid hOa1; clear hOa1 hga1; have da1_0 := (Ba1.out.cell (p := ⟨w.heap.size, 0, none⟩) HLT.out).trans c0; have da1_1 := (Ba1.out.cell (p := ⟨w.heap.size, 1, none⟩) HLT.out).trans c1; have da1_2 := (Ba1.out.cell (p := ⟨w.heap.size, 2, none⟩) HLT.out).trans c2; have da1_3 := (Ba1.out.cell (p := ⟨w.heap.size, 3, none⟩) HLT.out).trans c3) | (go_at_call 65; refine (HTK.out _).mono ?_; rintro e w8 ⟨rfl, rfl⟩) | (go_at_call 66; refine (HTV.out _).mono ?_; rintro e w8 ⟨rfl, rfl⟩) | (go_at_call 67; refine (HTT.out _).mono ?_; rintro e w8 ⟨rfl, rfl⟩))
  refine (implJoin_any _ [mGet, key] ⟨#[32]⟩ _ (owns_row Oa1.out (by simp)) (by rw [join2_len]; simp; omega) (by decide)).mono ?_
  rintro e w9 ⟨rfl, hb9⟩
  go_wp2_with fail
  go_ret
  exact ⟨ret_str (by rw [HF.out]; exact HW.out), HB.out.trans ((Ba1.out.trans (hb9.mono Ba1.out.size)).mono HB.out.size)⟩
set_option maxRecDepth 100000 in
set_option maxHeartbeats 1600000 in
theorem implFormatCall_Put (key : List UInt8) (v : Int) (text : List UInt8) (w : World) (hk : key.length ≤ maxLen) (ht : text.length ≤ 1048576) (hc : callB ⟨mPut, key, v, text⟩ = true) :
    Calls Try.prog 26 #[.agg #[.string ⟨#[80, 117, 116]⟩, .string ⟨key.toArray⟩, .int .i64 v, .string ⟨text.toArray⟩]] w fun e w' => e = .returned (.string ⟨(fmtCall ⟨mPut, key, v, text⟩).toArray⟩) ∧ Below w.heap.size w w' := by
  have HIC := Lib.hid (fun w0 => implIsCall_any ⟨mPut, key, v, text⟩ w0 hk)
  rw [hc] at HIC
  unfold vCall at HIC
  simp only at HIC
  obtain ⟨p1, p2, p3, p4, p5⟩ := callB_parts hc
  have HF := Lib.hid (fmtCall_yes hc)
  clear hc
  have hn := nameB_len8 (p1 rfl)
  obtain ⟨z, hz, hz9⟩ := numB_nat (p3 rfl)
  simp only at hz
  subst hz
  have hl3 := numL_len hz9
  have HFN := Lib.hid (fun w0 => implFormat_any z w0 (by omega) (by omega))
  obtain rfl : text = [] := p5 rfl
  have HW := Lib.hid (show joinL [mPut, key, numL z] [32] = joinL (wordsC ⟨mPut, key, (z : Int), []⟩) [32] from rfl)
  have HTK := Lib.hid (show ∀ w0, Calls Try.prog 65 #[.string ⟨#[80, 117, 116]⟩] w0 fun e w' => e = .returned (.bool true) ∧ w0 = w' from takesKey_b mPut _ rfl)
  have HTV := Lib.hid (show ∀ w0, Calls Try.prog 66 #[.string ⟨#[80, 117, 116]⟩] w0 fun e w' => e = .returned (.bool true) ∧ w0 = w' from takesValue_b mPut _ rfl)
  have HTT := Lib.hid (show ∀ w0, Calls Try.prog 67 #[.string ⟨#[80, 117, 116]⟩] w0 fun e w' => e = .returned (.bool false) ∧ w0 = w' from takesText_b mPut _ rfl)
  clear p1 p2 p3 p4 p5
  have HB0 := Lib.hid (show ∀ o, Below w.heap.size w (w.alloc o) from fun o => (Below.refl w.heap.size w).alloc (Nat.le_refl _) o)
  go_enter Try.func26, Try.ntmps26
  go_wp2_with fail
  refine (HIC.out _).mono ?_
  rintro e w1 ⟨rfl, hb⟩
  have HB := Lib.hid ((HB0.out _).trans (hb.mono (HB0.out _).size))
  obtain ⟨hcc, _⟩ := bcell hb
  simp at hcc
  have c0 := hcc w.heap.size 0 (by omega)
  have c1 := hcc w.heap.size 1 (by omega)
  have c2 := hcc w.heap.size 2 (by omega)
  have c3 := hcc w.heap.size 3 (by omega)
  simp at c0 c1 c2 c3
  have hlt : w.heap.size < w1.heap.size := by have h := hb.size; simp at h; omega
  have HLT := Lib.hid hlt
  clear hb hcc
  have HO0 := Lib.hid (owns_one w1 w1.heap.size ⟨#[80, 117, 116]⟩ (Nat.le_refl _))
  have HA0 := Lib.hid (show ∀ o, Below w1.heap.size w1 (w1.alloc o) from fun o => (Below.refl w1.heap.size w1).alloc (Nat.le_refl _) o)
  go_wp2_with (first | (at_builtin; go_loud (refine append_strs rfl _ _ rfl w1.heap.size _ [mPut] (key) _ (w1.heap.size + 1) (by rfl) (owns_alloc HO0.out _) rfl (cell_newS _ _ ⟨(key).toArray⟩ _ (by simp)) (by simp) ?_ ?_; (have h1 := (HA0.out (.cells #[.string ⟨#[80, 117, 116]⟩] 9)).size; (try simp at h1); (try simp); omega)); intro va1 xa1 hOa1 hga1; have Ba1 := Lib.hid (below_append ((HA0.out (.cells #[.string ⟨#[80, 117, 116]⟩] 9)).alloc (HA0.out (.cells #[.string ⟨#[80, 117, 116]⟩] 9)).size _) (owns_alloc HO0.out _) hga1 ((HA0.out (.cells #[.string ⟨#[80, 117, 116]⟩] 9)).alloc (HA0.out (.cells #[.string ⟨#[80, 117, 116]⟩] 9)).size _).size); have Oa1 := Lib.hid hOa1; clear hOa1 hga1; have da1_0 := (Ba1.out.cell (p := ⟨w.heap.size, 0, none⟩) HLT.out).trans c0; have da1_1 := (Ba1.out.cell (p := ⟨w.heap.size, 1, none⟩) HLT.out).trans c1; have da1_2 := (Ba1.out.cell (p := ⟨w.heap.size, 2, none⟩) HLT.out).trans c2; have da1_3 := (Ba1.out.cell (p := ⟨w.heap.size, 3, none⟩) HLT.out).trans c3) | (go_at_call 65; refine (HTK.out _).mono ?_; rintro e w8 ⟨rfl, rfl⟩) | (go_at_call 66; refine (HTV.out _).mono ?_; rintro e w8 ⟨rfl, rfl⟩) | (go_at_call 67; refine (HTT.out _).mono ?_; rintro e w8 ⟨rfl, rfl⟩))
  go_wp2_with (first | (go_at_call 65; refine (HTK.out _).mono ?_; rintro e w8 ⟨rfl, rfl⟩) | (go_at_call 66; refine (HTV.out _).mono ?_; rintro e w8 ⟨rfl, rfl⟩) | (go_at_call 67; refine (HTT.out _).mono ?_; rintro e w8 ⟨rfl, rfl⟩))
  refine (HFN.out _).mono ?_
  rintro e wf ⟨rfl, hbf⟩
  have Bf := Lib.hid (Ba1.out.trans (hbf.mono Ba1.out.size))
  have Of := Lib.hid (owns_below Oa1.out hbf (Nat.le_refl _))
  clear hbf
  have f0 := (Bf.out.cell (p := ⟨w.heap.size, 0, none⟩) HLT.out).trans c0
  have f1 := (Bf.out.cell (p := ⟨w.heap.size, 1, none⟩) HLT.out).trans c1
  have f2 := (Bf.out.cell (p := ⟨w.heap.size, 2, none⟩) HLT.out).trans c2
  have f3 := (Bf.out.cell (p := ⟨w.heap.size, 3, none⟩) HLT.out).trans c3
  go_wp2_with (first | (at_builtin; go_loud (refine append_strs rfl _ _ rfl w1.heap.size _ [mPut, key] (numL z) _ (wf.heap.size) (by rfl) (owns_alloc Of.out _) rfl (cell_newS _ _ ⟨(numL z).toArray⟩ _ (by simp)) (by simp) ?_ ?_; (have h1 := Bf.out.size; (try simp at h1); (try simp); omega)); intro va2 xa2 hOa2 hga2; have Ba2 := Lib.hid (below_append (Bf.out.alloc Bf.out.size _) (owns_alloc Of.out _) hga2 (Bf.out.alloc Bf.out.size _).size); have Oa2 := Lib.hid hOa2; clear hOa2 hga2; have da2_0 := (Ba2.out.cell (p := ⟨w.heap.size, 0, none⟩) HLT.out).trans c0; have da2_1 := (Ba2.out.cell (p := ⟨w.heap.size, 1, none⟩) HLT.out).trans c1; have da2_2 := (Ba2.out.cell (p := ⟨w.heap.size, 2, none⟩) HLT.out).trans c2; have da2_3 := (Ba2.out.cell (p := ⟨w.heap.size, 3, none⟩) HLT.out).trans c3) | (go_at_call 65; refine (HTK.out _).mono ?_; rintro e w8 ⟨rfl, rfl⟩) | (go_at_call 66; refine (HTV.out _).mono ?_; rintro e w8 ⟨rfl, rfl⟩) | (go_at_call 67; refine (HTT.out _).mono ?_; rintro e w8 ⟨rfl, rfl⟩))
  refine (implJoin_any _ [mPut, key, numL z] ⟨#[32]⟩ _ (owns_row Oa2.out (by simp)) (by rw [join3_len]; simp; omega) (by decide)).mono ?_
  rintro e w9 ⟨rfl, hb9⟩
  go_wp2_with fail
  go_ret
  exact ⟨ret_str (by rw [HF.out]; exact HW.out), HB.out.trans ((Ba2.out.trans (hb9.mono Ba2.out.size)).mono HB.out.size)⟩
set_option maxRecDepth 100000 in
set_option maxHeartbeats 1600000 in
theorem implFormatCall_Tell (key : List UInt8) (v : Int) (text : List UInt8) (w : World) (hk : key.length ≤ maxLen) (ht : text.length ≤ 1048576) (hc : callB ⟨mTell, key, v, text⟩ = true) :
    Calls Try.prog 26 #[.agg #[.string ⟨#[84, 101, 108, 108]⟩, .string ⟨key.toArray⟩, .int .i64 v, .string ⟨text.toArray⟩]] w fun e w' => e = .returned (.string ⟨(fmtCall ⟨mTell, key, v, text⟩).toArray⟩) ∧ Below w.heap.size w w' := by
  have HIC := Lib.hid (fun w0 => implIsCall_any ⟨mTell, key, v, text⟩ w0 hk)
  rw [hc] at HIC
  unfold vCall at HIC
  simp only at HIC
  obtain ⟨p1, p2, p3, p4, p5⟩ := callB_parts hc
  have HF := Lib.hid (fmtCall_yes hc)
  clear hc
  obtain rfl : key = [] := p2 rfl
  obtain rfl : v = 0 := p4 rfl
  obtain rfl : text = [] := p5 rfl
  have HW := Lib.hid (show joinL [mTell] [32] = joinL (wordsC ⟨mTell, [], 0, []⟩) [32] from rfl)
  have HTK := Lib.hid (show ∀ w0, Calls Try.prog 65 #[.string ⟨#[84, 101, 108, 108]⟩] w0 fun e w' => e = .returned (.bool false) ∧ w0 = w' from takesKey_b mTell _ rfl)
  have HTV := Lib.hid (show ∀ w0, Calls Try.prog 66 #[.string ⟨#[84, 101, 108, 108]⟩] w0 fun e w' => e = .returned (.bool false) ∧ w0 = w' from takesValue_b mTell _ rfl)
  have HTT := Lib.hid (show ∀ w0, Calls Try.prog 67 #[.string ⟨#[84, 101, 108, 108]⟩] w0 fun e w' => e = .returned (.bool false) ∧ w0 = w' from takesText_b mTell _ rfl)
  clear p1 p2 p3 p4 p5
  have HB0 := Lib.hid (show ∀ o, Below w.heap.size w (w.alloc o) from fun o => (Below.refl w.heap.size w).alloc (Nat.le_refl _) o)
  go_enter Try.func26, Try.ntmps26
  go_wp2_with fail
  refine (HIC.out _).mono ?_
  rintro e w1 ⟨rfl, hb⟩
  have HB := Lib.hid ((HB0.out _).trans (hb.mono (HB0.out _).size))
  obtain ⟨hcc, _⟩ := bcell hb
  simp at hcc
  have c0 := hcc w.heap.size 0 (by omega)
  have c1 := hcc w.heap.size 1 (by omega)
  have c2 := hcc w.heap.size 2 (by omega)
  have c3 := hcc w.heap.size 3 (by omega)
  simp at c0 c1 c2 c3
  have hlt : w.heap.size < w1.heap.size := by have h := hb.size; simp at h; omega
  have HLT := Lib.hid hlt
  clear hb hcc
  have HO0 := Lib.hid (owns_one w1 w1.heap.size ⟨#[84, 101, 108, 108]⟩ (Nat.le_refl _))
  have HA0 := Lib.hid (show ∀ o, Below w1.heap.size w1 (w1.alloc o) from fun o => (Below.refl w1.heap.size w1).alloc (Nat.le_refl _) o)
  go_wp2_with (first | (go_at_call 65; refine (HTK.out _).mono ?_; rintro e w8 ⟨rfl, rfl⟩) | (go_at_call 66; refine (HTV.out _).mono ?_; rintro e w8 ⟨rfl, rfl⟩) | (go_at_call 67; refine (HTT.out _).mono ?_; rintro e w8 ⟨rfl, rfl⟩))
  refine (implJoin_any _ [mTell] ⟨#[32]⟩ _ (owns_row HO0.out (by simp)) (by rw [joinL_one]; decide) (by decide)).mono ?_
  rintro e w9 ⟨rfl, hb9⟩
  go_wp2_with fail
  go_ret
  exact ⟨ret_str (by rw [HF.out]; exact HW.out), HB.out.trans (((HA0.out (.cells #[.string ⟨#[84, 101, 108, 108]⟩] 9)).trans (hb9.mono (HA0.out (.cells #[.string ⟨#[84, 101, 108, 108]⟩] 9)).size)).mono HB.out.size)⟩
set_option maxRecDepth 100000 in
set_option maxHeartbeats 1600000 in
theorem implFormatCall_Hear (key : List UInt8) (v : Int) (text : List UInt8) (w : World) (hk : key.length ≤ maxLen) (ht : text.length ≤ 1048576) (hc : callB ⟨mHear, key, v, text⟩ = true) :
    Calls Try.prog 26 #[.agg #[.string ⟨#[72, 101, 97, 114]⟩, .string ⟨key.toArray⟩, .int .i64 v, .string ⟨text.toArray⟩]] w fun e w' => e = .returned (.string ⟨(fmtCall ⟨mHear, key, v, text⟩).toArray⟩) ∧ Below w.heap.size w w' := by
  have HIC := Lib.hid (fun w0 => implIsCall_any ⟨mHear, key, v, text⟩ w0 hk)
  rw [hc] at HIC
  unfold vCall at HIC
  simp only at HIC
  obtain ⟨p1, p2, p3, p4, p5⟩ := callB_parts hc
  have HF := Lib.hid (fmtCall_yes hc)
  clear hc
  obtain rfl : key = [] := p2 rfl
  obtain ⟨z, hz, hz9⟩ := numB_nat (p3 rfl)
  simp only at hz
  subst hz
  have hl3 := numL_len hz9
  have HFN := Lib.hid (fun w0 => implFormat_any z w0 (by omega) (by omega))
  obtain rfl : text = [] := p5 rfl
  have HW := Lib.hid (show joinL [mHear, numL z] [32] = joinL (wordsC ⟨mHear, [], (z : Int), []⟩) [32] from rfl)
  have HTK := Lib.hid (show ∀ w0, Calls Try.prog 65 #[.string ⟨#[72, 101, 97, 114]⟩] w0 fun e w' => e = .returned (.bool false) ∧ w0 = w' from takesKey_b mHear _ rfl)
  have HTV := Lib.hid (show ∀ w0, Calls Try.prog 66 #[.string ⟨#[72, 101, 97, 114]⟩] w0 fun e w' => e = .returned (.bool true) ∧ w0 = w' from takesValue_b mHear _ rfl)
  have HTT := Lib.hid (show ∀ w0, Calls Try.prog 67 #[.string ⟨#[72, 101, 97, 114]⟩] w0 fun e w' => e = .returned (.bool false) ∧ w0 = w' from takesText_b mHear _ rfl)
  clear p1 p2 p3 p4 p5
  have HB0 := Lib.hid (show ∀ o, Below w.heap.size w (w.alloc o) from fun o => (Below.refl w.heap.size w).alloc (Nat.le_refl _) o)
  go_enter Try.func26, Try.ntmps26
  go_wp2_with fail
  refine (HIC.out _).mono ?_
  rintro e w1 ⟨rfl, hb⟩
  have HB := Lib.hid ((HB0.out _).trans (hb.mono (HB0.out _).size))
  obtain ⟨hcc, _⟩ := bcell hb
  simp at hcc
  have c0 := hcc w.heap.size 0 (by omega)
  have c1 := hcc w.heap.size 1 (by omega)
  have c2 := hcc w.heap.size 2 (by omega)
  have c3 := hcc w.heap.size 3 (by omega)
  simp at c0 c1 c2 c3
  have hlt : w.heap.size < w1.heap.size := by have h := hb.size; simp at h; omega
  have HLT := Lib.hid hlt
  clear hb hcc
  have HO0 := Lib.hid (owns_one w1 w1.heap.size ⟨#[72, 101, 97, 114]⟩ (Nat.le_refl _))
  have HA0 := Lib.hid (show ∀ o, Below w1.heap.size w1 (w1.alloc o) from fun o => (Below.refl w1.heap.size w1).alloc (Nat.le_refl _) o)
  go_wp2_with (first | (go_at_call 65; refine (HTK.out _).mono ?_; rintro e w8 ⟨rfl, rfl⟩) | (go_at_call 66; refine (HTV.out _).mono ?_; rintro e w8 ⟨rfl, rfl⟩) | (go_at_call 67; refine (HTT.out _).mono ?_; rintro e w8 ⟨rfl, rfl⟩))
  refine (HFN.out _).mono ?_
  rintro e wf ⟨rfl, hbf⟩
  have Bf := Lib.hid ((HA0.out (.cells #[.string ⟨#[72, 101, 97, 114]⟩] 9)).trans (hbf.mono (HA0.out (.cells #[.string ⟨#[72, 101, 97, 114]⟩] 9)).size))
  have Of := Lib.hid (owns_below HO0.out hbf (Nat.le_refl _))
  clear hbf
  have f0 := (Bf.out.cell (p := ⟨w.heap.size, 0, none⟩) HLT.out).trans c0
  have f1 := (Bf.out.cell (p := ⟨w.heap.size, 1, none⟩) HLT.out).trans c1
  have f2 := (Bf.out.cell (p := ⟨w.heap.size, 2, none⟩) HLT.out).trans c2
  have f3 := (Bf.out.cell (p := ⟨w.heap.size, 3, none⟩) HLT.out).trans c3
  go_wp2_with (first | (at_builtin; go_loud (refine append_strs rfl _ _ rfl w1.heap.size _ [mHear] (numL z) _ (wf.heap.size) (by rfl) (owns_alloc Of.out _) rfl (cell_newS _ _ ⟨(numL z).toArray⟩ _ (by simp)) (by simp) ?_ ?_; (have h1 := Bf.out.size; (try simp at h1); (try simp); omega)); intro va1 xa1 hOa1 hga1; have Ba1 := Lib.hid (below_append (Bf.out.alloc Bf.out.size _) (owns_alloc Of.out _) hga1 (Bf.out.alloc Bf.out.size _).size); have Oa1 := Lib.hid hOa1; clear hOa1 hga1; have da1_0 := (Ba1.out.cell (p := ⟨w.heap.size, 0, none⟩) HLT.out).trans c0; have da1_1 := (Ba1.out.cell (p := ⟨w.heap.size, 1, none⟩) HLT.out).trans c1; have da1_2 := (Ba1.out.cell (p := ⟨w.heap.size, 2, none⟩) HLT.out).trans c2; have da1_3 := (Ba1.out.cell (p := ⟨w.heap.size, 3, none⟩) HLT.out).trans c3) | (go_at_call 65; refine (HTK.out _).mono ?_; rintro e w8 ⟨rfl, rfl⟩) | (go_at_call 66; refine (HTV.out _).mono ?_; rintro e w8 ⟨rfl, rfl⟩) | (go_at_call 67; refine (HTT.out _).mono ?_; rintro e w8 ⟨rfl, rfl⟩))
  refine (implJoin_any _ [mHear, numL z] ⟨#[32]⟩ _ (owns_row Oa1.out (by simp)) (by rw [join2_len]; simp; omega) (by decide)).mono ?_
  rintro e w9 ⟨rfl, hb9⟩
  go_wp2_with fail
  go_ret
  exact ⟨ret_str (by rw [HF.out]; exact HW.out), HB.out.trans ((Ba1.out.trans (hb9.mono Ba1.out.size)).mono HB.out.size)⟩
set_option maxRecDepth 100000 in
set_option maxHeartbeats 1600000 in
theorem implFormatCall_Load (key : List UInt8) (v : Int) (text : List UInt8) (w : World) (hk : key.length ≤ maxLen) (ht : text.length ≤ 1048576) (hc : callB ⟨mLoad, key, v, text⟩ = true) :
    Calls Try.prog 26 #[.agg #[.string ⟨#[76, 111, 97, 100]⟩, .string ⟨key.toArray⟩, .int .i64 v, .string ⟨text.toArray⟩]] w fun e w' => e = .returned (.string ⟨(fmtCall ⟨mLoad, key, v, text⟩).toArray⟩) ∧ Below w.heap.size w w' := by
  have HIC := Lib.hid (fun w0 => implIsCall_any ⟨mLoad, key, v, text⟩ w0 hk)
  rw [hc] at HIC
  unfold vCall at HIC
  simp only at HIC
  obtain ⟨p1, p2, p3, p4, p5⟩ := callB_parts hc
  have HF := Lib.hid (fmtCall_yes hc)
  clear hc
  obtain rfl : key = [] := p2 rfl
  obtain rfl : v = 0 := p4 rfl
  have HW := Lib.hid (show joinL [mLoad, text] [32] = joinL (wordsC ⟨mLoad, [], 0, text⟩) [32] from rfl)
  have HTK := Lib.hid (show ∀ w0, Calls Try.prog 65 #[.string ⟨#[76, 111, 97, 100]⟩] w0 fun e w' => e = .returned (.bool false) ∧ w0 = w' from takesKey_b mLoad _ rfl)
  have HTV := Lib.hid (show ∀ w0, Calls Try.prog 66 #[.string ⟨#[76, 111, 97, 100]⟩] w0 fun e w' => e = .returned (.bool false) ∧ w0 = w' from takesValue_b mLoad _ rfl)
  have HTT := Lib.hid (show ∀ w0, Calls Try.prog 67 #[.string ⟨#[76, 111, 97, 100]⟩] w0 fun e w' => e = .returned (.bool true) ∧ w0 = w' from takesText_b mLoad _ rfl)
  clear p1 p2 p3 p4 p5
  have HB0 := Lib.hid (show ∀ o, Below w.heap.size w (w.alloc o) from fun o => (Below.refl w.heap.size w).alloc (Nat.le_refl _) o)
  go_enter Try.func26, Try.ntmps26
  go_wp2_with fail
  refine (HIC.out _).mono ?_
  rintro e w1 ⟨rfl, hb⟩
  have HB := Lib.hid ((HB0.out _).trans (hb.mono (HB0.out _).size))
  obtain ⟨hcc, _⟩ := bcell hb
  simp at hcc
  have c0 := hcc w.heap.size 0 (by omega)
  have c1 := hcc w.heap.size 1 (by omega)
  have c2 := hcc w.heap.size 2 (by omega)
  have c3 := hcc w.heap.size 3 (by omega)
  simp at c0 c1 c2 c3
  have hlt : w.heap.size < w1.heap.size := by have h := hb.size; simp at h; omega
  have HLT := Lib.hid hlt
  clear hb hcc
  have HO0 := Lib.hid (owns_one w1 w1.heap.size ⟨#[76, 111, 97, 100]⟩ (Nat.le_refl _))
  have HA0 := Lib.hid (show ∀ o, Below w1.heap.size w1 (w1.alloc o) from fun o => (Below.refl w1.heap.size w1).alloc (Nat.le_refl _) o)
  go_wp2_with (first | (at_builtin; go_loud (refine append_strs rfl _ _ rfl w1.heap.size _ [mLoad] (text) _ (w1.heap.size + 1) (by rfl) (owns_alloc HO0.out _) rfl (cell_newS _ _ ⟨(text).toArray⟩ _ (by simp)) (by simp) ?_ ?_; (have h1 := (HA0.out (.cells #[.string ⟨#[76, 111, 97, 100]⟩] 9)).size; (try simp at h1); (try simp); omega)); intro va1 xa1 hOa1 hga1; have Ba1 := Lib.hid (below_append ((HA0.out (.cells #[.string ⟨#[76, 111, 97, 100]⟩] 9)).alloc (HA0.out (.cells #[.string ⟨#[76, 111, 97, 100]⟩] 9)).size _) (owns_alloc HO0.out _) hga1 ((HA0.out (.cells #[.string ⟨#[76, 111, 97, 100]⟩] 9)).alloc (HA0.out (.cells #[.string ⟨#[76, 111, 97, 100]⟩] 9)).size _).size); have Oa1 := Lib.hid hOa1; clear hOa1 hga1; have da1_0 := (Ba1.out.cell (p := ⟨w.heap.size, 0, none⟩) HLT.out).trans c0; have da1_1 := (Ba1.out.cell (p := ⟨w.heap.size, 1, none⟩) HLT.out).trans c1; have da1_2 := (Ba1.out.cell (p := ⟨w.heap.size, 2, none⟩) HLT.out).trans c2; have da1_3 := (Ba1.out.cell (p := ⟨w.heap.size, 3, none⟩) HLT.out).trans c3) | (go_at_call 65; refine (HTK.out _).mono ?_; rintro e w8 ⟨rfl, rfl⟩) | (go_at_call 66; refine (HTV.out _).mono ?_; rintro e w8 ⟨rfl, rfl⟩) | (go_at_call 67; refine (HTT.out _).mono ?_; rintro e w8 ⟨rfl, rfl⟩))
  refine (implJoin_any _ [mLoad, text] ⟨#[32]⟩ _ (owns_row Oa1.out (by simp)) (by rw [join2_len]; simp; omega) (by decide)).mono ?_
  rintro e w9 ⟨rfl, hb9⟩
  go_wp2_with fail
  go_ret
  exact ⟨ret_str (by rw [HF.out]; exact HW.out), HB.out.trans ((Ba1.out.trans (hb9.mono Ba1.out.size)).mono HB.out.size)⟩
set_option maxRecDepth 100000 in
set_option maxHeartbeats 1600000 in
theorem implFormatCall_Save (key : List UInt8) (v : Int) (text : List UInt8) (w : World) (hk : key.length ≤ maxLen) (ht : text.length ≤ 1048576) (hc : callB ⟨mSave, key, v, text⟩ = true) :
    Calls Try.prog 26 #[.agg #[.string ⟨#[83, 97, 118, 101]⟩, .string ⟨key.toArray⟩, .int .i64 v, .string ⟨text.toArray⟩]] w fun e w' => e = .returned (.string ⟨(fmtCall ⟨mSave, key, v, text⟩).toArray⟩) ∧ Below w.heap.size w w' := by
  have HIC := Lib.hid (fun w0 => implIsCall_any ⟨mSave, key, v, text⟩ w0 hk)
  rw [hc] at HIC
  unfold vCall at HIC
  simp only at HIC
  obtain ⟨p1, p2, p3, p4, p5⟩ := callB_parts hc
  have HF := Lib.hid (fmtCall_yes hc)
  clear hc
  obtain rfl : key = [] := p2 rfl
  obtain rfl : v = 0 := p4 rfl
  obtain rfl : text = [] := p5 rfl
  have HW := Lib.hid (show joinL [mSave] [32] = joinL (wordsC ⟨mSave, [], 0, []⟩) [32] from rfl)
  have HTK := Lib.hid (show ∀ w0, Calls Try.prog 65 #[.string ⟨#[83, 97, 118, 101]⟩] w0 fun e w' => e = .returned (.bool false) ∧ w0 = w' from takesKey_b mSave _ rfl)
  have HTV := Lib.hid (show ∀ w0, Calls Try.prog 66 #[.string ⟨#[83, 97, 118, 101]⟩] w0 fun e w' => e = .returned (.bool false) ∧ w0 = w' from takesValue_b mSave _ rfl)
  have HTT := Lib.hid (show ∀ w0, Calls Try.prog 67 #[.string ⟨#[83, 97, 118, 101]⟩] w0 fun e w' => e = .returned (.bool false) ∧ w0 = w' from takesText_b mSave _ rfl)
  clear p1 p2 p3 p4 p5
  have HB0 := Lib.hid (show ∀ o, Below w.heap.size w (w.alloc o) from fun o => (Below.refl w.heap.size w).alloc (Nat.le_refl _) o)
  go_enter Try.func26, Try.ntmps26
  go_wp2_with fail
  refine (HIC.out _).mono ?_
  rintro e w1 ⟨rfl, hb⟩
  have HB := Lib.hid ((HB0.out _).trans (hb.mono (HB0.out _).size))
  obtain ⟨hcc, _⟩ := bcell hb
  simp at hcc
  have c0 := hcc w.heap.size 0 (by omega)
  have c1 := hcc w.heap.size 1 (by omega)
  have c2 := hcc w.heap.size 2 (by omega)
  have c3 := hcc w.heap.size 3 (by omega)
  simp at c0 c1 c2 c3
  have hlt : w.heap.size < w1.heap.size := by have h := hb.size; simp at h; omega
  have HLT := Lib.hid hlt
  clear hb hcc
  have HO0 := Lib.hid (owns_one w1 w1.heap.size ⟨#[83, 97, 118, 101]⟩ (Nat.le_refl _))
  have HA0 := Lib.hid (show ∀ o, Below w1.heap.size w1 (w1.alloc o) from fun o => (Below.refl w1.heap.size w1).alloc (Nat.le_refl _) o)
  go_wp2_with (first | (go_at_call 65; refine (HTK.out _).mono ?_; rintro e w8 ⟨rfl, rfl⟩) | (go_at_call 66; refine (HTV.out _).mono ?_; rintro e w8 ⟨rfl, rfl⟩) | (go_at_call 67; refine (HTT.out _).mono ?_; rintro e w8 ⟨rfl, rfl⟩))
  refine (implJoin_any _ [mSave] ⟨#[32]⟩ _ (owns_row HO0.out (by simp)) (by rw [joinL_one]; decide) (by decide)).mono ?_
  rintro e w9 ⟨rfl, hb9⟩
  go_wp2_with fail
  go_ret
  exact ⟨ret_str (by rw [HF.out]; exact HW.out), HB.out.trans (((HA0.out (.cells #[.string ⟨#[83, 97, 118, 101]⟩] 9)).trans (hb9.mono (HA0.out (.cells #[.string ⟨#[83, 97, 118, 101]⟩] 9)).size)).mono HB.out.size)⟩
set_option maxRecDepth 100000 in
set_option maxHeartbeats 1600000 in
theorem implFormatCall_Heal (key : List UInt8) (v : Int) (text : List UInt8) (w : World) (hk : key.length ≤ maxLen) (ht : text.length ≤ 1048576) (hc : callB ⟨mHeal, key, v, text⟩ = true) :
    Calls Try.prog 26 #[.agg #[.string ⟨#[72, 101, 97, 108]⟩, .string ⟨key.toArray⟩, .int .i64 v, .string ⟨text.toArray⟩]] w fun e w' => e = .returned (.string ⟨(fmtCall ⟨mHeal, key, v, text⟩).toArray⟩) ∧ Below w.heap.size w w' := by
  have HIC := Lib.hid (fun w0 => implIsCall_any ⟨mHeal, key, v, text⟩ w0 hk)
  rw [hc] at HIC
  unfold vCall at HIC
  simp only at HIC
  obtain ⟨p1, p2, p3, p4, p5⟩ := callB_parts hc
  have HF := Lib.hid (fmtCall_yes hc)
  clear hc
  obtain rfl : key = [] := p2 rfl
  obtain rfl : v = 0 := p4 rfl
  obtain rfl : text = [] := p5 rfl
  have HW := Lib.hid (show joinL [mHeal] [32] = joinL (wordsC ⟨mHeal, [], 0, []⟩) [32] from rfl)
  have HTK := Lib.hid (show ∀ w0, Calls Try.prog 65 #[.string ⟨#[72, 101, 97, 108]⟩] w0 fun e w' => e = .returned (.bool false) ∧ w0 = w' from takesKey_b mHeal _ rfl)
  have HTV := Lib.hid (show ∀ w0, Calls Try.prog 66 #[.string ⟨#[72, 101, 97, 108]⟩] w0 fun e w' => e = .returned (.bool false) ∧ w0 = w' from takesValue_b mHeal _ rfl)
  have HTT := Lib.hid (show ∀ w0, Calls Try.prog 67 #[.string ⟨#[72, 101, 97, 108]⟩] w0 fun e w' => e = .returned (.bool false) ∧ w0 = w' from takesText_b mHeal _ rfl)
  clear p1 p2 p3 p4 p5
  have HB0 := Lib.hid (show ∀ o, Below w.heap.size w (w.alloc o) from fun o => (Below.refl w.heap.size w).alloc (Nat.le_refl _) o)
  go_enter Try.func26, Try.ntmps26
  go_wp2_with fail
  refine (HIC.out _).mono ?_
  rintro e w1 ⟨rfl, hb⟩
  have HB := Lib.hid ((HB0.out _).trans (hb.mono (HB0.out _).size))
  obtain ⟨hcc, _⟩ := bcell hb
  simp at hcc
  have c0 := hcc w.heap.size 0 (by omega)
  have c1 := hcc w.heap.size 1 (by omega)
  have c2 := hcc w.heap.size 2 (by omega)
  have c3 := hcc w.heap.size 3 (by omega)
  simp at c0 c1 c2 c3
  have hlt : w.heap.size < w1.heap.size := by have h := hb.size; simp at h; omega
  have HLT := Lib.hid hlt
  clear hb hcc
  have HO0 := Lib.hid (owns_one w1 w1.heap.size ⟨#[72, 101, 97, 108]⟩ (Nat.le_refl _))
  have HA0 := Lib.hid (show ∀ o, Below w1.heap.size w1 (w1.alloc o) from fun o => (Below.refl w1.heap.size w1).alloc (Nat.le_refl _) o)
  go_wp2_with (first | (go_at_call 65; refine (HTK.out _).mono ?_; rintro e w8 ⟨rfl, rfl⟩) | (go_at_call 66; refine (HTV.out _).mono ?_; rintro e w8 ⟨rfl, rfl⟩) | (go_at_call 67; refine (HTT.out _).mono ?_; rintro e w8 ⟨rfl, rfl⟩))
  refine (implJoin_any _ [mHeal] ⟨#[32]⟩ _ (owns_row HO0.out (by simp)) (by rw [joinL_one]; decide) (by decide)).mono ?_
  rintro e w9 ⟨rfl, hb9⟩
  go_wp2_with fail
  go_ret
  exact ⟨ret_str (by rw [HF.out]; exact HW.out), HB.out.trans (((HA0.out (.cells #[.string ⟨#[72, 101, 97, 108]⟩] 9)).trans (hb9.mono (HA0.out (.cells #[.string ⟨#[72, 101, 97, 108]⟩] 9)).size)).mono HB.out.size)⟩
set_option maxHeartbeats 1600000 in
theorem implFormatCall_any (d : CallD) (w : World) (hk : d.fKey.length ≤ maxLen) (ht : d.fText.length ≤ 1048576) :
    Calls Try.prog 26 #[vCall d] w fun e w' => e = .returned (.string ⟨(fmtCall d).toArray⟩) ∧ Below w.heap.size w w' := by
  cases hc : callB d with
  | false =>
    have HF := Lib.hid (fmtCall_no hc)
    have HIC := Lib.hid (fun w0 => implIsCall_any d w0 hk)
    rw [hc] at HIC
    clear hc
    obtain ⟨m, key, v, text⟩ := d
    unfold vCall at *
    simp only at *
    have HB0 := Lib.hid (show ∀ o, Below w.heap.size w (w.alloc o) from fun o => (Below.refl w.heap.size w).alloc (Nat.le_refl _) o)
    go_enter Try.func26, Try.ntmps26
    go_wp2_with fail
    refine (HIC.out _).mono ?_
    rintro e w1 ⟨rfl, hb⟩
    have HB := Lib.hid ((HB0.out _).trans (hb.mono (HB0.out _).size))
    clear hb
    go_wp2_with fail
    go_ret
    exact ⟨ret_str (by rw [HF.out]), HB.out⟩
  | true =>
    obtain ⟨m, key, v, text⟩ := d
    rcases meth_cases m with rfl | rfl | rfl | rfl | rfl | rfl | rfl | rfl | rfl | ⟨hw, _⟩
    · exact implFormatCall_Start key v text w hk ht hc
    · exact implFormatCall_Stop key v text w hk ht hc
    · exact implFormatCall_Get key v text w hk ht hc
    · exact implFormatCall_Put key v text w hk ht hc
    · exact implFormatCall_Tell key v text w hk ht hc
    · exact implFormatCall_Hear key v text w hk ht hc
    · exact implFormatCall_Load key v text w hk ht hc
    · exact implFormatCall_Save key v text w hk ht hc
    · exact implFormatCall_Heal key v text w hk ht hc
    · exfalso; unfold callB at hc; simp only at hc; rw [hw] at hc; simp at hc
end Go.Proofs.Ytghebbndfpbkcac
/- Contracts of chapter 3: the program's readCall, ParseCall. -/
namespace Go.Proofs.Ytghebbndfpbkcac
set_option linter.unusedVariables false
set_option linter.unusedSimpArgs false
open Go.RowKit
theorem belN5 {B : Nat} {a w : World} (h : Below B a w) (n : Nat) : Below B a (w.drewN n) := ⟨h.os, h.tape, h.output, h.size, h.block⟩
theorem below_rest {w w2 X w3 : World} (h : Below w.heap.size w w2) (hb : Below X.heap.size X w3) (hX : Below w.heap.size w2 X) : Below w.heap.size w w3 := (h.trans hX).trans (hb.mono (h.trans hX).size)
theorem rdI_len (s : List UInt8) : (rdI s).fKey.length ≤ s.length ∧ (rdI s).fText.length ≤ s.length := by
  unfold rdI
  have h1 := cut_len s [32]
  have h2 := cut_len (Lib.cut s [32]).2.1 [32]
  simp only
  split
  · refine ⟨by omega, ?_⟩
    split
    · omega
    · simp
  · refine ⟨by simp, ?_⟩
    split
    · exact h1.2
    · simp
set_option maxRecDepth 100000 in
set_option maxHeartbeats 16000000 in
theorem implReadCall_any (s : ByteArray) (m : Int) (w : World) (hm : w.cell? ⟨0, 0, none⟩ = some (.int .i64 m)) (hs : s.size ≤ 1048576) :
    Calls Try.prog 64 #[.string s] w fun e w' => e = .returned (vCall (rdI s.data.toList)) ∧ Below w.heap.size w w' := by
  have HG := Lib.hid (World.block_lt_of_cell? w _ hm)
  have HM := Lib.hid hm
  clear hm
  have hcl := cut_len s.data.toList [32]
  rw [size_list] at hcl
  have HCT := Lib.hid (fun w0 hm0 => Try.strings_Cut s ⟨#[32]⟩ m w0 (by omega) hm0)
  rw [show (⟨#[32]⟩ : ByteArray).data.toList = [32] from rfl] at HCT
  have HR := Lib.hid (show rdI s.data.toList = (let c := Lib.cut s.data.toList [32]; let c2 := if takesK c.1 = true then Lib.cut c.2.1 [32] else ([], c.2.1, false); ⟨c.1, c2.1, if takesV c.1 = true then pnum c2.2.1 else 0, if takesT c.1 = true then c2.2.1 else []⟩) from rfl)
  generalize rdI s.data.toList = res at *
  generalize Lib.cut s.data.toList [32] = t at *
  obtain ⟨t1, t2, t3⟩ := t
  simp only at HCT HR hcl
  have hcl2 := cut_len t2 [32]
  have HC2 := Lib.hid (fun w0 hm0 => Try.strings_Cut ⟨t2.toArray⟩ ⟨#[32]⟩ m w0 (by rw [size_strB]; omega) hm0)
  rw [dataL, show (⟨#[32]⟩ : ByteArray).data.toList = [32] from rfl] at HC2
  generalize Lib.cut t2 [32] = q at *
  obtain ⟨q1, q2, q3⟩ := q
  simp only at HC2 HR hcl2
  have HTK := Lib.hid (takesKey_b t1 _ rfl)
  have HTV := Lib.hid (takesValue_b t1 _ rfl)
  have HTT := Lib.hid (takesText_b t1 _ rfl)
  have HP1 := Lib.hid (fun w0 => implParse_any ⟨t2.toArray⟩ w0 (by rw [size_strB]; unfold maxLen; omega))
  have HP2 := Lib.hid (fun w0 => implParse_any ⟨q2.toArray⟩ w0 (by rw [size_strB]; unfold maxLen; omega))
  simp only at HP1 HP2
  have HK1 := Lib.hid (fun w0 => copyText_any ⟨t1.toArray⟩ w0 (by rw [size_strB]; omega))
  have HK2 := Lib.hid (fun w0 => copyText_any ⟨q1.toArray⟩ w0 (by rw [size_strB]; omega))
  have HK3 := Lib.hid (fun w0 => copyText_any ⟨t2.toArray⟩ w0 (by rw [size_strB]; omega))
  have HK4 := Lib.hid (fun w0 => copyText_any ⟨q2.toArray⟩ w0 (by rw [size_strB]; omega))
  generalize takesK t1 = tk at *
  generalize takesV t1 = tv at *
  generalize takesT t1 = tt at *
  have HB0 := Lib.hid (show ∀ o, Below w.heap.size w (w.alloc o) from fun o => (Below.refl w.heap.size w).alloc (Nat.le_refl _) o)
  go_enter Try.func64, Try.ntmps64
  go_wp2_with fail
  refine (HCT.out _ (((HB0.out _).cell (p := ⟨0, 0, none⟩) HG.out).trans HM.out)).mono ?_
  rintro e w1 ⟨rfl, n1, rfl⟩
  go_wp2_with fail
  refine (HK1.out _).mono ?_
  rintro e w2 ⟨rfl, hb2⟩
  obtain ⟨hcc2, hff2⟩ := bcell hb2
  simp at hcc2 hff2
  have hsz2 := hb2.size
  simp at hsz2
  have r2_0 : w2.cell? ⟨w.heap.size, 0, none⟩ = some (.string ⟨#[]⟩) := by rw [hcc2 _ _ (by omega)]; simp
  have q2_0 : w2.frozen? ⟨w.heap.size, 0, none⟩ = false := by rw [hff2 _ _ (by omega)]; simp
  have r2_1 : w2.cell? ⟨w.heap.size, 1, none⟩ = some (.string ⟨#[]⟩) := by rw [hcc2 _ _ (by omega)]; simp
  have q2_1 : w2.frozen? ⟨w.heap.size, 1, none⟩ = false := by rw [hff2 _ _ (by omega)]; simp
  have r2_2 : w2.cell? ⟨w.heap.size, 2, none⟩ = some (.int .i64 0) := by rw [hcc2 _ _ (by omega)]; simp
  have q2_2 : w2.frozen? ⟨w.heap.size, 2, none⟩ = false := by rw [hff2 _ _ (by omega)]; simp
  have r2_3 : w2.cell? ⟨w.heap.size, 3, none⟩ = some (.string ⟨#[]⟩) := by rw [hcc2 _ _ (by omega)]; simp
  have q2_3 : w2.frozen? ⟨w.heap.size, 3, none⟩ = false := by rw [hff2 _ _ (by omega)]; simp
  clear hcc2 hff2
  have R2 := Lib.hid (show _ ∧ _ ∧ _ ∧ _ from ⟨r2_0, r2_1, r2_2, r2_3⟩)
  have Q2 := Lib.hid (show _ ∧ _ ∧ _ ∧ _ from ⟨q2_0, q2_1, q2_2, q2_3⟩)
  have hlt : w.heap.size < w2.heap.size := by omega
  have hne : ¬ w.heap.size = w2.heap.size := by omega
  have hne2 : ¬ w2.heap.size = w.heap.size := by omega
  have HB2 := Lib.hid ((belN5 (HB0.out _) n1).trans (hb2.mono (belN5 (HB0.out _) n1).size))
  have HA2 := Lib.hid (show ∀ o, Below w2.heap.size w2 (w2.alloc o) from fun o => (Below.refl w2.heap.size w2).alloc (Nat.le_refl _) o)
  clear hb2
  cases tk with
  | true =>
    go_wp2_with (first | (go_at_call 65; (with_reducible refine (HTK.out _).mono ?_); rintro e w' ⟨rfl, rfl⟩))
    refine (HC2.out _ (((HB2.out.trans ((HA2.out _).mono HB2.out.size)).cell (p := ⟨0, 0, none⟩) HG.out).trans HM.out)).mono ?_
    rintro e w3 ⟨rfl, n2, rfl⟩
    go_wp2_with fail
    refine (HK2.out _).mono ?_
    rintro e w3 ⟨rfl, hb3⟩
    have HB3 := Lib.hid (HB2.out.trans (((belN5 (HA2.out _) n2).trans (hb3.mono (belN5 (HA2.out _) n2).size)).mono HB2.out.size))
    obtain ⟨hcc3, hff3⟩ := bcell hb3
    simp at hcc3 hff3
    have hsz3 := hb3.size
    simp at hsz3
    have H3 := below_rest (w := w2) (w2 := w2) (Below.refl _ _) hb3 (by repeat (first | exact Below.refl _ _ | refine Below.alloc ?_ (by first | omega | (simp; try omega)) _ | refine Below.setCell ?_ (by first | omega | (simp; try omega)) _ | refine belN5 ?_ _))
    have r3_0 := (H3.cell (p := ⟨w.heap.size, 0, none⟩) hlt).trans R2.out.1
    have q3_0 := (H3.frozen (p := ⟨w.heap.size, 0, none⟩) hlt).trans Q2.out.1
    have x3_0 : w3.cell? ⟨w2.heap.size, 0, none⟩ = some (.string ⟨t1.toArray⟩) := by rw [hcc3 _ _ (by omega)]; simp
    have y3_0 : w3.frozen? ⟨w2.heap.size, 0, none⟩ = false := by rw [hff3 _ _ (by omega)]; simp
    have r3_1 := (H3.cell (p := ⟨w.heap.size, 1, none⟩) hlt).trans R2.out.2.1
    have q3_1 := (H3.frozen (p := ⟨w.heap.size, 1, none⟩) hlt).trans Q2.out.2.1
    have x3_1 : w3.cell? ⟨w2.heap.size, 1, none⟩ = some (.string ⟨#[]⟩) := by rw [hcc3 _ _ (by omega)]; simp
    have y3_1 : w3.frozen? ⟨w2.heap.size, 1, none⟩ = false := by rw [hff3 _ _ (by omega)]; simp
    have r3_2 := (H3.cell (p := ⟨w.heap.size, 2, none⟩) hlt).trans R2.out.2.2.1
    have q3_2 := (H3.frozen (p := ⟨w.heap.size, 2, none⟩) hlt).trans Q2.out.2.2.1
    have x3_2 : w3.cell? ⟨w2.heap.size, 2, none⟩ = some (.int .i64 0) := by rw [hcc3 _ _ (by omega)]; simp
    have y3_2 : w3.frozen? ⟨w2.heap.size, 2, none⟩ = false := by rw [hff3 _ _ (by omega)]; simp
    have r3_3 := (H3.cell (p := ⟨w.heap.size, 3, none⟩) hlt).trans R2.out.2.2.2
    have q3_3 := (H3.frozen (p := ⟨w.heap.size, 3, none⟩) hlt).trans Q2.out.2.2.2
    have x3_3 : w3.cell? ⟨w2.heap.size, 3, none⟩ = some (.string ⟨#[]⟩) := by rw [hcc3 _ _ (by omega)]; simp
    have y3_3 : w3.frozen? ⟨w2.heap.size, 3, none⟩ = false := by rw [hff3 _ _ (by omega)]; simp
    clear hcc3 hff3
    clear r2_0 r2_1 r2_2 r2_3 q2_0 q2_1 q2_2 q2_3
    clear hb3
    cases tv <;> cases tt
    · go_wp2_with (first | (go_at_call 66; (with_reducible refine (HTV.out _).mono ?_); rintro e w' ⟨rfl, rfl⟩) | (go_at_call 67; (with_reducible refine (HTT.out _).mono ?_); rintro e w' ⟨rfl, rfl⟩))
      refine bodyPost_ret (v := .agg #[.string ⟨t1.toArray⟩, .string ⟨q1.toArray⟩, .int .i64 0, .string ⟨#[]⟩]) (by simp [results, Try.results64, go_sem, r3_0, r3_1, r3_2, r3_3]) rfl ⟨by rw [HR.out]; rfl, ?_⟩
      refine Below.trans HB3.out ?_
      repeat (first | exact Below.refl _ _ | refine Below.alloc ?_ (by first | omega | (simp; try omega)) _ | refine Below.setCell ?_ (by first | omega | (simp; try omega)) _)
    · go_wp2_with (first | (go_at_call 66; (with_reducible refine (HTV.out _).mono ?_); rintro e w' ⟨rfl, rfl⟩) | (go_at_call 67; (with_reducible refine (HTT.out _).mono ?_); rintro e w' ⟨rfl, rfl⟩))
      refine (HK4.out _).mono ?_
      rintro e w4 ⟨rfl, hb4⟩
      obtain ⟨hcc4, hff4⟩ := bcell hb4
      simp at hcc4 hff4
      have hsz4 := hb4.size
      simp at hsz4
      have H4 := below_rest (w := w2) H3 hb4 (by repeat (first | exact Below.refl _ _ | refine Below.alloc ?_ (by first | omega | (simp; try omega)) _ | refine Below.setCell ?_ (by first | omega | (simp; try omega)) _ | refine belN5 ?_ _))
      have r4_0 := (H4.cell (p := ⟨w.heap.size, 0, none⟩) hlt).trans R2.out.1
      have q4_0 := (H4.frozen (p := ⟨w.heap.size, 0, none⟩) hlt).trans Q2.out.1
      have x4_0 : w4.cell? ⟨w2.heap.size, 0, none⟩ = some (.string ⟨t1.toArray⟩) := by rw [hcc4 _ _ (by omega)]; simp [go_sem, x3_0]
      have y4_0 : w4.frozen? ⟨w2.heap.size, 0, none⟩ = false := by rw [hff4 _ _ (by omega)]; simp [go_sem, y3_0]
      have r4_1 := (H4.cell (p := ⟨w.heap.size, 1, none⟩) hlt).trans R2.out.2.1
      have q4_1 := (H4.frozen (p := ⟨w.heap.size, 1, none⟩) hlt).trans Q2.out.2.1
      have x4_1 : w4.cell? ⟨w2.heap.size, 1, none⟩ = some (.string ⟨q1.toArray⟩) := by rw [hcc4 _ _ (by omega)]; simp [go_sem, x3_1]
      have y4_1 : w4.frozen? ⟨w2.heap.size, 1, none⟩ = false := by rw [hff4 _ _ (by omega)]; simp [go_sem, y3_1]
      have r4_2 := (H4.cell (p := ⟨w.heap.size, 2, none⟩) hlt).trans R2.out.2.2.1
      have q4_2 := (H4.frozen (p := ⟨w.heap.size, 2, none⟩) hlt).trans Q2.out.2.2.1
      have x4_2 : w4.cell? ⟨w2.heap.size, 2, none⟩ = some (.int .i64 0) := by rw [hcc4 _ _ (by omega)]; simp [go_sem, x3_2]
      have y4_2 : w4.frozen? ⟨w2.heap.size, 2, none⟩ = false := by rw [hff4 _ _ (by omega)]; simp [go_sem, y3_2]
      have r4_3 := (H4.cell (p := ⟨w.heap.size, 3, none⟩) hlt).trans R2.out.2.2.2
      have q4_3 := (H4.frozen (p := ⟨w.heap.size, 3, none⟩) hlt).trans Q2.out.2.2.2
      have x4_3 : w4.cell? ⟨w2.heap.size, 3, none⟩ = some (.string ⟨#[]⟩) := by rw [hcc4 _ _ (by omega)]; simp [go_sem, x3_3]
      have y4_3 : w4.frozen? ⟨w2.heap.size, 3, none⟩ = false := by rw [hff4 _ _ (by omega)]; simp [go_sem, y3_3]
      clear hcc4 hff4
      clear r3_0 r3_1 r3_2 r3_3 q3_0 q3_1 q3_2 q3_3 x3_0 x3_1 x3_2 x3_3 y3_0 y3_1 y3_2 y3_3
      have HB4 := Lib.hid (below_rest HB3.out hb4 (by repeat (first | exact Below.refl _ _ | refine Below.alloc ?_ (by first | omega | (simp; try omega)) _ | refine Below.setCell ?_ (by first | omega | (simp; try omega)) _)))
      clear hb4
      go_wp2_with fail
      refine bodyPost_ret (v := .agg #[.string ⟨t1.toArray⟩, .string ⟨q1.toArray⟩, .int .i64 0, .string ⟨q2.toArray⟩]) (by simp [results, Try.results64, go_sem, r4_0, r4_1, r4_2, r4_3]) rfl ⟨by rw [HR.out]; rfl, ?_⟩
      refine Below.trans HB4.out ?_
      repeat (first | exact Below.refl _ _ | refine Below.alloc ?_ (by first | omega | (simp; try omega)) _ | refine Below.setCell ?_ (by first | omega | (simp; try omega)) _)
    · go_wp2_with (first | (go_at_call 66; (with_reducible refine (HTV.out _).mono ?_); rintro e w' ⟨rfl, rfl⟩) | (go_at_call 67; (with_reducible refine (HTT.out _).mono ?_); rintro e w' ⟨rfl, rfl⟩) | (go_at_call 102; (with_reducible refine (HP2.out _).mono ?_); rintro e w' ⟨rfl, rfl⟩))
      refine bodyPost_ret (v := .agg #[.string ⟨t1.toArray⟩, .string ⟨q1.toArray⟩, .int .i64 (pnum q2), .string ⟨#[]⟩]) (by simp [results, Try.results64, go_sem, r3_0, r3_1, r3_2, r3_3]) rfl ⟨by rw [HR.out]; rfl, ?_⟩
      refine Below.trans HB3.out ?_
      repeat (first | exact Below.refl _ _ | refine Below.alloc ?_ (by first | omega | (simp; try omega)) _ | refine Below.setCell ?_ (by first | omega | (simp; try omega)) _)
    · go_wp2_with (first | (go_at_call 66; (with_reducible refine (HTV.out _).mono ?_); rintro e w' ⟨rfl, rfl⟩) | (go_at_call 67; (with_reducible refine (HTT.out _).mono ?_); rintro e w' ⟨rfl, rfl⟩) | (go_at_call 102; (with_reducible refine (HP2.out _).mono ?_); rintro e w' ⟨rfl, rfl⟩))
      refine (HK4.out _).mono ?_
      rintro e w4 ⟨rfl, hb4⟩
      obtain ⟨hcc4, hff4⟩ := bcell hb4
      simp at hcc4 hff4
      have hsz4 := hb4.size
      simp at hsz4
      have H4 := below_rest (w := w2) H3 hb4 (by repeat (first | exact Below.refl _ _ | refine Below.alloc ?_ (by first | omega | (simp; try omega)) _ | refine Below.setCell ?_ (by first | omega | (simp; try omega)) _ | refine belN5 ?_ _))
      have r4_0 := (H4.cell (p := ⟨w.heap.size, 0, none⟩) hlt).trans R2.out.1
      have q4_0 := (H4.frozen (p := ⟨w.heap.size, 0, none⟩) hlt).trans Q2.out.1
      have x4_0 : w4.cell? ⟨w2.heap.size, 0, none⟩ = some (.string ⟨t1.toArray⟩) := by rw [hcc4 _ _ (by omega)]; simp [go_sem, x3_0]
      have y4_0 : w4.frozen? ⟨w2.heap.size, 0, none⟩ = false := by rw [hff4 _ _ (by omega)]; simp [go_sem, y3_0]
      have r4_1 := (H4.cell (p := ⟨w.heap.size, 1, none⟩) hlt).trans R2.out.2.1
      have q4_1 := (H4.frozen (p := ⟨w.heap.size, 1, none⟩) hlt).trans Q2.out.2.1
      have x4_1 : w4.cell? ⟨w2.heap.size, 1, none⟩ = some (.string ⟨q1.toArray⟩) := by rw [hcc4 _ _ (by omega)]; simp [go_sem, x3_1]
      have y4_1 : w4.frozen? ⟨w2.heap.size, 1, none⟩ = false := by rw [hff4 _ _ (by omega)]; simp [go_sem, y3_1]
      have r4_2 := (H4.cell (p := ⟨w.heap.size, 2, none⟩) hlt).trans R2.out.2.2.1
      have q4_2 := (H4.frozen (p := ⟨w.heap.size, 2, none⟩) hlt).trans Q2.out.2.2.1
      have x4_2 : w4.cell? ⟨w2.heap.size, 2, none⟩ = some (.int .i64 (pnum q2)) := by rw [hcc4 _ _ (by omega)]; simp [go_sem, x3_2]
      have y4_2 : w4.frozen? ⟨w2.heap.size, 2, none⟩ = false := by rw [hff4 _ _ (by omega)]; simp [go_sem, y3_2]
      have r4_3 := (H4.cell (p := ⟨w.heap.size, 3, none⟩) hlt).trans R2.out.2.2.2
      have q4_3 := (H4.frozen (p := ⟨w.heap.size, 3, none⟩) hlt).trans Q2.out.2.2.2
      have x4_3 : w4.cell? ⟨w2.heap.size, 3, none⟩ = some (.string ⟨#[]⟩) := by rw [hcc4 _ _ (by omega)]; simp [go_sem, x3_3]
      have y4_3 : w4.frozen? ⟨w2.heap.size, 3, none⟩ = false := by rw [hff4 _ _ (by omega)]; simp [go_sem, y3_3]
      clear hcc4 hff4
      clear r3_0 r3_1 r3_2 r3_3 q3_0 q3_1 q3_2 q3_3 x3_0 x3_1 x3_2 x3_3 y3_0 y3_1 y3_2 y3_3
      have HB4 := Lib.hid (below_rest HB3.out hb4 (by repeat (first | exact Below.refl _ _ | refine Below.alloc ?_ (by first | omega | (simp; try omega)) _ | refine Below.setCell ?_ (by first | omega | (simp; try omega)) _)))
      clear hb4
      go_wp2_with fail
      refine bodyPost_ret (v := .agg #[.string ⟨t1.toArray⟩, .string ⟨q1.toArray⟩, .int .i64 (pnum q2), .string ⟨q2.toArray⟩]) (by simp [results, Try.results64, go_sem, r4_0, r4_1, r4_2, r4_3]) rfl ⟨by rw [HR.out]; rfl, ?_⟩
      refine Below.trans HB4.out ?_
      repeat (first | exact Below.refl _ _ | refine Below.alloc ?_ (by first | omega | (simp; try omega)) _ | refine Below.setCell ?_ (by first | omega | (simp; try omega)) _)
  | false =>
    cases tv <;> cases tt
    · go_wp2_with (first | (go_at_call 65; (with_reducible refine (HTK.out _).mono ?_); rintro e w' ⟨rfl, rfl⟩) | (go_at_call 66; (with_reducible refine (HTV.out _).mono ?_); rintro e w' ⟨rfl, rfl⟩) | (go_at_call 67; (with_reducible refine (HTT.out _).mono ?_); rintro e w' ⟨rfl, rfl⟩))
      refine bodyPost_ret (v := .agg #[.string ⟨t1.toArray⟩, .string ⟨#[]⟩, .int .i64 0, .string ⟨#[]⟩]) (by simp [results, Try.results64, go_sem, hlt, hne, hne2, r2_0, r2_1, r2_2, r2_3, q2_0, q2_1, q2_2, q2_3]) rfl ⟨by rw [HR.out]; rfl, ?_⟩
      refine Below.trans HB2.out ?_
      repeat (first | exact Below.refl _ _ | refine Below.alloc ?_ (by first | omega | (simp; try omega)) _ | refine Below.setCell ?_ (by first | omega | (simp; try omega)) _)
    · go_wp2_with (first | (go_at_call 65; (with_reducible refine (HTK.out _).mono ?_); rintro e w' ⟨rfl, rfl⟩) | (go_at_call 66; (with_reducible refine (HTV.out _).mono ?_); rintro e w' ⟨rfl, rfl⟩) | (go_at_call 67; (with_reducible refine (HTT.out _).mono ?_); rintro e w' ⟨rfl, rfl⟩))
      refine (HK3.out _).mono ?_
      rintro e w3 ⟨rfl, hb3⟩
      obtain ⟨hcc3, hff3⟩ := bcell hb3
      simp at hcc3 hff3
      have hsz3 := hb3.size
      simp at hsz3
      have H3 := below_rest (w := w2) (w2 := w2) (Below.refl _ _) hb3 (by repeat (first | exact Below.refl _ _ | refine Below.alloc ?_ (by first | omega | (simp; try omega)) _ | refine Below.setCell ?_ (by first | omega | (simp; try omega)) _ | refine belN5 ?_ _))
      have r3_0 := (H3.cell (p := ⟨w.heap.size, 0, none⟩) hlt).trans R2.out.1
      have q3_0 := (H3.frozen (p := ⟨w.heap.size, 0, none⟩) hlt).trans Q2.out.1
      have x3_0 : w3.cell? ⟨w2.heap.size, 0, none⟩ = some (.string ⟨t1.toArray⟩) := by rw [hcc3 _ _ (by omega)]; simp
      have y3_0 : w3.frozen? ⟨w2.heap.size, 0, none⟩ = false := by rw [hff3 _ _ (by omega)]; simp
      have r3_1 := (H3.cell (p := ⟨w.heap.size, 1, none⟩) hlt).trans R2.out.2.1
      have q3_1 := (H3.frozen (p := ⟨w.heap.size, 1, none⟩) hlt).trans Q2.out.2.1
      have x3_1 : w3.cell? ⟨w2.heap.size, 1, none⟩ = some (.string ⟨#[]⟩) := by rw [hcc3 _ _ (by omega)]; simp
      have y3_1 : w3.frozen? ⟨w2.heap.size, 1, none⟩ = false := by rw [hff3 _ _ (by omega)]; simp
      have r3_2 := (H3.cell (p := ⟨w.heap.size, 2, none⟩) hlt).trans R2.out.2.2.1
      have q3_2 := (H3.frozen (p := ⟨w.heap.size, 2, none⟩) hlt).trans Q2.out.2.2.1
      have x3_2 : w3.cell? ⟨w2.heap.size, 2, none⟩ = some (.int .i64 0) := by rw [hcc3 _ _ (by omega)]; simp
      have y3_2 : w3.frozen? ⟨w2.heap.size, 2, none⟩ = false := by rw [hff3 _ _ (by omega)]; simp
      have r3_3 := (H3.cell (p := ⟨w.heap.size, 3, none⟩) hlt).trans R2.out.2.2.2
      have q3_3 := (H3.frozen (p := ⟨w.heap.size, 3, none⟩) hlt).trans Q2.out.2.2.2
      have x3_3 : w3.cell? ⟨w2.heap.size, 3, none⟩ = some (.string ⟨#[]⟩) := by rw [hcc3 _ _ (by omega)]; simp
      have y3_3 : w3.frozen? ⟨w2.heap.size, 3, none⟩ = false := by rw [hff3 _ _ (by omega)]; simp
      clear hcc3 hff3
      clear r2_0 r2_1 r2_2 r2_3 q2_0 q2_1 q2_2 q2_3
      have HB3 := Lib.hid (below_rest HB2.out hb3 (by repeat (first | exact Below.refl _ _ | refine Below.alloc ?_ (by first | omega | (simp; try omega)) _ | refine Below.setCell ?_ (by first | omega | (simp; try omega)) _)))
      clear hb3
      go_wp2_with fail
      refine bodyPost_ret (v := .agg #[.string ⟨t1.toArray⟩, .string ⟨#[]⟩, .int .i64 0, .string ⟨t2.toArray⟩]) (by simp [results, Try.results64, go_sem, r3_0, r3_1, r3_2, r3_3]) rfl ⟨by rw [HR.out]; rfl, ?_⟩
      refine Below.trans HB3.out ?_
      repeat (first | exact Below.refl _ _ | refine Below.alloc ?_ (by first | omega | (simp; try omega)) _ | refine Below.setCell ?_ (by first | omega | (simp; try omega)) _)
    · go_wp2_with (first | (go_at_call 65; (with_reducible refine (HTK.out _).mono ?_); rintro e w' ⟨rfl, rfl⟩) | (go_at_call 66; (with_reducible refine (HTV.out _).mono ?_); rintro e w' ⟨rfl, rfl⟩) | (go_at_call 67; (with_reducible refine (HTT.out _).mono ?_); rintro e w' ⟨rfl, rfl⟩) | (go_at_call 102; (with_reducible refine (HP1.out _).mono ?_); rintro e w' ⟨rfl, rfl⟩))
      refine bodyPost_ret (v := .agg #[.string ⟨t1.toArray⟩, .string ⟨#[]⟩, .int .i64 (pnum t2), .string ⟨#[]⟩]) (by simp [results, Try.results64, go_sem, hlt, hne, hne2, r2_0, r2_1, r2_2, r2_3, q2_0, q2_1, q2_2, q2_3]) rfl ⟨by rw [HR.out]; rfl, ?_⟩
      refine Below.trans HB2.out ?_
      repeat (first | exact Below.refl _ _ | refine Below.alloc ?_ (by first | omega | (simp; try omega)) _ | refine Below.setCell ?_ (by first | omega | (simp; try omega)) _)
    · go_wp2_with (first | (go_at_call 65; (with_reducible refine (HTK.out _).mono ?_); rintro e w' ⟨rfl, rfl⟩) | (go_at_call 66; (with_reducible refine (HTV.out _).mono ?_); rintro e w' ⟨rfl, rfl⟩) | (go_at_call 67; (with_reducible refine (HTT.out _).mono ?_); rintro e w' ⟨rfl, rfl⟩) | (go_at_call 102; (with_reducible refine (HP1.out _).mono ?_); rintro e w' ⟨rfl, rfl⟩))
      refine (HK3.out _).mono ?_
      rintro e w3 ⟨rfl, hb3⟩
      obtain ⟨hcc3, hff3⟩ := bcell hb3
      simp at hcc3 hff3
      have hsz3 := hb3.size
      simp at hsz3
      have H3 := below_rest (w := w2) (w2 := w2) (Below.refl _ _) hb3 (by repeat (first | exact Below.refl _ _ | refine Below.alloc ?_ (by first | omega | (simp; try omega)) _ | refine Below.setCell ?_ (by first | omega | (simp; try omega)) _ | refine belN5 ?_ _))
      have r3_0 := (H3.cell (p := ⟨w.heap.size, 0, none⟩) hlt).trans R2.out.1
      have q3_0 := (H3.frozen (p := ⟨w.heap.size, 0, none⟩) hlt).trans Q2.out.1
      have x3_0 : w3.cell? ⟨w2.heap.size, 0, none⟩ = some (.string ⟨t1.toArray⟩) := by rw [hcc3 _ _ (by omega)]; simp
      have y3_0 : w3.frozen? ⟨w2.heap.size, 0, none⟩ = false := by rw [hff3 _ _ (by omega)]; simp
      have r3_1 := (H3.cell (p := ⟨w.heap.size, 1, none⟩) hlt).trans R2.out.2.1
      have q3_1 := (H3.frozen (p := ⟨w.heap.size, 1, none⟩) hlt).trans Q2.out.2.1
      have x3_1 : w3.cell? ⟨w2.heap.size, 1, none⟩ = some (.string ⟨#[]⟩) := by rw [hcc3 _ _ (by omega)]; simp
      have y3_1 : w3.frozen? ⟨w2.heap.size, 1, none⟩ = false := by rw [hff3 _ _ (by omega)]; simp
      have r3_2 := (H3.cell (p := ⟨w.heap.size, 2, none⟩) hlt).trans R2.out.2.2.1
      have q3_2 := (H3.frozen (p := ⟨w.heap.size, 2, none⟩) hlt).trans Q2.out.2.2.1
      have x3_2 : w3.cell? ⟨w2.heap.size, 2, none⟩ = some (.int .i64 (pnum t2)) := by rw [hcc3 _ _ (by omega)]; simp
      have y3_2 : w3.frozen? ⟨w2.heap.size, 2, none⟩ = false := by rw [hff3 _ _ (by omega)]; simp
      have r3_3 := (H3.cell (p := ⟨w.heap.size, 3, none⟩) hlt).trans R2.out.2.2.2
      have q3_3 := (H3.frozen (p := ⟨w.heap.size, 3, none⟩) hlt).trans Q2.out.2.2.2
      have x3_3 : w3.cell? ⟨w2.heap.size, 3, none⟩ = some (.string ⟨#[]⟩) := by rw [hcc3 _ _ (by omega)]; simp
      have y3_3 : w3.frozen? ⟨w2.heap.size, 3, none⟩ = false := by rw [hff3 _ _ (by omega)]; simp
      clear hcc3 hff3
      clear r2_0 r2_1 r2_2 r2_3 q2_0 q2_1 q2_2 q2_3
      have HB3 := Lib.hid (below_rest HB2.out hb3 (by repeat (first | exact Below.refl _ _ | refine Below.alloc ?_ (by first | omega | (simp; try omega)) _ | refine Below.setCell ?_ (by first | omega | (simp; try omega)) _)))
      clear hb3
      go_wp2_with fail
      refine bodyPost_ret (v := .agg #[.string ⟨t1.toArray⟩, .string ⟨#[]⟩, .int .i64 (pnum t2), .string ⟨t2.toArray⟩]) (by simp [results, Try.results64, go_sem, r3_0, r3_1, r3_2, r3_3]) rfl ⟨by rw [HR.out]; rfl, ?_⟩
      refine Below.trans HB3.out ?_
      repeat (first | exact Below.refl _ _ | refine Below.alloc ?_ (by first | omega | (simp; try omega)) _ | refine Below.setCell ?_ (by first | omega | (simp; try omega)) _)
-- END OF readCall
end Go.Proofs.Ytghebbndfpbkcac
/- Contracts of chapter 3: the program's ParseCall. -/
namespace Go.Proofs.Ytghebbndfpbkcac
set_option linter.unusedVariables false
open Go.RowKit
theorem belR {w1 X w2 : World} (h : Below w1.heap.size w1 X) (hb : Below X.heap.size X w2) : Below w1.heap.size w1 w2 := h.trans (hb.mono h.size)
set_option maxRecDepth 100000 in
set_option maxHeartbeats 6400000 in
theorem implParseCall_any (s : ByteArray) (m : Int) (w : World) (hm : w.cell? ⟨0, 0, none⟩ = some (.int .i64 m)) (hs : s.size ≤ 1048576) :
    Calls Try.prog 25 #[.string s] w fun e w' => GivesCall (prsK s.data.toList) (prsKB s.data.toList) w e w' := by
  have HG := Lib.hid (World.block_lt_of_cell? w _ hm)
  have HM := Lib.hid hm
  have HR := Lib.hid (fun w0 hm0 => implReadCall_any s m w0 hm0 hs)
  have hlen := rdI_len s.data.toList
  rw [size_list] at hlen
  have HP := Lib.hid (show prsKB s.data.toList = (callB (rdI s.data.toList) && decide (fmtCall (rdI s.data.toList) = s.data.toList)) from rfl)
  have HY := Lib.hid (@prsK_yes s.data.toList)
  have HN := Lib.hid (@prsK_no s.data.toList)
  have HIC := Lib.hid (fun w0 => implIsCall_any (rdI s.data.toList) w0 (by unfold maxLen; omega))
  have HFC := Lib.hid (fun w0 => implFormatCall_any (rdI s.data.toList) w0 (by unfold maxLen; omega) (by omega))
  unfold GivesCall
  generalize prsK s.data.toList = z at *
  generalize prsKB s.data.toList = y at *
  generalize hd : rdI s.data.toList = d at *
  clear hm hlen hd
  obtain ⟨d0, d1, d2, d3⟩ := d
  unfold vCall at HR HIC HFC
  simp only at HR HIC HFC
  have HB0 := Lib.hid (show ∀ o, Below w.heap.size w (w.alloc o) from fun o => (Below.refl w.heap.size w).alloc (Nat.le_refl _) o)
  have HA := Lib.hid (show ∀ (w1 : World) (o : Obj), Below w1.heap.size w1 (w1.alloc o) from fun w1 o => (Below.refl w1.heap.size w1).alloc (Nat.le_refl _) o)
  cases hc : callB ⟨d0, d1, d2, d3⟩ with
  | false =>
    have HYF := Lib.hid (show y = false by rw [HP.out, hc]; rfl)
    have HZ := Lib.hid (HN.out HYF.out)
    rw [hc] at HIC
    clear hc
    go_enter Try.func25, Try.ntmps25
    go_wp2_with fail
    refine (HR.out _ (((HB0.out _).cell (p := ⟨0, 0, none⟩) HG.out).trans HM.out)).mono ?_
    rintro e w1 ⟨rfl, hb⟩
    have HB := Lib.hid ((HB0.out _).trans (hb.mono (HB0.out _).size))
    obtain ⟨hcc, hff⟩ := bcell hb
    simp at hcc hff
    have r0 := hcc w.heap.size 0 (by omega)
    have r1 := hcc w.heap.size 1 (by omega)
    have r2 := hcc w.heap.size 2 (by omega)
    have r3 := hcc w.heap.size 3 (by omega)
    have q0 := hff w.heap.size 0 (by omega)
    have q1 := hff w.heap.size 1 (by omega)
    have q2 := hff w.heap.size 2 (by omega)
    have q3 := hff w.heap.size 3 (by omega)
    simp at r0 r1 r2 r3 q0 q1 q2 q3
    have hlt : w.heap.size < w1.heap.size := by have h := hb.size; simp at h; omega
    clear hb hcc hff
    go_wp2_with fail
    refine (HIC.out _).mono ?_
    rintro e w2 ⟨rfl, hb⟩
    have hw := belR (HA.out w1 _) hb
    have s0 := (hw.cell (p := ⟨w.heap.size, 0, none⟩) hlt).trans r0
    have s1 := (hw.cell (p := ⟨w.heap.size, 1, none⟩) hlt).trans r1
    have s2 := (hw.cell (p := ⟨w.heap.size, 2, none⟩) hlt).trans r2
    have s3 := (hw.cell (p := ⟨w.heap.size, 3, none⟩) hlt).trans r3
    have t0 := (hw.frozen (p := ⟨w.heap.size, 0, none⟩) hlt).trans q0
    have t1 := (hw.frozen (p := ⟨w.heap.size, 1, none⟩) hlt).trans q1
    have t2 := (hw.frozen (p := ⟨w.heap.size, 2, none⟩) hlt).trans q2
    have t3 := (hw.frozen (p := ⟨w.heap.size, 3, none⟩) hlt).trans q3
    have HB2 := Lib.hid (HB.out.trans (hw.mono HB.out.size))
    clear hb hw r0 r1 r2 r3 q0 q1 q2 q3
    go_wp2_with fail
    refine bodyPost_ret (v := .tuple #[.agg #[.string ⟨#[]⟩, .string ⟨#[]⟩, .int .i64 0, .string ⟨#[]⟩], .bool false]) (by simp [results, Try.results25, go_sem, s0, s1, s2, s3]) rfl ⟨by rw [HZ.out, HYF.out]; rfl, ?_⟩
    refine Below.trans HB2.out ?_
    repeat (first | exact Below.refl _ _ | refine Below.alloc ?_ (by simp; try omega) _ | refine Below.setCell ?_ (by simp; try omega) _)
  | true =>
    rw [hc] at HIC
    cases hf : decide (fmtCall ⟨d0, d1, d2, d3⟩ = s.data.toList) with
    | false =>
      have HYF := Lib.hid (show y = false by rw [HP.out, hc, hf]; rfl)
      have HZ := Lib.hid (HN.out HYF.out)
      have hne : (fmtCall ⟨d0, d1, d2, d3⟩ == s.toList) = false := by rw [Lib.toList_data]; simpa using hf
      have hne2 : (fmtCall ⟨d0, d1, d2, d3⟩ != s.toList) = true := by rw [bne, hne]; rfl
      clear hf hc
      go_enter Try.func25, Try.ntmps25
      go_wp2_with fail
      refine (HR.out _ (((HB0.out _).cell (p := ⟨0, 0, none⟩) HG.out).trans HM.out)).mono ?_
      rintro e w1 ⟨rfl, hb⟩
      have HB := Lib.hid ((HB0.out _).trans (hb.mono (HB0.out _).size))
      obtain ⟨hcc, hff⟩ := bcell hb
      simp at hcc hff
      have r0 := hcc w.heap.size 0 (by omega)
      have r1 := hcc w.heap.size 1 (by omega)
      have r2 := hcc w.heap.size 2 (by omega)
      have r3 := hcc w.heap.size 3 (by omega)
      have q0 := hff w.heap.size 0 (by omega)
      have q1 := hff w.heap.size 1 (by omega)
      have q2 := hff w.heap.size 2 (by omega)
      have q3 := hff w.heap.size 3 (by omega)
      simp at r0 r1 r2 r3 q0 q1 q2 q3
      have hlt : w.heap.size < w1.heap.size := by have h := hb.size; simp at h; omega
      clear hb hcc hff
      go_wp2_with fail
      refine (HIC.out _).mono ?_
      rintro e w2 ⟨rfl, hb⟩
      obtain ⟨hcc, hff⟩ := bcell hb
      simp at hcc hff
      have x0 := hcc w1.heap.size 0 (by omega)
      have x1 := hcc w1.heap.size 1 (by omega)
      have x2 := hcc w1.heap.size 2 (by omega)
      have x3 := hcc w1.heap.size 3 (by omega)
      simp at x0 x1 x2 x3
      have hlt2 : w1.heap.size < w2.heap.size := by have h := hb.size; simp at h; omega
      have hw := belR (HA.out w1 _) hb
      have HB2 := Lib.hid (HB.out.trans (hw.mono HB.out.size))
      have s0 := (hw.cell (p := ⟨w.heap.size, 0, none⟩) hlt).trans r0
      have s1 := (hw.cell (p := ⟨w.heap.size, 1, none⟩) hlt).trans r1
      have s2 := (hw.cell (p := ⟨w.heap.size, 2, none⟩) hlt).trans r2
      have s3 := (hw.cell (p := ⟨w.heap.size, 3, none⟩) hlt).trans r3
      have t0 := (hw.frozen (p := ⟨w.heap.size, 0, none⟩) hlt).trans q0
      have t1 := (hw.frozen (p := ⟨w.heap.size, 1, none⟩) hlt).trans q1
      have t2 := (hw.frozen (p := ⟨w.heap.size, 2, none⟩) hlt).trans q2
      have t3 := (hw.frozen (p := ⟨w.heap.size, 3, none⟩) hlt).trans q3
      clear hb hw hcc hff r0 r1 r2 r3 q0 q1 q2 q3
      go_wp2_with fail
      refine (HFC.out _).mono ?_
      rintro e w3 ⟨rfl, hb⟩
      have hlt3 : w.heap.size < w2.heap.size := by omega
      have y0 := (hb.cell (p := ⟨w1.heap.size, 0, none⟩) hlt2).trans x0
      have y1 := (hb.cell (p := ⟨w1.heap.size, 1, none⟩) hlt2).trans x1
      have y2 := (hb.cell (p := ⟨w1.heap.size, 2, none⟩) hlt2).trans x2
      have y3 := (hb.cell (p := ⟨w1.heap.size, 3, none⟩) hlt2).trans x3
      have r0 := (hb.cell (p := ⟨w.heap.size, 0, none⟩) hlt3).trans s0
      have r1 := (hb.cell (p := ⟨w.heap.size, 1, none⟩) hlt3).trans s1
      have r2 := (hb.cell (p := ⟨w.heap.size, 2, none⟩) hlt3).trans s2
      have r3 := (hb.cell (p := ⟨w.heap.size, 3, none⟩) hlt3).trans s3
      have q0 := (hb.frozen (p := ⟨w.heap.size, 0, none⟩) hlt3).trans t0
      have q1 := (hb.frozen (p := ⟨w.heap.size, 1, none⟩) hlt3).trans t1
      have q2 := (hb.frozen (p := ⟨w.heap.size, 2, none⟩) hlt3).trans t2
      have q3 := (hb.frozen (p := ⟨w.heap.size, 3, none⟩) hlt3).trans t3
      have HB3 := Lib.hid (HB2.out.trans (hb.mono HB2.out.size))
      clear hb x0 x1 x2 x3 s0 s1 s2 s3 t0 t1 t2 t3
      go_wp2_with fail
      refine bodyPost_ret (v := .tuple #[.agg #[.string ⟨#[]⟩, .string ⟨#[]⟩, .int .i64 0, .string ⟨#[]⟩], .bool false]) (by simp [results, Try.results25, go_sem, r0, r1, r2, r3]) rfl ⟨by rw [HZ.out, HYF.out]; rfl, ?_⟩
      refine Below.trans HB3.out ?_
      repeat (first | exact Below.refl _ _ | refine Below.alloc ?_ (by simp; try omega) _ | refine Below.setCell ?_ (by simp; try omega) _)
    | true =>
      have HYF := Lib.hid (show y = true by rw [HP.out, hc, hf]; rfl)
      have HZ := Lib.hid (HY.out HYF.out)
      have hne : (fmtCall ⟨d0, d1, d2, d3⟩ == s.toList) = true := by rw [Lib.toList_data]; simpa using hf
      have hne2 : (fmtCall ⟨d0, d1, d2, d3⟩ != s.toList) = false := by rw [bne, hne]; rfl
      clear hf hc
      go_enter Try.func25, Try.ntmps25
      go_wp2_with fail
      refine (HR.out _ (((HB0.out _).cell (p := ⟨0, 0, none⟩) HG.out).trans HM.out)).mono ?_
      rintro e w1 ⟨rfl, hb⟩
      have HB := Lib.hid ((HB0.out _).trans (hb.mono (HB0.out _).size))
      obtain ⟨hcc, hff⟩ := bcell hb
      simp at hcc hff
      have r0 := hcc w.heap.size 0 (by omega)
      have r1 := hcc w.heap.size 1 (by omega)
      have r2 := hcc w.heap.size 2 (by omega)
      have r3 := hcc w.heap.size 3 (by omega)
      have q0 := hff w.heap.size 0 (by omega)
      have q1 := hff w.heap.size 1 (by omega)
      have q2 := hff w.heap.size 2 (by omega)
      have q3 := hff w.heap.size 3 (by omega)
      simp at r0 r1 r2 r3 q0 q1 q2 q3
      have hlt : w.heap.size < w1.heap.size := by have h := hb.size; simp at h; omega
      clear hb hcc hff
      go_wp2_with fail
      refine (HIC.out _).mono ?_
      rintro e w2 ⟨rfl, hb⟩
      obtain ⟨hcc, hff⟩ := bcell hb
      simp at hcc hff
      have x0 := hcc w1.heap.size 0 (by omega)
      have x1 := hcc w1.heap.size 1 (by omega)
      have x2 := hcc w1.heap.size 2 (by omega)
      have x3 := hcc w1.heap.size 3 (by omega)
      simp at x0 x1 x2 x3
      have hlt2 : w1.heap.size < w2.heap.size := by have h := hb.size; simp at h; omega
      have hw := belR (HA.out w1 _) hb
      have HB2 := Lib.hid (HB.out.trans (hw.mono HB.out.size))
      have s0 := (hw.cell (p := ⟨w.heap.size, 0, none⟩) hlt).trans r0
      have s1 := (hw.cell (p := ⟨w.heap.size, 1, none⟩) hlt).trans r1
      have s2 := (hw.cell (p := ⟨w.heap.size, 2, none⟩) hlt).trans r2
      have s3 := (hw.cell (p := ⟨w.heap.size, 3, none⟩) hlt).trans r3
      have t0 := (hw.frozen (p := ⟨w.heap.size, 0, none⟩) hlt).trans q0
      have t1 := (hw.frozen (p := ⟨w.heap.size, 1, none⟩) hlt).trans q1
      have t2 := (hw.frozen (p := ⟨w.heap.size, 2, none⟩) hlt).trans q2
      have t3 := (hw.frozen (p := ⟨w.heap.size, 3, none⟩) hlt).trans q3
      clear hb hw hcc hff r0 r1 r2 r3 q0 q1 q2 q3
      go_wp2_with fail
      refine (HFC.out _).mono ?_
      rintro e w3 ⟨rfl, hb⟩
      have hlt3 : w.heap.size < w2.heap.size := by omega
      have y0 := (hb.cell (p := ⟨w1.heap.size, 0, none⟩) hlt2).trans x0
      have y1 := (hb.cell (p := ⟨w1.heap.size, 1, none⟩) hlt2).trans x1
      have y2 := (hb.cell (p := ⟨w1.heap.size, 2, none⟩) hlt2).trans x2
      have y3 := (hb.cell (p := ⟨w1.heap.size, 3, none⟩) hlt2).trans x3
      have r0 := (hb.cell (p := ⟨w.heap.size, 0, none⟩) hlt3).trans s0
      have r1 := (hb.cell (p := ⟨w.heap.size, 1, none⟩) hlt3).trans s1
      have r2 := (hb.cell (p := ⟨w.heap.size, 2, none⟩) hlt3).trans s2
      have r3 := (hb.cell (p := ⟨w.heap.size, 3, none⟩) hlt3).trans s3
      have q0 := (hb.frozen (p := ⟨w.heap.size, 0, none⟩) hlt3).trans t0
      have q1 := (hb.frozen (p := ⟨w.heap.size, 1, none⟩) hlt3).trans t1
      have q2 := (hb.frozen (p := ⟨w.heap.size, 2, none⟩) hlt3).trans t2
      have q3 := (hb.frozen (p := ⟨w.heap.size, 3, none⟩) hlt3).trans t3
      have HB3 := Lib.hid (HB2.out.trans (hb.mono HB2.out.size))
      clear hb x0 x1 x2 x3 s0 s1 s2 s3 t0 t1 t2 t3
      go_wp2_with fail
      refine bodyPost_ret (v := .tuple #[.agg #[.string ⟨d0.toArray⟩, .string ⟨d1.toArray⟩, .int .i64 d2, .string ⟨d3.toArray⟩], .bool true]) (by simp [results, Try.results25, go_sem, r0, r1, r2, r3]) rfl ⟨by rw [HZ.out, HYF.out]; rfl, ?_⟩
      refine Below.trans HB3.out ?_
      repeat (first | exact Below.refl _ _ | refine Below.alloc ?_ (by simp; try omega) _ | refine Below.setCell ?_ (by simp; try omega) _)
end Go.Proofs.Ytghebbndfpbkcac
namespace Go.Proofs.Ytghebbndfpbkcac
set_option linter.unusedVariables false
set_option linter.unusedSimpArgs false
open Go.ChangeShapes Go.WideShapes Go.ChangeAt Go.RowKit Go.WideMaps Go.WideElems
open Go.ChangeMaps (open_string shut_string)
theorem call_key {d : CallD} (h : callB d = true) : d.fKey.length ≤ maxLen := by
  have hp := callB_parts h
  cases hk : takesK d.fMethod with
  | true => exact Nat.le_trans (nameB_len8 (hp.1 hk)) (by decide)
  | false => rw [hp.2.1 hk]; simp
theorem call_text {d : CallD} (h : callB d = true) (hl : (fmtCall d).length ≤ 700) : d.fText.length ≤ 1048576 := by
  have hp := callB_parts h
  cases ht : takesT d.fMethod with
  | false => rw [hp.2.2.2.2 ht]; simp
  | true =>
    rw [fmtCall_yes h] at hl
    unfold wordsC at hl
    rw [if_pos ht] at hl
    have h2 : ∀ (a : List (List UInt8)) (b : List UInt8), b.length ≤ (joinL (a ++ [b]) [32]).length := by
      intro a
      induction a with
      | nil => intro b; rw [List.nil_append, joinL_one]; exact Nat.le_refl _
      | cons x r ih =>
        intro b
        rw [List.cons_append, joinL_cons _ _ _ (by simp)]
        have := ih b
        simp only [List.length_append]; omega
    have := Nat.le_trans (h2 _ _) hl
    omega
set_option maxRecDepth 100000 in
set_option maxHeartbeats 6400000 in
theorem fnCallText_any (v : Value) (l : List UInt8) (w : World) (hR : RowAt w v (Lib.byteCells l)) (mx : Int) (hM : w.cell? ⟨0, 0, none⟩ = some (.int .i64 mx)) :
    Calls Try.prog 6 #[v] w fun e w' => e = .returned (.bool true) ∧ Below w.heap.size w w' := by
  have HR := Lib.hid hR
  have HBG := Lib.hid (big_any v l w hR)
  have hMl := World.block_lt_of_cell? w _ hM
  simp only at hMl
  have HMX := Lib.hid (fun W (hw : Below w.heap.size w W) => (hw.cell (p := ⟨0, 0, none⟩) hMl).trans hM)
  clear hR hM hMl
  go_enter Try.func6, Try.ntmps6
  go_wp2_with fail
  refine HBG.out.mono ?_
  rintro e w' ⟨rfl, rfl⟩
  by_cases hbig : 4096 < l.length
  · go_wp2_with fail
    go_ret
    exact ⟨rfl, Below.refl _ _⟩
  have hd : decide (4096 < l.length) = false := by simpa using hbig
  clear hbig
  rw [hd]
  clear hd HBG
  go_wp2_with fail
  refine (drawFormatCells_any v l w HR.out).mono ?_
  rintro e w1 ⟨u, y, rfl, ho, hyl, hyk, hb⟩
  obtain ⟨ua, uc, rfl⟩ := slice_of ho
  have HYL := Lib.hid hyl
  have HK1 := Lib.hid (show ∀ c ∈ y, c.fKey.length ≤ maxLen from fun c hc => Nat.le_trans (hyk c hc) (by decide))
  have HB := Lib.hid hb
  have HP := Lib.hid (ownsF_at ho (show y.length ≤ 4194304 by omega))
  clear ho hyl hyk hb
  have HIC := Lib.hid (fun W (h : FlatAt cCell 2 W (.slice ua y.length uc) y) => implIsCells_any (.slice ua y.length uc) y W h HK1.out)
  have HSC := Lib.hid (fun W (h : FlatAt cCell 2 W (.slice ua y.length uc) y) => specIsCells_any (.slice ua y.length uc) y W h HK1.out)
  have HFC := Lib.hid (fun W (h : FlatAt cCell 2 W (.slice ua y.length uc) y) => implFormatCells_any (.slice ua y.length uc) y W h HK1.out)
  have hfl : (fmtC y).length ≤ 100 := fmtC_len y
  have HPC := Lib.hid (fun W hm => implParseCells_any ⟨(fmtC y).toArray⟩ mx W hm (by rw [size_litS]; omega))
  have hgood : cellsB y = true → prsB (fmtC y) = true ∧ prsC (fmtC y) = y := fun h => prs_fmt h
  have hbad : cellsB y = false → prsB (fmtC y) = false ∧ prsC (fmtC y) = [] := fun h => by
      have e : fmtC y = [] := by unfold fmtC; rw [if_neg (by simp [h])]
      have e2 : prsB ([] : List UInt8) = false := by decide
      rw [e]; exact ⟨e2, prsC_no e2⟩
  unfold GivesCells at HPC
  simp only [List.toList_toArray] at HPC
  generalize prsC (fmtC y) = pc at *
  generalize prsB (fmtC y) = pb at *
  generalize fmtC y = ft at *
  clear hfl
  generalize hcb : cellsB y = cb at *
  go_wp2_with fail
  refine (HFC.out _ HP.out).mono ?_
  rintro e w2 ⟨rfl, hb⟩
  replace HP := Lib.hid (FlatAt.below HP.out hb (Nat.le_refl _))
  replace HB := Lib.hid (belS HB.out hb)
  clear hb
  go_wp2_with fail
  refine (HPC.out _ (HMX.out _ HB.out)).mono ?_
  rintro e w3 ⟨pv, rfl, ho, hb⟩
  replace HP := Lib.hid (FlatAt.below HP.out hb (Nat.le_refl _))
  replace HB := Lib.hid (belS HB.out hb)
  clear hb
  have HQ := Lib.hid ho
  clear ho
  cases cb
  case false =>
    obtain ⟨e1, e2⟩ := hbad rfl
    subst e1 e2
    clear hgood hbad
    simp only [List.length_nil] at *
    go_wp2_with fail
    refine (HIC.out _ HP.out).mono ?_
    rintro e w4 ⟨rfl, hb⟩
    replace HP := Lib.hid (FlatAt.below HP.out hb (Nat.le_refl _))
    replace HQ := Lib.hid (ownsF_below HQ.out hb (Nat.le_refl _))
    replace HB := Lib.hid (belS HB.out hb)
    clear hb
    go_wp2_with fail
    refine (HSC.out _ HP.out).mono ?_
    rintro e w5 ⟨rfl, hb⟩
    replace HP := Lib.hid (FlatAt.below HP.out hb (Nat.le_refl _))
    replace HQ := Lib.hid (ownsF_below HQ.out hb (Nat.le_refl _))
    replace HB := Lib.hid (belS HB.out hb)
    clear hb
    go_wp2_with fail
    refine (HIC.out _ HP.out).mono ?_
    rintro e w6 ⟨rfl, hb⟩
    replace HP := Lib.hid (FlatAt.below HP.out hb (Nat.le_refl _))
    replace HQ := Lib.hid (ownsF_below HQ.out hb (Nat.le_refl _))
    replace HB := Lib.hid (belS HB.out hb)
    clear hb
    go_wp2_with fail
    go_loopw [6] (fun i wr => i = .int .i64 0 ∧ Below w.heap.size w wr ∧ FlatAt cCell 2 wr (.slice ua y.length uc) y) (fun _ _ => 0)
    case atStart => exact ⟨rfl, HB.out, HP.out⟩
    case round =>
      obtain ⟨rfl, hb, hp⟩ := hrel
      clear HB HP HQ
      have HB := Lib.hid hb
      have HP := Lib.hid hp
      clear hb hp
      go_wp2_with fail
      refine (drawFormatCall_any v l _ (RowAt.below HR.out HB.out (Nat.le_refl _))).mono ?_
      rintro e wx ⟨⟨m, k, n, t⟩, rfl, hox, hb⟩
      replace HP := Lib.hid (FlatAt.below HP.out hb (Nat.le_refl _))
      replace HB := Lib.hid (belS HB.out hb)
      clear hb
      have HOX := Lib.hid hox
      clear hox
      have hkl : k.length ≤ 9 := HOX.out.2.1
      have htl : t.length ≤ 120 := HOX.out.2.2.2
      have HFX := Lib.hid (fun W => implFormatCall_any (⟨m, k, n, t⟩ : CallD) W (by show k.length ≤ _; unfold maxLen; omega) (by show t.length ≤ _; omega))
      have HIX := Lib.hid (fun W => implIsCall_any (⟨m, k, n, t⟩ : CallD) W (by show k.length ≤ _; unfold maxLen; omega))
      have hxl := fmtCall_le HOX.out
      have HPX := Lib.hid (fun W hm => implParseCall_any ⟨(fmtCall (⟨m, k, n, t⟩ : CallD)).toArray⟩ mx W hm (by rw [size_litS]; omega))
      have hxg : callB (⟨m, k, n, t⟩ : CallD) = true → prsKB (fmtCall (⟨m, k, n, t⟩ : CallD)) = true ∧ prsK (fmtCall (⟨m, k, n, t⟩ : CallD)) = (⟨m, k, n, t⟩ : CallD) := fun h => prsK_fmt h
      have hxb : callB (⟨m, k, n, t⟩ : CallD) = false → prsKB (fmtCall (⟨m, k, n, t⟩ : CallD)) = false := fun h => by rw [fmtCall_no h, prsKB_spec]; simp
      unfold GivesCall at HPX
      simp only [List.toList_toArray] at HPX
      generalize fmtCall (⟨m, k, n, t⟩ : CallD) = fx at *
      generalize prsK fx = px at *
      generalize prsKB fx = pxb at *
      generalize callB (⟨m, k, n, t⟩ : CallD) = xb at *
      obtain ⟨pm, pk, pn, pt⟩ := px
      simp only [vCall] at HFX HIX HPX
      unfold vCall
      simp only
      clear hxl hkl htl
      go_upto_region 15 with fail
      have hbn := Bx.new (wx) [.string ⟨m.toArray⟩, .string ⟨k.toArray⟩, .int .i64 n, .string ⟨t.toArray⟩] 51
      have hbb := bx_box (wx) (.cells #[.string ⟨m.toArray⟩, .string ⟨k.toArray⟩, .int .i64 n, .string ⟨t.toArray⟩] 51)
      have Vb_x := Lib.hid hbn
      clear hbn
      replace HP := Lib.hid (FlatAt.below HP.out hbb (Nat.le_refl _))
      replace HB := Lib.hid (belS HB.out hbb)
      clear hbb
      generalize (wx).alloc (.cells #[.string ⟨m.toArray⟩, .string ⟨k.toArray⟩, .int .i64 n, .string ⟨t.toArray⟩] 51) = w8 at *
      have B_x := Vb_x.out
      have x_0 := Vb_x.out.cell 0 (by simp)
      have x_1 := Vb_x.out.cell 1 (by simp)
      have x_2 := Vb_x.out.cell 2 (by simp)
      have x_3 := Vb_x.out.cell 3 (by simp)
      simp only [List.getElem_cons_zero, List.getElem_cons_succ] at x_0 x_1 x_2 x_3
      have x_l := Vb_x.out.lt
      clear B_x
      go_wp2_with fail
      clear x_0 x_1 x_2 x_3 x_l
      refine (HFX.out _).mono ?_
      rintro e wf ⟨rfl, hb⟩
      replace Vb_x := Lib.hid (Vb_x.out.below hb)
      replace HP := Lib.hid (FlatAt.below HP.out hb (Nat.le_refl _))
      replace HB := Lib.hid (belS HB.out hb)
      clear hb
      go_wp2_with fail
      refine (HPX.out _ (HMX.out _ HB.out)).mono ?_
      rintro e wp ⟨rfl, hb⟩
      replace Vb_x := Lib.hid (Vb_x.out.below hb)
      replace HP := Lib.hid (FlatAt.below HP.out hb (Nat.le_refl _))
      replace HB := Lib.hid (belS HB.out hb)
      clear hb
      go_upto_region 16 with fail
      have hbn := Bx.new (wp) [.string ⟨pm.toArray⟩, .string ⟨pk.toArray⟩, .int .i64 pn, .string ⟨pt.toArray⟩] 51
      have hbb := bx_box (wp) (.cells #[.string ⟨pm.toArray⟩, .string ⟨pk.toArray⟩, .int .i64 pn, .string ⟨pt.toArray⟩] 51)
      have Vb_y := Lib.hid hbn
      clear hbn
      replace Vb_x := Lib.hid (Vb_x.out.below hbb)
      replace HP := Lib.hid (FlatAt.below HP.out hbb (Nat.le_refl _))
      replace HB := Lib.hid (belS HB.out hbb)
      clear hbb
      generalize (wp).alloc (.cells #[.string ⟨pm.toArray⟩, .string ⟨pk.toArray⟩, .int .i64 pn, .string ⟨pt.toArray⟩] 51) = w10 at *
      go_wp2_with fail
      refine (drawParseCall_any v l _ (RowAt.below HR.out HB.out (Nat.le_refl _))).mono ?_
      rintro e ws ⟨z, rfl, hz, hb⟩
      replace Vb_x := Lib.hid (Vb_x.out.below hb)
      replace Vb_y := Lib.hid (Vb_y.out.below hb)
      replace HP := Lib.hid (FlatAt.below HP.out hb (Nat.le_refl _))
      replace HB := Lib.hid (belS HB.out hb)
      clear hb
      obtain ⟨zl, rfl⟩ : ∃ q : List UInt8, z = ⟨q.toArray⟩ := ⟨z.data.toList, by cases z; simp⟩
      have HPZ := Lib.hid (fun W hm => implParseCall_any ⟨zl.toArray⟩ mx W hm (Nat.le_trans hz (by decide)))
      have hzz : prsKB zl = true → callB (prsK zl) = true ∧ fmtCall (prsK zl) = zl := fun h => prsK_ok h
      unfold GivesCall at HPZ
      simp only [List.toList_toArray] at HPZ
      have hzs : zl.length ≤ 700 := by rw [size_litS] at hz; exact hz
      clear hz
      have HFZ := Lib.hid (fun W (h : prsKB zl = true) => implFormatCall_any (prsK zl) W (call_key (hzz h).1) (call_text (hzz h).1 (by rw [(hzz h).2]; omega)))
      have HZ2 := Lib.hid (fun h => (hzz h).2)
      clear hzz
      generalize prsKB zl = zb at *
      generalize hpz : fmtCall (prsK zl) = fz at *
      clear hpz
      generalize prsK zl = pz at *
      obtain ⟨zm, zk, zn, zt⟩ := pz
      simp only [vCall] at HPZ HFZ
      go_wp2_with fail
      refine (HPZ.out _ (HMX.out _ HB.out)).mono ?_
      rintro e wz ⟨rfl, hb⟩
      replace Vb_x := Lib.hid (Vb_x.out.below hb)
      replace Vb_y := Lib.hid (Vb_y.out.below hb)
      replace HP := Lib.hid (FlatAt.below HP.out hb (Nat.le_refl _))
      replace HB := Lib.hid (belS HB.out hb)
      clear hb
      go_upto_region 18 with fail
      have hbn := Bx.new (wz) [.string ⟨zm.toArray⟩, .string ⟨zk.toArray⟩, .int .i64 zn, .string ⟨zt.toArray⟩] 51
      have hbb := bx_box (wz) (.cells #[.string ⟨zm.toArray⟩, .string ⟨zk.toArray⟩, .int .i64 zn, .string ⟨zt.toArray⟩] 51)
      have Vb_z := Lib.hid hbn
      clear hbn
      replace Vb_x := Lib.hid (Vb_x.out.below hbb)
      replace Vb_y := Lib.hid (Vb_y.out.below hbb)
      replace HP := Lib.hid (FlatAt.below HP.out hbb (Nat.le_refl _))
      replace HB := Lib.hid (belS HB.out hbb)
      clear hbb
      generalize (wz).alloc (.cells #[.string ⟨zm.toArray⟩, .string ⟨zk.toArray⟩, .int .i64 zn, .string ⟨zt.toArray⟩] 51) = w12 at *
      cases xb
      case false =>
        have e1 := hxb rfl
        subst e1
        clear hxb hxg
        have B_x := Vb_x.out
        have x_0 := Vb_x.out.cell 0 (by simp)
        have x_1 := Vb_x.out.cell 1 (by simp)
        have x_2 := Vb_x.out.cell 2 (by simp)
        have x_3 := Vb_x.out.cell 3 (by simp)
        simp only [List.getElem_cons_zero, List.getElem_cons_succ] at x_0 x_1 x_2 x_3
        have x_l := Vb_x.out.lt
        clear B_x
        go_wp2_with fail
        clear x_0 x_1 x_2 x_3 x_l
        refine (HIX.out _).mono ?_
        rintro e w96 ⟨rfl, hb⟩
        replace Vb_x := Lib.hid (Vb_x.out.below hb)
        replace Vb_y := Lib.hid (Vb_y.out.below hb)
        replace Vb_z := Lib.hid (Vb_z.out.below hb)
        replace HP := Lib.hid (FlatAt.below HP.out hb (Nat.le_refl _))
        replace HB := Lib.hid (belS HB.out hb)
        clear hb
        cases zb
        case false =>
          have B_x := Vb_x.out
          have x_0 := Vb_x.out.cell 0 (by simp)
          have x_1 := Vb_x.out.cell 1 (by simp)
          have x_2 := Vb_x.out.cell 2 (by simp)
          have x_3 := Vb_x.out.cell 3 (by simp)
          simp only [List.getElem_cons_zero, List.getElem_cons_succ] at x_0 x_1 x_2 x_3
          have x_l := Vb_x.out.lt
          clear B_x
          have B_y := Vb_y.out
          have y_0 := Vb_y.out.cell 0 (by simp)
          have y_1 := Vb_y.out.cell 1 (by simp)
          have y_2 := Vb_y.out.cell 2 (by simp)
          have y_3 := Vb_y.out.cell 3 (by simp)
          simp only [List.getElem_cons_zero, List.getElem_cons_succ] at y_0 y_1 y_2 y_3
          have y_l := Vb_y.out.lt
          clear B_y
          have B_z := Vb_z.out
          have z_0 := Vb_z.out.cell 0 (by simp)
          have z_1 := Vb_z.out.cell 1 (by simp)
          have z_2 := Vb_z.out.cell 2 (by simp)
          have z_3 := Vb_z.out.cell 3 (by simp)
          simp only [List.getElem_cons_zero, List.getElem_cons_succ] at z_0 z_1 z_2 z_3
          have z_l := Vb_z.out.lt
          clear B_z
          go_wp2_with fail
          clear x_0 x_1 x_2 x_3 x_l y_0 y_1 y_2 y_3 y_l z_0 z_1 z_2 z_3 z_l
          go_ret
          exact ⟨rfl, HB.out⟩
        case true =>
          have hz2 := HZ2.out rfl
          subst hz2
          have HFW := Lib.hid (fun W => HFZ.out W rfl)
          clear HZ2 HFZ
          have B_x := Vb_x.out
          have x_0 := Vb_x.out.cell 0 (by simp)
          have x_1 := Vb_x.out.cell 1 (by simp)
          have x_2 := Vb_x.out.cell 2 (by simp)
          have x_3 := Vb_x.out.cell 3 (by simp)
          simp only [List.getElem_cons_zero, List.getElem_cons_succ] at x_0 x_1 x_2 x_3
          have x_l := Vb_x.out.lt
          clear B_x
          have B_y := Vb_y.out
          have y_0 := Vb_y.out.cell 0 (by simp)
          have y_1 := Vb_y.out.cell 1 (by simp)
          have y_2 := Vb_y.out.cell 2 (by simp)
          have y_3 := Vb_y.out.cell 3 (by simp)
          simp only [List.getElem_cons_zero, List.getElem_cons_succ] at y_0 y_1 y_2 y_3
          have y_l := Vb_y.out.lt
          clear B_y
          have B_z := Vb_z.out
          have z_0 := Vb_z.out.cell 0 (by simp)
          have z_1 := Vb_z.out.cell 1 (by simp)
          have z_2 := Vb_z.out.cell 2 (by simp)
          have z_3 := Vb_z.out.cell 3 (by simp)
          simp only [List.getElem_cons_zero, List.getElem_cons_succ] at z_0 z_1 z_2 z_3
          have z_l := Vb_z.out.lt
          clear B_z
          go_wp2_with fail
          clear x_0 x_1 x_2 x_3 x_l y_0 y_1 y_2 y_3 y_l z_0 z_1 z_2 z_3 z_l
          refine (HFW.out _).mono ?_
          rintro e w97 ⟨rfl, hb⟩
          replace Vb_x := Lib.hid (Vb_x.out.below hb)
          replace Vb_y := Lib.hid (Vb_y.out.below hb)
          replace Vb_z := Lib.hid (Vb_z.out.below hb)
          replace HP := Lib.hid (FlatAt.below HP.out hb (Nat.le_refl _))
          replace HB := Lib.hid (belS HB.out hb)
          clear hb
          go_wp2_with fail
          go_ret
          exact ⟨rfl, HB.out⟩
      case true =>
        obtain ⟨e1, e2⟩ := hxg rfl
        subst e1
        injection e2 with q1 q2 q3 q4
        subst q1 q2 q3 q4
        clear hxb hxg
        have B_x := Vb_x.out
        have x_0 := Vb_x.out.cell 0 (by simp)
        have x_1 := Vb_x.out.cell 1 (by simp)
        have x_2 := Vb_x.out.cell 2 (by simp)
        have x_3 := Vb_x.out.cell 3 (by simp)
        simp only [List.getElem_cons_zero, List.getElem_cons_succ] at x_0 x_1 x_2 x_3
        have x_l := Vb_x.out.lt
        clear B_x
        go_wp2_with fail
        clear x_0 x_1 x_2 x_3 x_l
        refine (HIX.out _).mono ?_
        rintro e w96 ⟨rfl, hb⟩
        replace Vb_x := Lib.hid (Vb_x.out.below hb)
        replace Vb_y := Lib.hid (Vb_y.out.below hb)
        replace Vb_z := Lib.hid (Vb_z.out.below hb)
        replace HP := Lib.hid (FlatAt.below HP.out hb (Nat.le_refl _))
        replace HB := Lib.hid (belS HB.out hb)
        clear hb
        cases zb
        case false =>
          have B_x := Vb_x.out
          have x_0 := Vb_x.out.cell 0 (by simp)
          have x_1 := Vb_x.out.cell 1 (by simp)
          have x_2 := Vb_x.out.cell 2 (by simp)
          have x_3 := Vb_x.out.cell 3 (by simp)
          simp only [List.getElem_cons_zero, List.getElem_cons_succ] at x_0 x_1 x_2 x_3
          have x_l := Vb_x.out.lt
          clear B_x
          have B_y := Vb_y.out
          have y_0 := Vb_y.out.cell 0 (by simp)
          have y_1 := Vb_y.out.cell 1 (by simp)
          have y_2 := Vb_y.out.cell 2 (by simp)
          have y_3 := Vb_y.out.cell 3 (by simp)
          simp only [List.getElem_cons_zero, List.getElem_cons_succ] at y_0 y_1 y_2 y_3
          have y_l := Vb_y.out.lt
          clear B_y
          have B_z := Vb_z.out
          have z_0 := Vb_z.out.cell 0 (by simp)
          have z_1 := Vb_z.out.cell 1 (by simp)
          have z_2 := Vb_z.out.cell 2 (by simp)
          have z_3 := Vb_z.out.cell 3 (by simp)
          simp only [List.getElem_cons_zero, List.getElem_cons_succ] at z_0 z_1 z_2 z_3
          have z_l := Vb_z.out.lt
          clear B_z
          go_wp2_with fail
          clear x_0 x_1 x_2 x_3 x_l y_0 y_1 y_2 y_3 y_l z_0 z_1 z_2 z_3 z_l
          go_ret
          exact ⟨rfl, HB.out⟩
        case true =>
          have hz2 := HZ2.out rfl
          subst hz2
          have HFW := Lib.hid (fun W => HFZ.out W rfl)
          clear HZ2 HFZ
          have B_x := Vb_x.out
          have x_0 := Vb_x.out.cell 0 (by simp)
          have x_1 := Vb_x.out.cell 1 (by simp)
          have x_2 := Vb_x.out.cell 2 (by simp)
          have x_3 := Vb_x.out.cell 3 (by simp)
          simp only [List.getElem_cons_zero, List.getElem_cons_succ] at x_0 x_1 x_2 x_3
          have x_l := Vb_x.out.lt
          clear B_x
          have B_y := Vb_y.out
          have y_0 := Vb_y.out.cell 0 (by simp)
          have y_1 := Vb_y.out.cell 1 (by simp)
          have y_2 := Vb_y.out.cell 2 (by simp)
          have y_3 := Vb_y.out.cell 3 (by simp)
          simp only [List.getElem_cons_zero, List.getElem_cons_succ] at y_0 y_1 y_2 y_3
          have y_l := Vb_y.out.lt
          clear B_y
          have B_z := Vb_z.out
          have z_0 := Vb_z.out.cell 0 (by simp)
          have z_1 := Vb_z.out.cell 1 (by simp)
          have z_2 := Vb_z.out.cell 2 (by simp)
          have z_3 := Vb_z.out.cell 3 (by simp)
          simp only [List.getElem_cons_zero, List.getElem_cons_succ] at z_0 z_1 z_2 z_3
          have z_l := Vb_z.out.lt
          clear B_z
          go_wp2_with fail
          clear x_0 x_1 x_2 x_3 x_l y_0 y_1 y_2 y_3 y_l z_0 z_1 z_2 z_3 z_l
          refine (HFW.out _).mono ?_
          rintro e w97 ⟨rfl, hb⟩
          replace Vb_x := Lib.hid (Vb_x.out.below hb)
          replace Vb_y := Lib.hid (Vb_y.out.below hb)
          replace Vb_z := Lib.hid (Vb_z.out.below hb)
          replace HP := Lib.hid (FlatAt.below HP.out hb (Nat.le_refl _))
          replace HB := Lib.hid (belS HB.out hb)
          clear hb
          go_wp2_with fail
          go_ret
          exact ⟨rfl, HB.out⟩
  case true =>
    obtain ⟨e1, e2⟩ := hgood rfl
    subst e1 e2
    clear hgood hbad
    replace HQ := Lib.hid (ownsF_at HQ.out (show pc.length ≤ 4194304 by have := HYL.out; omega))
    obtain ⟨va, vc, rfl, _⟩ := flatAt_len HQ.out
    go_wp2_with fail
    refine (HIC.out _ HP.out).mono ?_
    rintro e w4 ⟨rfl, hb⟩
    replace HP := Lib.hid (FlatAt.below HP.out hb (Nat.le_refl _))
    replace HQ := Lib.hid (FlatAt.below HQ.out hb (Nat.le_refl _))
    replace HB := Lib.hid (belS HB.out hb)
    clear hb
    go_wp2_with fail
    refine (HSC.out _ HP.out).mono ?_
    rintro e w5 ⟨rfl, hb⟩
    replace HP := Lib.hid (FlatAt.below HP.out hb (Nat.le_refl _))
    replace HQ := Lib.hid (FlatAt.below HQ.out hb (Nat.le_refl _))
    replace HB := Lib.hid (belS HB.out hb)
    clear hb
    go_wp2_with fail
    refine (HIC.out _ HP.out).mono ?_
    rintro e w6 ⟨rfl, hb⟩
    replace HP := Lib.hid (FlatAt.below HP.out hb (Nat.le_refl _))
    replace HQ := Lib.hid (FlatAt.below HQ.out hb (Nat.le_refl _))
    replace HB := Lib.hid (belS HB.out hb)
    clear hb
    go_wp2_with fail
    go_loopw [6] (fun i wr => ∃ j : Nat, j ≤ pc.length ∧ i = .int .i64 j ∧ Below w.heap.size w wr ∧ FlatAt cCell 2 wr (.slice ua pc.length uc) pc ∧ FlatAt cCell 2 wr (.slice va pc.length vc) pc) (fun i _ => pc.length - (intOf i).toNat)
    case atStart => exact ⟨0, Nat.zero_le _, rfl, HB.out, HP.out, HQ.out⟩
    case round =>
      obtain ⟨j, hj, rfl, hb, hp, hq⟩ := hrel
      clear HB HP HQ
      have HB := Lib.hid hb
      have HP := Lib.hid hp
      have HQ := Lib.hid hq
      clear hb hp hq
      have hyl := HYL.out
      by_cases hlt : j < pc.length
      · skip
        obtain ⟨b1, o1, he1, hw1, hd1⟩ := flatAt_cell cCell_len HP.out j hlt (by decide)
        subst he1
        obtain ⟨b2, o2, he2, hw2, hd2⟩ := flatAt_cell cCell_len HQ.out j hlt (by decide)
        subst he2
        have c0 := hd1 0 (by decide)
        have c1 := hd1 1 (by decide)
        have d0 := hd2 0 (by decide)
        have d1 := hd2 1 (by decide)
        clear hd1 hd2
        generalize pc[j] = cj at *
        obtain ⟨kk, vv⟩ := cj
        simp only [cCell, List.getElem?_cons_zero, List.getElem?_cons_succ, Nat.add_zero] at c0 c1 d0 d1
        have hj0 : (0 : Int) ≤ (j : Int) := by omega
        have hjl : (j : Int) < (pc.length : Int) := by omega
        go_wp2_with fail
        go_quiet (fail)
        go_wp2_with fail
        have hwr : wrap64 ((j : Int) + 1) = (j : Int) + 1 := by unfold wrap64; omega
        exact ⟨⟨j + 1, by omega, by go_num, below_drewN HB.out _, HP.out, HQ.out⟩, by simp [intOf]; omega⟩
      · skip
        have hjl : ¬ (j : Int) < (pc.length : Int) := by omega
        go_wp2_with fail
        refine (drawFormatCall_any v l _ (RowAt.below HR.out HB.out (Nat.le_refl _))).mono ?_
        rintro e wx ⟨⟨m, k, n, t⟩, rfl, hox, hb⟩
        replace HP := Lib.hid (FlatAt.below HP.out hb (Nat.le_refl _))
        replace HQ := Lib.hid (FlatAt.below HQ.out hb (Nat.le_refl _))
        replace HB := Lib.hid (belS HB.out hb)
        clear hb
        have HOX := Lib.hid hox
        clear hox
        have hkl : k.length ≤ 9 := HOX.out.2.1
        have htl : t.length ≤ 120 := HOX.out.2.2.2
        have HFX := Lib.hid (fun W => implFormatCall_any (⟨m, k, n, t⟩ : CallD) W (by show k.length ≤ _; unfold maxLen; omega) (by show t.length ≤ _; omega))
        have HIX := Lib.hid (fun W => implIsCall_any (⟨m, k, n, t⟩ : CallD) W (by show k.length ≤ _; unfold maxLen; omega))
        have hxl := fmtCall_le HOX.out
        have HPX := Lib.hid (fun W hm => implParseCall_any ⟨(fmtCall (⟨m, k, n, t⟩ : CallD)).toArray⟩ mx W hm (by rw [size_litS]; omega))
        have hxg : callB (⟨m, k, n, t⟩ : CallD) = true → prsKB (fmtCall (⟨m, k, n, t⟩ : CallD)) = true ∧ prsK (fmtCall (⟨m, k, n, t⟩ : CallD)) = (⟨m, k, n, t⟩ : CallD) := fun h => prsK_fmt h
        have hxb : callB (⟨m, k, n, t⟩ : CallD) = false → prsKB (fmtCall (⟨m, k, n, t⟩ : CallD)) = false := fun h => by rw [fmtCall_no h, prsKB_spec]; simp
        unfold GivesCall at HPX
        simp only [List.toList_toArray] at HPX
        generalize fmtCall (⟨m, k, n, t⟩ : CallD) = fx at *
        generalize prsK fx = px at *
        generalize prsKB fx = pxb at *
        generalize callB (⟨m, k, n, t⟩ : CallD) = xb at *
        obtain ⟨pm, pk, pn, pt⟩ := px
        simp only [vCall] at HFX HIX HPX
        unfold vCall
        simp only
        clear hxl hkl htl
        go_upto_region 15 with fail
        have hbn := Bx.new (wx) [.string ⟨m.toArray⟩, .string ⟨k.toArray⟩, .int .i64 n, .string ⟨t.toArray⟩] 51
        have hbb := bx_box (wx) (.cells #[.string ⟨m.toArray⟩, .string ⟨k.toArray⟩, .int .i64 n, .string ⟨t.toArray⟩] 51)
        have Vb_x := Lib.hid hbn
        clear hbn
        replace HP := Lib.hid (FlatAt.below HP.out hbb (Nat.le_refl _))
        replace HQ := Lib.hid (FlatAt.below HQ.out hbb (Nat.le_refl _))
        replace HB := Lib.hid (belS HB.out hbb)
        clear hbb
        generalize (wx).alloc (.cells #[.string ⟨m.toArray⟩, .string ⟨k.toArray⟩, .int .i64 n, .string ⟨t.toArray⟩] 51) = w8 at *
        have B_x := Vb_x.out
        have x_0 := Vb_x.out.cell 0 (by simp)
        have x_1 := Vb_x.out.cell 1 (by simp)
        have x_2 := Vb_x.out.cell 2 (by simp)
        have x_3 := Vb_x.out.cell 3 (by simp)
        simp only [List.getElem_cons_zero, List.getElem_cons_succ] at x_0 x_1 x_2 x_3
        have x_l := Vb_x.out.lt
        clear B_x
        go_wp2_with fail
        clear x_0 x_1 x_2 x_3 x_l
        refine (HFX.out _).mono ?_
        rintro e wf ⟨rfl, hb⟩
        replace Vb_x := Lib.hid (Vb_x.out.below hb)
        replace HP := Lib.hid (FlatAt.below HP.out hb (Nat.le_refl _))
        replace HQ := Lib.hid (FlatAt.below HQ.out hb (Nat.le_refl _))
        replace HB := Lib.hid (belS HB.out hb)
        clear hb
        go_wp2_with fail
        refine (HPX.out _ (HMX.out _ HB.out)).mono ?_
        rintro e wp ⟨rfl, hb⟩
        replace Vb_x := Lib.hid (Vb_x.out.below hb)
        replace HP := Lib.hid (FlatAt.below HP.out hb (Nat.le_refl _))
        replace HQ := Lib.hid (FlatAt.below HQ.out hb (Nat.le_refl _))
        replace HB := Lib.hid (belS HB.out hb)
        clear hb
        go_upto_region 16 with fail
        have hbn := Bx.new (wp) [.string ⟨pm.toArray⟩, .string ⟨pk.toArray⟩, .int .i64 pn, .string ⟨pt.toArray⟩] 51
        have hbb := bx_box (wp) (.cells #[.string ⟨pm.toArray⟩, .string ⟨pk.toArray⟩, .int .i64 pn, .string ⟨pt.toArray⟩] 51)
        have Vb_y := Lib.hid hbn
        clear hbn
        replace Vb_x := Lib.hid (Vb_x.out.below hbb)
        replace HP := Lib.hid (FlatAt.below HP.out hbb (Nat.le_refl _))
        replace HQ := Lib.hid (FlatAt.below HQ.out hbb (Nat.le_refl _))
        replace HB := Lib.hid (belS HB.out hbb)
        clear hbb
        generalize (wp).alloc (.cells #[.string ⟨pm.toArray⟩, .string ⟨pk.toArray⟩, .int .i64 pn, .string ⟨pt.toArray⟩] 51) = w10 at *
        go_wp2_with fail
        refine (drawParseCall_any v l _ (RowAt.below HR.out HB.out (Nat.le_refl _))).mono ?_
        rintro e ws ⟨z, rfl, hz, hb⟩
        replace Vb_x := Lib.hid (Vb_x.out.below hb)
        replace Vb_y := Lib.hid (Vb_y.out.below hb)
        replace HP := Lib.hid (FlatAt.below HP.out hb (Nat.le_refl _))
        replace HQ := Lib.hid (FlatAt.below HQ.out hb (Nat.le_refl _))
        replace HB := Lib.hid (belS HB.out hb)
        clear hb
        obtain ⟨zl, rfl⟩ : ∃ q : List UInt8, z = ⟨q.toArray⟩ := ⟨z.data.toList, by cases z; simp⟩
        have HPZ := Lib.hid (fun W hm => implParseCall_any ⟨zl.toArray⟩ mx W hm (Nat.le_trans hz (by decide)))
        have hzz : prsKB zl = true → callB (prsK zl) = true ∧ fmtCall (prsK zl) = zl := fun h => prsK_ok h
        unfold GivesCall at HPZ
        simp only [List.toList_toArray] at HPZ
        have hzs : zl.length ≤ 700 := by rw [size_litS] at hz; exact hz
        clear hz
        have HFZ := Lib.hid (fun W (h : prsKB zl = true) => implFormatCall_any (prsK zl) W (call_key (hzz h).1) (call_text (hzz h).1 (by rw [(hzz h).2]; omega)))
        have HZ2 := Lib.hid (fun h => (hzz h).2)
        clear hzz
        generalize prsKB zl = zb at *
        generalize hpz : fmtCall (prsK zl) = fz at *
        clear hpz
        generalize prsK zl = pz at *
        obtain ⟨zm, zk, zn, zt⟩ := pz
        simp only [vCall] at HPZ HFZ
        go_wp2_with fail
        refine (HPZ.out _ (HMX.out _ HB.out)).mono ?_
        rintro e wz ⟨rfl, hb⟩
        replace Vb_x := Lib.hid (Vb_x.out.below hb)
        replace Vb_y := Lib.hid (Vb_y.out.below hb)
        replace HP := Lib.hid (FlatAt.below HP.out hb (Nat.le_refl _))
        replace HQ := Lib.hid (FlatAt.below HQ.out hb (Nat.le_refl _))
        replace HB := Lib.hid (belS HB.out hb)
        clear hb
        go_upto_region 18 with fail
        have hbn := Bx.new (wz) [.string ⟨zm.toArray⟩, .string ⟨zk.toArray⟩, .int .i64 zn, .string ⟨zt.toArray⟩] 51
        have hbb := bx_box (wz) (.cells #[.string ⟨zm.toArray⟩, .string ⟨zk.toArray⟩, .int .i64 zn, .string ⟨zt.toArray⟩] 51)
        have Vb_z := Lib.hid hbn
        clear hbn
        replace Vb_x := Lib.hid (Vb_x.out.below hbb)
        replace Vb_y := Lib.hid (Vb_y.out.below hbb)
        replace HP := Lib.hid (FlatAt.below HP.out hbb (Nat.le_refl _))
        replace HQ := Lib.hid (FlatAt.below HQ.out hbb (Nat.le_refl _))
        replace HB := Lib.hid (belS HB.out hbb)
        clear hbb
        generalize (wz).alloc (.cells #[.string ⟨zm.toArray⟩, .string ⟨zk.toArray⟩, .int .i64 zn, .string ⟨zt.toArray⟩] 51) = w12 at *
        cases xb
        case false =>
          have e1 := hxb rfl
          subst e1
          clear hxb hxg
          have B_x := Vb_x.out
          have x_0 := Vb_x.out.cell 0 (by simp)
          have x_1 := Vb_x.out.cell 1 (by simp)
          have x_2 := Vb_x.out.cell 2 (by simp)
          have x_3 := Vb_x.out.cell 3 (by simp)
          simp only [List.getElem_cons_zero, List.getElem_cons_succ] at x_0 x_1 x_2 x_3
          have x_l := Vb_x.out.lt
          clear B_x
          go_wp2_with fail
          clear x_0 x_1 x_2 x_3 x_l
          refine (HIX.out _).mono ?_
          rintro e w96 ⟨rfl, hb⟩
          replace Vb_x := Lib.hid (Vb_x.out.below hb)
          replace Vb_y := Lib.hid (Vb_y.out.below hb)
          replace Vb_z := Lib.hid (Vb_z.out.below hb)
          replace HP := Lib.hid (FlatAt.below HP.out hb (Nat.le_refl _))
          replace HQ := Lib.hid (FlatAt.below HQ.out hb (Nat.le_refl _))
          replace HB := Lib.hid (belS HB.out hb)
          clear hb
          cases zb
          case false =>
            have B_x := Vb_x.out
            have x_0 := Vb_x.out.cell 0 (by simp)
            have x_1 := Vb_x.out.cell 1 (by simp)
            have x_2 := Vb_x.out.cell 2 (by simp)
            have x_3 := Vb_x.out.cell 3 (by simp)
            simp only [List.getElem_cons_zero, List.getElem_cons_succ] at x_0 x_1 x_2 x_3
            have x_l := Vb_x.out.lt
            clear B_x
            have B_y := Vb_y.out
            have y_0 := Vb_y.out.cell 0 (by simp)
            have y_1 := Vb_y.out.cell 1 (by simp)
            have y_2 := Vb_y.out.cell 2 (by simp)
            have y_3 := Vb_y.out.cell 3 (by simp)
            simp only [List.getElem_cons_zero, List.getElem_cons_succ] at y_0 y_1 y_2 y_3
            have y_l := Vb_y.out.lt
            clear B_y
            have B_z := Vb_z.out
            have z_0 := Vb_z.out.cell 0 (by simp)
            have z_1 := Vb_z.out.cell 1 (by simp)
            have z_2 := Vb_z.out.cell 2 (by simp)
            have z_3 := Vb_z.out.cell 3 (by simp)
            simp only [List.getElem_cons_zero, List.getElem_cons_succ] at z_0 z_1 z_2 z_3
            have z_l := Vb_z.out.lt
            clear B_z
            go_wp2_with fail
            clear x_0 x_1 x_2 x_3 x_l y_0 y_1 y_2 y_3 y_l z_0 z_1 z_2 z_3 z_l
            go_ret
            exact ⟨rfl, HB.out⟩
          case true =>
            have hz2 := HZ2.out rfl
            subst hz2
            have HFW := Lib.hid (fun W => HFZ.out W rfl)
            clear HZ2 HFZ
            have B_x := Vb_x.out
            have x_0 := Vb_x.out.cell 0 (by simp)
            have x_1 := Vb_x.out.cell 1 (by simp)
            have x_2 := Vb_x.out.cell 2 (by simp)
            have x_3 := Vb_x.out.cell 3 (by simp)
            simp only [List.getElem_cons_zero, List.getElem_cons_succ] at x_0 x_1 x_2 x_3
            have x_l := Vb_x.out.lt
            clear B_x
            have B_y := Vb_y.out
            have y_0 := Vb_y.out.cell 0 (by simp)
            have y_1 := Vb_y.out.cell 1 (by simp)
            have y_2 := Vb_y.out.cell 2 (by simp)
            have y_3 := Vb_y.out.cell 3 (by simp)
            simp only [List.getElem_cons_zero, List.getElem_cons_succ] at y_0 y_1 y_2 y_3
            have y_l := Vb_y.out.lt
            clear B_y
            have B_z := Vb_z.out
            have z_0 := Vb_z.out.cell 0 (by simp)
            have z_1 := Vb_z.out.cell 1 (by simp)
            have z_2 := Vb_z.out.cell 2 (by simp)
            have z_3 := Vb_z.out.cell 3 (by simp)
            simp only [List.getElem_cons_zero, List.getElem_cons_succ] at z_0 z_1 z_2 z_3
            have z_l := Vb_z.out.lt
            clear B_z
            go_wp2_with fail
            clear x_0 x_1 x_2 x_3 x_l y_0 y_1 y_2 y_3 y_l z_0 z_1 z_2 z_3 z_l
            refine (HFW.out _).mono ?_
            rintro e w97 ⟨rfl, hb⟩
            replace Vb_x := Lib.hid (Vb_x.out.below hb)
            replace Vb_y := Lib.hid (Vb_y.out.below hb)
            replace Vb_z := Lib.hid (Vb_z.out.below hb)
            replace HP := Lib.hid (FlatAt.below HP.out hb (Nat.le_refl _))
            replace HQ := Lib.hid (FlatAt.below HQ.out hb (Nat.le_refl _))
            replace HB := Lib.hid (belS HB.out hb)
            clear hb
            go_wp2_with fail
            go_ret
            exact ⟨rfl, HB.out⟩
        case true =>
          obtain ⟨e1, e2⟩ := hxg rfl
          subst e1
          injection e2 with q1 q2 q3 q4
          subst q1 q2 q3 q4
          clear hxb hxg
          have B_x := Vb_x.out
          have x_0 := Vb_x.out.cell 0 (by simp)
          have x_1 := Vb_x.out.cell 1 (by simp)
          have x_2 := Vb_x.out.cell 2 (by simp)
          have x_3 := Vb_x.out.cell 3 (by simp)
          simp only [List.getElem_cons_zero, List.getElem_cons_succ] at x_0 x_1 x_2 x_3
          have x_l := Vb_x.out.lt
          clear B_x
          go_wp2_with fail
          clear x_0 x_1 x_2 x_3 x_l
          refine (HIX.out _).mono ?_
          rintro e w96 ⟨rfl, hb⟩
          replace Vb_x := Lib.hid (Vb_x.out.below hb)
          replace Vb_y := Lib.hid (Vb_y.out.below hb)
          replace Vb_z := Lib.hid (Vb_z.out.below hb)
          replace HP := Lib.hid (FlatAt.below HP.out hb (Nat.le_refl _))
          replace HQ := Lib.hid (FlatAt.below HQ.out hb (Nat.le_refl _))
          replace HB := Lib.hid (belS HB.out hb)
          clear hb
          cases zb
          case false =>
            have B_x := Vb_x.out
            have x_0 := Vb_x.out.cell 0 (by simp)
            have x_1 := Vb_x.out.cell 1 (by simp)
            have x_2 := Vb_x.out.cell 2 (by simp)
            have x_3 := Vb_x.out.cell 3 (by simp)
            simp only [List.getElem_cons_zero, List.getElem_cons_succ] at x_0 x_1 x_2 x_3
            have x_l := Vb_x.out.lt
            clear B_x
            have B_y := Vb_y.out
            have y_0 := Vb_y.out.cell 0 (by simp)
            have y_1 := Vb_y.out.cell 1 (by simp)
            have y_2 := Vb_y.out.cell 2 (by simp)
            have y_3 := Vb_y.out.cell 3 (by simp)
            simp only [List.getElem_cons_zero, List.getElem_cons_succ] at y_0 y_1 y_2 y_3
            have y_l := Vb_y.out.lt
            clear B_y
            have B_z := Vb_z.out
            have z_0 := Vb_z.out.cell 0 (by simp)
            have z_1 := Vb_z.out.cell 1 (by simp)
            have z_2 := Vb_z.out.cell 2 (by simp)
            have z_3 := Vb_z.out.cell 3 (by simp)
            simp only [List.getElem_cons_zero, List.getElem_cons_succ] at z_0 z_1 z_2 z_3
            have z_l := Vb_z.out.lt
            clear B_z
            go_wp2_with fail
            clear x_0 x_1 x_2 x_3 x_l y_0 y_1 y_2 y_3 y_l z_0 z_1 z_2 z_3 z_l
            go_ret
            exact ⟨rfl, HB.out⟩
          case true =>
            have hz2 := HZ2.out rfl
            subst hz2
            have HFW := Lib.hid (fun W => HFZ.out W rfl)
            clear HZ2 HFZ
            have B_x := Vb_x.out
            have x_0 := Vb_x.out.cell 0 (by simp)
            have x_1 := Vb_x.out.cell 1 (by simp)
            have x_2 := Vb_x.out.cell 2 (by simp)
            have x_3 := Vb_x.out.cell 3 (by simp)
            simp only [List.getElem_cons_zero, List.getElem_cons_succ] at x_0 x_1 x_2 x_3
            have x_l := Vb_x.out.lt
            clear B_x
            have B_y := Vb_y.out
            have y_0 := Vb_y.out.cell 0 (by simp)
            have y_1 := Vb_y.out.cell 1 (by simp)
            have y_2 := Vb_y.out.cell 2 (by simp)
            have y_3 := Vb_y.out.cell 3 (by simp)
            simp only [List.getElem_cons_zero, List.getElem_cons_succ] at y_0 y_1 y_2 y_3
            have y_l := Vb_y.out.lt
            clear B_y
            have B_z := Vb_z.out
            have z_0 := Vb_z.out.cell 0 (by simp)
            have z_1 := Vb_z.out.cell 1 (by simp)
            have z_2 := Vb_z.out.cell 2 (by simp)
            have z_3 := Vb_z.out.cell 3 (by simp)
            simp only [List.getElem_cons_zero, List.getElem_cons_succ] at z_0 z_1 z_2 z_3
            have z_l := Vb_z.out.lt
            clear B_z
            go_wp2_with fail
            clear x_0 x_1 x_2 x_3 x_l y_0 y_1 y_2 y_3 y_l z_0 z_1 z_2 z_3 z_l
            refine (HFW.out _).mono ?_
            rintro e w97 ⟨rfl, hb⟩
            replace Vb_x := Lib.hid (Vb_x.out.below hb)
            replace Vb_y := Lib.hid (Vb_y.out.below hb)
            replace Vb_z := Lib.hid (Vb_z.out.below hb)
            replace HP := Lib.hid (FlatAt.below HP.out hb (Nat.le_refl _))
            replace HQ := Lib.hid (FlatAt.below HQ.out hb (Nat.le_refl _))
            replace HB := Lib.hid (belS HB.out hb)
            clear hb
            go_wp2_with fail
            go_ret
            exact ⟨rfl, HB.out⟩
set_option maxRecDepth 100000 in
theorem fnCallText_lifted (os : Os) (started : os.Started) (H : Type) (enc : TypeId × Value → H) :
    ReturnsInHanded {} Try.checked os 6 .any (Rows.fnCallTextSpec.pre6 enc Try.prog Try.f6 Rows.fnCallTextRow.domain false) (Rows.fnCallTextSpec.post enc Try.prog Try.f6 false true false false) := by
  refine returnsInHanded_of_change_shaped (C := Try.checked) ownK started (by kernel_rfl) Try.func6
    (ChangeSpec.witness6 (enc := enc) (C := Try.checked) false ⟨#[], #[.slice none 0 0], []⟩ 8 (by kernel_rfl) (by kernel_rfl) (by kernel_rfl) (by kernel_rfl)) ?_
  intro W base args ds gs before hval0 hW _ _ hsh _
  have hval : ∀ (j : Nat) t v, Try.f6.params[j]? = some t → args[j]? = some v → Value.okWide Try.prog W .any base t v := hval0
  have hW' := hW
  obtain ⟨p, q, hA0, _, rfl, _, _⟩ := hW
  have hA : DataW.TrodAll enc Try.prog W 0 (fun _ => true) true Try.f6.params.toList args.toList ds p := hA0
  rw [Try.params6] at hA hval
  obtain ⟨v0, vs0, d0, ds0, p0, q0, hargs, rfl, rfl, h0, r0⟩ := trodAll_cons hA
  obtain ⟨rfl, rfl, rfl⟩ := trodAll_nil r0
  obtain rfl : args = #[v0] := by cases args; simp_all
  obtain ⟨l0, w0⟩ := open_byteRow Try.underlying22 Try.underlying5 (by kernel_rfl) (hval 0 22 v0 rfl rfl) h0
  clear hA0 hval0
  obtain ⟨m, hm⟩ := Try.laysM143.s1_3 W hsh
  refine (fnCallText_any v0 l0 W w0 m hm).mono fun e W1 ⟨he, hb⟩ => ?_
  subst he
  exact ⟨_, rfl, law_post laidK rfl (by kernel_rfl) Try.underlying4 (by kernel_rfl) (fun ds h => by match ds, h with | [_], _ => rfl) hW' hb⟩
theorem fnCallText_closed : joinedFacts Try.prog 6 Try.f6 Rows.fnCallTextSpec Rows.fnCallTextRow = true := by unfold joinedFacts; rw [mayEnter_k, liftsFinal_k, make_k]; kernel_rfl
theorem fnCallText_holds : Rows.FnCallTextSaid :=
  OpenClaim.holds_of_wide 6 Try.f6 rfl rfl rfl rfl rfl rfl rfl ⟨rfl, rfl, rfl, rfl, rfl⟩ rfl rfl rfl rfl rfl (by kernel_rfl) Try.func6 fnCallText_closed
    (of_decide_eq_true (by kernel_rfl)) (by unfold Func.isWrapper; first | (rw [if_pos (by decide +kernel)]; kernel_rfl) | (rw [if_neg (by decide +kernel)]; exact ⟨rfl, rfl⟩))
    (fun os started H enc _ => fnCallText_lifted os started H enc)
end Go.Proofs.Ytghebbndfpbkcac
