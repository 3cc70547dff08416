/- copyCore: new cells, new texts. -/
import Derived.Test.YtmoliamenekemaaAssert
import Derived.Test.YtmoliamenekemaaTCore
import Derived.Test.YtmoliamenekemaaRep
import Derived.Test.YtmoliamenekemaaCellQ
import Derived.Test.YtmoliamenekemaaJoin
import Derived.Deep.AppendLies
namespace Go.Proofs.Ytmoliamenekemaa
set_option linter.unusedVariables false
set_option linter.unusedSimpArgs false
open Go.RowKit
/-- append of one cell to a row of one's own, at a step of a region that draws -/
theorem step_cells {ops : Array Oper} {o : Oper} {a : Act} {K : Act → World → Prop} {Q : Exit → Act → World → Prop} {E : Prop} (hgd : o.guard = none) (s x : Operand)
    (ho : o.op = .call { callee := .builtin .append, args := #[s, x], argTypes := #[30, 30] }) (B : Nat) (v : Value) (l : List CellD) (y : CellD) (w : World) (blk : Nat)
    (hs : a.eval s = v) (hO : OwnsF cCell 115 2 w B v l) (hx : a.eval x = .slice (some ⟨blk, 0, none⟩) 1 1) (hc : ∀ j, j < 2 → w.cell? ⟨blk, j, none⟩ = (cCell y)[j]?) (hl : l.length ≤ 4194304) (hB : B ≤ w.heap.size)
    (h : ∀ v' w', OwnsF cCell 115 2 w' B v' (l ++ [y]) → w.grownBy w' v.ownBlock → K (a.put o.dst v') w') : if Region.wanted o (yielded ops a.tmps) = true then Oper.wp Try.prog o a w K Q else E := by
  obtain ⟨i0, hi, hz0, hz1, hz2⟩ := info_parts cell_info
  refine step_append_lies w hgd s x 30 ho B 115 i0 _ 2 24 Try.underlying30 hi hz0 hz1 hz2 rfl (by decide) v l.length (l.flatMap cCell) hs hO ⟨blk, 0, none⟩ 1 1 (cCell y) hx rfl ?_ (cCell_one y) (by decide) (by unfold maxLen; omega) (by omega) hB _ rfl ?_
  · intro j u hj
    have hj2 : j < 2 := (List.getElem?_eq_some_iff.1 hj).1
    rw [Addr.add_lit, Nat.zero_add, hc j hj2]; exact hj
  · intro g cap w' h1 h2 _ _
    refine h _ w' ?_ h2
    unfold OwnsF; rw [List.flatMap_append, List.length_append]; simpa using h1
theorem ownsF_drew {α : Type} {f : α → List Value} {E k : Nat} {w : World} {B : Nat} {v : Value} {l : List α} (h : OwnsF f E k w B v l) : OwnsF f E k w.drew B v l := h
set_option maxRecDepth 100000 in
set_option maxHeartbeats 3200000 in
theorem copyCore_c (v : Value) (d : CoreD) (w : World) (hx : CoreAt w v d) (hm : d.fCells.length ≤ 2097152) (hs : ∀ c ∈ d.fCells, c.fKey.length ≤ 1048576) (hk : d.fKind.length ≤ 1048576) :
    Calls Try.prog 80 #[v] w fun e w' => GivesCore d w e w' := by
  obtain ⟨cv, rfl, hx⟩ := hx
  obtain ⟨i0, hi, hz0, hz1, hz2⟩ := info_parts cell_info
  obtain ⟨kd, on, br, l, cnt⟩ := d
  unfold vCore
  simp only at *
  obtain ⟨a, c, rfl, hl⟩ := flatAt_len hx
  have HX := Lib.hid hx
  have HS := Lib.hid hs
  clear hx hs
  unfold maxLen at hl
  have HB0 := Lib.hid (show ∀ o1 o2, Below w.heap.size w ((w.alloc o1).alloc o2) from fun o1 o2 => ((Below.refl _ _).alloc (Nat.le_refl _) _).alloc (by simp) _)
  have HKD := Lib.hid (fun W => copyText_any ⟨kd.toArray⟩ W (by rw [← size_list]; simp; omega))
  have hb2 : i0.bytes * l.length ≤ 281474976710656 := by rw [hz2]; omega
  have HB2 := Lib.hid hb2
  have HM := Lib.hid (show l.length ≤ maxLen from by unfold maxLen; omega)
  clear hb2
  go_enter Try.func80, Try.ntmps80
  go_wp2_with (refine wpList_make_own _ rfl _ _ 30 rfl (w.heap.size + 1 + 1) 115 i0 _ 2 Try.underlying30 hi hz0 hz1 .i64 .i64 _ l.length rfl rfl rfl HB2.out HM.out (by simp) ?_; intro w1 hown1 hgrow1; have q0 : w1.cell? ⟨w.heap.size, 0, none⟩ = some (.string ⟨kd.toArray⟩) := hgrow1.cell (a := ⟨w.heap.size, 0, none⟩) (by simp [go_sem]) (by simp); have q1 : w1.cell? ⟨w.heap.size, 1, none⟩ = some (.bool on) := hgrow1.cell (a := ⟨w.heap.size, 1, none⟩) (by simp [go_sem]) (by simp); have q2 : w1.cell? ⟨w.heap.size, 2, none⟩ = some (.bool br) := hgrow1.cell (a := ⟨w.heap.size, 2, none⟩) (by simp [go_sem]) (by simp); have q3 : w1.cell? ⟨w.heap.size, 3, none⟩ = some (.slice a l.length c) := hgrow1.cell (a := ⟨w.heap.size, 3, none⟩) (by simp [go_sem]) (by simp); have q4 : w1.cell? ⟨w.heap.size, 4, none⟩ = some (.int .i64 cnt) := hgrow1.cell (a := ⟨w.heap.size, 4, none⟩) (by simp [go_sem]) (by simp); have r0 : w1.cell? ⟨w.heap.size + 1, 0, none⟩ = some (.string ⟨#[]⟩) := hgrow1.cell (a := ⟨w.heap.size + 1, 0, none⟩) (by simp [go_sem]) (by simp); have r1 : w1.cell? ⟨w.heap.size + 1, 1, none⟩ = some (.bool false) := hgrow1.cell (a := ⟨w.heap.size + 1, 1, none⟩) (by simp [go_sem]) (by simp); have r2 : w1.cell? ⟨w.heap.size + 1, 2, none⟩ = some (.bool false) := hgrow1.cell (a := ⟨w.heap.size + 1, 2, none⟩) (by simp [go_sem]) (by simp); have r3 : w1.cell? ⟨w.heap.size + 1, 3, none⟩ = some (.slice none 0 0) := hgrow1.cell (a := ⟨w.heap.size + 1, 3, none⟩) (by simp [go_sem]) (by simp); have r4 : w1.cell? ⟨w.heap.size + 1, 4, none⟩ = some (.int .i64 0) := hgrow1.cell (a := ⟨w.heap.size + 1, 4, none⟩) (by simp [go_sem]) (by simp))
  have HO0 := Lib.hid (show OwnsF cCell 115 2 w1 (w.heap.size + 1 + 1) (.slice (some ⟨w.heap.size + 1 + 1, 0, none⟩) 0 l.length) (l.take 0) from by simpa [OwnsF] using hown1)
  have HW1 := Lib.hid (show Below w.heap.size w w1 from (HB0.out _ _).trans ⟨hgrow1.os, hgrow1.tape, hgrow1.output, hgrow1.size, fun i hi => hgrow1.block i (by simp; omega) (by simp)⟩)
  have HS1 := Lib.hid (show w.heap.size + 1 + 1 ≤ w1.heap.size from by simpa using hgrow1.size)
  have HQ := Lib.hid (And.intro q0 (And.intro q1 (And.intro q2 (And.intro q3 q4))))
  have HR := Lib.hid (And.intro r0 (And.intro r1 (And.intro r2 (And.intro r3 r4))))
  have HZ := Lib.hid (show ∀ i o, i < w.heap.size + 1 + 1 → w.heap.size ≤ i → w1.frozen? ⟨i, o, none⟩ = false from fun i o h1 h2 => by
    rw [World.frozen?_of_block (a := ⟨i, o, none⟩) (hgrow1.block i (by simpa using h1) (by simp))]
    rcases (show i = w.heap.size ∨ i = w.heap.size + 1 by omega) with rfl | rfl <;> simp [go_sem])
  clear hown1 hgrow1 hz0 hz1 hz2 HB2 hi r0 r1 r2 r3 r4
  go_loopw [3, 5, 13] (fun u _ i wr => ∃ k : Nat, k ≤ l.length ∧ i = .int .i64 k ∧ OwnsF cCell 115 2 wr (w.heap.size + 1 + 1) u (l.take k) ∧ Below (w.heap.size + 1 + 1) w1 wr) (fun _ _ i _ => l.length - (intOf i).toNat)
  case atStart => exact ⟨0, Nat.zero_le _, rfl, HO0.out, Below.refl _ _⟩
  case round =>
    obtain ⟨k, hk2, rfl, hO, hb⟩ := hrel
    have HO := Lib.hid hO
    have HB := Lib.hid hb
    have HBw := Lib.hid (show Below w.heap.size w wr from HW1.out.trans (hb.mono (by omega)))
    have HXr := Lib.hid (FlatAt.below HX.out HBw.out (Nat.le_refl _))
    have HLT := Lib.hid (show ∀ g, u3.ownBlock = some g → g < wr.heap.size from fun g h => (World.ownsRow.lt hO g h).2)
    have HSZ := Lib.hid (Nat.le_trans HS1.out hb.size)
    clear hO hb
    by_cases hlt : k < l.length
    · obtain ⟨b, o, rfl, hbl, hd⟩ := flatAt_cell cCell_len HXr.out k hlt (by decide)
      have d0 := hd 0 (by decide)
      have d1 := hd 1 (by decide)
      clear hd
      have HSN := Lib.hid (show l.take (k + 1) = l.take k ++ [l[k]] from by rw [List.take_succ_eq_append_getElem hlt])
      have hks := HS.out l[k] (List.getElem_mem hlt)
      generalize l[k] = p at *
      obtain ⟨a0, a1⟩ := p
      simp only [cCell, List.getElem?_cons_zero, List.getElem?_cons_succ, Nat.add_zero] at d0 d1 hks
      have HCT := Lib.hid (fun W => copyText_any ⟨a0.toArray⟩ W (by rw [← size_list]; simp; omega))
      clear hks
      go_wp2_with fail
      go_region_held3 (fun w' => w'.cell? ⟨wr.heap.size, 0, none⟩ = some (.string ⟨a0.toArray⟩) ∧ w'.cell? ⟨wr.heap.size, 1, none⟩ = some (.int .i64 a1))
        (first
          | go_keep
          | (rw [hb1.cell (p := ⟨wr.heap.size, 0, none⟩) (by simp), hb1.cell (p := ⟨wr.heap.size, 1, none⟩) (by simp)]; assumption)
          | (rw [hg1.cell_far ⟨wr.heap.size, 0, none⟩ (by have := hb1.size; simp at *; omega) (by intro e; have := HLT.out _ e.symm; simp at this), hg1.cell_far ⟨wr.heap.size, 1, none⟩ (by have := hb1.size; simp at *; omega) (by intro e; have := HLT.out _ e.symm; simp at this)]; assumption))
        (first
          | (go_at_call 54; (with_reducible refine (HCT.out _).mono ?_); rintro e w2 ⟨rfl, hb1⟩)
          | (refine step_cells rfl _ _ rfl (w.heap.size + 1 + 1) u3 (l.take k) ⟨a0, a1⟩ _ w2.heap.size rfl (ownsF_alloc (ownsF_below (ownsF_drew (ownsF_alloc HO.out _)) hb1 (Nat.le_refl _)) _) rfl (cell_newC w2 ⟨a0, a1⟩ _ rfl) ?_ ?_ ?_; (simp; omega); (have h1 := hb1.size; have h2 := HSZ.out; simp at h1; simp; omega); intro v' w4 hO4 hg1))
      have HA := Lib.hid (((Below.refl wr.heap.size wr).alloc (Nat.le_refl _) (.cells #[.string ⟨a0.toArray⟩, .int .i64 a1] 115)).drew)
      have HA1 := Lib.hid ((HA.out.trans (hb1.mono HA.out.size)).alloc (HA.out.trans (hb1.mono HA.out.size)).size (.cells #[.string ⟨a0.toArray⟩, .int .i64 a1] 115))
      have HA2 := Lib.hid (HB.out.trans (HA1.out.mono (HSZ.out)))
      have HA3 := Lib.hid (below_appendF HA2.out (ownsF_alloc (ownsF_below (ownsF_drew (ownsF_alloc HO.out _)) hb1 (Nat.le_refl _)) _) hg1 (Nat.le_trans HS1.out HA2.out.size))
      have HO4 := Lib.hid hO4
      rename_i hheld
      clear hb1 hg1 hO4 hheld
      go_wp2_with fail
      exact ⟨⟨k + 1, by omega, by go_num, by rw [HSN.out]; exact HO4.out, HA3.out⟩, by simp [intOf]; omega⟩
    · have HOl := Lib.hid (show OwnsF cCell 115 2 wr (w.heap.size + 1 + 1) u3 l from by have h := HO.out; rw [List.take_of_length_le (by omega)] at h; exact h)
      obtain ⟨ua, uc, rfl⟩ : ∃ ua uc, u3 = .slice ua l.length uc := by
        rcases HOl.out.2 with ⟨rfl, hn⟩ | ⟨g, cap, cur, rfl, _⟩
        · exact ⟨none, 0, by rw [hn]⟩
        · exact ⟨_, _, rfl⟩
      obtain ⟨q0, q1, q2, q3, q4⟩ := HQ.out
      obtain ⟨r0, r1, r2, r3, r4⟩ := HR.out
      replace q0 := (HB.out.cell (p := ⟨w.heap.size, 0, none⟩) (by simp; omega)).trans q0
      replace q1 := (HB.out.cell (p := ⟨w.heap.size, 1, none⟩) (by simp; omega)).trans q1
      replace q2 := (HB.out.cell (p := ⟨w.heap.size, 2, none⟩) (by simp; omega)).trans q2
      replace q3 := (HB.out.cell (p := ⟨w.heap.size, 3, none⟩) (by simp; omega)).trans q3
      replace q4 := (HB.out.cell (p := ⟨w.heap.size, 4, none⟩) (by simp; omega)).trans q4
      replace r0 := (HB.out.cell (p := ⟨w.heap.size + 1, 0, none⟩) (by simp)).trans r0
      replace r1 := (HB.out.cell (p := ⟨w.heap.size + 1, 1, none⟩) (by simp)).trans r1
      replace r2 := (HB.out.cell (p := ⟨w.heap.size + 1, 2, none⟩) (by simp)).trans r2
      replace r3 := (HB.out.cell (p := ⟨w.heap.size + 1, 3, none⟩) (by simp)).trans r3
      replace r4 := (HB.out.cell (p := ⟨w.heap.size + 1, 4, none⟩) (by simp)).trans r4
      have z0 : ∀ o, wr.frozen? ⟨w.heap.size, o, none⟩ = false := fun o => (HB.out.frozen (p := ⟨w.heap.size, o, none⟩) (by simp; omega)).trans (HZ.out _ o (by omega) (by omega))
      have z1 : ∀ o, wr.frozen? ⟨w.heap.size + 1, o, none⟩ = false := fun o => (HB.out.frozen (p := ⟨w.heap.size + 1, o, none⟩) (by simp)).trans (HZ.out _ o (by omega) (by omega))
      have hsz := HSZ.out
      have hl0 : w.heap.size < wr.heap.size := by omega
      have hl1 : w.heap.size + 1 < wr.heap.size := by omega
      go_wp2_with fail
      refine (HKD.out _).mono ?_
      rintro e w5 ⟨rfl, hb5⟩
      have HB5 := Lib.hid hb5
      obtain ⟨hcc, hff⟩ := bcell hb5
      clear hb5
      go_wp2_with fail
      refine bodyPost_ret (v := .agg #[.string ⟨kd.toArray⟩, .bool on, .bool br, .slice ua l.length uc, .int .i64 cnt]) (by simp [results, Try.results80, go_sem, cell_set_at, cell_set_ne, hcc, q0, q1, q2, q3, q4, r0, r1, r2, r3, r4, hl0, hl1]) rfl ?_
      refine ⟨_, rfl, ⟨_, rfl, ?_⟩, ?_⟩
      · refine ownsF_base (B := w.heap.size + 1 + 1) ?_ (by omega)
        repeat (with_reducible refine ownsF_set ?_ (by simp; try omega))
        exact ownsF_below HOl.out HB5.out (Nat.le_refl _)
      · repeat (with_reducible refine Below.setCell ?_ (by simp; try omega) _)
        exact HBw.out.trans (HB5.out.mono (by omega))
end Go.Proofs.Ytmoliamenekemaa
