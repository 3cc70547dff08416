/- Contracts of chapter 3: the program's FormatCells. -/
import Derived.Test.YtmgfokikkhfibaaCells1
import Derived.Deep.AppendLies
namespace Go.Proofs.Ytmgfokikkhfibaa
set_option linter.unusedVariables false
open Go.RowKit
/-- append of one text to a row of one's own, at a step of a region that draws -/
theorem step_strs {ops : Array Oper} {o : Oper} {a : Act} {K : Act → World → Prop} {Q : Exit → Act → World → Prop} {E : Prop} (hgd : o.guard = none) (s x : Operand)
    (ho : o.op = .call { callee := .builtin .append, args := #[s, x], argTypes := #[48, 48] }) (B : Nat) (v : Value) (xs : List (List UInt8)) (y : List UInt8) (w : World) (blk : Nat)
    (hs : a.eval s = v) (hO : Owns w B v xs) (hx : a.eval x = .slice (some ⟨blk, 0, none⟩) 1 1) (hc : w.cell? ⟨blk, 0, none⟩ = some (strV y)) (hl : xs.length ≤ 4194304) (hB : B ≤ w.heap.size)
    (h : ∀ v' w', Owns w' B v' (xs ++ [y]) → w.grownBy w' v.ownBlock → K (a.put o.dst v') w') : if Region.wanted o (yielded ops a.tmps) = true then Oper.wp Try.prog o a w K Q else E := by
  obtain ⟨i0, hi, hz0, hz1, hz2⟩ := info_parts string_info
  refine step_append_lies w hgd s x 48 ho B 9 i0 (.string ⟨#[]⟩) 1 16 Try.underlying48 hi hz0 hz1 hz2 rfl (by decide) v xs.length (xs.map strV) hs hO ⟨blk, 0, none⟩ 1 1 [strV y] hx rfl ?_ ?_ (by decide) (by unfold maxLen; omega) (by omega) hB _ rfl ?_
  · intro j u hj
    cases j with
    | zero => simp at hj; subst hj; rw [Addr.add_lit]; exact hc
    | succ j => simp at hj
  · intro u hu; simp at hu; subst hu; rfl
  · intro g cap w' h1 h2 _ _
    refine h _ w' ?_ h2
    unfold Owns; rw [List.map_append, List.length_append]; exact h1
theorem owns_drew {w : World} {B : Nat} {v : Value} {xs : List (List UInt8)} (h : Owns w B v xs) : Owns w.drew B v xs := h
theorem below_drew {B : Nat} {a w : World} (h : Below B a w) : Below B a w.drew := ⟨h.os, h.tape, h.output, h.size, h.block⟩
theorem row_lit2 (w : World) (a b : List UInt8) (c : Nat) : RowAt (w.alloc (.cells #[.string ⟨a.toArray⟩, .string ⟨b.toArray⟩] 9)) (.slice (some ⟨w.heap.size, 0, none⟩) 2 c) ([a, b].map strV) := by
  refine ⟨_, c, rfl, by unfold maxLen; simp, Or.inr ⟨w.heap.size, 0, rfl, by simp, fun i hi => ?_⟩⟩
  rw [cell_of_row _ _ _ _ 9 (0, 0) (heap_alloc_new w _)]
  simp [strV]
theorem row_lit1 (w : World) (a : List UInt8) (c : Nat) : RowAt (w.alloc (.cells #[.string ⟨a.toArray⟩] 9)) (.slice (some ⟨w.heap.size, 0, none⟩) 1 c) ([a].map strV) := by
  refine ⟨_, c, rfl, by unfold maxLen; simp, Or.inr ⟨w.heap.size, 0, rfl, by simp, fun i hi => ?_⟩⟩
  rw [cell_of_row _ _ _ _ 9 (0, 0) (heap_alloc_new w _)]
  simp [strV]
theorem nameB_len8 {l : List UInt8} (h : nameB l = true) : l.length ≤ 8 := by simp only [nameB, Bool.and_eq_true, decide_eq_true_iff] at h; exact h.1.1.2
theorem cellT_len {d : CellD} (h : nameB d.fKey = true) (h2 : numB d.fValue = true) : (cellT d).length ≤ 12 := by
  obtain ⟨k, e, hk⟩ := numB_nat h2
  have h1 := nameB_len8 h
  have h3 := numL_len hk
  unfold cellT; rw [e]; simp; omega
theorem fmt_small (l : List CellD) (h : ∀ d ∈ l, nameB d.fKey = true ∧ numB d.fValue = true) (hl : l.length ≤ 4) : (joinL (l.map cellT) [44]).length ≤ 100 := by
  have h1 := joinK_len (l.map cellT) [44] (l.map cellT).length (Nat.le_refl _)
  rw [List.take_length, List.length_map] at h1
  have h2 : total (l.map cellT) ≤ 12 * l.length := by
    clear h1 hl
    induction l with
    | nil => simp [total]
    | cons a r ih =>
      have := ih fun d hd => h d (List.mem_cons_of_mem _ hd)
      have h3 := cellT_len (h a List.mem_cons_self).1 (h a List.mem_cons_self).2
      simp only [List.map_cons, total, List.length_cons]; omega
  unfold joinL; simp only [List.length_map, List.length_cons, List.length_nil] at *; omega
theorem map_cellT_snoc (l : List CellD) (k : Nat) (h : k < l.length) : (l.take (k + 1)).map cellT = (l.take k).map cellT ++ [cellT l[k]] := by
  rw [List.take_succ_eq_append_getElem h, List.map_append]; rfl
set_option maxRecDepth 100000 in
set_option maxHeartbeats 1600000 in
theorem implFormatCells_any (v : Value) (l : List CellD) (w : World) (hx : FlatAt cCell 2 w v l) (hs : ∀ d ∈ l, d.fKey.length ≤ maxLen) :
    Calls Try.prog 17 #[v] w fun e w' => e = .returned (.string ⟨(fmtC l).toArray⟩) ∧ Below w.heap.size w w' := by
  have HC := Lib.hid (implIsCells_any v l w hx hs)
  obtain ⟨a, c, rfl, hl⟩ := flatAt_len hx
  have HX := Lib.hid hx
  clear hx hs
  unfold maxLen at hl
  cases hc : cellsB l with
  | false =>
    have HF := Lib.hid (show fmtC l = [] by unfold fmtC; rw [hc]; rfl)
    rw [hc] at HC
    clear hc
    go_enter Try.func17, Try.ntmps17
    go_wp2_with fail
    refine HC.out.mono ?_
    rintro e w1 ⟨rfl, hb⟩
    go_wp2_with fail
    go_ret
    exact ⟨ret_str (by rw [HF.out]), hb⟩
  | true =>
    have hm := cellsB_mem hc
    have hl4 := cellsB_len hc
    by_cases h0 : l = []
    · subst h0
      have HF := Lib.hid (show fmtC [] = [45] by rfl)
      rw [hc] at HC
      clear hc
      go_enter Try.func17, Try.ntmps17
      go_wp2_with fail
      refine HC.out.mono ?_
      rintro e w1 ⟨rfl, hb⟩
      go_wp2_with fail
      go_ret
      exact ⟨ret_str (by rw [HF.out]), hb⟩
    · have hpos : 0 < l.length := List.length_pos_iff.2 h0
      have hne : ((l.length : Int) == 0) = false := by rw [beq_eq_false_iff_ne]; omega
      have HF := Lib.hid (show fmtC l = joinL (l.map cellT) [44] by unfold fmtC; rw [if_pos hc, if_neg h0])
      have HSM := Lib.hid (fmt_small l hm hl4)
      have HM := Lib.hid hm
      rw [hc] at HC
      clear hc h0 hm
      go_enter Try.func17, Try.ntmps17
      go_wp2_with fail
      refine HC.out.mono ?_
      rintro e w1 ⟨rfl, hb⟩
      have HB := Lib.hid hb
      have HX1 := Lib.hid (FlatAt.below HX.out hb (Nat.le_refl _))
      clear hb
      have HO := Lib.hid (owns_new w1)
      have HS1 := Lib.hid HB.out.size
      go_wp2_with fail
      go_loopw [3, 5, 15] (fun ov _ i wr => ∃ k : Nat, k ≤ l.length ∧ i = .int .i64 k ∧ Owns wr w1.heap.size ov ((l.take k).map cellT) ∧ Below w.heap.size w wr ∧ Below w1.heap.size w1 wr) (fun _ _ i _ => l.length - (intOf i).toNat)
      case atStart => exact ⟨0, Nat.zero_le _, rfl, HO.out, HB.out.alloc HB.out.size _, (Below.refl _ _).alloc (Nat.le_refl _) _⟩
      case round =>
        obtain ⟨k, hk, rfl, hO, hb, hb1⟩ := hrel
        have HO2 := Lib.hid hO
        have HB2 := Lib.hid hb
        have HB3 := Lib.hid hb1
        have HXr := Lib.hid (FlatAt.below HX1.out hb1 (Nat.le_refl _))
        clear hO hb hb1
        by_cases hlt : k < l.length
        · obtain ⟨b, o, rfl, hbl, hd⟩ := flatAt_cell cCell_len HXr.out k hlt (by decide)
          have d0 := hd 0 (by decide)
          have d1 := hd 1 (by decide)
          clear hd
          have HSN := Lib.hid (map_cellT_snoc l k hlt)
          have hmm := HM.out l[k] (List.getElem_mem hlt)
          obtain ⟨z, hz, hz9⟩ := numB_nat hmm.2
          have HN8 := Lib.hid (nameB_len8 hmm.1)
          have HZ3 := Lib.hid (numL_len hz9)
          have HCT := Lib.hid (show joinL [(l[k]).fKey, numL z] [61] = cellT l[k] by rw [joinL_two]; unfold cellT; rw [hz])
          have HFM := Lib.hid (fun w0 => implFormat_any z w0 (by omega) (by omega))
          clear hmm
          generalize l[k] = p at *
          obtain ⟨a0, a1⟩ := p
          simp only [cCell, List.getElem?_cons_zero, List.getElem?_cons_succ, Nat.add_zero] at d0 d1 hz
          subst hz
          have HJ := Lib.hid (fun (w0 : World) (n0 : Nat) (h : n0 = w0.heap.size) => implJoin_any (.slice (some ⟨n0, 0, none⟩) 2 2) [a0, numL z] ⟨#[61]⟩ _ (by subst h; exact row_lit2 w0 a0 (numL z) 2) (by have := HN8.out; have := HZ3.out; simp only at *; rw [joinL_two]; simp; omega) (by decide))
          rw [HCT.out] at HJ
          have HLT := Lib.hid (show ∀ g, u3.ownBlock = some g → g < wr.heap.size from fun g h => (World.ownsRow.lt HO2.out g h).2)
          go_wp2_with fail
          go_region_held3 (fun w' => w'.cell? ⟨wr.heap.size, 0, none⟩ = some (.string ⟨a0.toArray⟩) ∧ w'.cell? ⟨wr.heap.size, 1, none⟩ = some (.int .i64 z))
            (first
              | go_keep
              | (rw [hb1.cell (p := ⟨wr.heap.size, 0, none⟩) (by simp), hb1.cell (p := ⟨wr.heap.size, 1, none⟩) (by simp)]; assumption)
              | (rw [hb2.cell (p := ⟨wr.heap.size, 0, none⟩) (by have := hb1.size; simp at this; simp; omega), hb2.cell (p := ⟨wr.heap.size, 1, none⟩) (by have := hb1.size; simp at this; simp; omega)]; assumption)
              | (rw [hg1.cell_far ⟨wr.heap.size, 0, none⟩ (by have := hb1.size; have := hb2.size; simp at *; omega) (by intro e; have := HLT.out _ e.symm; simp at this), hg1.cell_far ⟨wr.heap.size, 1, none⟩ (by have := hb1.size; have := hb2.size; simp at *; omega) (by intro e; have := HLT.out _ e.symm; simp at this)]; assumption))
            (first
              | (go_at_call 40; refine (HFM.out _).mono ?_; rintro e w2 ⟨rfl, hb1⟩)
              | (go_at_call 39; refine (HJ.out _ _ rfl).mono ?_; rintro e w3 ⟨rfl, hb2⟩)
              | (refine step_strs rfl _ _ rfl w1.heap.size u3 ((l.take k).map cellT) (cellT ⟨a0, z⟩) _ w3.heap.size rfl (owns_alloc (owns_below (owns_alloc (owns_below (owns_drew (owns_alloc HO2.out _)) hb1 (Nat.le_refl _)) _) hb2 (Nat.le_refl _)) _) rfl (cell_new _ _ _) ?_ ?_ ?_; (simp; omega); (have h1 := hb1.size; have h2 := hb2.size; have h3 := HB3.out.size; simp at h1 h2 h3; simp; omega); intro v' w4 hO4 hg1))
          have HA := Lib.hid (below_drew ((Below.refl wr.heap.size wr).alloc (Nat.le_refl _) (.cells #[.string ⟨a0.toArray⟩, .int .i64 z] 53)))
          have HA1 := Lib.hid ((HA.out.trans (hb1.mono HA.out.size)).alloc (HA.out.trans (hb1.mono HA.out.size)).size (.cells #[.string ⟨a0.toArray⟩, .string ⟨(numL z).toArray⟩] 9))
          have HA2 := Lib.hid ((HA1.out.trans (hb2.mono HA1.out.size)).alloc (HA1.out.trans (hb2.mono HA1.out.size)).size (.cells #[.string ⟨(cellT ⟨a0, z⟩).toArray⟩] 9))
          have HA3 := Lib.hid (below_append (HB3.out.trans (HA2.out.mono HB3.out.size)) (owns_alloc (owns_below (owns_alloc (owns_below (owns_drew (owns_alloc HO2.out _)) hb1 (Nat.le_refl _)) _) hb2 (Nat.le_refl _)) _) hg1 (HB3.out.trans (HA2.out.mono HB3.out.size)).size)
          have HO4' := Lib.hid hO4
          rename_i hheld
          clear hb1 hb2 hg1 hO4 hheld
          go_wp2_with fail
          exact ⟨⟨k + 1, by omega, by go_num, by rw [HSN.out]; exact HO4'.out, HB.out.trans (HA3.out.mono HS1.out), HA3.out⟩, by simp [intOf]; omega⟩
        · have HN := Lib.hid (show (l.take k).map cellT = l.map cellT from by rw [List.take_of_length_le (by omega)])
          have HJ := Lib.hid (implJoin_any u3 (l.map cellT) ⟨#[44]⟩ wr (by rw [← HN.out]; exact owns_row HO2.out (by simp; omega)) (by have := HSM.out; simp only at *; omega) (by decide))
          go_wp2_with fail
          refine HJ.out.mono ?_
          rintro e w2 ⟨rfl, hb⟩
          go_wp2_with fail
          go_ret
          exact ⟨ret_str HF.out.symm, HB2.out.trans (hb.mono HB2.out.size)⟩
end Go.Proofs.Ytmgfokikkhfibaa
