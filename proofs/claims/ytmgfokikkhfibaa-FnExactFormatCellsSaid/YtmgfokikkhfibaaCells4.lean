/- Contracts of chapter 3: the model's FormatCells. -/
import Derived.Test.YtmgfokikkhfibaaCells2
import Derived.Test.YtmgfokikkhfibaaCells3
namespace Go.Proofs.Ytmgfokikkhfibaa
set_option linter.unusedVariables false
open Go.RowKit
theorem cellT_cat (a0 : List UInt8) (z : Nat) : ((⟨a0.toArray⟩ ++ ⟨#[61]⟩ ++ ⟨(numL z).toArray⟩ : ByteArray)).data.toList = cellT ⟨a0, z⟩ := by
  rw [data_app, data_app]; simp [cellT]
theorem cell_cat (w : World) (a0 : List UInt8) (z : Nat) (t : TypeId) (blk : Nat) (h : blk = w.heap.size) : (w.alloc (.cells #[.string (⟨a0.toArray⟩ ++ ⟨#[61]⟩ ++ ⟨(numL z).toArray⟩ : ByteArray)] t)).cell? ⟨blk, 0, none⟩ = some (strV (cellT ⟨a0, z⟩)) := by
  rw [cell_newS _ _ _ _ h, cellT_cat]
set_option maxRecDepth 100000 in
set_option maxHeartbeats 1600000 in
theorem specFormatCells_any (v : Value) (l : List CellD) (w : World) (hx : FlatAt cCell 2 w v l) (hs : ∀ d ∈ l, d.fKey.length ≤ maxLen) :
    Calls Try.prog 16 #[v] w fun e w' => e = .returned (.string ⟨(fmtC l).toArray⟩) ∧ Below w.heap.size w w' := by
  have HC := Lib.hid (fun o => specIsCells_any v l (w.alloc o) (hx.below ((Below.refl w.heap.size w).alloc (Nat.le_refl _) o) (Nat.le_refl _)) hs)
  obtain ⟨a, c, rfl, hl⟩ := flatAt_len hx
  have HX := Lib.hid hx
  clear hx hs
  unfold maxLen at hl
  have HA0 := Lib.hid (show ∀ o, Below w.heap.size w (w.alloc o) from fun o => (Below.refl w.heap.size w).alloc (Nat.le_refl _) o)
  cases hc : cellsB l with
  | false =>
    have HF := Lib.hid (show fmtC l = [] by unfold fmtC; rw [hc]; rfl)
    rw [hc] at HC
    clear hc
    go_enter Try.func16, Try.ntmps16
    go_wp2_with fail
    refine (HC.out _).mono ?_
    rintro e w1 ⟨rfl, hb⟩
    go_wp2_with fail
    go_ret
    exact ⟨ret_str (by rw [HF.out]), (HA0.out _).trans (hb.mono (HA0.out _).size)⟩
  | true =>
    have hm := cellsB_mem hc
    have hl4 := cellsB_len hc
    have HSM := Lib.hid (fmt_small l hm hl4)
    have HM := Lib.hid hm
    have HF0 := Lib.hid (show l = [] → fmtC l = [45] by rintro rfl; rfl)
    have HF := Lib.hid (show l ≠ [] → fmtC l = joinL (l.map cellT) [44] from fun h0 => by unfold fmtC; rw [if_pos hc, if_neg h0])
    rw [hc] at HC
    clear hc hm
    have HO := Lib.hid (owns_new w)
    go_enter Try.func16, Try.ntmps16
    go_wp2_with fail
    refine (HC.out _).mono ?_
    rintro e w1 ⟨rfl, hb⟩
    have HO1 := Lib.hid (owns_below HO.out hb (Nat.le_refl _))
    have HB := Lib.hid ((HA0.out _).trans (hb.mono (HA0.out _).size))
    have HX1 := Lib.hid (FlatAt.below HX.out HB.out (Nat.le_refl _))
    clear hb
    go_wp2_with fail
    go_loopw [3, 5, 12] (fun ov _ i wr => ∃ k : Nat, k ≤ l.length ∧ i = .int .i64 k ∧ Owns wr w.heap.size ov ((l.take k).map cellT) ∧ Below w.heap.size w wr) (fun _ _ i _ => l.length - (intOf i).toNat)
    case atStart => exact ⟨0, Nat.zero_le _, rfl, HO1.out, HB.out⟩
    case round =>
      obtain ⟨k, hk, rfl, hO, hb⟩ := hrel
      have HO2 := Lib.hid hO
      have HB2 := Lib.hid hb
      have HXr := Lib.hid (FlatAt.below HX.out hb (Nat.le_refl _))
      clear hO hb
      by_cases hlt : k < l.length
      · obtain ⟨b, o, rfl, hbl, hd⟩ := flatAt_cell cCell_len HXr.out k hlt (by decide)
        have d0 := hd 0 (by decide)
        have d1 := hd 1 (by decide)
        clear hd
        have HSN := Lib.hid (map_cellT_snoc l k hlt)
        have hmm := HM.out l[k] (List.getElem_mem hlt)
        obtain ⟨z, hz, hz9⟩ := numB_nat hmm.2
        have HFM := Lib.hid (fun w0 => specFormat_any z w0 (by omega) (by omega))
        have hn8 := nameB_len8 hmm.1
        have hz3 := numL_len hz9
        clear hmm
        generalize l[k] = p at *
        obtain ⟨a0, a1⟩ := p
        simp only [cCell, List.getElem?_cons_zero, List.getElem?_cons_succ, Nat.add_zero] at d0 d1 hz
        subst hz
        have hc1 : ∀ w0, (Op.stringOp .add ⟨a0.toArray⟩ ⟨#[61]⟩).run Try.prog w0 = .ok (.string (⟨a0.toArray⟩ ++ ⟨#[61]⟩)) w0 := fun w0 => run_string_add_sum w0 _ _ (by rw [size_strB]; show a0.length + 1 ≤ _; simp only at hn8; omega)
        have hc2 : ∀ w0, (Op.stringOp .add (⟨a0.toArray⟩ ++ ⟨#[61]⟩) ⟨(numL z).toArray⟩).run Try.prog w0 = .ok (.string (⟨a0.toArray⟩ ++ ⟨#[61]⟩ ++ ⟨(numL z).toArray⟩)) w0 := fun w0 => run_string_add_sum w0 _ _ (by have h3 := size_strB (numL z); rw [ByteArray.size_append, size_strB]; show a0.length + 1 + _ ≤ _; simp only at hn8; omega)
        have HLT := Lib.hid (show ∀ g, u3.ownBlock = some g → g < wr.heap.size from fun g h => (World.ownsRow.lt HO2.out g h).2)
        go_wp2_with fail
        go_region_held3 (fun w' => w'.cell? ⟨wr.heap.size, 0, none⟩ = some (.string ⟨a0.toArray⟩) ∧ w'.cell? ⟨wr.heap.size, 1, none⟩ = some (.int .i64 z))
          (first
            | go_keep
            | (rw [hb1.cell (p := ⟨wr.heap.size, 0, none⟩) (by simp), hb1.cell (p := ⟨wr.heap.size, 1, none⟩) (by simp)]; assumption)
            | (rw [hg1.cell_far ⟨wr.heap.size, 0, none⟩ (by have := hb1.size; simp at *; omega) (by intro e; have := HLT.out _ e.symm; simp at this), hg1.cell_far ⟨wr.heap.size, 1, none⟩ (by have := hb1.size; simp at *; omega) (by intro e; have := HLT.out _ e.symm; simp at this)]; assumption))
          (first
            | (go_at_call 37; refine (HFM.out _).mono ?_; rintro e w2 ⟨rfl, hb1⟩)
            | (refine step_strs rfl _ _ rfl w.heap.size u3 ((l.take k).map cellT) (cellT ⟨a0, z⟩) _ w2.heap.size rfl (owns_alloc (owns_below (owns_drew (owns_alloc HO2.out _)) hb1 (Nat.le_refl _)) _) rfl (cell_cat _ a0 z _ _ rfl) ?_ ?_ ?_; (simp; omega); (have h1 := hb1.size; have h3 := HB2.out.size; simp at h1 h3; simp; omega); intro v' w4 hO4 hg1))
        have HA := Lib.hid (below_drew ((Below.refl wr.heap.size wr).alloc (Nat.le_refl _) (.cells #[.string ⟨a0.toArray⟩, .int .i64 z] 53)))
        have HA1 := Lib.hid ((HA.out.trans (hb1.mono HA.out.size)).alloc (HA.out.trans (hb1.mono HA.out.size)).size (.cells #[.string (⟨a0.toArray⟩ ++ ⟨#[61]⟩ ++ ⟨(numL z).toArray⟩ : ByteArray)] 9))
        have HA3 := Lib.hid (below_append (HB2.out.trans (HA1.out.mono HB2.out.size)) (owns_alloc (owns_below (owns_drew (owns_alloc HO2.out _)) hb1 (Nat.le_refl _)) _) hg1 (HB2.out.trans (HA1.out.mono HB2.out.size)).size)
        have HO4' := Lib.hid hO4
        rename_i hheld
        clear hb1 hg1 hO4 hheld
        go_wp2_with fail
        exact ⟨⟨k + 1, by omega, by go_num, by rw [HSN.out]; exact HO4'.out, HA3.out⟩, by simp [intOf]; omega⟩
      · have HN := Lib.hid (show (l.take k).map cellT = l.map cellT from by rw [List.take_of_length_le (by omega)])
        have hkl : k = l.length := by omega
        obtain ⟨a', c', e', _⟩ := rowAt_len (owns_row HO2.out (by simp; omega))
        rw [List.length_map, List.length_map, List.length_take, Nat.min_eq_left hk] at e'
        subst e'
        have HJ := Lib.hid (specJoin_any (.slice a' k c') (l.map cellT) ⟨#[44]⟩ wr (by rw [← HN.out]; exact owns_row HO2.out (by simp; omega)) (by have := HSM.out; simp only at *; omega) (by decide))
        by_cases h0 : k = 0
        · have hne : ((k : Int) == 0) = true := by rw [beq_iff_eq]; omega
          have HR := Lib.hid (HF0.out (List.eq_nil_of_length_eq_zero (by omega)))
          clear h0 hkl
          go_wp2_with fail
          go_ret
          exact ⟨ret_str (by rw [HR.out]), HB2.out⟩
        · have hne : ((k : Int) == 0) = false := by rw [beq_eq_false_iff_ne]; omega
          have HR := Lib.hid (HF.out (by intro h; rw [h] at hkl; exact h0 hkl))
          clear h0 hkl
          go_wp2_with fail
          refine HJ.out.mono ?_
          rintro e w2 ⟨rfl, hb⟩
          go_wp2_with fail
          go_ret
          exact ⟨ret_str HR.out.symm, HB2.out.trans (hb.mono HB2.out.size)⟩
end Go.Proofs.Ytmgfokikkhfibaa
