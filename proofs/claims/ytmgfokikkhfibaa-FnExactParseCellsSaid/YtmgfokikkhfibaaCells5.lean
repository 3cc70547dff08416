/- Contracts of chapter 3: the program's readCells, ParseCells. -/
import Derived.Test.YtmgfokikkhfibaaCells3
namespace Go.Proofs.Ytmgfokikkhfibaa
set_option linter.unusedVariables false
open Go.RowKit
theorem cell_info : (Try.prog.info? 53).map (fun i => (i.zero, i.size, i.bytes)) = some (some (.agg #[.string ⟨#[]⟩, .int .i64 0]), 2, 24) := by kernel_rfl
theorem append_cell {ops : Array Oper} {rest : List Oper} {o : Oper} {a : Act} {Q : Exit → Act → World → Prop} (hgd : o.guard = none) (s x : Operand)
    (ho : o.op = .call { callee := .builtin .append, args := #[s, x], argTypes := #[28, 28] }) (B : Nat) (v : Value) (l : List CellD) (y : CellD) (w : World) (blk : Nat)
    (hs : a.eval s = v) (hO : OwnsF cCell 53 2 w B v l) (hx : a.eval x = .slice (some ⟨blk, 0, none⟩) 1 1) (hc : ∀ j, j < 2 → w.cell? ⟨blk, j, none⟩ = (cCell y)[j]?) (hl : l.length ≤ 4194304) (hB : B ≤ w.heap.size)
    (h : ∀ v' w', OwnsF cCell 53 2 w' B v' (l ++ [y]) → w.grownBy w' v.ownBlock → wpList Try.prog ops Q rest (a.put o.dst v') w') : wpList Try.prog ops Q (o :: rest) a w :=
  append_flat cCell_len cCell_one cell_info rfl (by decide) (by decide) Try.underlying28 hgd s x ho B v l y w blk hs hO hx hc hl hB h
theorem cell_newC (w : World) (y : CellD) (blk : Nat) (h : blk = w.heap.size) : ∀ j, j < 2 → (w.alloc (.cells #[.string ⟨y.fKey.toArray⟩, .int .i64 y.fValue] 53)).cell? ⟨blk, j, none⟩ = (cCell y)[j]? := by
  subst h
  intro j hj
  rw [cell_of_row _ _ _ _ 53 (0, 0) (heap_alloc_new w _)]
  simp [cCell]
theorem cut_len (l sep : List UInt8) : (Lib.cut l sep).1.length ≤ l.length ∧ (Lib.cut l sep).2.1.length ≤ l.length := by
  unfold Lib.cut
  split
  · exact ⟨by simp; omega, by simp⟩
  · exact ⟨Nat.le_refl _, by simp⟩
theorem joinK_part (x : List (List UInt8)) (sep : List UInt8) : ∀ (m k : Nat), k < m → m ≤ x.length → (x.getD k []).length ≤ (joinK x sep m).length := by
  intro m
  induction m with
  | zero => intro k h; omega
  | succ m ih =>
    intro k hk hm
    simp only [joinK, List.length_append]
    rcases Nat.lt_or_ge k m with h | h
    · have := ih k h (by omega); omega
    · rw [show k = m by omega]; omega
theorem split_part (l : List UInt8) (c : UInt8) (p : List UInt8) (h : p ∈ splitL l [c]) : p.length ≤ l.length := by
  obtain ⟨k, hk, rfl⟩ := List.mem_iff_getElem.1 h
  have := joinK_part (splitL l [c]) [c] (splitL l [c]).length k hk (Nat.le_refl _)
  rw [show joinK (splitL l [c]) [c] (splitL l [c]).length = l from join_splitL l [c]] at this
  rw [List.getD_eq_getElem?_getD, List.getElem?_eq_getElem hk] at this
  exact this
theorem map_rdC_snoc (l : List (List UInt8)) (k : Nat) (h : k < l.length) : (l.take (k + 1)).map rdC = (l.take k).map rdC ++ [rdC l[k]] := by
  rw [List.take_succ_eq_append_getElem h, List.map_append]; rfl
theorem dataL (l : List UInt8) : (⟨l.toArray⟩ : ByteArray).data.toList = l := by simp
set_option maxRecDepth 100000 in
set_option maxHeartbeats 1600000 in
theorem implReadCells_any (s : ByteArray) (m : Int) (w : World) (hm : w.cell? ⟨0, 0, none⟩ = some (.int .i64 m)) (hs : s.size ≤ 1048576) :
    Calls Try.prog 43 #[.string s] w fun e w' => GivesF cCell 53 2 (rdCs s.data.toList) w e w' := by
  have HG := Lib.hid (World.block_lt_of_cell? w _ hm)
  have HM := Lib.hid hm
  have HO := Lib.hid (ownsF_new cCell 53 2 w)
  clear hm
  by_cases hd : s.data.toList = [45]
  · have hb : (s.toList == [45]) = true := by rw [Lib.toList_data, hd]; rfl
    have HR := Lib.hid (show rdCs s.data.toList = [] from if_pos hd)
    clear hd
    go_enter Try.func43, Try.ntmps43
    go_wp2_with fail
    go_ret
    exact ⟨_, rfl, by rw [HR.out]; exact HO.out, (Below.refl _ _).alloc (Nat.le_refl _) _⟩
  · have hb : (s.toList == [45]) = false := by rw [Lib.toList_data]; simpa using hd
    have HR := Lib.hid (show rdCs s.data.toList = (splitL s.data.toList [44]).map rdC from if_neg hd)
    have HA := Lib.hid (show ∀ o, Below w.heap.size w (w.alloc o) from fun o => (Below.refl w.heap.size w).alloc (Nat.le_refl _) o)
    have HSP := Lib.hid (fun o => implSplit_any s ⟨#[44]⟩ m (w.alloc o) (((HA.out o).cell (p := ⟨0, 0, none⟩) HG.out).trans HM.out) hs (by decide))
    have hxl : (splitL s.data.toList [44]).length ≤ 1048577 := by have := splitL_len s.data.toList [44]; rw [size_list] at this; omega
    have HP := Lib.hid (fun p (hp : p ∈ splitL s.data.toList [44]) => show p.length ≤ 1048576 from by have := split_part _ _ p hp; rw [size_list] at this; omega)
    clear hd
    rw [show (⟨#[44]⟩ : ByteArray).data.toList = [44] from rfl] at HSP
    generalize splitL s.data.toList [44] = x at *
    go_enter Try.func43, Try.ntmps43
    go_wp2_with fail
    refine (HSP.out _).mono ?_
    rintro e w1 ⟨u, rfl, ho, hb1⟩
    have HO1 := Lib.hid (ownsF_below HO.out hb1 (Nat.le_refl _))
    have HB := Lib.hid ((HA.out _).trans (hb1.mono (HA.out _).size))
    have HX := Lib.hid (show Owns w1 (w.heap.size + 1) u x from by simpa using ho)
    obtain ⟨a, c, rfl, _⟩ := rowAt_len (owns_row ho (by omega))
    rw [List.length_map] at *
    clear ho hb1
    go_wp2_with fail
    go_loopw [3, 5, 6, 7, 8, 9, 10, 18] (fun ov _ _ _ _ _ _ i wr => ∃ k : Nat, k ≤ x.length ∧ i = .int .i64 k ∧ OwnsF cCell 53 2 wr w.heap.size ov ((x.take k).map rdC) ∧ Below w.heap.size w wr ∧ Owns wr (w.heap.size + 1) (.slice a x.length c) x) (fun _ _ _ _ _ _ _ i _ => x.length - (intOf i).toNat)
    case atStart => exact ⟨0, Nat.zero_le _, rfl, HO1.out, HB.out, HX.out⟩
    case round =>
      obtain ⟨k, hk, rfl, hO, hb, hX⟩ := hrel
      have HO2 := Lib.hid hO
      have HB2 := Lib.hid hb
      have HXr := Lib.hid hX
      clear hO hb hX
      by_cases hlt : k < x.length
      · obtain ⟨b, o, rfl, hbl, d1⟩ := rowAt_cell (owns_row HXr.out (by omega)) k (by simpa using hlt)
        rw [getElem_map_strV] at d1
        unfold strV at d1
        have HSN := Lib.hid (map_rdC_snoc x k hlt)
        have hp := HP.out x[k] (List.getElem_mem hlt)
        have HMr := Lib.hid ((HB2.out.cell (p := ⟨0, 0, none⟩) HG.out).trans HM.out)
        generalize x[k] = p at *
        have hcl := cut_len p [61]
        have HCT := Lib.hid (Try.strings_Cut ⟨p.toArray⟩ ⟨#[61]⟩ m wr (by rw [size_strB]; omega) HMr.out)
        rw [dataL, show (⟨#[61]⟩ : ByteArray).data.toList = [61] from rfl] at HCT
        have HRD := Lib.hid (show rdC p = ⟨(Lib.cut p [61]).1, pnum (Lib.cut p [61]).2.1⟩ from rfl)
        generalize Lib.cut p [61] = t at *
        obtain ⟨t1, t2, t3⟩ := t
        simp only at HCT HRD hcl
        have HPN := Lib.hid (fun w0 => implParse_any ⟨t2.toArray⟩ w0 (by rw [size_strB]; unfold maxLen; omega))
        simp only at HPN
        have HCP := Lib.hid (fun w0 => copyText_any ⟨t1.toArray⟩ w0 (by rw [size_strB]; omega))
        go_wp2_with fail
        refine HCT.out.mono ?_
        rintro e w2 ⟨rfl, nd, rfl⟩
        go_wp2_with fail
        refine (HPN.out _).mono ?_
        rintro e w2 ⟨rfl, rfl⟩
        go_wp2_with fail
        refine (HCP.out _).mono ?_
        rintro e w3 ⟨rfl, hb3⟩
        have HB3 := Lib.hid ((below_drewN HB2.out nd).trans (hb3.mono HB2.out.size))
        have HB4 := Lib.hid (HB3.out.alloc HB3.out.size (.cells #[.string ⟨t1.toArray⟩, .int .i64 (pnum t2)] 53))
        have HX4 := Lib.hid (owns_alloc (owns_below (show Owns (wr.drewN nd) (w.heap.size + 1) _ x from HXr.out) hb3 (Nat.le_refl _)) (.cells #[.string ⟨t1.toArray⟩, .int .i64 (pnum t2)] 53))
        have HO3 := Lib.hid (show OwnsF cCell 53 2 w3 w.heap.size u3 _ from ownsF_below (show OwnsF cCell 53 2 (wr.drewN nd) w.heap.size u3 _ from HO2.out) hb3 (Nat.le_refl _))
        clear hb3
        go_wp2_with (at_builtin; refine append_cell rfl _ _ rfl w.heap.size _ ((x.take k).map rdC) ⟨t1, pnum t2⟩ _ w3.heap.size rfl (ownsF_alloc HO3.out _) rfl (cell_newC w3 ⟨t1, pnum t2⟩ _ rfl) (by simp; omega) (by have := HB3.out.size; simp; omega) ?_; intro v' w4 hO4 hg4)
        have HB5 := Lib.hid (below_appendF HB4.out (ownsF_alloc HO3.out _) hg4 HB4.out.size)
        refine ⟨⟨k + 1, by omega, by go_num, by rw [HSN.out, HRD.out]; exact hO4, HB5.out, owns_keptF HX4.out (ownsF_alloc HO3.out _) hg4 (by decide)⟩, by simp [intOf]; omega⟩
      · have HN := Lib.hid (show (x.take k).map rdC = x.map rdC from by rw [List.take_of_length_le (by omega)])
        go_wp2_with fail
        go_ret
        exact ⟨_, rfl, by rw [HR.out, ← HN.out]; exact HO2.out, HB2.out⟩
end Go.Proofs.Ytmgfokikkhfibaa
