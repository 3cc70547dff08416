/- A core's methods: Load, Save. -/
import Derived.Test.YtandbnpgccpcoaaGreatCallWantsFnM1
import Derived.Shelf.Spec.SlicesInsert
import Derived.Lib.Overlaps
import Derived.Laws.CopyRow
import Derived.Lib.AppendZerosOnto
import Derived.Laws.NewBlocks
import Derived.Test.YtandbnpgccpcoaaGreatCallWantsFnM0
import Derived.Deep.AppendLies
/- slices.Insert of one cell into a row of cells of one's own: at the end; in place; into a new row. -/
namespace Go.Proofs.YtandbnpgccpcoaaGreat
set_option linter.unusedVariables false
set_option linter.unusedSimpArgs false
open Go.RowKit
theorem run_copy_row2 {P : Program} (w : World) (dT sT ty elem : TypeId) (g o dLen dCap : Nat) (a : Addr) (sLen sCap n : Nat) (cur : Array Value) (t : TypeId) (cs : List Value)
    (hu : P.underlying dT = some (.slice elem)) (hs : (P.info? elem).map (·.size) = some 2) (hg : w.heap[g]? = some (.cells cur t (0, 0))) (hn : Nat.min sLen dLen = n) (hcl : cs.length = n * 2)
    (hsrc : ∀ j v, cs[j]? = some v → w.cell? (a.add j) = some v) (hfit : o + cs.length ≤ cur.size) (h1 : ∀ v ∈ cs, v.oneCell' = true) :
    (Builtin.copy_ #[dT, sT] ty #[.slice (some ⟨g, o, none⟩) dLen dCap, .slice (some a) sLen sCap]).run P w = .ok (goInt n) (w.setRow g (cur.toList.take o ++ cs ++ cur.toList.drop (o + cs.length)).toArray) := by
  have hl := run_loadCells_list (P := P) w a cs hsrc
  rw [hcl] at hl
  have hst := run_storeCells_at P g o t cs 0 cur w hg (by simpa using hfit) h1
  cases hq : P.info? elem with
  | none => simp [hq] at hs
  | some i =>
    have hi : i.size = 2 := by simpa [hq] using hs
    simp [Builtin.copy_, run_underlying hu, Builtin.lenOf, Builtin.firstCells, sizeOf, typeInfo, hq, hi, hn, hl, hst]
theorem size_cell : (Tryz.prog.info? 66).map (·.size) = some 2 := by kernel_rfl
theorem sizeOf_cell (w : World) : (Go.sizeOf 66).run Tryz.prog w = .ok 2 w := by kernel_rfl
set_option maxHeartbeats 1600000 in
theorem ins_end (N : Nat) (v : Value) (l : List CellD) (x : CellD) (vb : Nat) (w : World) (hO : OwnsF cCell 66 2 w N v l) (hl : l.length ≤ 1000) (hN : N ≤ w.heap.size) (hc : ∀ j, j < 2 → w.cell? ⟨vb, j, none⟩ = (cCell x)[j]?) :
    Calls Tryz.prog 150 #[v, .int .i64 l.length, .slice (some ⟨vb, 0, none⟩) 1 1] w fun e w' => ∃ v', e = .returned v' ∧ OwnsF cCell 66 2 w' N v' (l ++ [x]) ∧ w.grownBy w' v.ownBlock := by
  have HO := Lib.hid hO
  have HC := Lib.hid hc
  have hv : ∃ a c, v = .slice a l.length c ∧ l.length ≤ c := by
    rcases hO.2 with ⟨rfl, hn⟩ | ⟨g, cap, cur, rfl, _, _, hc, _⟩
    · exact ⟨none, 0, by rw [hn], by omega⟩
    · exact ⟨_, _, rfl, hc⟩
  obtain ⟨a, c, rfl, hcap⟩ := hv
  clear hO hc
  generalize hn : l.length = n at *
  have HN := Lib.hid hn
  clear hn
  go_enter Tryz.func150, Tryz.ntmps150
  go_wp2_with (at_builtin; refine append_cell rfl _ _ rfl N _ l x _ vb (by rfl) HO.out (by rfl) HC.out (by have := HN.out; omega) hN ?_; intro v' w' ho hgr)
  all_goals
    go_ret
    exact ⟨_, rfl, ho, by first | exact hgr | (cases a <;> exact hgr)⟩
theorem flat_take {α : Type} (f : α → List Value) (k : Nat) (hk : ∀ x, (f x).length = k) : ∀ (l : List α) (i : Nat), (l.take i).flatMap f = (l.flatMap f).take (i * k) ∧ (l.drop i).flatMap f = (l.flatMap f).drop (i * k)
  | [], i => by simp
  | d :: r, 0 => by simp
  | d :: r, i + 1 => by
    obtain ⟨h1, h2⟩ := flat_take f k hk r i
    rw [List.take_succ_cons, List.drop_succ_cons, List.flatMap_cons, List.flatMap_cons, h1, h2, Nat.succ_mul, Nat.add_comm (i * k) k, ← hk d, List.take_append, List.drop_append]
    simp [Nat.add_sub_cancel_left]
    exact (List.take_of_length_le (by omega)).symm
theorem row_shift (cur fl cx : List Value) (i n c : Nat) (hfl : fl.length = n * 2) (hcx : cx.length = 2) (hcur : cur.take (n * 2) = fl) (hi : i < n) (hc : cur.length = c * 2) (hn : n + 1 ≤ c) (row1 : List Value)
    (h1 : row1 = cur.take ((i + 1) * 2) ++ fl.drop (i * 2) ++ cur.drop ((i + 1) * 2 + (fl.drop (i * 2)).length)) :
    (row1.take (i * 2) ++ cx ++ row1.drop (i * 2 + cx.length)).take ((n + 1) * 2) = fl.take (i * 2) ++ cx ++ fl.drop (i * 2) := by
  have hl1 : (cur.take ((i + 1) * 2)).length = (i + 1) * 2 := by rw [List.length_take, hc]; omega
  have e1 : row1.take (i * 2) = fl.take (i * 2) := by
    rw [h1, List.append_assoc, List.take_append_of_le_length (by rw [hl1]; omega), List.take_take, ← hcur, List.take_take]
    congr 1; omega
  have e2 : row1.drop (i * 2 + cx.length) = fl.drop (i * 2) ++ cur.drop ((i + 1) * 2 + (fl.drop (i * 2)).length) := by
    rw [h1, List.append_assoc, hcx, show i * 2 + 2 = (i + 1) * 2 by omega]
    conv => lhs; arg 1; rw [← hl1]
    rw [List.drop_left]
  rw [e1, e2, ← List.append_assoc]
  have hlen : (fl.take (i * 2) ++ cx ++ fl.drop (i * 2)).length = (n + 1) * 2 := by
    simp only [List.length_append, List.length_take, List.length_drop, hfl, hcx]; omega
  rw [← hlen, List.take_left]
set_option maxRecDepth 100000 in
set_option maxHeartbeats 1600000 in
theorem ins_shift (N g c i : Nat) (cur : Array Value) (l : List CellD) (x : CellD) (vb : Nat) (w : World) (hg : w.heap[g]? = some (.cells cur 66 (0, 0))) (hs : cur.size = c * 2) (hcur : cur.toList.take (l.length * 2) = l.flatMap cCell)
    (hi : i < l.length) (hroom : l.length + 1 ≤ c) (hc : c ≤ maxLen) (hvb : w.heap[vb]? = some (.cells #[.string ⟨x.fKey.toArray⟩, .int .i64 x.fValue] 66 (0, 0))) (hne : vb ≠ g) :
    Calls Tryz.prog 150 #[.slice (some ⟨g, 0, none⟩) l.length c, .int .i64 i, .slice (some ⟨vb, 0, none⟩) 1 1] w fun e w' => ∃ v', e = .returned v' ∧ (∀ N, N ≤ g → OwnsF cCell 66 2 w' N v' (l.take i ++ x :: l.drop i)) ∧ w.grownBy w' (some g) := by
  unfold maxLen at hc
  have hsz : cur.toList.length = c * 2 := by simpa using hs
  have hov : ∀ off lb cb, (callFunc 151 #[.slice (some ⟨vb, 0, none⟩) 1 1, .slice (some ⟨g, off, none⟩) lb cb]).run Tryz.prog w = .ok (.value (.bool false)) w := fun off lb cb => by
    rw [run_callFunc_extern Tryz.func151 (by kernel_rfl) (by kernel_rfl) (by kernel_rfl) (e := Extern.SlicesOverlaps.overlaps #[29, 29] #[4]) (by kernel_rfl),
      Lib.run_overlaps_apart w 29 4 66 Tryz.underlying29 2 sizeOf_cell ⟨vb, 0, none⟩ ⟨g, off, none⟩ 1 1 lb cb hne 66 66 2 (c * 2) (by simp [World.shape?, hvb]) (by simp [World.shape?, hg, hs]) (by omega) (by simp [World.frozen?, hvb]) (by simp [World.frozen?, hvb])]
    rfl
  have hfl : (l.flatMap cCell).length = l.length * 2 := flat_len cCell 2 cCell_len l
  have h1c : ∀ u ∈ l.flatMap cCell, u.oneCell' = true := fun u hu => by
    obtain ⟨y, _, hy⟩ := List.mem_flatMap.1 hu
    exact cCell_one y u hy
  have HL := Lib.hid (show (l.take i ++ x :: l.drop i).flatMap cCell = (l.flatMap cCell).take (i * 2) ++ cCell x ++ (l.flatMap cCell).drop (i * 2) ∧ (l.take i ++ x :: l.drop i).length = l.length + 1 from by
    refine ⟨?_, by simp; omega⟩
    rw [List.flatMap_append, List.flatMap_cons, (flat_take cCell 2 cCell_len l i).1, (flat_take cCell 2 cCell_len l i).2, List.append_assoc])
  generalize hF : l.flatMap cCell = fl at *
  generalize hn : l.length = n at *
  have hcell : ∀ j v, fl[j]? = some v → w.cell? ⟨g, j, none⟩ = some v := fun j v hj => by
    have hjl : j < fl.length := (List.getElem?_eq_some_iff.1 hj).1
    rw [cell_of_row w g j cur 66 (0, 0) hg]
    rw [← hcur, List.getElem?_take] at hj
    split at hj
    · simpa using hj
    · cases hj
  have hdl : (fl.drop (i * 2)).length = (n - i) * 2 := by rw [List.length_drop, hfl, Nat.sub_mul]
  obtain ⟨row1, hrow1⟩ : ∃ row1 : Array Value, row1 = (cur.toList.take ((i + 1) * 2) ++ fl.drop (i * 2) ++ cur.toList.drop ((i + 1) * 2 + (fl.drop (i * 2)).length)).toArray := ⟨_, rfl⟩
  have hcp1 : ∀ ty dc sc, (Builtin.copy_ #[29, 29] ty #[.slice (some ⟨g, (i + 1) * 2, none⟩) (n - i) dc, .slice (some ⟨g, i * 2, none⟩) (n + 1 - i) sc]).run Tryz.prog w.drew = .ok (goInt ((n - i : Nat) : Int)) (w.drew.setRow g row1) := fun ty dc sc => by
    rw [hrow1]
    exact run_copy_row2 w.drew _ _ ty 66 g ((i + 1) * 2) (n - i) dc ⟨g, i * 2, none⟩ (n + 1 - i) sc (n - i) cur 66 (fl.drop (i * 2)) Tryz.underlying29 size_cell hg (by simp only [Nat.min_def]; split <;> omega) hdl
      (fun j v hj => by rw [Addr.add_lit]; exact hcell (i * 2 + j) v (by rwa [List.getElem?_drop] at hj)) (by rw [hdl, Nat.sub_mul, hs]; omega) (fun v hv => h1c v (List.mem_of_mem_drop hv))
  have hrs : row1.size = c * 2 := by rw [hrow1]; simp only [List.size_toArray, List.length_append, List.length_take, List.length_drop, hsz, hfl]; omega
  have hg1 : (w.drew.setRow g row1).heap[g]? = some (.cells row1 66 (0, 0)) := setRow_heap w.drew g cur row1 66 (0, 0) hg
  have hvb1 : (w.drew.setRow g row1).heap[vb]? = some (.cells #[.string ⟨x.fKey.toArray⟩, .int .i64 x.fValue] 66 (0, 0)) := by
    simp only [World.setRow, Array.getElem?_modify]
    rw [if_neg (fun e => hne e.symm)]; exact hvb
  obtain ⟨row2, hrow2⟩ : ∃ row2 : Array Value, row2 = (row1.toList.take (i * 2) ++ cCell x ++ row1.toList.drop (i * 2 + (cCell x).length)).toArray := ⟨_, rfl⟩
  have hrs2 : row2.size = c * 2 := by rw [hrow2]; simp only [List.size_toArray, List.length_append, List.length_take, List.length_drop, cCell_len, Array.length_toList, hrs]; omega
  have hcp2 : ∀ ty dc, (Builtin.copy_ #[29, 29] ty #[.slice (some ⟨g, i * 2, none⟩) (n + 1 - i) dc, .slice (some ⟨vb, 0, none⟩) 1 1]).run Tryz.prog (w.drew.setRow g row1) = .ok (goInt 1) ((w.drew.setRow g row1).setRow g row2) := fun ty dc => by
    rw [hrow2]
    exact run_copy_row2 _ _ _ ty 66 g (i * 2) (n + 1 - i) dc ⟨vb, 0, none⟩ 1 1 1 row1 66 (cCell x) Tryz.underlying29 size_cell hg1 (by simp only [Nat.min_def]; split <;> omega) rfl
      (fun j v hj => by
        rw [Addr.add_lit, cell_of_row _ vb (0 + j) _ 66 (0, 0) hvb1, Nat.zero_add]
        simpa [cCell] using hj) (by rw [hrs]; simp [cCell]; omega) (fun v hv => cCell_one x v hv)
  have HR1 := Lib.hid hrow1
  have HR2 := Lib.hid hrow2
  clear hrow1 hrow2
  have hz1 : ¬ ((i : Int) = (n : Int)) := by omega
  have hw1 : IntKind.i64.wrap ((i : Int) + 1) = (i : Int) + 1 := by rw [IntKind.wrap_i64]; omega
  have hw2 : IntKind.i64.wrap ((n : Int) + 1) = (n : Int) + 1 := by rw [IntKind.wrap_i64]; omega
  have hin : i ≤ n := by omega
  have hb1 : (0 : Int) ≤ (i : Int) + 1 := by omega
  have htn : ((i : Int) + 1).toNat = i + 1 := by omega
  have hb2 : ¬ c = i + 1 := by omega
  have hb3 : (i : Int) ≤ (n : Int) + 1 := by omega
  have hb4 : ¬ c = i := by omega
  have hb5 : (i : Int) + 1 ≤ (n : Int) + 1 := by omega
  go_enter Tryz.func150, Tryz.ntmps150
  go_wp2_with (simp only [hov])
  go_region_law (refine step_copy_runI rfl _ _ 29 29 rfl _ _ (by simp [Act.eval, Act.put]) (by simp [Act.eval, Act.put]) (hcp1 _ _ _) ?_)
  go_wp2_with (at_builtin; refine wpList_copy_runI _ rfl _ _ 29 29 rfl _ _ (by rfl) (by rfl) (hcp2 _ _) ?_)
  go_ret
  refine ⟨.slice (some ⟨g, 0, none⟩) (n + 1) c, rfl, fun N hN => ?_, ⟨rfl, rfl, rfl, by simp [World.setRow], fun k hk hkn => ?_⟩⟩
  · have hlen := HL.out.2
    unfold OwnsF
    rw [hlen]
    refine ⟨by rw [flat_len cCell 2 cCell_len, hlen], Or.inr ⟨g, c, row2, rfl, hN, setRow_heap _ g row1 row2 66 (0, 0) hg1, hroom, by unfold maxLen; omega, hrs2, ?_⟩⟩
    rw [HL.out.1, HR2.out]
    exact row_shift cur.toList fl (cCell x) i n c hfl (cCell_len x) hcur hi hsz hroom row1.toList (by rw [HR1.out])
  · have hkg : k ≠ g := fun e => hkn (by rw [e])
    simp only [World.setRow, Array.getElem?_modify]
    rw [if_neg (fun e => hkg e.symm), if_neg (fun e => hkg e.symm)]; rfl
end Go.Proofs.YtandbnpgccpcoaaGreat
/- slices.Insert of one cell ahead of others, where there is no room: a new row; then whatever the row. -/
namespace Go.Proofs.YtandbnpgccpcoaaGreat
set_option linter.unusedVariables false
set_option linter.unusedSimpArgs false
open Go.RowKit
theorem row_grow (fl cx z : List Value) (i n : Nat) (hfl : fl.length = n * 2) (hcx : cx.length = 2) (hi : i < n) (ROW : List Value) (h0 : ROW = fl.take (i * 2) ++ z) (rowA : List Value)
    (hA : rowA = ROW.take (i * 2) ++ cx ++ ROW.drop (i * 2 + cx.length)) (rowB : List Value) (hB : rowB = rowA.take ((i + 1) * 2) ++ fl.drop (i * 2) ++ rowA.drop ((i + 1) * 2 + (fl.drop (i * 2)).length)) :
    rowB.take ((n + 1) * 2) = fl.take (i * 2) ++ cx ++ fl.drop (i * 2) := by
  have hl1 : (fl.take (i * 2)).length = i * 2 := by rw [List.length_take, hfl]; omega
  have e0 : ROW.take (i * 2) = fl.take (i * 2) := by
    rw [h0]; conv => lhs; arg 1; rw [← hl1]
    rw [List.take_left]
  have e1 : rowA.take ((i + 1) * 2) = fl.take (i * 2) ++ cx := by
    have hl2 : (fl.take (i * 2) ++ cx).length = (i + 1) * 2 := by rw [List.length_append, hl1, hcx]; omega
    rw [hA, e0, ← hl2, List.take_left]
  have hl3 : (fl.take (i * 2) ++ cx ++ fl.drop (i * 2)).length = (n + 1) * 2 := by
    simp only [List.length_append, List.length_take, List.length_drop, hfl, hcx]; omega
  rw [hB, e1, ← hl3, List.take_left]
set_option maxRecDepth 100000 in
set_option maxHeartbeats 3200000 in
theorem ins_grow (g i : Nat) (cur : Array Value) (l : List CellD) (x : CellD) (vb : Nat) (w : World) (hg : w.heap[g]? = some (.cells cur 66 (0, 0))) (hs : cur.size = l.length * 2) (hcur : cur.toList.take (l.length * 2) = l.flatMap cCell)
    (hi : i < l.length) (hl : l.length ≤ 1000) (hvb : w.heap[vb]? = some (.cells #[.string ⟨x.fKey.toArray⟩, .int .i64 x.fValue] 66 (0, 0))) :
    Calls Tryz.prog 150 #[.slice (some ⟨g, 0, none⟩) l.length l.length, .int .i64 i, .slice (some ⟨vb, 0, none⟩) 1 1] w fun e w' => ∃ v', e = .returned v' ∧ OwnsF cCell 66 2 w' w.heap.size v' (l.take i ++ x :: l.drop i) ∧ Below w.heap.size w w' := by
  obtain ⟨i0, hi0, hz0, hzs, hzb⟩ := info_parts infoCell
  have hfl : (l.flatMap cCell).length = l.length * 2 := flat_len cCell 2 cCell_len l
  have h1c : ∀ u ∈ l.flatMap cCell, u.oneCell' = true := fun u hu => by
    obtain ⟨y, _, hy⟩ := List.mem_flatMap.1 hu
    exact cCell_one y u hy
  have HL := Lib.hid (show (l.take i ++ x :: l.drop i).flatMap cCell = (l.flatMap cCell).take (i * 2) ++ cCell x ++ (l.flatMap cCell).drop (i * 2) ∧ (l.take i ++ x :: l.drop i).length = l.length + 1 from by
    refine ⟨?_, by simp; omega⟩
    rw [List.flatMap_append, List.flatMap_cons, (flat_take cCell 2 cCell_len l i).1, (flat_take cCell 2 cCell_len l i).2, List.append_assoc])
  generalize hF : l.flatMap cCell = fl at *
  generalize hn : l.length = n at *
  have hcell : ∀ j v, fl[j]? = some v → w.cell? ⟨g, j, none⟩ = some v := fun j v hj => by
    rw [cell_of_row w g j cur 66 (0, 0) hg]
    rw [← hcur, List.getElem?_take] at hj
    split at hj
    · simpa using hj
    · cases hj
  have hgw : g < w.heap.size := (Array.getElem?_eq_some_iff.1 hg).1
  have hvw : vb < w.heap.size := (Array.getElem?_eq_some_iff.1 hvb).1
  have hdl : (fl.drop (i * 2)).length = (n - i) * 2 := by rw [List.length_drop, hfl, Nat.sub_mul]
  have htl : (fl.take (i * 2)).length = i * 2 := by rw [List.length_take, hfl]; omega
  have hkk : (n : Int) + 1 - (i : Int) = ((n + 1 - i : Nat) : Int) := by omega
  have hik : i + (n + 1 - i) = n + 1 := by omega
  have hold : (Builtin.firstCells i0.size i (.slice (some ⟨g, 0, none⟩) i n)).run Tryz.prog w.drew = .ok (fl.take (i * 2)).toArray w.drew := by
    rw [hzs]
    exact run_firstCells_some w.drew 2 i ⟨g, 0, none⟩ i n (fl.take (i * 2)) htl (fun j v hj => by
      rw [Addr.add_lit, Nat.zero_add]
      rw [List.getElem?_take] at hj
      split at hj
      · exact hcell j v hj
      · cases hj)
  have hrz : ∀ ty, (Builtin.append_ #[29, 3] ty #[.slice (some ⟨g, 0, none⟩) i n, .int .i64 ((n : Int) + 1 - (i : Int))]).run Tryz.prog w =
      .ok (.slice (some ⟨w.heap.size, 0, none⟩) (n + 1) (grownCap w (n + 1) n 66)) (w.drew.alloc (.cells ((fl.take (i * 2)).toArray ++ Builtin.zeroCells (Value.agg #[.string ⟨#[]⟩, .int .i64 0]).cells (n + 1 - i) ++ Builtin.zeroCells (Value.agg #[.string ⟨#[]⟩, .int .i64 0]).cells (grownCap w (n + 1) n 66 - (n + 1))) 66)) := fun ty => by
    have h := Lib.run_append_grow_zeros w 29 3 ty 66 i0 _ .i64 .i64 Tryz.underlying29 Tryz.underlying3 hi0 hz0 (some ⟨g, 0, none⟩) i n (fl.take (i * 2)) hold (n + 1 - i) (by omega) (by omega) (by omega) (by omega) (by rw [hzb]; omega) (by rw [hzb, hik]; exact growslice_fits (by omega) (by omega))
    rw [hik] at h
    rw [hkk]
    exact h
  obtain ⟨G, hG⟩ : ∃ G, G = grownCap w (n + 1) n 66 := ⟨_, rfl⟩
  obtain ⟨zz, hzz⟩ : ∃ zz : Array Value, zz = Builtin.zeroCells (Value.agg #[.string ⟨#[]⟩, .int .i64 0]).cells (n + 1 - i) ++ Builtin.zeroCells (Value.agg #[.string ⟨#[]⟩, .int .i64 0]).cells (G - (n + 1)) := ⟨_, rfl⟩
  obtain ⟨ROW, hROW⟩ : ∃ ROW : Array Value, ROW = (fl.take (i * 2)).toArray ++ zz := ⟨_, rfl⟩
  have hGn : n + 1 ≤ G := by rw [hG]; exact grownCap_ge w _ _ _
  have hGm : G ≤ maxLen := by
    have := grownCap_le_maxLen w (n + 1) n 66 (by unfold maxLen; omega)
    rw [← hG] at this; exact this
  have hzl : zz.size = (G - i) * 2 := by rw [hzz]; simp [Builtin.zeroCells, Value.cells]; omega
  have hRl : ROW.size = G * 2 := by rw [hROW]; simp only [Array.size_append, List.size_toArray, htl, hzl]; omega
  rw [← hG, Array.append_assoc, ← hzz, ← hROW] at hrz
  have HR0 := Lib.hid (show ROW.toList = fl.take (i * 2) ++ zz.toList from by rw [hROW]; simp)
  have hRL : ROW.toList.length = G * 2 := by simpa using hRl
  clear hROW hzz hold
  obtain ⟨rowA, hrA⟩ : ∃ rowA : Array Value, rowA = (ROW.toList.take (i * 2) ++ cCell x ++ ROW.toList.drop (i * 2 + (cCell x).length)).toArray := ⟨_, rfl⟩
  have hAl : rowA.size = G * 2 := by rw [hrA]; simp only [List.size_toArray, List.length_append, List.length_take, List.length_drop, hRL, cCell_len]; omega
  have hAL : rowA.toList.length = G * 2 := by simpa using hAl
  obtain ⟨rowB, hrB⟩ : ∃ rowB : Array Value, rowB = (rowA.toList.take ((i + 1) * 2) ++ fl.drop (i * 2) ++ rowA.toList.drop ((i + 1) * 2 + (fl.drop (i * 2)).length)).toArray := ⟨_, rfl⟩
  have hBl : rowB.size = G * 2 := by rw [hrB]; simp only [List.size_toArray, List.length_append, List.length_take, List.length_drop, hAL, hfl]; omega
  obtain ⟨WA, hWA⟩ : ∃ WA, WA = (w.alloc (.cells ROW 66)).drew := ⟨_, rfl⟩
  have hgN : WA.heap[w.heap.size]? = some (.cells ROW 66 (0, 0)) := by rw [hWA]; exact heap_alloc_new w _
  have hvA : WA.heap[vb]? = some (.cells #[.string ⟨x.fKey.toArray⟩, .int .i64 x.fValue] 66 (0, 0)) := by rw [hWA]; exact (Below.heap_alloc w _ vb hvw).trans hvb
  have hgA : WA.heap[g]? = some (.cells cur 66 (0, 0)) := by rw [hWA]; exact (Below.heap_alloc w _ g hgw).trans hg
  have hcpA : ∀ ty dc, (Builtin.copy_ #[29, 29] ty #[.slice (some ⟨w.heap.size, i * 2, none⟩) (n + 1 - i) dc, .slice (some ⟨vb, 0, none⟩) 1 1]).run Tryz.prog WA = .ok (goInt 1) (WA.setRow w.heap.size rowA) := fun ty dc => by
    rw [hrA]
    exact run_copy_row2 WA _ _ ty 66 w.heap.size (i * 2) (n + 1 - i) dc ⟨vb, 0, none⟩ 1 1 1 ROW 66 (cCell x) Tryz.underlying29 size_cell hgN (by simp only [Nat.min_def]; split <;> omega) rfl
      (fun j v hj => by
        rw [Addr.add_lit, cell_of_row _ vb (0 + j) _ 66 (0, 0) hvA, Nat.zero_add]
        simpa [cCell] using hj) (by rw [hRl]; simp [cCell]; omega) (fun v hv => cCell_one x v hv)
  have hgB : (WA.setRow w.heap.size rowA).heap[w.heap.size]? = some (.cells rowA 66 (0, 0)) := setRow_heap WA w.heap.size ROW rowA 66 (0, 0) hgN
  have hgO : (WA.setRow w.heap.size rowA).heap[g]? = some (.cells cur 66 (0, 0)) := by
    simp only [World.setRow, Array.getElem?_modify]
    rw [if_neg (by omega)]; exact hgA
  have hcellB : ∀ j v, fl[j]? = some v → (WA.setRow w.heap.size rowA).drew.cell? ⟨g, j, none⟩ = some v := fun j v hj => by
    have h1 : (WA.setRow w.heap.size rowA).drew.cell? ⟨g, j, none⟩ = cur[j]? := cell_of_row (WA.setRow w.heap.size rowA) g j cur 66 (0, 0) hgO
    rw [h1, ← cell_of_row w g j cur 66 (0, 0) hg]; exact hcell j v hj
  have hcpB : ∀ ty dc sc, (Builtin.copy_ #[29, 29] ty #[.slice (some ⟨w.heap.size, (i + 1) * 2, none⟩) (n - i) dc, .slice (some ⟨g, i * 2, none⟩) (n - i) sc]).run Tryz.prog (WA.setRow w.heap.size rowA).drew = .ok (goInt ((n - i : Nat) : Int)) ((WA.setRow w.heap.size rowA).drew.setRow w.heap.size rowB) := fun ty dc sc => by
    rw [hrB]
    exact run_copy_row2 (WA.setRow w.heap.size rowA).drew _ _ ty 66 w.heap.size ((i + 1) * 2) (n - i) dc ⟨g, i * 2, none⟩ (n - i) sc (n - i) rowA 66 (fl.drop (i * 2)) Tryz.underlying29 size_cell hgB (by simp only [Nat.min_def]; split <;> omega) hdl
      (fun j v hj => by rw [Addr.add_lit]; exact hcellB (i * 2 + j) v (by rwa [List.getElem?_drop] at hj)) (by rw [hdl, Nat.sub_mul, hAl]; omega) (fun v hv => h1c v (List.mem_of_mem_drop hv))
  have HRA := Lib.hid hrA
  have HRB := Lib.hid hrB
  have HWA := Lib.hid hWA
  have hGG := Lib.hid hG
  have hrz2 : ∀ ty, (Builtin.append_ #[29, 3] ty #[.slice (some ⟨g, 0, none⟩) i n, .int .i64 ((n : Int) + 1 - (i : Int))]).run Tryz.prog w = .ok (.slice (some ⟨w.heap.size, 0, none⟩) (n + 1) G) WA := fun ty => by rw [hrz ty, hWA]; rfl
  clear hrA hrB hWA hG hrz
  have hz1 : ¬ ((i : Int) = (n : Int)) := by omega
  have hz3 : (n : Int) < (n : Int) + 1 := by omega
  have hw1 : IntKind.i64.wrap ((i : Int) + 1) = (i : Int) + 1 := by rw [IntKind.wrap_i64]; omega
  have hw2 : IntKind.i64.wrap ((n : Int) + 1) = (n : Int) + 1 := by rw [IntKind.wrap_i64]; omega
  have hw3 : IntKind.i64.wrap ((n : Int) + 1 - (i : Int)) = (n : Int) + 1 - (i : Int) := by rw [IntKind.wrap_i64]; omega
  have hb1 : (0 : Int) ≤ (i : Int) + 1 := by omega
  have htn : ((i : Int) + 1).toNat = i + 1 := by omega
  have hin : i ≤ n := by omega
  have hb3 : (i : Int) ≤ (n : Int) := by omega
  have hb5 : (i : Int) + 1 ≤ (n : Int) + 1 := by omega
  have hGi : ¬ (G = i) := by omega
  have hGim : ¬ (G = i + 1) := by omega
  have hci : ¬ (n = i) := by omega
  have hi1 : (i : Int) ≤ (n : Int) + 1 := by omega
  clear hkk hik
  go_enter Tryz.func150, Tryz.ntmps150
  go_wp2_with (first | (at_builtin; refine Lib.wpList_append_run _ rfl _ _ _ _ rfl _ _ (by rfl) (by rfl) _ _ (hrz2 _) ?_) | (refine wpList_copy_runI _ rfl _ _ 29 29 rfl _ _ (by rfl) (by rfl) (hcpA _ _) ?_))
  go_region_law (refine step_copy_runI rfl _ _ 29 29 rfl _ _ (by simp [Act.eval, Act.put]) (by simp [Act.eval, Act.put]) (hcpB _ _ _) ?_)
  go_wp2_with fail
  go_ret
  have hgF := setRow_heap (WA.setRow w.heap.size rowA).drew w.heap.size rowA rowB 66 (0, 0) hgB
  refine ⟨.slice (some ⟨w.heap.size, 0, none⟩) (n + 1) G, rfl, ?_, ?_⟩
  · have hlen := HL.out.2
    unfold OwnsF
    rw [hlen]
    refine ⟨by rw [flat_len cCell 2 cCell_len, hlen], Or.inr ⟨w.heap.size, G, rowB, rfl, Nat.le_refl _, hgF, hGn, hGm, hBl, ?_⟩⟩
    rw [HL.out.1]
    exact row_grow fl (cCell x) zz.toList i n hfl (cCell_len x) hi ROW.toList HR0.out rowA.toList (by rw [HRA.out]) rowB.toList (by rw [HRB.out])
  · have h0 : Below w.heap.size w WA := by rw [HWA.out]; exact ((Below.refl _ _).alloc (Nat.le_refl _) _).drew
    refine h0.trans ⟨rfl, rfl, rfl, by simp [World.setRow], fun k hk => ?_⟩
    show ((WA.setRow w.heap.size rowA).setRow w.heap.size rowB).heap[k]? = WA.heap[k]?
    simp only [World.setRow, Array.getElem?_modify]
    rw [if_neg (by omega), if_neg (by omega)]
/-- one cell into whatever row of one's own -/
theorem ins_c (N : Nat) (v : Value) (l : List CellD) (i : Nat) (x : CellD) (vb : Nat) (w : World) (hO : OwnsF cCell 66 2 w N v l) (hi : i ≤ l.length) (hl : l.length ≤ 1000) (hN : N ≤ w.heap.size)
    (hvb : w.heap[vb]? = some (.cells #[.string ⟨x.fKey.toArray⟩, .int .i64 x.fValue] 66 (0, 0))) (hne : v.ownBlock ≠ some vb) :
    Calls Tryz.prog 150 #[v, .int .i64 i, .slice (some ⟨vb, 0, none⟩) 1 1] w fun e w' => ∃ v', e = .returned v' ∧ OwnsF cCell 66 2 w' N v' (l.take i ++ x :: l.drop i) ∧ w.grownBy w' v.ownBlock := by
  by_cases he : i = l.length
  · subst he
    rw [List.take_length, List.drop_length]
    refine ins_end N v l x vb w hO hl hN ?_
    intro j hj
    rw [cell_of_row w vb j _ 66 (0, 0) hvb]
    rcases (show j = 0 ∨ j = 1 by omega) with rfl | rfl <;> rfl
  · rcases hO.2 with ⟨rfl, hn⟩ | ⟨g, c, cur, rfl, hNg, hg, hnc, hcm, hcs, hcur⟩
    · omega
    · have hgv : vb ≠ g := fun e => hne (by rw [e]; rfl)
      by_cases hr : l.length + 1 ≤ c
      · refine (ins_shift N g c i cur l x vb w hg hcs hcur (by omega) hr hcm hvb hgv).mono ?_
        rintro e w' ⟨v', rfl, ho, hgr⟩
        exact ⟨v', rfl, ho N hNg, hgr⟩
      · have hc : c = l.length := by omega
        subst hc
        refine (ins_grow g i cur l x vb w hg hcs hcur (by omega) hl hvb).mono ?_
        rintro e w' ⟨v', rfl, ho, hb⟩
        exact ⟨v', rfl, ownsF_base ho hN, ⟨hb.os, hb.tape, hb.output, hb.size, fun k hk _ => hb.block k hk⟩⟩
end Go.Proofs.YtandbnpgccpcoaaGreat
/- What partOf hands out, by kind. -/
namespace Go.Proofs.YtandbnpgccpcoaaGreat
set_option linter.unusedVariables false
set_option linter.unusedSimpArgs false
open Go.RowKit
def ptrs (b n : Nat) : Value := .agg (Array.replicate n (.pointer (some ⟨b, 0, none⟩)))
def partV (b : Nat) : Nat → Value
  | 0 => .iface 153 (.agg #[.pointer (some ⟨b, 0, none⟩)])
  | 1 => .iface 134 (.agg #[.pointer (some ⟨b, 0, none⟩), .pointer (some ⟨b, 0, none⟩)])
  | 2 => .iface 137 (.agg #[.pointer (some ⟨b, 0, none⟩), .pointer (some ⟨b, 0, none⟩)])
  | 3 => .iface 140 (.agg #[.pointer (some ⟨b, 0, none⟩), .pointer (some ⟨b, 0, none⟩), .pointer (some ⟨b, 0, none⟩)])
  | 4 => .iface 142 (.agg #[.pointer (some ⟨b, 0, none⟩), .pointer (some ⟨b, 0, none⟩), .pointer (some ⟨b, 0, none⟩)])
  | 5 => .iface 145 (.agg #[.pointer (some ⟨b, 0, none⟩), .pointer (some ⟨b, 0, none⟩), .pointer (some ⟨b, 0, none⟩)])
  | 6 => .iface 148 (.agg #[.pointer (some ⟨b, 0, none⟩), .pointer (some ⟨b, 0, none⟩), .pointer (some ⟨b, 0, none⟩), .pointer (some ⟨b, 0, none⟩)])
  | _ => .iface 151 (.agg #[.pointer (some ⟨b, 0, none⟩), .pointer (some ⟨b, 0, none⟩), .pointer (some ⟨b, 0, none⟩), .pointer (some ⟨b, 0, none⟩), .pointer (some ⟨b, 0, none⟩), .pointer (some ⟨b, 0, none⟩), .pointer (some ⟨b, 0, none⟩)])
set_option maxRecDepth 100000 in
set_option maxHeartbeats 1600000 in
theorem partOf_k (j : Nat) (hj : j < 8) (b : Nat) (w : World) (h : w.cell? ⟨b, 0, none⟩ = some (.string ⟨(kindN j).toArray⟩)) :
    Calls Tryz.prog 86 #[.pointer (some ⟨b, 0, none⟩)] w fun e w' => e = .returned (partV b j) ∧ Below w.heap.size w w' := by
  have hl0 := World.block_lt_of_cell? w _ h
  simp only at hl0
  have hn0 : ¬ b = w.heap.size := by omega
  rcases (show j = 0 ∨ j = 1 ∨ j = 2 ∨ j = 3 ∨ j = 4 ∨ j = 5 ∨ j = 6 ∨ j = 7 by omega) with rfl | rfl | rfl | rfl | rfl | rfl | rfl | rfl
  all_goals
    simp only [kindN] at h
    unfold partV
    go_enter Tryz.func86, Tryz.ntmps86
    go_wp2_with fail
    go_ret
    exact ⟨rfl, (Below.refl _ _).alloc (Nat.le_refl _) _⟩
end Go.Proofs.YtandbnpgccpcoaaGreat
/- What partOf hands out, by kind. -/
namespace Go.Proofs.YtandbnpgccpcoaaGreat
set_option linter.unusedVariables false
set_option linter.unusedSimpArgs false
open Go.RowKit
set_option maxRecDepth 100000 in
set_option maxHeartbeats 1600000 in
theorem partOf_c (j : Nat) (hj : j < 8) (b : Nat) (cv : Value) (d : CoreD) (w : World) (h : CoreBox w b cv d) (hk : d.fKind = kindN j) :
    Calls Tryz.prog 86 #[.pointer (some ⟨b, 0, none⟩)] w fun e w' => e = .returned (partV b j) ∧ Below w.heap.size w w' := by
  have hl0 := h.lt
  have c0 := h.c0
  rw [hk] at c0
  clear hk h
  have hn0 : ¬ b = w.heap.size := by omega
  have hap := @past_cell b
  rcases (show j = 0 ∨ j = 1 ∨ j = 2 ∨ j = 3 ∨ j = 4 ∨ j = 5 ∨ j = 6 ∨ j = 7 by omega) with rfl | rfl | rfl | rfl | rfl | rfl | rfl | rfl
  all_goals
    simp only [kindN] at c0
    unfold partV
    go_enter Tryz.func86, Tryz.ntmps86
    go_wp2_with fail
    go_ret
    exact ⟨rfl, (Below.refl _ _).alloc (Nat.le_refl _) _⟩
end Go.Proofs.YtandbnpgccpcoaaGreat
/- Assertions on the kinds: which hold, which fail; the methods behind them. Written by gen/ch3door.py. -/
namespace Go.Proofs.YtandbnpgccpcoaaGreat
set_option linter.unusedVariables false
open Go.RowKit
theorem ta_0_0 : Fails 160 153 := fails_of Tryz.underlying160 (by kernel_rfl)
theorem ta_0_1 : Fails 163 153 := fails_of Tryz.underlying163 (by kernel_rfl)
theorem ta_0_2 : Fails 167 153 := fails_of Tryz.underlying167 (by kernel_rfl)
theorem ta_0_3 : Fails 169 153 := fails_of Tryz.underlying169 (by kernel_rfl)
theorem ta_0_4 : Fails 172 153 := fails_of Tryz.underlying172 (by kernel_rfl)
theorem ta_0_5 : Fails 174 153 := fails_of Tryz.underlying174 (by kernel_rfl)
theorem face_0 (b : Nat) : ∀ (fuel : Nat) (w : World), (method (fuel + 1) 153 (.agg #[.pointer (some ⟨b, 0, none⟩)]) "loop.example/g03016/impl.face").run Tryz.prog w = .ok (141, .agg #[.pointer (some ⟨b, 0, none⟩)]) w := by intro fuel w; kernel_rfl
theorem faceNil_0 (b : Nat) : ∀ (fuel : Nat) (w : World), (nilAhead (fuel + 1) 153 (.agg #[.pointer (some ⟨b, 0, none⟩)]) "loop.example/g03016/impl.face").run Tryz.prog w = .ok (some false) w := by intro fuel w; kernel_rfl
theorem ta_1_0 : ∀ (v : Value) (xT : TypeId) (w : World), (Instr.typeAssert (.iface 134 v) xT 160 false).run Tryz.prog w = .ok (.iface 134 v) w := ta_has Tryz.underlying160 (by kernel_rfl)
theorem ta_1_1 : Fails 163 134 := fails_of Tryz.underlying163 (by kernel_rfl)
theorem ta_1_2 : Fails 167 134 := fails_of Tryz.underlying167 (by kernel_rfl)
theorem ta_1_3 : Fails 169 134 := fails_of Tryz.underlying169 (by kernel_rfl)
theorem ta_1_4 : Fails 172 134 := fails_of Tryz.underlying172 (by kernel_rfl)
theorem ta_1_5 : Fails 174 134 := fails_of Tryz.underlying174 (by kernel_rfl)
theorem method_1_Start (b : Nat) : ∀ (fuel : Nat) (w : World), (method (fuel + 1) 134 (.agg #[.pointer (some ⟨b, 0, none⟩), .pointer (some ⟨b, 0, none⟩)]) "Start").run Tryz.prog w = .ok (143, .agg #[.pointer (some ⟨b, 0, none⟩)]) w := by intro fuel w; kernel_rfl
theorem nilAhead_1_Start (b : Nat) : ∀ (fuel : Nat) (w : World), (nilAhead (fuel + 1) 134 (.agg #[.pointer (some ⟨b, 0, none⟩), .pointer (some ⟨b, 0, none⟩)]) "Start").run Tryz.prog w = .ok (some false) w := by intro fuel w; kernel_rfl
theorem method_1_Stop (b : Nat) : ∀ (fuel : Nat) (w : World), (method (fuel + 1) 134 (.agg #[.pointer (some ⟨b, 0, none⟩), .pointer (some ⟨b, 0, none⟩)]) "Stop").run Tryz.prog w = .ok (144, .agg #[.pointer (some ⟨b, 0, none⟩)]) w := by intro fuel w; kernel_rfl
theorem nilAhead_1_Stop (b : Nat) : ∀ (fuel : Nat) (w : World), (nilAhead (fuel + 1) 134 (.agg #[.pointer (some ⟨b, 0, none⟩), .pointer (some ⟨b, 0, none⟩)]) "Stop").run Tryz.prog w = .ok (some false) w := by intro fuel w; kernel_rfl
theorem face_1 (b : Nat) : ∀ (fuel : Nat) (w : World), (method (fuel + 1) 134 (.agg #[.pointer (some ⟨b, 0, none⟩), .pointer (some ⟨b, 0, none⟩)]) "loop.example/g03016/impl.face").run Tryz.prog w = .ok (141, .agg #[.pointer (some ⟨b, 0, none⟩)]) w := by intro fuel w; kernel_rfl
theorem faceNil_1 (b : Nat) : ∀ (fuel : Nat) (w : World), (nilAhead (fuel + 1) 134 (.agg #[.pointer (some ⟨b, 0, none⟩), .pointer (some ⟨b, 0, none⟩)]) "loop.example/g03016/impl.face").run Tryz.prog w = .ok (some false) w := by intro fuel w; kernel_rfl
theorem ta_2_0 : Fails 160 137 := fails_of Tryz.underlying160 (by kernel_rfl)
theorem ta_2_1 : ∀ (v : Value) (xT : TypeId) (w : World), (Instr.typeAssert (.iface 137 v) xT 163 false).run Tryz.prog w = .ok (.iface 137 v) w := ta_has Tryz.underlying163 (by kernel_rfl)
theorem ta_2_2 : Fails 167 137 := fails_of Tryz.underlying167 (by kernel_rfl)
theorem ta_2_3 : Fails 169 137 := fails_of Tryz.underlying169 (by kernel_rfl)
theorem ta_2_4 : Fails 172 137 := fails_of Tryz.underlying172 (by kernel_rfl)
theorem ta_2_5 : Fails 174 137 := fails_of Tryz.underlying174 (by kernel_rfl)
theorem method_2_Get (b : Nat) : ∀ (fuel : Nat) (w : World), (method (fuel + 1) 137 (.agg #[.pointer (some ⟨b, 0, none⟩), .pointer (some ⟨b, 0, none⟩)]) "Get").run Tryz.prog w = .ok (146, .agg #[.pointer (some ⟨b, 0, none⟩)]) w := by intro fuel w; kernel_rfl
theorem nilAhead_2_Get (b : Nat) : ∀ (fuel : Nat) (w : World), (nilAhead (fuel + 1) 137 (.agg #[.pointer (some ⟨b, 0, none⟩), .pointer (some ⟨b, 0, none⟩)]) "Get").run Tryz.prog w = .ok (some false) w := by intro fuel w; kernel_rfl
theorem method_2_Put (b : Nat) : ∀ (fuel : Nat) (w : World), (method (fuel + 1) 137 (.agg #[.pointer (some ⟨b, 0, none⟩), .pointer (some ⟨b, 0, none⟩)]) "Put").run Tryz.prog w = .ok (147, .agg #[.pointer (some ⟨b, 0, none⟩)]) w := by intro fuel w; kernel_rfl
theorem nilAhead_2_Put (b : Nat) : ∀ (fuel : Nat) (w : World), (nilAhead (fuel + 1) 137 (.agg #[.pointer (some ⟨b, 0, none⟩), .pointer (some ⟨b, 0, none⟩)]) "Put").run Tryz.prog w = .ok (some false) w := by intro fuel w; kernel_rfl
theorem face_2 (b : Nat) : ∀ (fuel : Nat) (w : World), (method (fuel + 1) 137 (.agg #[.pointer (some ⟨b, 0, none⟩), .pointer (some ⟨b, 0, none⟩)]) "loop.example/g03016/impl.face").run Tryz.prog w = .ok (141, .agg #[.pointer (some ⟨b, 0, none⟩)]) w := by intro fuel w; kernel_rfl
theorem faceNil_2 (b : Nat) : ∀ (fuel : Nat) (w : World), (nilAhead (fuel + 1) 137 (.agg #[.pointer (some ⟨b, 0, none⟩), .pointer (some ⟨b, 0, none⟩)]) "loop.example/g03016/impl.face").run Tryz.prog w = .ok (some false) w := by intro fuel w; kernel_rfl
theorem ta_3_0 : ∀ (v : Value) (xT : TypeId) (w : World), (Instr.typeAssert (.iface 140 v) xT 160 false).run Tryz.prog w = .ok (.iface 140 v) w := ta_has Tryz.underlying160 (by kernel_rfl)
theorem ta_3_1 : Fails 163 140 := fails_of Tryz.underlying163 (by kernel_rfl)
theorem ta_3_2 : ∀ (v : Value) (xT : TypeId) (w : World), (Instr.typeAssert (.iface 140 v) xT 167 false).run Tryz.prog w = .ok (.iface 140 v) w := ta_has Tryz.underlying167 (by kernel_rfl)
theorem ta_3_3 : Fails 169 140 := fails_of Tryz.underlying169 (by kernel_rfl)
theorem ta_3_4 : Fails 172 140 := fails_of Tryz.underlying172 (by kernel_rfl)
theorem ta_3_5 : Fails 174 140 := fails_of Tryz.underlying174 (by kernel_rfl)
theorem method_3_Start (b : Nat) : ∀ (fuel : Nat) (w : World), (method (fuel + 1) 140 (.agg #[.pointer (some ⟨b, 0, none⟩), .pointer (some ⟨b, 0, none⟩), .pointer (some ⟨b, 0, none⟩)]) "Start").run Tryz.prog w = .ok (143, .agg #[.pointer (some ⟨b, 0, none⟩)]) w := by intro fuel w; kernel_rfl
theorem nilAhead_3_Start (b : Nat) : ∀ (fuel : Nat) (w : World), (nilAhead (fuel + 1) 140 (.agg #[.pointer (some ⟨b, 0, none⟩), .pointer (some ⟨b, 0, none⟩), .pointer (some ⟨b, 0, none⟩)]) "Start").run Tryz.prog w = .ok (some false) w := by intro fuel w; kernel_rfl
theorem method_3_Stop (b : Nat) : ∀ (fuel : Nat) (w : World), (method (fuel + 1) 140 (.agg #[.pointer (some ⟨b, 0, none⟩), .pointer (some ⟨b, 0, none⟩), .pointer (some ⟨b, 0, none⟩)]) "Stop").run Tryz.prog w = .ok (144, .agg #[.pointer (some ⟨b, 0, none⟩)]) w := by intro fuel w; kernel_rfl
theorem nilAhead_3_Stop (b : Nat) : ∀ (fuel : Nat) (w : World), (nilAhead (fuel + 1) 140 (.agg #[.pointer (some ⟨b, 0, none⟩), .pointer (some ⟨b, 0, none⟩), .pointer (some ⟨b, 0, none⟩)]) "Stop").run Tryz.prog w = .ok (some false) w := by intro fuel w; kernel_rfl
theorem method_3_Tell (b : Nat) : ∀ (fuel : Nat) (w : World), (method (fuel + 1) 140 (.agg #[.pointer (some ⟨b, 0, none⟩), .pointer (some ⟨b, 0, none⟩), .pointer (some ⟨b, 0, none⟩)]) "Tell").run Tryz.prog w = .ok (155, .agg #[.pointer (some ⟨b, 0, none⟩)]) w := by intro fuel w; kernel_rfl
theorem nilAhead_3_Tell (b : Nat) : ∀ (fuel : Nat) (w : World), (nilAhead (fuel + 1) 140 (.agg #[.pointer (some ⟨b, 0, none⟩), .pointer (some ⟨b, 0, none⟩), .pointer (some ⟨b, 0, none⟩)]) "Tell").run Tryz.prog w = .ok (some false) w := by intro fuel w; kernel_rfl
theorem face_3 (b : Nat) : ∀ (fuel : Nat) (w : World), (method (fuel + 1) 140 (.agg #[.pointer (some ⟨b, 0, none⟩), .pointer (some ⟨b, 0, none⟩), .pointer (some ⟨b, 0, none⟩)]) "loop.example/g03016/impl.face").run Tryz.prog w = .ok (141, .agg #[.pointer (some ⟨b, 0, none⟩)]) w := by intro fuel w; kernel_rfl
theorem faceNil_3 (b : Nat) : ∀ (fuel : Nat) (w : World), (nilAhead (fuel + 1) 140 (.agg #[.pointer (some ⟨b, 0, none⟩), .pointer (some ⟨b, 0, none⟩), .pointer (some ⟨b, 0, none⟩)]) "loop.example/g03016/impl.face").run Tryz.prog w = .ok (some false) w := by intro fuel w; kernel_rfl
theorem ta_4_0 : ∀ (v : Value) (xT : TypeId) (w : World), (Instr.typeAssert (.iface 142 v) xT 160 false).run Tryz.prog w = .ok (.iface 142 v) w := ta_has Tryz.underlying160 (by kernel_rfl)
theorem ta_4_1 : ∀ (v : Value) (xT : TypeId) (w : World), (Instr.typeAssert (.iface 142 v) xT 163 false).run Tryz.prog w = .ok (.iface 142 v) w := ta_has Tryz.underlying163 (by kernel_rfl)
theorem ta_4_2 : Fails 167 142 := fails_of Tryz.underlying167 (by kernel_rfl)
theorem ta_4_3 : Fails 169 142 := fails_of Tryz.underlying169 (by kernel_rfl)
theorem ta_4_4 : Fails 172 142 := fails_of Tryz.underlying172 (by kernel_rfl)
theorem ta_4_5 : Fails 174 142 := fails_of Tryz.underlying174 (by kernel_rfl)
theorem method_4_Start (b : Nat) : ∀ (fuel : Nat) (w : World), (method (fuel + 1) 142 (.agg #[.pointer (some ⟨b, 0, none⟩), .pointer (some ⟨b, 0, none⟩), .pointer (some ⟨b, 0, none⟩)]) "Start").run Tryz.prog w = .ok (143, .agg #[.pointer (some ⟨b, 0, none⟩)]) w := by intro fuel w; kernel_rfl
theorem nilAhead_4_Start (b : Nat) : ∀ (fuel : Nat) (w : World), (nilAhead (fuel + 1) 142 (.agg #[.pointer (some ⟨b, 0, none⟩), .pointer (some ⟨b, 0, none⟩), .pointer (some ⟨b, 0, none⟩)]) "Start").run Tryz.prog w = .ok (some false) w := by intro fuel w; kernel_rfl
theorem method_4_Stop (b : Nat) : ∀ (fuel : Nat) (w : World), (method (fuel + 1) 142 (.agg #[.pointer (some ⟨b, 0, none⟩), .pointer (some ⟨b, 0, none⟩), .pointer (some ⟨b, 0, none⟩)]) "Stop").run Tryz.prog w = .ok (144, .agg #[.pointer (some ⟨b, 0, none⟩)]) w := by intro fuel w; kernel_rfl
theorem nilAhead_4_Stop (b : Nat) : ∀ (fuel : Nat) (w : World), (nilAhead (fuel + 1) 142 (.agg #[.pointer (some ⟨b, 0, none⟩), .pointer (some ⟨b, 0, none⟩), .pointer (some ⟨b, 0, none⟩)]) "Stop").run Tryz.prog w = .ok (some false) w := by intro fuel w; kernel_rfl
theorem method_4_Get (b : Nat) : ∀ (fuel : Nat) (w : World), (method (fuel + 1) 142 (.agg #[.pointer (some ⟨b, 0, none⟩), .pointer (some ⟨b, 0, none⟩), .pointer (some ⟨b, 0, none⟩)]) "Get").run Tryz.prog w = .ok (146, .agg #[.pointer (some ⟨b, 0, none⟩)]) w := by intro fuel w; kernel_rfl
theorem nilAhead_4_Get (b : Nat) : ∀ (fuel : Nat) (w : World), (nilAhead (fuel + 1) 142 (.agg #[.pointer (some ⟨b, 0, none⟩), .pointer (some ⟨b, 0, none⟩), .pointer (some ⟨b, 0, none⟩)]) "Get").run Tryz.prog w = .ok (some false) w := by intro fuel w; kernel_rfl
theorem method_4_Put (b : Nat) : ∀ (fuel : Nat) (w : World), (method (fuel + 1) 142 (.agg #[.pointer (some ⟨b, 0, none⟩), .pointer (some ⟨b, 0, none⟩), .pointer (some ⟨b, 0, none⟩)]) "Put").run Tryz.prog w = .ok (147, .agg #[.pointer (some ⟨b, 0, none⟩)]) w := by intro fuel w; kernel_rfl
theorem nilAhead_4_Put (b : Nat) : ∀ (fuel : Nat) (w : World), (nilAhead (fuel + 1) 142 (.agg #[.pointer (some ⟨b, 0, none⟩), .pointer (some ⟨b, 0, none⟩), .pointer (some ⟨b, 0, none⟩)]) "Put").run Tryz.prog w = .ok (some false) w := by intro fuel w; kernel_rfl
theorem face_4 (b : Nat) : ∀ (fuel : Nat) (w : World), (method (fuel + 1) 142 (.agg #[.pointer (some ⟨b, 0, none⟩), .pointer (some ⟨b, 0, none⟩), .pointer (some ⟨b, 0, none⟩)]) "loop.example/g03016/impl.face").run Tryz.prog w = .ok (141, .agg #[.pointer (some ⟨b, 0, none⟩)]) w := by intro fuel w; kernel_rfl
theorem faceNil_4 (b : Nat) : ∀ (fuel : Nat) (w : World), (nilAhead (fuel + 1) 142 (.agg #[.pointer (some ⟨b, 0, none⟩), .pointer (some ⟨b, 0, none⟩), .pointer (some ⟨b, 0, none⟩)]) "loop.example/g03016/impl.face").run Tryz.prog w = .ok (some false) w := by intro fuel w; kernel_rfl
theorem ta_5_0 : ∀ (v : Value) (xT : TypeId) (w : World), (Instr.typeAssert (.iface 145 v) xT 160 false).run Tryz.prog w = .ok (.iface 145 v) w := ta_has Tryz.underlying160 (by kernel_rfl)
theorem ta_5_1 : Fails 163 145 := fails_of Tryz.underlying163 (by kernel_rfl)
theorem ta_5_2 : Fails 167 145 := fails_of Tryz.underlying167 (by kernel_rfl)
theorem ta_5_3 : ∀ (v : Value) (xT : TypeId) (w : World), (Instr.typeAssert (.iface 145 v) xT 169 false).run Tryz.prog w = .ok (.iface 145 v) w := ta_has Tryz.underlying169 (by kernel_rfl)
theorem ta_5_4 : Fails 172 145 := fails_of Tryz.underlying172 (by kernel_rfl)
theorem ta_5_5 : Fails 174 145 := fails_of Tryz.underlying174 (by kernel_rfl)
theorem method_5_Start (b : Nat) : ∀ (fuel : Nat) (w : World), (method (fuel + 1) 145 (.agg #[.pointer (some ⟨b, 0, none⟩), .pointer (some ⟨b, 0, none⟩), .pointer (some ⟨b, 0, none⟩)]) "Start").run Tryz.prog w = .ok (143, .agg #[.pointer (some ⟨b, 0, none⟩)]) w := by intro fuel w; kernel_rfl
theorem nilAhead_5_Start (b : Nat) : ∀ (fuel : Nat) (w : World), (nilAhead (fuel + 1) 145 (.agg #[.pointer (some ⟨b, 0, none⟩), .pointer (some ⟨b, 0, none⟩), .pointer (some ⟨b, 0, none⟩)]) "Start").run Tryz.prog w = .ok (some false) w := by intro fuel w; kernel_rfl
theorem method_5_Stop (b : Nat) : ∀ (fuel : Nat) (w : World), (method (fuel + 1) 145 (.agg #[.pointer (some ⟨b, 0, none⟩), .pointer (some ⟨b, 0, none⟩), .pointer (some ⟨b, 0, none⟩)]) "Stop").run Tryz.prog w = .ok (144, .agg #[.pointer (some ⟨b, 0, none⟩)]) w := by intro fuel w; kernel_rfl
theorem nilAhead_5_Stop (b : Nat) : ∀ (fuel : Nat) (w : World), (nilAhead (fuel + 1) 145 (.agg #[.pointer (some ⟨b, 0, none⟩), .pointer (some ⟨b, 0, none⟩), .pointer (some ⟨b, 0, none⟩)]) "Stop").run Tryz.prog w = .ok (some false) w := by intro fuel w; kernel_rfl
theorem method_5_Hear (b : Nat) : ∀ (fuel : Nat) (w : World), (method (fuel + 1) 145 (.agg #[.pointer (some ⟨b, 0, none⟩), .pointer (some ⟨b, 0, none⟩), .pointer (some ⟨b, 0, none⟩)]) "Hear").run Tryz.prog w = .ok (156, .agg #[.pointer (some ⟨b, 0, none⟩)]) w := by intro fuel w; kernel_rfl
theorem nilAhead_5_Hear (b : Nat) : ∀ (fuel : Nat) (w : World), (nilAhead (fuel + 1) 145 (.agg #[.pointer (some ⟨b, 0, none⟩), .pointer (some ⟨b, 0, none⟩), .pointer (some ⟨b, 0, none⟩)]) "Hear").run Tryz.prog w = .ok (some false) w := by intro fuel w; kernel_rfl
theorem face_5 (b : Nat) : ∀ (fuel : Nat) (w : World), (method (fuel + 1) 145 (.agg #[.pointer (some ⟨b, 0, none⟩), .pointer (some ⟨b, 0, none⟩), .pointer (some ⟨b, 0, none⟩)]) "loop.example/g03016/impl.face").run Tryz.prog w = .ok (141, .agg #[.pointer (some ⟨b, 0, none⟩)]) w := by intro fuel w; kernel_rfl
theorem faceNil_5 (b : Nat) : ∀ (fuel : Nat) (w : World), (nilAhead (fuel + 1) 145 (.agg #[.pointer (some ⟨b, 0, none⟩), .pointer (some ⟨b, 0, none⟩), .pointer (some ⟨b, 0, none⟩)]) "loop.example/g03016/impl.face").run Tryz.prog w = .ok (some false) w := by intro fuel w; kernel_rfl
theorem ta_6_0 : ∀ (v : Value) (xT : TypeId) (w : World), (Instr.typeAssert (.iface 148 v) xT 160 false).run Tryz.prog w = .ok (.iface 148 v) w := ta_has Tryz.underlying160 (by kernel_rfl)
theorem ta_6_1 : ∀ (v : Value) (xT : TypeId) (w : World), (Instr.typeAssert (.iface 148 v) xT 163 false).run Tryz.prog w = .ok (.iface 148 v) w := ta_has Tryz.underlying163 (by kernel_rfl)
theorem ta_6_2 : Fails 167 148 := fails_of Tryz.underlying167 (by kernel_rfl)
theorem ta_6_3 : Fails 169 148 := fails_of Tryz.underlying169 (by kernel_rfl)
theorem ta_6_4 : ∀ (v : Value) (xT : TypeId) (w : World), (Instr.typeAssert (.iface 148 v) xT 172 false).run Tryz.prog w = .ok (.iface 148 v) w := ta_has Tryz.underlying172 (by kernel_rfl)
theorem ta_6_5 : Fails 174 148 := fails_of Tryz.underlying174 (by kernel_rfl)
theorem method_6_Start (b : Nat) : ∀ (fuel : Nat) (w : World), (method (fuel + 1) 148 (.agg #[.pointer (some ⟨b, 0, none⟩), .pointer (some ⟨b, 0, none⟩), .pointer (some ⟨b, 0, none⟩), .pointer (some ⟨b, 0, none⟩)]) "Start").run Tryz.prog w = .ok (143, .agg #[.pointer (some ⟨b, 0, none⟩)]) w := by intro fuel w; kernel_rfl
theorem nilAhead_6_Start (b : Nat) : ∀ (fuel : Nat) (w : World), (nilAhead (fuel + 1) 148 (.agg #[.pointer (some ⟨b, 0, none⟩), .pointer (some ⟨b, 0, none⟩), .pointer (some ⟨b, 0, none⟩), .pointer (some ⟨b, 0, none⟩)]) "Start").run Tryz.prog w = .ok (some false) w := by intro fuel w; kernel_rfl
theorem method_6_Stop (b : Nat) : ∀ (fuel : Nat) (w : World), (method (fuel + 1) 148 (.agg #[.pointer (some ⟨b, 0, none⟩), .pointer (some ⟨b, 0, none⟩), .pointer (some ⟨b, 0, none⟩), .pointer (some ⟨b, 0, none⟩)]) "Stop").run Tryz.prog w = .ok (144, .agg #[.pointer (some ⟨b, 0, none⟩)]) w := by intro fuel w; kernel_rfl
theorem nilAhead_6_Stop (b : Nat) : ∀ (fuel : Nat) (w : World), (nilAhead (fuel + 1) 148 (.agg #[.pointer (some ⟨b, 0, none⟩), .pointer (some ⟨b, 0, none⟩), .pointer (some ⟨b, 0, none⟩), .pointer (some ⟨b, 0, none⟩)]) "Stop").run Tryz.prog w = .ok (some false) w := by intro fuel w; kernel_rfl
theorem method_6_Get (b : Nat) : ∀ (fuel : Nat) (w : World), (method (fuel + 1) 148 (.agg #[.pointer (some ⟨b, 0, none⟩), .pointer (some ⟨b, 0, none⟩), .pointer (some ⟨b, 0, none⟩), .pointer (some ⟨b, 0, none⟩)]) "Get").run Tryz.prog w = .ok (146, .agg #[.pointer (some ⟨b, 0, none⟩)]) w := by intro fuel w; kernel_rfl
theorem nilAhead_6_Get (b : Nat) : ∀ (fuel : Nat) (w : World), (nilAhead (fuel + 1) 148 (.agg #[.pointer (some ⟨b, 0, none⟩), .pointer (some ⟨b, 0, none⟩), .pointer (some ⟨b, 0, none⟩), .pointer (some ⟨b, 0, none⟩)]) "Get").run Tryz.prog w = .ok (some false) w := by intro fuel w; kernel_rfl
theorem method_6_Put (b : Nat) : ∀ (fuel : Nat) (w : World), (method (fuel + 1) 148 (.agg #[.pointer (some ⟨b, 0, none⟩), .pointer (some ⟨b, 0, none⟩), .pointer (some ⟨b, 0, none⟩), .pointer (some ⟨b, 0, none⟩)]) "Put").run Tryz.prog w = .ok (147, .agg #[.pointer (some ⟨b, 0, none⟩)]) w := by intro fuel w; kernel_rfl
theorem nilAhead_6_Put (b : Nat) : ∀ (fuel : Nat) (w : World), (nilAhead (fuel + 1) 148 (.agg #[.pointer (some ⟨b, 0, none⟩), .pointer (some ⟨b, 0, none⟩), .pointer (some ⟨b, 0, none⟩), .pointer (some ⟨b, 0, none⟩)]) "Put").run Tryz.prog w = .ok (some false) w := by intro fuel w; kernel_rfl
theorem method_6_Load (b : Nat) : ∀ (fuel : Nat) (w : World), (method (fuel + 1) 148 (.agg #[.pointer (some ⟨b, 0, none⟩), .pointer (some ⟨b, 0, none⟩), .pointer (some ⟨b, 0, none⟩), .pointer (some ⟨b, 0, none⟩)]) "Load").run Tryz.prog w = .ok (157, .agg #[.pointer (some ⟨b, 0, none⟩)]) w := by intro fuel w; kernel_rfl
theorem nilAhead_6_Load (b : Nat) : ∀ (fuel : Nat) (w : World), (nilAhead (fuel + 1) 148 (.agg #[.pointer (some ⟨b, 0, none⟩), .pointer (some ⟨b, 0, none⟩), .pointer (some ⟨b, 0, none⟩), .pointer (some ⟨b, 0, none⟩)]) "Load").run Tryz.prog w = .ok (some false) w := by intro fuel w; kernel_rfl
theorem method_6_Save (b : Nat) : ∀ (fuel : Nat) (w : World), (method (fuel + 1) 148 (.agg #[.pointer (some ⟨b, 0, none⟩), .pointer (some ⟨b, 0, none⟩), .pointer (some ⟨b, 0, none⟩), .pointer (some ⟨b, 0, none⟩)]) "Save").run Tryz.prog w = .ok (158, .agg #[.pointer (some ⟨b, 0, none⟩)]) w := by intro fuel w; kernel_rfl
theorem nilAhead_6_Save (b : Nat) : ∀ (fuel : Nat) (w : World), (nilAhead (fuel + 1) 148 (.agg #[.pointer (some ⟨b, 0, none⟩), .pointer (some ⟨b, 0, none⟩), .pointer (some ⟨b, 0, none⟩), .pointer (some ⟨b, 0, none⟩)]) "Save").run Tryz.prog w = .ok (some false) w := by intro fuel w; kernel_rfl
theorem face_6 (b : Nat) : ∀ (fuel : Nat) (w : World), (method (fuel + 1) 148 (.agg #[.pointer (some ⟨b, 0, none⟩), .pointer (some ⟨b, 0, none⟩), .pointer (some ⟨b, 0, none⟩), .pointer (some ⟨b, 0, none⟩)]) "loop.example/g03016/impl.face").run Tryz.prog w = .ok (141, .agg #[.pointer (some ⟨b, 0, none⟩)]) w := by intro fuel w; kernel_rfl
theorem faceNil_6 (b : Nat) : ∀ (fuel : Nat) (w : World), (nilAhead (fuel + 1) 148 (.agg #[.pointer (some ⟨b, 0, none⟩), .pointer (some ⟨b, 0, none⟩), .pointer (some ⟨b, 0, none⟩), .pointer (some ⟨b, 0, none⟩)]) "loop.example/g03016/impl.face").run Tryz.prog w = .ok (some false) w := by intro fuel w; kernel_rfl
theorem ta_7_0 : ∀ (v : Value) (xT : TypeId) (w : World), (Instr.typeAssert (.iface 151 v) xT 160 false).run Tryz.prog w = .ok (.iface 151 v) w := ta_has Tryz.underlying160 (by kernel_rfl)
theorem ta_7_1 : ∀ (v : Value) (xT : TypeId) (w : World), (Instr.typeAssert (.iface 151 v) xT 163 false).run Tryz.prog w = .ok (.iface 151 v) w := ta_has Tryz.underlying163 (by kernel_rfl)
theorem ta_7_2 : ∀ (v : Value) (xT : TypeId) (w : World), (Instr.typeAssert (.iface 151 v) xT 167 false).run Tryz.prog w = .ok (.iface 151 v) w := ta_has Tryz.underlying167 (by kernel_rfl)
theorem ta_7_3 : ∀ (v : Value) (xT : TypeId) (w : World), (Instr.typeAssert (.iface 151 v) xT 169 false).run Tryz.prog w = .ok (.iface 151 v) w := ta_has Tryz.underlying169 (by kernel_rfl)
theorem ta_7_4 : ∀ (v : Value) (xT : TypeId) (w : World), (Instr.typeAssert (.iface 151 v) xT 172 false).run Tryz.prog w = .ok (.iface 151 v) w := ta_has Tryz.underlying172 (by kernel_rfl)
theorem ta_7_5 : ∀ (v : Value) (xT : TypeId) (w : World), (Instr.typeAssert (.iface 151 v) xT 174 false).run Tryz.prog w = .ok (.iface 151 v) w := ta_has Tryz.underlying174 (by kernel_rfl)
theorem method_7_Start (b : Nat) : ∀ (fuel : Nat) (w : World), (method (fuel + 1) 151 (.agg #[.pointer (some ⟨b, 0, none⟩), .pointer (some ⟨b, 0, none⟩), .pointer (some ⟨b, 0, none⟩), .pointer (some ⟨b, 0, none⟩), .pointer (some ⟨b, 0, none⟩), .pointer (some ⟨b, 0, none⟩), .pointer (some ⟨b, 0, none⟩)]) "Start").run Tryz.prog w = .ok (143, .agg #[.pointer (some ⟨b, 0, none⟩)]) w := by intro fuel w; kernel_rfl
theorem nilAhead_7_Start (b : Nat) : ∀ (fuel : Nat) (w : World), (nilAhead (fuel + 1) 151 (.agg #[.pointer (some ⟨b, 0, none⟩), .pointer (some ⟨b, 0, none⟩), .pointer (some ⟨b, 0, none⟩), .pointer (some ⟨b, 0, none⟩), .pointer (some ⟨b, 0, none⟩), .pointer (some ⟨b, 0, none⟩), .pointer (some ⟨b, 0, none⟩)]) "Start").run Tryz.prog w = .ok (some false) w := by intro fuel w; kernel_rfl
theorem method_7_Stop (b : Nat) : ∀ (fuel : Nat) (w : World), (method (fuel + 1) 151 (.agg #[.pointer (some ⟨b, 0, none⟩), .pointer (some ⟨b, 0, none⟩), .pointer (some ⟨b, 0, none⟩), .pointer (some ⟨b, 0, none⟩), .pointer (some ⟨b, 0, none⟩), .pointer (some ⟨b, 0, none⟩), .pointer (some ⟨b, 0, none⟩)]) "Stop").run Tryz.prog w = .ok (144, .agg #[.pointer (some ⟨b, 0, none⟩)]) w := by intro fuel w; kernel_rfl
theorem nilAhead_7_Stop (b : Nat) : ∀ (fuel : Nat) (w : World), (nilAhead (fuel + 1) 151 (.agg #[.pointer (some ⟨b, 0, none⟩), .pointer (some ⟨b, 0, none⟩), .pointer (some ⟨b, 0, none⟩), .pointer (some ⟨b, 0, none⟩), .pointer (some ⟨b, 0, none⟩), .pointer (some ⟨b, 0, none⟩), .pointer (some ⟨b, 0, none⟩)]) "Stop").run Tryz.prog w = .ok (some false) w := by intro fuel w; kernel_rfl
theorem method_7_Get (b : Nat) : ∀ (fuel : Nat) (w : World), (method (fuel + 1) 151 (.agg #[.pointer (some ⟨b, 0, none⟩), .pointer (some ⟨b, 0, none⟩), .pointer (some ⟨b, 0, none⟩), .pointer (some ⟨b, 0, none⟩), .pointer (some ⟨b, 0, none⟩), .pointer (some ⟨b, 0, none⟩), .pointer (some ⟨b, 0, none⟩)]) "Get").run Tryz.prog w = .ok (146, .agg #[.pointer (some ⟨b, 0, none⟩)]) w := by intro fuel w; kernel_rfl
theorem nilAhead_7_Get (b : Nat) : ∀ (fuel : Nat) (w : World), (nilAhead (fuel + 1) 151 (.agg #[.pointer (some ⟨b, 0, none⟩), .pointer (some ⟨b, 0, none⟩), .pointer (some ⟨b, 0, none⟩), .pointer (some ⟨b, 0, none⟩), .pointer (some ⟨b, 0, none⟩), .pointer (some ⟨b, 0, none⟩), .pointer (some ⟨b, 0, none⟩)]) "Get").run Tryz.prog w = .ok (some false) w := by intro fuel w; kernel_rfl
theorem method_7_Put (b : Nat) : ∀ (fuel : Nat) (w : World), (method (fuel + 1) 151 (.agg #[.pointer (some ⟨b, 0, none⟩), .pointer (some ⟨b, 0, none⟩), .pointer (some ⟨b, 0, none⟩), .pointer (some ⟨b, 0, none⟩), .pointer (some ⟨b, 0, none⟩), .pointer (some ⟨b, 0, none⟩), .pointer (some ⟨b, 0, none⟩)]) "Put").run Tryz.prog w = .ok (147, .agg #[.pointer (some ⟨b, 0, none⟩)]) w := by intro fuel w; kernel_rfl
theorem nilAhead_7_Put (b : Nat) : ∀ (fuel : Nat) (w : World), (nilAhead (fuel + 1) 151 (.agg #[.pointer (some ⟨b, 0, none⟩), .pointer (some ⟨b, 0, none⟩), .pointer (some ⟨b, 0, none⟩), .pointer (some ⟨b, 0, none⟩), .pointer (some ⟨b, 0, none⟩), .pointer (some ⟨b, 0, none⟩), .pointer (some ⟨b, 0, none⟩)]) "Put").run Tryz.prog w = .ok (some false) w := by intro fuel w; kernel_rfl
theorem method_7_Tell (b : Nat) : ∀ (fuel : Nat) (w : World), (method (fuel + 1) 151 (.agg #[.pointer (some ⟨b, 0, none⟩), .pointer (some ⟨b, 0, none⟩), .pointer (some ⟨b, 0, none⟩), .pointer (some ⟨b, 0, none⟩), .pointer (some ⟨b, 0, none⟩), .pointer (some ⟨b, 0, none⟩), .pointer (some ⟨b, 0, none⟩)]) "Tell").run Tryz.prog w = .ok (155, .agg #[.pointer (some ⟨b, 0, none⟩)]) w := by intro fuel w; kernel_rfl
theorem nilAhead_7_Tell (b : Nat) : ∀ (fuel : Nat) (w : World), (nilAhead (fuel + 1) 151 (.agg #[.pointer (some ⟨b, 0, none⟩), .pointer (some ⟨b, 0, none⟩), .pointer (some ⟨b, 0, none⟩), .pointer (some ⟨b, 0, none⟩), .pointer (some ⟨b, 0, none⟩), .pointer (some ⟨b, 0, none⟩), .pointer (some ⟨b, 0, none⟩)]) "Tell").run Tryz.prog w = .ok (some false) w := by intro fuel w; kernel_rfl
theorem method_7_Hear (b : Nat) : ∀ (fuel : Nat) (w : World), (method (fuel + 1) 151 (.agg #[.pointer (some ⟨b, 0, none⟩), .pointer (some ⟨b, 0, none⟩), .pointer (some ⟨b, 0, none⟩), .pointer (some ⟨b, 0, none⟩), .pointer (some ⟨b, 0, none⟩), .pointer (some ⟨b, 0, none⟩), .pointer (some ⟨b, 0, none⟩)]) "Hear").run Tryz.prog w = .ok (156, .agg #[.pointer (some ⟨b, 0, none⟩)]) w := by intro fuel w; kernel_rfl
theorem nilAhead_7_Hear (b : Nat) : ∀ (fuel : Nat) (w : World), (nilAhead (fuel + 1) 151 (.agg #[.pointer (some ⟨b, 0, none⟩), .pointer (some ⟨b, 0, none⟩), .pointer (some ⟨b, 0, none⟩), .pointer (some ⟨b, 0, none⟩), .pointer (some ⟨b, 0, none⟩), .pointer (some ⟨b, 0, none⟩), .pointer (some ⟨b, 0, none⟩)]) "Hear").run Tryz.prog w = .ok (some false) w := by intro fuel w; kernel_rfl
theorem method_7_Load (b : Nat) : ∀ (fuel : Nat) (w : World), (method (fuel + 1) 151 (.agg #[.pointer (some ⟨b, 0, none⟩), .pointer (some ⟨b, 0, none⟩), .pointer (some ⟨b, 0, none⟩), .pointer (some ⟨b, 0, none⟩), .pointer (some ⟨b, 0, none⟩), .pointer (some ⟨b, 0, none⟩), .pointer (some ⟨b, 0, none⟩)]) "Load").run Tryz.prog w = .ok (157, .agg #[.pointer (some ⟨b, 0, none⟩)]) w := by intro fuel w; kernel_rfl
theorem nilAhead_7_Load (b : Nat) : ∀ (fuel : Nat) (w : World), (nilAhead (fuel + 1) 151 (.agg #[.pointer (some ⟨b, 0, none⟩), .pointer (some ⟨b, 0, none⟩), .pointer (some ⟨b, 0, none⟩), .pointer (some ⟨b, 0, none⟩), .pointer (some ⟨b, 0, none⟩), .pointer (some ⟨b, 0, none⟩), .pointer (some ⟨b, 0, none⟩)]) "Load").run Tryz.prog w = .ok (some false) w := by intro fuel w; kernel_rfl
theorem method_7_Save (b : Nat) : ∀ (fuel : Nat) (w : World), (method (fuel + 1) 151 (.agg #[.pointer (some ⟨b, 0, none⟩), .pointer (some ⟨b, 0, none⟩), .pointer (some ⟨b, 0, none⟩), .pointer (some ⟨b, 0, none⟩), .pointer (some ⟨b, 0, none⟩), .pointer (some ⟨b, 0, none⟩), .pointer (some ⟨b, 0, none⟩)]) "Save").run Tryz.prog w = .ok (158, .agg #[.pointer (some ⟨b, 0, none⟩)]) w := by intro fuel w; kernel_rfl
theorem nilAhead_7_Save (b : Nat) : ∀ (fuel : Nat) (w : World), (nilAhead (fuel + 1) 151 (.agg #[.pointer (some ⟨b, 0, none⟩), .pointer (some ⟨b, 0, none⟩), .pointer (some ⟨b, 0, none⟩), .pointer (some ⟨b, 0, none⟩), .pointer (some ⟨b, 0, none⟩), .pointer (some ⟨b, 0, none⟩), .pointer (some ⟨b, 0, none⟩)]) "Save").run Tryz.prog w = .ok (some false) w := by intro fuel w; kernel_rfl
theorem method_7_Heal (b : Nat) : ∀ (fuel : Nat) (w : World), (method (fuel + 1) 151 (.agg #[.pointer (some ⟨b, 0, none⟩), .pointer (some ⟨b, 0, none⟩), .pointer (some ⟨b, 0, none⟩), .pointer (some ⟨b, 0, none⟩), .pointer (some ⟨b, 0, none⟩), .pointer (some ⟨b, 0, none⟩), .pointer (some ⟨b, 0, none⟩)]) "Heal").run Tryz.prog w = .ok (173, .agg #[.pointer (some ⟨b, 0, none⟩)]) w := by intro fuel w; kernel_rfl
theorem nilAhead_7_Heal (b : Nat) : ∀ (fuel : Nat) (w : World), (nilAhead (fuel + 1) 151 (.agg #[.pointer (some ⟨b, 0, none⟩), .pointer (some ⟨b, 0, none⟩), .pointer (some ⟨b, 0, none⟩), .pointer (some ⟨b, 0, none⟩), .pointer (some ⟨b, 0, none⟩), .pointer (some ⟨b, 0, none⟩), .pointer (some ⟨b, 0, none⟩)]) "Heal").run Tryz.prog w = .ok (some false) w := by intro fuel w; kernel_rfl
theorem face_7 (b : Nat) : ∀ (fuel : Nat) (w : World), (method (fuel + 1) 151 (.agg #[.pointer (some ⟨b, 0, none⟩), .pointer (some ⟨b, 0, none⟩), .pointer (some ⟨b, 0, none⟩), .pointer (some ⟨b, 0, none⟩), .pointer (some ⟨b, 0, none⟩), .pointer (some ⟨b, 0, none⟩), .pointer (some ⟨b, 0, none⟩)]) "loop.example/g03016/impl.face").run Tryz.prog w = .ok (141, .agg #[.pointer (some ⟨b, 0, none⟩)]) w := by intro fuel w; kernel_rfl
theorem faceNil_7 (b : Nat) : ∀ (fuel : Nat) (w : World), (nilAhead (fuel + 1) 151 (.agg #[.pointer (some ⟨b, 0, none⟩), .pointer (some ⟨b, 0, none⟩), .pointer (some ⟨b, 0, none⟩), .pointer (some ⟨b, 0, none⟩), .pointer (some ⟨b, 0, none⟩), .pointer (some ⟨b, 0, none⟩), .pointer (some ⟨b, 0, none⟩)]) "loop.example/g03016/impl.face").run Tryz.prog w = .ok (some false) w := by intro fuel w; kernel_rfl
/-- what the door asks of the core, the call and the memory -/
structure Pre (N b : Nat) (cv : Value) (d : CoreD) (x : CallD) (mx : Int) (w : World) : Prop where
  st : CoreSt N b cv d w
  hN : N ≤ w.heap.size
  hr : -9223372036854775808 ≤ d.fCount
  hm : d.fCells.length ≤ 4194304
  hs : ∀ c ∈ d.fCells, c.fKey.length ≤ maxLen
  hk : x.fKey.length ≤ maxLen
  ht : x.fText.length ≤ 1048576
  hM : w.cell? ⟨0, 0, none⟩ = some (.int .i64 mx)
theorem Pre.below {N b : Nat} {cv : Value} {d : CoreD} {x : CallD} {mx : Int} {w w' : World} (h : Pre N b cv d x mx w) (hb : Below w.heap.size w w') : Pre N b cv d x mx w' :=
  ⟨h.st.below hb, Nat.le_trans h.hN hb.size, h.hr, h.hm, h.hs, h.hk, h.ht, (hb.cell (p := ⟨0, 0, none⟩) (World.block_lt_of_cell? w _ h.hM)).trans h.hM⟩
theorem heap_two (w : World) (o1 o2 : Obj) : ((w.alloc o1).alloc o2).heap[w.heap.size + 1]? = some o2 := by have := heap_alloc_new (w.alloc o1) o2; simpa using this
/-- a row of cells is not a block of another type -/
theorem row_ne {w : World} {N n : Nat} {t : TypeId} {c : Array Value} {k : Nat × Nat} {cv : Value} {l : List CellD} (ho : OwnsF cCell 66 2 w N cv l) (hg : w.heap[n]? = some (.cells c t k)) (ht : t ≠ 66) : cv.ownBlock ≠ some n := by
  intro e
  rcases ho.2 with ⟨rfl, _⟩ | ⟨g, cap, cur, rfl, _, hg2, _⟩
  · simp [Value.ownBlock] at e
  · simp [Value.ownBlock] at e
    subst e
    rw [hg] at hg2
    injection hg2 with hg2
    injection hg2 with _ h2 _
    exact ht h2
/-- behind a method: the state, and a box n of the caller's that is not in it -/
def Fin (N b : Nat) (cv : Value) (d : CoreD) (n : Nat) (w w1 : World) : Prop := (∃ cv', CoreSt N b cv' d w1 ∧ cv'.ownBlock ≠ some n) ∧ b ≠ n ∧ w.heap.size ≤ n ∧ Kept2 w w1 (some b) cv.ownBlock
theorem fin_set {N b : Nat} {cv : Value} {d : CoreD} {n : Nat} {w w1 : World} (h : Fin N b cv d n w w1) (o : Nat) (u : Value) : Fin N b cv d n w (w1.setCell ⟨n, o, none⟩ u) := by
  obtain ⟨⟨cv', hs, hn⟩, hb, hl, hk⟩ := h
  refine ⟨⟨cv', ⟨hs.box.so _ _ hb, ?_, hs.ne, hs.ge⟩, hn⟩, hb, hl, hk.set _ (Or.inl hl)⟩
  refine World.ownsRow.kept hs.own (row := some n) ⟨rfl, rfl, rfl, by simp, fun i hi hne => Below.heap_setCell w1 _ u i (fun e => hne (by rw [e]))⟩ (Or.inr hn)
theorem fin_does {N b : Nat} {cv : Value} {out : CoreD × ReplyD} {n : Nat} {w w1 : World} (h : Fin N b cv out.1 n w w1) : Does N b cv out w (.returned (vReply out.2)) w1 := by
  obtain ⟨⟨cv', hs, _⟩, _, _, hk⟩ := h
  exact ⟨rfl, cv', hs, hk⟩
/-- what a method's contract says, for a caller whose box n (a Reply) was made behind w -/
theorem fin_of {N b : Nat} {cv : Value} {d : CoreD} {out : CoreD × ReplyD} {n : Nat} {w W w1 : World} {e : Ending} (hst : CoreSt N b cv d w) (hw : Below w.heap.size w W) (hn : w.heap.size ≤ n)
    (hg : ∃ c, W.heap[n]? = some (.cells c 33 (0, 0))) (h : Does N b cv out W e w1) :
    e = .returned (vReply out.2) ∧ Fin N b cv out.1 n w w1 ∧ (∀ o, w1.cell? ⟨n, o, none⟩ = W.cell? ⟨n, o, none⟩) ∧ (∀ o, w1.frozen? ⟨n, o, none⟩ = W.frozen? ⟨n, o, none⟩) := by
  obtain ⟨rfl, cv', hs, hk⟩ := h
  obtain ⟨c, hg⟩ := hg
  have hnl : n < W.heap.size := (Array.getElem?_eq_some_iff.1 hg).1
  have hbl := hst.box.lt
  have h1 : some n ≠ some b := fun e => by injection e; omega
  have h2 : some n ≠ cv.ownBlock := fun e => by have := (World.ownsRow.lt hst.own n e.symm).2; omega
  have hb := hk.block n hnl h1 h2
  refine ⟨rfl, ⟨⟨cv', hs, row_ne hs.own (hb.trans hg) (by decide)⟩, by omega, hn, Kept2.ahead hw hk⟩, fun o => World.cell?_of_block hb, fun o => World.frozen?_of_block hb⟩
end Go.Proofs.YtandbnpgccpcoaaGreat
/- A core's methods: Put. -/
namespace Go.Proofs.YtandbnpgccpcoaaGreat
set_option linter.unusedVariables false
set_option linter.unusedSimpArgs false
open Go.RowKit
theorem flat_set1 (k : List UInt8) (v : Int) : ∀ (l : List CellD) (p : Nat) (h : p < l.length), (l[p]).fKey = k → (l.flatMap cCell).set (p * 2 + 1) (.int .i64 v) = (l.set p ⟨k, v⟩).flatMap cCell
  | [], p, h, _ => by simp at h
  | d :: r, 0, h, e => by
    simp only [List.getElem_cons_zero] at e
    simp [cCell, e]
  | d :: r, p + 1, h, e => by
    have ih := flat_set1 k v r p (by simpa using h) (by simpa using e)
    rw [List.set_cons_succ, List.flatMap_cons, List.flatMap_cons, ← ih, show (p + 1) * 2 + 1 = (cCell d).length + (p * 2 + 1) by rw [cCell_len]; omega, List.set_append_right _ _ (by omega)]
    simp
theorem CoreBox.cells {w : World} {b : Nat} {cv : Value} {k : List UInt8} {on br : Bool} {l : List CellD} {n : Int} (h : CoreBox w b cv ⟨k, on, br, l, n⟩) (l2 : List CellD) : CoreBox w b cv ⟨k, on, br, l2, n⟩ := ⟨h.c0, h.c1, h.c2, h.c3, h.c4, h.z1, h.z2, h.z3, h.z4⟩
theorem set_blk_cell (w : World) (p q : Addr) (u : Value) (h : q.block ≠ p.block) : (w.setCell p u).cell? q = w.cell? q := World.cell?_of_block (Below.heap_setCell w p u q.block h)
theorem st_count {N b : Nat} {cv : Value} {d d' : CoreD} {w w' : World} (h : CoreSt N b cv d w) (hb : CoreBox w' b cv d') (hc : d'.fCells = d.fCells) (hk : Kept2 w w' (some b) none) : CoreSt N b cv d' w' := (st_turned h hb hc hk).1
theorem Kept2.both {a w w' : World} {b : Nat} {r : Option Nat} (h : Kept2 a w (some b) r) (k : Kept2 w w' (some b) none) : Kept2 a w' (some b) r :=
  ⟨k.os.trans h.os, k.tape.trans h.tape, k.output.trans h.output, Nat.le_trans h.size k.size, fun i hi h1 h2 => (k.block i (Nat.lt_of_lt_of_le hi h.size) h1 (by simp)).trans (h.block i hi h1 h2)⟩
theorem Kept2.grown {a w w' : World} {b : Nat} {r : Option Nat} (h : Kept2 a w (some b) r) (k : w.grownBy w' r) : Kept2 a w' (some b) r :=
  ⟨k.os.trans h.os, k.tape.trans h.tape, k.output.trans h.output, Nat.le_trans h.size k.size, fun i hi h1 h2 => (k.block i (Nat.lt_of_lt_of_le hi h.size) h2).trans (h.block i hi h1 h2)⟩
set_option maxRecDepth 100000 in
set_option maxHeartbeats 3200000 in
theorem put_found (N b : Nat) (cv : Value) (d : CoreD) (key : List UInt8) (n : Int) (w : World) (h : CoreSt N b cv d w) (hm : d.fCells.length ≤ 4) (hr : -9223372036854775808 ≤ d.fCount) (hi : idleI d = 0) (hf : fnd d.fCells key = true) :
    Calls Tryz.prog 147 #[.agg #[.pointer (some ⟨b, 0, none⟩)], .string ⟨key.toArray⟩, .int .i64 n] w fun e w' => Does N b cv (putD d key n) w e w' := by
  have HS := Lib.hid h
  have HB := Lib.hid h.box
  have hl0 := h.box.lt
  have HX := Lib.hid (ownsF_at h.own (by omega))
  obtain ⟨c0, c1, c2, c3, c4, z1, z2, z3, z4⟩ := h.box
  have hne := h.ne
  clear h
  have HD := Lib.hid (fun w' (hw : Below w.heap.size w w') => show CoreBox w' b cv d ∧ Kept2 w w' (some b) none from ⟨HB.out.keep (hw.block b hl0), Kept2.of_below hw⟩)
  have HI := Lib.hid (fun w' (hw : Below w.heap.size w w') => idle_c b cv d w' (HD.out w' hw).1)
  rw [hi] at HI
  have HF := Lib.hid (fun w' (hw : Below w.heap.size w w') => find_c cv d.fCells key w' (HX.out.below hw (Nat.le_refl _)))
  rw [hf] at HF
  have HG := Lib.hid (show putD d key n = ({ d with fCells := putC d.fCells key n, fCount := upI d.fCount }, rV (putC d.fCells key n).length) from by unfold putD; rw [if_pos hi, if_pos (Or.inl hf)])
  have hp := fnd_lt hf
  have hkey : (d.fCells[plc d.fCells key]).fKey = key := by have := (fnd_at d.fCells key hp).1; rw [hf] at this; simpa using this.symm
  have HP := Lib.hid (show putC d.fCells key n = d.fCells.set (plc d.fCells key) ⟨key, n⟩ from putC_found _ _ _ hf)
  have HFS := Lib.hid (flat_set1 key n d.fCells (plc d.fCells key) hp hkey)
  rw [HP.out] at HG
  simp only [List.length_set] at HG
  clear hf hi HP hkey
  generalize putD d key n = out at *
  generalize plc d.fCells key = p at *
  obtain ⟨kd, on, br, l, cnt⟩ := d
  simp only at *
  have hl1 : b < w.heap.size + 1 := by omega
  have hl2 : b < w.heap.size + 1 + 1 := by omega
  have hn0 : ¬ b = w.heap.size := by omega
  have hn1 : ¬ b = w.heap.size + 1 := by omega
  have hap := @past_cell b
  have haf := @past_frozen b
  have HB2 := Lib.hid (show ∀ o1 o2, Below w.heap.size w ((w.alloc o1).alloc o2) from fun o1 o2 => ((Below.refl _ _).alloc (Nat.le_refl _) _).alloc (by simp) _)
  obtain ⟨g, c, rfl⟩ : ∃ g c, cv = .slice (some ⟨g, 0, none⟩) l.length c := by
    rcases HS.out.own.2 with ⟨_, hn⟩ | ⟨g, cap, cur, rfl, _⟩
    · simp only at hn; omega
    · exact ⟨_, _, rfl⟩
  have hgb : ¬ g = b := fun e => hne (by rw [e]; rfl)
  have hgw : g < w.heap.size := (World.ownsRow.lt HS.out.own g rfl).2
  have hp0 : (0 : Int) ≤ (p : Int) := by omega
  have hp1 : (p : Int) < (l.length : Int) := by omega
  go_enter Tryz.func147, Tryz.ntmps147
  go_wp2_with fail
  refine (HI.out _ (HB2.out _ _)).mono ?_
  rintro e w1 ⟨rfl, rfl⟩
  go_wp2_with fail
  refine (HF.out _ (HB2.out _ _)).mono ?_
  rintro e w1 ⟨rfl, hb⟩
  have HB3 := Lib.hid ((HB2.out _ _).trans (hb.mono (HB2.out _ _).size))
  have HO1 := Lib.hid (show OwnsF cCell 66 2 w1 N (.slice (some ⟨g, 0, none⟩) l.length c) l from ownsF_below HS.out.own HB3.out (Nat.le_refl _))
  have ST := Lib.hid (World.ownsRow.stored HO1.out (p * 2 + 1) (.int .i64 n))
  obtain ⟨hcc, hff⟩ := bcell hb
  simp at hcc hff
  have hsz := hb.size
  simp at hsz
  have e1 : (w1.cell? ⟨g, p * 2 + 1, none⟩).isSome = true := by
    rw [World.ownsRow.cellAt HO1.out (p * 2 + 1) (by omega), List.getElem?_eq_getElem (by rw [flat_len cCell 2 cCell_len]; omega)]; rfl
  obtain ⟨ev, e1⟩ := Option.isSome_iff_exists.1 e1
  have f1 := World.ownsRow.frozenAt HO1.out (p * 2 + 1)
  clear hb
  have hz0 : ∀ o, w1.frozen? ⟨w.heap.size + 1, o, none⟩ = false := fun o => by rw [hff _ _ (by omega)]; simp [go_sem]
  go_wp2_with fail
  refine (countUp_c b (.slice (some ⟨g, 0, none⟩) l.length c) ⟨kd, on, br, l.set p ⟨key, n⟩, cnt⟩ _ (((HD.out _ HB3.out).1.so _ _ (by simpa using fun e => hgb e.symm)).cells _) hr).mono ?_
  rintro e w2 ⟨rfl, hbx, hk⟩
  have HBX := Lib.hid hbx
  have HK := Lib.hid hk
  have g0 : w2.cell? ⟨w.heap.size, 0, none⟩ = some (.pointer (some ⟨b, 0, none⟩)) := (hk.cell (p := ⟨w.heap.size, 0, none⟩) (by simp; omega) (by simp; omega) (by simp)).trans ((set_blk_cell _ _ _ _ (by simp; omega)).trans ((hcc _ _ (by omega)).trans (by simp [go_sem])))
  have r0 : w2.cell? ⟨w.heap.size + 1, 0, none⟩ = some (.int .i64 0) := (hk.cell (p := ⟨w.heap.size + 1, 0, none⟩) (by simp; omega) (by simp; omega) (by simp)).trans ((set_blk_cell _ _ _ _ (by simp; omega)).trans ((hcc _ _ (by omega)).trans (by simp [go_sem])))
  have r1 : w2.cell? ⟨w.heap.size + 1, 1, none⟩ = some (.int .i64 0) := (hk.cell (p := ⟨w.heap.size + 1, 1, none⟩) (by simp; omega) (by simp; omega) (by simp)).trans ((set_blk_cell _ _ _ _ (by simp; omega)).trans ((hcc _ _ (by omega)).trans (by simp [go_sem])))
  have r2 : w2.cell? ⟨w.heap.size + 1, 2, none⟩ = some (.string ⟨#[]⟩) := (hk.cell (p := ⟨w.heap.size + 1, 2, none⟩) (by simp; omega) (by simp; omega) (by simp)).trans ((set_blk_cell _ _ _ _ (by simp; omega)).trans ((hcc _ _ (by omega)).trans (by simp [go_sem])))
  have r3 : w2.cell? ⟨w.heap.size + 1, 3, none⟩ = some (.int .i64 0) := (hk.cell (p := ⟨w.heap.size + 1, 3, none⟩) (by simp; omega) (by simp; omega) (by simp)).trans ((set_blk_cell _ _ _ _ (by simp; omega)).trans ((hcc _ _ (by omega)).trans (by simp [go_sem])))
  have r4 : w2.cell? ⟨w.heap.size + 1, 4, none⟩ = some (.int .i64 0) := (hk.cell (p := ⟨w.heap.size + 1, 4, none⟩) (by simp; omega) (by simp; omega) (by simp)).trans ((set_blk_cell _ _ _ _ (by simp; omega)).trans ((hcc _ _ (by omega)).trans (by simp [go_sem])))
  have y0 : ∀ o, w2.frozen? ⟨w.heap.size + 1, o, none⟩ = false := fun o => (hk.frozen (p := ⟨w.heap.size + 1, o, none⟩) (by simp; omega) (by simp; omega) (by simp)).trans ((frz_set _ _ _ _).trans (hz0 o))
  have hsz2 := hk.size
  simp at hsz2
  have d3 := hbx.c3
  clear hbx hk c0 c1 c2 c3 c4 z1 z2 z3 z4
  have S1 := Lib.hid (show CoreSt N b (.slice (some ⟨g, 0, none⟩) l.length c) ⟨kd, on, br, l.set p ⟨key, n⟩, cnt⟩ (w1.setCell ⟨g, p * 2 + 1, none⟩ (.int .i64 n)) from
    ⟨((HD.out _ HB3.out).1.so _ _ (by simpa using fun e => hgb e.symm)).cells _, by have h := ST.out.1; rw [HFS.out] at h; unfold OwnsF; rw [List.length_set]; exact h, hne, HS.out.ge⟩)
  have HFN := Lib.hid (show Fin N b (.slice (some ⟨g, 0, none⟩) l.length c) ⟨kd, on, br, l.set p ⟨key, n⟩, upI cnt⟩ (w.heap.size + 1) w w2 from
    ⟨⟨_, st_count S1.out HBX.out rfl HK.out, by simp [Value.ownBlock]; omega⟩, by omega, by omega, (Kept2.set (p := ⟨g, p * 2 + 1, none⟩) (Kept2.of_below HB3.out) _ (Or.inr (Or.inr rfl))).both HK.out⟩)
  go_wp2_with fail
  refine bodyPost_ret (v := vReply (rV l.length)) (by simp [results, Tryz.results147, go_sem, vReply, rC, rV, rT, cell_set_at, cell_set_ne, r0, r1, r2, r3, r4]) rfl ?_
  rw [HG.out]
  refine fin_does (out := ((⟨kd, on, br, l.set p ⟨key, n⟩, upI cnt⟩ : CoreD), rV l.length)) (n := w.heap.size + 1) ?_
  repeat (with_reducible refine fin_set ?_ _ _)
  exact HFN.out
end Go.Proofs.YtandbnpgccpcoaaGreat
/- A core's methods: Put of a key that is not there; Put. -/
namespace Go.Proofs.YtandbnpgccpcoaaGreat
set_option linter.unusedVariables false
set_option linter.unusedSimpArgs false
open Go.RowKit
set_option maxRecDepth 100000 in
set_option maxHeartbeats 3200000 in
theorem put_idle (N b : Nat) (cv : Value) (d : CoreD) (key : List UInt8) (n : Int) (w : World) (h : CoreSt N b cv d w) (hr : -9223372036854775808 ≤ d.fCount) (hm : d.fCells.length ≤ 4) (hi : ¬ idleI d = 0) :
    Calls Tryz.prog 147 #[.agg #[.pointer (some ⟨b, 0, none⟩)], .string ⟨key.toArray⟩, .int .i64 n] w fun e w' => Does N b cv (putD d key n) w e w' := by
  have HS := Lib.hid h
  have HB := Lib.hid h.box
  have hl0 := h.box.lt
  have HX := Lib.hid (ownsF_at h.own (by omega))
  obtain ⟨c0, c1, c2, c3, c4, z1, z2, z3, z4⟩ := h.box
  have hne := h.ne
  clear h
  have HD := Lib.hid (fun w' (hw : Below w.heap.size w w') => show CoreBox w' b cv d ∧ Kept2 w w' (some b) none from ⟨HB.out.keep (hw.block b hl0), Kept2.of_below hw⟩)
  have HI := Lib.hid (fun w' (hw : Below w.heap.size w w') => idle_c b cv d w' (HD.out w' hw).1)
  have HF := Lib.hid (fun w' (hw : Below w.heap.size w w') => find_c cv d.fCells key w' (HX.out.below hw (Nat.le_refl _)))
  have HG := Lib.hid (show putD d key n = (d, rC (idleI d)) from by unfold putD; rw [if_neg hi])
  generalize putD d key n = out at *
  generalize idleI d = code at *
  obtain ⟨kd, on, br, l, cnt⟩ := d
  simp only at *
  have hl1 : b < w.heap.size + 1 := by omega
  have hl2 : b < w.heap.size + 1 + 1 := by omega
  have hn0 : ¬ b = w.heap.size := by omega
  have hn1 : ¬ b = w.heap.size + 1 := by omega
  have hap := @past_cell b
  have haf := @past_frozen b
  have HB2 := Lib.hid (show ∀ o1 o2, Below w.heap.size w ((w.alloc o1).alloc o2) from fun o1 o2 => ((Below.refl _ _).alloc (Nat.le_refl _) _).alloc (by simp) _)
  have hcn : (code != 0) = true := by simpa using hi
  go_enter Tryz.func147, Tryz.ntmps147
  go_wp2_with fail
  refine (HI.out _ (HB2.out _ _)).mono ?_
  rintro e w1 ⟨rfl, rfl⟩
  go_wp2_with fail
  refine bodyPost_ret (v := vReply (rC code)) (by simp [results, Tryz.results147, go_sem, vReply, rC, rV, rT]) rfl ?_
  refine does_of (d' := ⟨kd, on, br, l, cnt⟩) (r := rC code) HS.out ?_ rfl ?_ HG.out rfl
  · exact (HD.out _ (HB2.out _ _)).1
  · exact (HD.out _ (HB2.out _ _)).2
set_option maxRecDepth 100000 in
set_option maxHeartbeats 3200000 in
theorem put_full (N b : Nat) (cv : Value) (d : CoreD) (key : List UInt8) (n : Int) (w : World) (h : CoreSt N b cv d w) (hr : -9223372036854775808 ≤ d.fCount) (hm : d.fCells.length ≤ 4) (hi : idleI d = 0) (hf : fnd d.fCells key = false) (h4 : ¬ d.fCells.length < 4) :
    Calls Tryz.prog 147 #[.agg #[.pointer (some ⟨b, 0, none⟩)], .string ⟨key.toArray⟩, .int .i64 n] w fun e w' => Does N b cv (putD d key n) w e w' := by
  have HS := Lib.hid h
  have HB := Lib.hid h.box
  have hl0 := h.box.lt
  have HX := Lib.hid (ownsF_at h.own (by omega))
  obtain ⟨c0, c1, c2, c3, c4, z1, z2, z3, z4⟩ := h.box
  have hne := h.ne
  clear h
  have HD := Lib.hid (fun w' (hw : Below w.heap.size w w') => show CoreBox w' b cv d ∧ Kept2 w w' (some b) none from ⟨HB.out.keep (hw.block b hl0), Kept2.of_below hw⟩)
  have HI := Lib.hid (fun w' (hw : Below w.heap.size w w') => idle_c b cv d w' (HD.out w' hw).1)
  have HF := Lib.hid (fun w' (hw : Below w.heap.size w w') => find_c cv d.fCells key w' (HX.out.below hw (Nat.le_refl _)))
  rw [hi] at HI
  rw [hf] at HF
  have HG := Lib.hid (show putD d key n = (d, rC 5) from by unfold putD; rw [if_pos hi, if_neg (by rw [hf]; simpa using h4)])
  clear hf hi
  generalize putD d key n = out at *
  generalize plc d.fCells key = p at *
  obtain ⟨kd, on, br, l, cnt⟩ := d
  simp only at *
  have hl1 : b < w.heap.size + 1 := by omega
  have hl2 : b < w.heap.size + 1 + 1 := by omega
  have hn0 : ¬ b = w.heap.size := by omega
  have hn1 : ¬ b = w.heap.size + 1 := by omega
  have hap := @past_cell b
  have haf := @past_frozen b
  have HB2 := Lib.hid (show ∀ o1 o2, Below w.heap.size w ((w.alloc o1).alloc o2) from fun o1 o2 => ((Below.refl _ _).alloc (Nat.le_refl _) _).alloc (by simp) _)
  obtain ⟨ca, cc, rfl⟩ := slice_of HS.out.own
  simp only at *
  have h5 : (4 : Int) ≤ (l.length : Int) := by omega
  go_enter Tryz.func147, Tryz.ntmps147
  go_wp2_with fail
  refine (HI.out _ (HB2.out _ _)).mono ?_
  rintro e w1 ⟨rfl, rfl⟩
  go_wp2_with fail
  refine (HF.out _ (HB2.out _ _)).mono ?_
  rintro e w1 ⟨rfl, hb⟩
  have HB3 := Lib.hid ((HB2.out _ _).trans (hb.mono (HB2.out _ _).size))
  obtain ⟨hcc, hff⟩ := bcell hb
  simp at hcc hff
  have hsz := hb.size
  simp at hsz
  clear hb
  go_wp2_with fail
  refine bodyPost_ret (v := vReply (rC 5)) (by simp [results, Tryz.results147, go_sem, vReply, rC, rV, rT, cell_set_at, cell_set_ne, hcc]) rfl ?_
  refine does_of (d' := ⟨kd, on, br, l, cnt⟩) (r := rC 5) HS.out ?_ rfl ?_ HG.out rfl
  · exact (HD.out _ (by repeat (first | with_reducible exact HB3.out | with_reducible refine Below.setCell ?_ (by simp; try omega) _)) ).1
  · exact (HD.out _ (by repeat (first | with_reducible exact HB3.out | with_reducible refine Below.setCell ?_ (by simp; try omega) _)) ).2
theorem slice_len {α : Type} {f : α → List Value} {E k : Nat} {w : World} {B m : Nat} {v : Value} {l : List α} (h : OwnsF f E k w B v l) (hm : l.length = m) : ∃ a c, v = .slice a m c := by
  subst hm; exact slice_of h
theorem row_not_bool {w : World} {N b : Nat} {v : Value} {l : List CellD} {x : Bool} (h : OwnsF cCell 66 2 w N v l) (hl : 0 < l.length) (hb : w.cell? ⟨b, 1, none⟩ = some (.bool x)) : v.ownBlock ≠ some b := by
  rcases h.2 with ⟨rfl, _⟩ | ⟨g, cap, cur, rfl, _⟩
  · simp [Value.ownBlock]
  · intro e
    simp [Value.ownBlock] at e
    subst e
    have h1 := World.ownsRow.cellAt h 1 (by omega)
    rw [hb] at h1
    cases l with
    | nil => simp at hl
    | cons d r => simp [cCell] at h1
theorem row_not_int {w : World} {N b : Nat} {v : Value} {l : List CellD} {x : Int} (h : OwnsF cCell 66 2 w N v l) (hl : 0 < l.length) (hb : w.cell? ⟨b, 0, none⟩ = some (.int .i64 x)) : v.ownBlock ≠ some b := by
  rcases h.2 with ⟨rfl, _⟩ | ⟨g, cap, cur, rfl, _⟩
  · simp [Value.ownBlock]
  · intro e
    simp [Value.ownBlock] at e
    subst e
    have h1 := World.ownsRow.cellAt h 0 (by omega)
    rw [hb] at h1
    cases l with
    | nil => simp at hl
    | cons d r => simp [cCell] at h1
end Go.Proofs.YtandbnpgccpcoaaGreat
/- The draws of chapter 3: cores. Written by gen/ch3dr.py. -/
namespace Go.Proofs.YtandbnpgccpcoaaGreat
set_option linter.unusedVariables false
set_option linter.unusedSimpArgs false
open Go.RowKit
theorem ownsF_nil {α : Type} (f : α → List Value) (E k : Nat) (w : World) (B : Nat) : OwnsF f E k w B (.slice none 0 0) [] := ⟨by simp, Or.inl ⟨rfl, rfl⟩⟩
theorem bx_grownC {w w' : World} {c b : Nat} {cs : List Value} (h : Bx w c cs) (hg : w.grownBy w' (some b)) (hne : c ≠ b) : Bx w' c cs :=
  ⟨Nat.lt_of_lt_of_le h.lt hg.size, fun j hj => (World.cell?_of_block (a := ⟨c, j, none⟩) (hg.block c h.lt (fun e => hne (by injection e)))).trans (h.cell j hj), fun j hj => (World.frozen?_of_block (a := ⟨c, j, none⟩) (hg.block c h.lt (fun e => hne (by injection e)))).trans (h.froz j hj)⟩
theorem grown_setO {a w : World} {b c : Nat} (h : a.grownBy w (some b)) (hc : a.heap.size ≤ c) (o : Nat) (u : Value) : a.grownBy (w.setCell ⟨c, o, none⟩ u) (some b) :=
  ⟨h.os, h.tape, h.output, by simpa [World.setCell] using h.size, fun j hj hne => (Below.heap_setCell w ⟨c, o, none⟩ u j (fun e => by have e2 : j = c := e; omega)).trans (h.block j hj hne)⟩
theorem cur_setO {w : World} {b c : Nat} {v : Value} {l : List UInt8} (hC : Cur w b v l) (hb : b < c) (o : Nat) (u : Value) : Cur (w.setCell ⟨c, o, none⟩ u) b v l := hC.far (grown_set (grown_refl w (some c)) o u) hb
def okDr (n : Nat) (d : CoreD) : Prop := d.fKind.length ≤ 9 ∧ d.fCells.length ≤ n ∧ (∀ c ∈ d.fCells, c.fKey.length ≤ 9 ∧ I64 c.fValue) ∧ I64 d.fCount
def DrawnCore (n : Nat) (b : Nat) (v : Value) (l : List UInt8) (w : World) (e : Ending) (w' : World) : Prop := ∃ d cv, e = .returned (vCore d cv) ∧ OwnsF cCell 66 2 w' w.heap.size cv d.fCells ∧ okDr n d ∧ w.grownBy w' (some b) ∧ Cur w' b v l
abbrev zCoreV : List Value := [.string ⟨#[]⟩, .bool false, .bool false, .slice none 0 0, .int .i64 0]
abbrev cCoreV (d : CoreD) (cv : Value) : List Value := [.string ⟨d.fKind.toArray⟩, .bool d.fOn, .bool d.fBroken, cv, .int .i64 d.fCount]
/-- a core that is being drawn: its variable in block B, the result's in block R -/
structure DSt (w : World) (b : Nat) (v : Value) (l : List UInt8) (R B : Nat) (d : CoreD) (cv : Value) (wx : World) : Prop where
  grown : w.grownBy wx (some b)
  cur : Cur wx b v l
  res : Bx wx R zCoreV
  box : Bx wx B (cCoreV d cv)
  own : OwnsF cCell 66 2 wx w.heap.size cv d.fCells
  bw : b < w.heap.size
  wR : w.heap.size ≤ R
  RB : R < B
  nB : cv.ownBlock ≠ some B
  nR : cv.ownBlock ≠ some R
theorem DSt.draw {w : World} {b : Nat} {v : Value} {l : List UInt8} {R B : Nat} {d : CoreD} {cv : Value} {wx w' : World} (h : DSt w b v l R B d cv wx) (hg : wx.grownBy w' (some b)) (hC : Cur w' b v l) : DSt w b v l R B d cv w' :=
  ⟨grown_trans h.grown hg, hC, bx_grownC h.res hg (by have := h.bw; have := h.wR; omega), bx_grownC h.box hg (by have := h.bw; have := h.wR; have := h.RB; omega), ownsF_grownC h.own hg h.bw, h.bw, h.wR, h.RB, h.nB, h.nR⟩
theorem DSt.below {w : World} {b : Nat} {v : Value} {l : List UInt8} {R B : Nat} {d : CoreD} {cv : Value} {wx w' : World} (h : DSt w b v l R B d cv wx) (hb : Below wx.heap.size wx w') : DSt w b v l R B d cv w' :=
  ⟨grown_below h.grown hb h.grown.size, h.cur.below hb h.cur.lt, h.res.below hb, h.box.below hb, ownsF_below h.own hb (Nat.le_refl _), h.bw, h.wR, h.RB, h.nB, h.nR⟩
theorem DSt.drew {w : World} {b : Nat} {v : Value} {l : List UInt8} {R B : Nat} {d : CoreD} {cv : Value} {wx : World} (h : DSt w b v l R B d cv wx) : DSt w b v l R B d cv wx.drew := h.below ((Below.refl _ _).drew)
/-- a cell of the variable is stored, not the row of cells -/
theorem DSt.set {w : World} {b : Nat} {v : Value} {l : List UInt8} {R B : Nat} {d d' : CoreD} {cv : Value} {wx : World} (h : DSt w b v l R B d cv wx) (j : Nat) (hj : j < 5) (u : Value) (hd : (cCoreV d cv).set j u = cCoreV d' cv) (hc : d'.fCells = d.fCells) : DSt w b v l R B d' cv (wx.setCell ⟨B, j, none⟩ u) :=
  ⟨grown_setO h.grown (by have := h.wR; have := h.RB; omega) j u, cur_setO h.cur (by have := h.bw; have := h.wR; have := h.RB; omega) j u, h.res.other (by have := h.RB; omega) j u, by rw [← hd]; exact h.box.set j hj u, by
    rw [hc]; exact World.ownsRow.kept h.own (row := some B) ⟨rfl, rfl, rfl, by simp, fun i hi hne => Below.heap_setCell wx ⟨B, j, none⟩ u i (fun e => hne (by rw [e]))⟩ (Or.inr h.nB), h.bw, h.wR, h.RB, h.nB, h.nR⟩
/-- the row of cells is stored -/
theorem DSt.setC {w : World} {b : Nat} {v : Value} {l : List UInt8} {R B : Nat} {d : CoreD} {cv : Value} {wx : World} (h : DSt w b v l R B d cv wx) (u : Value) (y : List CellD) (ho : OwnsF cCell 66 2 wx w.heap.size u y) (n1 : u.ownBlock ≠ some B) (n2 : u.ownBlock ≠ some R) : DSt w b v l R B { d with fCells := y } u (wx.setCell ⟨B, 3, none⟩ u) :=
  ⟨grown_setO h.grown (by have := h.wR; have := h.RB; omega) 3 u, cur_setO h.cur (by have := h.bw; have := h.wR; have := h.RB; omega) 3 u, h.res.other (by have := h.RB; omega) 3 u, h.box.set 3 (by simp) u,
    World.ownsRow.kept ho (row := some B) ⟨rfl, rfl, rfl, by simp, fun i hi hne => Below.heap_setCell wx ⟨B, 3, none⟩ u i (fun e => hne (by rw [e]))⟩ (Or.inr n1), h.bw, h.wR, h.RB, n1, n2⟩
theorem DSt.fin {w : World} {b : Nat} {v : Value} {l : List UInt8} {R B : Nat} {d : CoreD} {cv : Value} {wx : World} {n : Nat} (h : DSt w b v l R B d cv wx) (hk : okDr n d) (u0 u1 u2 u3 u4 : Value) :
    DrawnCore n b v l w (.returned (vCore d cv)) (((((wx.setCell ⟨R, 0, none⟩ u0).setCell ⟨R, 1, none⟩ u1).setCell ⟨R, 2, none⟩ u2).setCell ⟨R, 3, none⟩ u3).setCell ⟨R, 4, none⟩ u4) := by
  have hb : b < R := Nat.lt_of_lt_of_le h.bw h.wR
  have hs : ∀ {W : World} (o : Nat) (u : Value), OwnsF cCell 66 2 W w.heap.size cv d.fCells → OwnsF cCell 66 2 (W.setCell ⟨R, o, none⟩ u) w.heap.size cv d.fCells := fun o u ho =>
    World.ownsRow.kept ho (row := some R) ⟨rfl, rfl, rfl, by simp, fun i hi hne => Below.heap_setCell _ ⟨R, o, none⟩ u i (fun e => hne (by rw [e]))⟩ (Or.inr h.nR)
  exact ⟨d, cv, rfl, hs 4 u4 (hs 3 u3 (hs 2 u2 (hs 1 u1 (hs 0 u0 h.own)))), hk, grown_setO (grown_setO (grown_setO (grown_setO (grown_setO h.grown h.wR 0 u0) h.wR 1 u1) h.wR 2 u2) h.wR 3 u3) h.wR 4 u4, cur_setO (cur_setO (cur_setO (cur_setO (cur_setO h.cur hb 0 u0) hb 1 u1) hb 2 u2) hb 3 u3) hb 4 u4⟩
theorem DSt.setC2 {w : World} {b : Nat} {v : Value} {l : List UInt8} {R B : Nat} {d : CoreD} {cv : Value} {w0 wx : World} (h : DSt w b v l R B d cv w0) (hg : w.grownBy wx (some b)) (hC : Cur wx b v l) (hr : Bx wx R zCoreV) (hb : Bx wx B (cCoreV d cv)) (u : Value) (y : List CellD) (ho : OwnsF cCell 66 2 wx w.heap.size u y) (n1 : u.ownBlock ≠ some B) (n2 : u.ownBlock ≠ some R) : DSt w b v l R B { d with fCells := y } u (wx.setCell ⟨B, 3, none⟩ u) :=
  ⟨grown_setO hg (by have := h.wR; have := h.RB; omega) 3 u, cur_setO hC (by have := h.bw; have := h.wR; have := h.RB; omega) 3 u, hr.other (by have := h.RB; omega) 3 u, hb.set 3 (by simp) u,
    World.ownsRow.kept ho (row := some B) ⟨rfl, rfl, rfl, by simp, fun i hi hne => Below.heap_setCell wx ⟨B, 3, none⟩ u i (fun e => hne (by rw [e]))⟩ (Or.inr n1), h.bw, h.wR, h.RB, n1, n2⟩
/-- what an append to the row of one's own leaves of the rest -/
theorem DSt.app {w : World} {b : Nat} {v : Value} {l : List UInt8} {R B : Nat} {d : CoreD} {cv : Value} {wx w' : World} (h : DSt w b v l R B d cv wx) (hg : wx.grownBy w' cv.ownBlock) :
    w.grownBy w' (some b) ∧ Cur w' b v l ∧ Bx w' R zCoreV ∧ Bx w' B (cCoreV d cv) := by
  have hge : ∀ g, cv.ownBlock = some g → w.heap.size ≤ g := fun g e => (World.ownsRow.lt h.own g e).1
  have hsz := h.grown.size
  refine ⟨⟨hg.os.trans h.grown.os, hg.tape.trans h.grown.tape, hg.output.trans h.grown.output, Nat.le_trans h.grown.size hg.size, fun k hk hne => (hg.block k (by omega) (fun e => by have := hge k e.symm; omega)).trans (h.grown.block k hk hne)⟩, ?_, ?_, ?_⟩
  · cases ho : cv.ownBlock with
    | none => rw [ho] at hg; exact h.cur.below (B := wx.heap.size) ⟨hg.os, hg.tape, hg.output, hg.size, fun k hk => hg.block k hk (by simp)⟩ h.cur.lt
    | some g => rw [ho] at hg; exact h.cur.far hg (by have := hge g ho; have := h.bw; omega)
  · exact ⟨Nat.lt_of_lt_of_le h.res.lt hg.size, fun j hj => (World.cell?_of_block (a := ⟨R, j, none⟩) (hg.block R h.res.lt (fun e => h.nR e.symm))).trans (h.res.cell j hj), fun j hj => (World.frozen?_of_block (a := ⟨R, j, none⟩) (hg.block R h.res.lt (fun e => h.nR e.symm))).trans (h.res.froz j hj)⟩
  · exact ⟨Nat.lt_of_lt_of_le h.box.lt hg.size, fun j hj => (World.cell?_of_block (a := ⟨B, j, none⟩) (hg.block B h.box.lt (fun e => h.nB e.symm))).trans (h.box.cell j hj), fun j hj => (World.frozen?_of_block (a := ⟨B, j, none⟩) (hg.block B h.box.lt (fun e => h.nB e.symm))).trans (h.box.froz j hj)⟩
theorem kfI_face2 (k : List UInt8) : isF (kfI (kindI k)) = true := kfI_face _
set_option maxRecDepth 100000 in
set_option maxHeartbeats 6400000 in
theorem l3Draw_any (b : Nat) (v : Value) (l : List UInt8) (w : World) (hC : Cur w b v l) :
    Calls Tryz.prog 88 #[.pointer (some ⟨b, 0, none⟩)] w fun e w' => DrawnCore 6 b v l w e w' := by
  have hbl := hC.lt
  have HC0 := Lib.hid (cur_alloc hC (.cells #[.string ⟨#[]⟩, .bool false, .bool false, .slice none 0 0, .int .i64 0] 31))
  have BR0 := Lib.hid (Bx.new w zCoreV 31)
  have HG0 := Lib.hid (grown_alloc (grown_refl w (some b)) (.cells #[.string ⟨#[]⟩, .bool false, .bool false, .slice none 0 0, .int .i64 0] 31))
  clear hC
  go_enter Tryz.func88, Tryz.ntmps88
  go_wp2_with fail
  refine (l3Kind_any b v l _ HC0.out).mono ?_
  rintro e w1 ⟨z, rfl, hz, hg, hC⟩
  obtain ⟨⟨kl⟩⟩ := z
  have hkl := Lib.hid (show kl.length ≤ 9 from hz)
  have HG1 := Lib.hid (grown_trans HG0.out hg)
  have HC1 := Lib.hid hC
  have BR1 := Lib.hid (bx_grownC BR0.out hg (by omega))
  clear hg hC hz HG0 HC0 BR0
  have HKF := Lib.hid (fun W => specKind_b kl _ rfl W)
  have hff := Lib.hid (kfI_face2 kl)
  generalize kfI (kindI kl) = f at *
  generalize decide (0 ≤ kindI kl) = q at *
  go_wp2_with fail
  refine (HKF.out _).mono ?_
  rintro e w2 ⟨rfl, hb⟩
  have HG2 := Lib.hid (grown_below HG1.out hb HG1.out.size)
  have HC2 := Lib.hid (HC1.out.below hb HC1.out.lt)
  have BR2 := Lib.hid (BR1.out.below hb)
  clear hb HG1 HC1 BR1 HKF
  cases q
  case false =>
    go_wp2_with fail
    refine (l1Below_any b v l _ _ HC2.out (by omega) (by omega)).mono ?_
    rintro e w3 ⟨cnt, rfl, ⟨c0, c1, c2⟩, hg, hC⟩
    have c3 := c2 (by omega)
    clear c2 c1
    have hRl : w.heap.size < w3.heap.size := Nat.lt_of_lt_of_le BR2.out.lt hg.size
    have S := Lib.hid (show DSt w b v l w.heap.size w3.heap.size ⟨[114, 111, 98, 111, 116], false, false, [], cnt⟩ (.slice none 0 0) (w3.alloc (.cells #[.string ⟨#[114, 111, 98, 111, 116]⟩, .bool false, .bool false, .slice none 0 0, .int .i64 cnt] 31)) from ⟨grown_alloc (grown_trans HG2.out hg) _, cur_alloc hC _, (bx_grownC BR2.out hg (by omega)).alloc _, Bx.new w3 (cCoreV ⟨[114, 111, 98, 111, 116], false, false, [], cnt⟩ (.slice none 0 0)) 31, ownsF_nil _ _ _ _ _, hbl, Nat.le_refl _, hRl, by simp [Value.ownBlock], by simp [Value.ownBlock]⟩)
    clear hg hC HG2 HC2 BR2
    have HH0 := Lib.hid (fun W => l2Has_0 63 _ rfl rfl W)
    have HH1 := Lib.hid (fun W => l2Has_1 63 _ rfl rfl W)
    generalize hasI 63 0 = h0 at *
    generalize hasI 63 1 = h1 at *
    go_wp2_with fail
    generalize w3.alloc (.cells #[.string ⟨#[114, 111, 98, 111, 116]⟩, .bool false, .bool false, .slice none 0 0, .int .i64 cnt] 31) = w4 at *
    refine (HH0.out _).mono ?_
    rintro e w' ⟨rfl, rfl⟩
    cases h0
    case false =>
      go_wp2_with fail
      refine (HH1.out _).mono ?_
      rintro e w' ⟨rfl, rfl⟩
      cases h1
      case false =>
        go_wp2_with fail
        refine (l1Once_any b v l _ _ S.out.cur (by omega) (by omega)).mono ?_
        rintro e w1 ⟨o, rfl, hg, hC⟩
        have S := Lib.hid (S.out.draw hg hC)
        clear hg hC
        cases o
        case false =>
          have BP := Lib.hid S.out.box
          have BR := Lib.hid S.out.res
          have p0 := BP.out.cell 0 (by simp)
          have p1 := BP.out.cell 1 (by simp)
          have p2 := BP.out.cell 2 (by simp)
          have p3 := BP.out.cell 3 (by simp)
          have p4 := BP.out.cell 4 (by simp)
          simp only [List.getElem_cons_zero, List.getElem_cons_succ] at p0 p1 p2 p3 p4
          have x0 := BP.out.froz 0 (by simp)
          have x1 := BP.out.froz 1 (by simp)
          have x2 := BP.out.froz 2 (by simp)
          have x3 := BP.out.froz 3 (by simp)
          have x4 := BP.out.froz 4 (by simp)
          have r0 := BR.out.cell 0 (by simp)
          have r1 := BR.out.cell 1 (by simp)
          have r2 := BR.out.cell 2 (by simp)
          have r3 := BR.out.cell 3 (by simp)
          have r4 := BR.out.cell 4 (by simp)
          simp only [List.getElem_cons_zero, List.getElem_cons_succ] at r0 r1 r2 r3 r4
          have y0 := BR.out.froz 0 (by simp)
          have y1 := BR.out.froz 1 (by simp)
          have y2 := BR.out.froz 2 (by simp)
          have y3 := BR.out.froz 3 (by simp)
          have y4 := BR.out.froz 4 (by simp)
          have lB := BP.out.lt
          have lR := BR.out.lt
          have hRB := S.out.RB
          go_wp2_with fail
          refine bodyPost_ret (v := .agg #[.string ⟨#[114, 111, 98, 111, 116]⟩, .bool false, .bool false, (.slice none 0 0), .int .i64 cnt]) (by simp [results, Tryz.results88, go_sem, cell_set_at, cell_set_ne, r0, r1, r2, r3, r4]) rfl ?_
          exact DSt.fin (d := ⟨[114, 111, 98, 111, 116], false, false, [], cnt⟩) S.out ⟨by simp, by simp, by simp, show I64 cnt from ⟨by omega, by omega⟩⟩ _ _ _ _ _
        case true =>
          go_wp2_with fail
          refine (l1Below_any b v l _ _ S.out.cur (by omega) (by omega)).mono ?_
          rintro e w1 ⟨k, rfl, ⟨k0, k1, k2⟩, hg, hC⟩
          have k3 := k2 (by omega)
          have hk9 : IntKind.i64.wrap (999 - k) = 999 - k := by rw [IntKind.wrap_i64]; omega
          have S := Lib.hid (S.out.draw hg hC)
          clear hg hC k1 k2
          have BP := Lib.hid S.out.box
          have BR := Lib.hid S.out.res
          have p0 := BP.out.cell 0 (by simp)
          have p1 := BP.out.cell 1 (by simp)
          have p2 := BP.out.cell 2 (by simp)
          have p3 := BP.out.cell 3 (by simp)
          have p4 := BP.out.cell 4 (by simp)
          simp only [List.getElem_cons_zero, List.getElem_cons_succ] at p0 p1 p2 p3 p4
          have x0 := BP.out.froz 0 (by simp)
          have x1 := BP.out.froz 1 (by simp)
          have x2 := BP.out.froz 2 (by simp)
          have x3 := BP.out.froz 3 (by simp)
          have x4 := BP.out.froz 4 (by simp)
          have r0 := BR.out.cell 0 (by simp)
          have r1 := BR.out.cell 1 (by simp)
          have r2 := BR.out.cell 2 (by simp)
          have r3 := BR.out.cell 3 (by simp)
          have r4 := BR.out.cell 4 (by simp)
          simp only [List.getElem_cons_zero, List.getElem_cons_succ] at r0 r1 r2 r3 r4
          have y0 := BR.out.froz 0 (by simp)
          have y1 := BR.out.froz 1 (by simp)
          have y2 := BR.out.froz 2 (by simp)
          have y3 := BR.out.froz 3 (by simp)
          have y4 := BR.out.froz 4 (by simp)
          have lB := BP.out.lt
          have lR := BR.out.lt
          have hRB := S.out.RB
          have S9 := Lib.hid (DSt.set (d' := ⟨[114, 111, 98, 111, 116], false, false, [], 999 - k⟩) S.out 4 (by decide) (.int .i64 (999 - k)) rfl rfl)
          go_wp2_with fail
          refine bodyPost_ret (v := .agg #[.string ⟨#[114, 111, 98, 111, 116]⟩, .bool false, .bool false, (.slice none 0 0), .int .i64 (999 - k)]) (by simp [results, Tryz.results88, go_sem, cell_set_at, cell_set_ne, r0, r1, r2, r3, r4]) rfl ?_
          exact DSt.fin (d := ⟨[114, 111, 98, 111, 116], false, false, [], 999 - k⟩) S9.out ⟨by simp, by simp, by simp, show I64 (999 - k) from ⟨by omega, by omega⟩⟩ _ _ _ _ _
      case true =>
        go_wp2_with fail
        have hsz := S.out.box.lt
        have hRB0 := S.out.RB
        refine (l3Cells_any b v l _ S.out.cur).mono ?_
        rintro e w1 ⟨u, y, rfl, ho, hsm, hg, hC⟩
        have HSM := Lib.hid hsm
        obtain ⟨ua, uc, rfl⟩ := slice_of ho
        have n1 : (Value.slice ua y.length uc).ownBlock ≠ some w3.heap.size := fun e => by have := (World.ownsRow.lt ho _ e).1; omega
        have n2 : (Value.slice ua y.length uc).ownBlock ≠ some w.heap.size := fun e => by have := (World.ownsRow.lt ho _ e).1; omega
        have hgs := S.out.grown.size
        have S1 := Lib.hid (S.out.draw hg hC)
        have S := Lib.hid (S1.out.setC _ y (ownsF_base ho hgs) n1 n2)
        have BP1 := Lib.hid S1.out.box
        have p0 := BP1.out.cell 0 (by simp)
        have p1 := BP1.out.cell 1 (by simp)
        have p2 := BP1.out.cell 2 (by simp)
        have p3 := BP1.out.cell 3 (by simp)
        have p4 := BP1.out.cell 4 (by simp)
        simp only [List.getElem_cons_zero, List.getElem_cons_succ] at p0 p1 p2 p3 p4
        have x0 := BP1.out.froz 0 (by simp)
        have x1 := BP1.out.froz 1 (by simp)
        have x2 := BP1.out.froz 2 (by simp)
        have x3 := BP1.out.froz 3 (by simp)
        have x4 := BP1.out.froz 4 (by simp)
        have lB := BP1.out.lt
        clear ho hsm hg hC hsz hRB0 n1 n2 hgs
        go_wp2_with fail
        clear p0 p1 p2 p3 p4 x0 x1 x2 x3 x4 lB BP1 S1
        refine (l1Once_any b v l _ _ S.out.cur (by omega) (by omega)).mono ?_
        rintro e w1 ⟨o, rfl, hg, hC⟩
        have S := Lib.hid (S.out.draw hg hC)
        clear hg hC
        cases o
        case false =>
          have BP := Lib.hid S.out.box
          have BR := Lib.hid S.out.res
          have p0 := BP.out.cell 0 (by simp)
          have p1 := BP.out.cell 1 (by simp)
          have p2 := BP.out.cell 2 (by simp)
          have p3 := BP.out.cell 3 (by simp)
          have p4 := BP.out.cell 4 (by simp)
          simp only [List.getElem_cons_zero, List.getElem_cons_succ] at p0 p1 p2 p3 p4
          have x0 := BP.out.froz 0 (by simp)
          have x1 := BP.out.froz 1 (by simp)
          have x2 := BP.out.froz 2 (by simp)
          have x3 := BP.out.froz 3 (by simp)
          have x4 := BP.out.froz 4 (by simp)
          have r0 := BR.out.cell 0 (by simp)
          have r1 := BR.out.cell 1 (by simp)
          have r2 := BR.out.cell 2 (by simp)
          have r3 := BR.out.cell 3 (by simp)
          have r4 := BR.out.cell 4 (by simp)
          simp only [List.getElem_cons_zero, List.getElem_cons_succ] at r0 r1 r2 r3 r4
          have y0 := BR.out.froz 0 (by simp)
          have y1 := BR.out.froz 1 (by simp)
          have y2 := BR.out.froz 2 (by simp)
          have y3 := BR.out.froz 3 (by simp)
          have y4 := BR.out.froz 4 (by simp)
          have lB := BP.out.lt
          have lR := BR.out.lt
          have hRB := S.out.RB
          go_wp2_with fail
          refine bodyPost_ret (v := .agg #[.string ⟨#[114, 111, 98, 111, 116]⟩, .bool false, .bool false, (.slice ua y.length uc), .int .i64 cnt]) (by simp [results, Tryz.results88, go_sem, cell_set_at, cell_set_ne, r0, r1, r2, r3, r4]) rfl ?_
          exact DSt.fin (d := ⟨[114, 111, 98, 111, 116], false, false, y, cnt⟩) S.out ⟨by simp, HSM.out.1, HSM.out.2, show I64 cnt from ⟨by omega, by omega⟩⟩ _ _ _ _ _
        case true =>
          go_wp2_with fail
          refine (l1Below_any b v l _ _ S.out.cur (by omega) (by omega)).mono ?_
          rintro e w1 ⟨k, rfl, ⟨k0, k1, k2⟩, hg, hC⟩
          have k3 := k2 (by omega)
          have hk9 : IntKind.i64.wrap (999 - k) = 999 - k := by rw [IntKind.wrap_i64]; omega
          have S := Lib.hid (S.out.draw hg hC)
          clear hg hC k1 k2
          have BP := Lib.hid S.out.box
          have BR := Lib.hid S.out.res
          have p0 := BP.out.cell 0 (by simp)
          have p1 := BP.out.cell 1 (by simp)
          have p2 := BP.out.cell 2 (by simp)
          have p3 := BP.out.cell 3 (by simp)
          have p4 := BP.out.cell 4 (by simp)
          simp only [List.getElem_cons_zero, List.getElem_cons_succ] at p0 p1 p2 p3 p4
          have x0 := BP.out.froz 0 (by simp)
          have x1 := BP.out.froz 1 (by simp)
          have x2 := BP.out.froz 2 (by simp)
          have x3 := BP.out.froz 3 (by simp)
          have x4 := BP.out.froz 4 (by simp)
          have r0 := BR.out.cell 0 (by simp)
          have r1 := BR.out.cell 1 (by simp)
          have r2 := BR.out.cell 2 (by simp)
          have r3 := BR.out.cell 3 (by simp)
          have r4 := BR.out.cell 4 (by simp)
          simp only [List.getElem_cons_zero, List.getElem_cons_succ] at r0 r1 r2 r3 r4
          have y0 := BR.out.froz 0 (by simp)
          have y1 := BR.out.froz 1 (by simp)
          have y2 := BR.out.froz 2 (by simp)
          have y3 := BR.out.froz 3 (by simp)
          have y4 := BR.out.froz 4 (by simp)
          have lB := BP.out.lt
          have lR := BR.out.lt
          have hRB := S.out.RB
          have S9 := Lib.hid (DSt.set (d' := ⟨[114, 111, 98, 111, 116], false, false, y, 999 - k⟩) S.out 4 (by decide) (.int .i64 (999 - k)) rfl rfl)
          go_wp2_with fail
          refine bodyPost_ret (v := .agg #[.string ⟨#[114, 111, 98, 111, 116]⟩, .bool false, .bool false, (.slice ua y.length uc), .int .i64 (999 - k)]) (by simp [results, Tryz.results88, go_sem, cell_set_at, cell_set_ne, r0, r1, r2, r3, r4]) rfl ?_
          exact DSt.fin (d := ⟨[114, 111, 98, 111, 116], false, false, y, 999 - k⟩) S9.out ⟨by simp, HSM.out.1, HSM.out.2, show I64 (999 - k) from ⟨by omega, by omega⟩⟩ _ _ _ _ _
    case true =>
      go_wp2_with fail
      refine (l1Below_any b v l _ _ S.out.cur (by omega) (by omega)).mono ?_
      rintro e w5 ⟨n, rfl, ⟨n0, n1, n2⟩, hg, hC⟩
      have S0 := Lib.hid (S.out.draw hg hC)
      clear hg hC n1 n2
      by_cases hn : 0 < n
      · skip
        have hdn : decide (0 < n) = true := by simpa using hn
        have S1 := Lib.hid (DSt.set (d' := ⟨[114, 111, 98, 111, 116], true, false, [], cnt⟩) S0.out 1 (by decide) (.bool true) rfl rfl)
        have BP := Lib.hid S0.out.box
        have p0 := BP.out.cell 0 (by simp)
        have p1 := BP.out.cell 1 (by simp)
        have p2 := BP.out.cell 2 (by simp)
        have p3 := BP.out.cell 3 (by simp)
        have p4 := BP.out.cell 4 (by simp)
        simp only [List.getElem_cons_zero, List.getElem_cons_succ] at p0 p1 p2 p3 p4
        have x0 := BP.out.froz 0 (by simp)
        have x1 := BP.out.froz 1 (by simp)
        have x2 := BP.out.froz 2 (by simp)
        have x3 := BP.out.froz 3 (by simp)
        have x4 := BP.out.froz 4 (by simp)
        have lB := BP.out.lt
        go_wp2_with fail
        have S := Lib.hid (DSt.set (d' := ⟨[114, 111, 98, 111, 116], true, false, [], cnt⟩) S1.out 2 (by decide) (.bool false) rfl rfl)
        clear S0 S1 BP p0 p1 p2 p3 p4 x0 x1 x2 x3 x4 lB
        refine (HH1.out _).mono ?_
        rintro e w' ⟨rfl, rfl⟩
        cases h1
        case false =>
          go_wp2_with fail
          refine (l1Once_any b v l _ _ S.out.cur (by omega) (by omega)).mono ?_
          rintro e w1 ⟨o, rfl, hg, hC⟩
          have S := Lib.hid (S.out.draw hg hC)
          clear hg hC
          cases o
          case false =>
            have BP := Lib.hid S.out.box
            have BR := Lib.hid S.out.res
            have p0 := BP.out.cell 0 (by simp)
            have p1 := BP.out.cell 1 (by simp)
            have p2 := BP.out.cell 2 (by simp)
            have p3 := BP.out.cell 3 (by simp)
            have p4 := BP.out.cell 4 (by simp)
            simp only [List.getElem_cons_zero, List.getElem_cons_succ] at p0 p1 p2 p3 p4
            have x0 := BP.out.froz 0 (by simp)
            have x1 := BP.out.froz 1 (by simp)
            have x2 := BP.out.froz 2 (by simp)
            have x3 := BP.out.froz 3 (by simp)
            have x4 := BP.out.froz 4 (by simp)
            have r0 := BR.out.cell 0 (by simp)
            have r1 := BR.out.cell 1 (by simp)
            have r2 := BR.out.cell 2 (by simp)
            have r3 := BR.out.cell 3 (by simp)
            have r4 := BR.out.cell 4 (by simp)
            simp only [List.getElem_cons_zero, List.getElem_cons_succ] at r0 r1 r2 r3 r4
            have y0 := BR.out.froz 0 (by simp)
            have y1 := BR.out.froz 1 (by simp)
            have y2 := BR.out.froz 2 (by simp)
            have y3 := BR.out.froz 3 (by simp)
            have y4 := BR.out.froz 4 (by simp)
            have lB := BP.out.lt
            have lR := BR.out.lt
            have hRB := S.out.RB
            go_wp2_with fail
            refine bodyPost_ret (v := .agg #[.string ⟨#[114, 111, 98, 111, 116]⟩, .bool true, .bool false, (.slice none 0 0), .int .i64 cnt]) (by simp [results, Tryz.results88, go_sem, cell_set_at, cell_set_ne, r0, r1, r2, r3, r4]) rfl ?_
            exact DSt.fin (d := ⟨[114, 111, 98, 111, 116], true, false, [], cnt⟩) S.out ⟨by simp, by simp, by simp, show I64 cnt from ⟨by omega, by omega⟩⟩ _ _ _ _ _
          case true =>
            go_wp2_with fail
            refine (l1Below_any b v l _ _ S.out.cur (by omega) (by omega)).mono ?_
            rintro e w1 ⟨k, rfl, ⟨k0, k1, k2⟩, hg, hC⟩
            have k3 := k2 (by omega)
            have hk9 : IntKind.i64.wrap (999 - k) = 999 - k := by rw [IntKind.wrap_i64]; omega
            have S := Lib.hid (S.out.draw hg hC)
            clear hg hC k1 k2
            have BP := Lib.hid S.out.box
            have BR := Lib.hid S.out.res
            have p0 := BP.out.cell 0 (by simp)
            have p1 := BP.out.cell 1 (by simp)
            have p2 := BP.out.cell 2 (by simp)
            have p3 := BP.out.cell 3 (by simp)
            have p4 := BP.out.cell 4 (by simp)
            simp only [List.getElem_cons_zero, List.getElem_cons_succ] at p0 p1 p2 p3 p4
            have x0 := BP.out.froz 0 (by simp)
            have x1 := BP.out.froz 1 (by simp)
            have x2 := BP.out.froz 2 (by simp)
            have x3 := BP.out.froz 3 (by simp)
            have x4 := BP.out.froz 4 (by simp)
            have r0 := BR.out.cell 0 (by simp)
            have r1 := BR.out.cell 1 (by simp)
            have r2 := BR.out.cell 2 (by simp)
            have r3 := BR.out.cell 3 (by simp)
            have r4 := BR.out.cell 4 (by simp)
            simp only [List.getElem_cons_zero, List.getElem_cons_succ] at r0 r1 r2 r3 r4
            have y0 := BR.out.froz 0 (by simp)
            have y1 := BR.out.froz 1 (by simp)
            have y2 := BR.out.froz 2 (by simp)
            have y3 := BR.out.froz 3 (by simp)
            have y4 := BR.out.froz 4 (by simp)
            have lB := BP.out.lt
            have lR := BR.out.lt
            have hRB := S.out.RB
            have S9 := Lib.hid (DSt.set (d' := ⟨[114, 111, 98, 111, 116], true, false, [], 999 - k⟩) S.out 4 (by decide) (.int .i64 (999 - k)) rfl rfl)
            go_wp2_with fail
            refine bodyPost_ret (v := .agg #[.string ⟨#[114, 111, 98, 111, 116]⟩, .bool true, .bool false, (.slice none 0 0), .int .i64 (999 - k)]) (by simp [results, Tryz.results88, go_sem, cell_set_at, cell_set_ne, r0, r1, r2, r3, r4]) rfl ?_
            exact DSt.fin (d := ⟨[114, 111, 98, 111, 116], true, false, [], 999 - k⟩) S9.out ⟨by simp, by simp, by simp, show I64 (999 - k) from ⟨by omega, by omega⟩⟩ _ _ _ _ _
        case true =>
          go_wp2_with fail
          have hsz := S.out.box.lt
          have hRB0 := S.out.RB
          refine (l3Cells_any b v l _ S.out.cur).mono ?_
          rintro e w1 ⟨u, y, rfl, ho, hsm, hg, hC⟩
          have HSM := Lib.hid hsm
          obtain ⟨ua, uc, rfl⟩ := slice_of ho
          have n1 : (Value.slice ua y.length uc).ownBlock ≠ some w3.heap.size := fun e => by have := (World.ownsRow.lt ho _ e).1; omega
          have n2 : (Value.slice ua y.length uc).ownBlock ≠ some w.heap.size := fun e => by have := (World.ownsRow.lt ho _ e).1; omega
          have hgs := S.out.grown.size
          have S1 := Lib.hid (S.out.draw hg hC)
          have S := Lib.hid (S1.out.setC _ y (ownsF_base ho hgs) n1 n2)
          have BP1 := Lib.hid S1.out.box
          have p0 := BP1.out.cell 0 (by simp)
          have p1 := BP1.out.cell 1 (by simp)
          have p2 := BP1.out.cell 2 (by simp)
          have p3 := BP1.out.cell 3 (by simp)
          have p4 := BP1.out.cell 4 (by simp)
          simp only [List.getElem_cons_zero, List.getElem_cons_succ] at p0 p1 p2 p3 p4
          have x0 := BP1.out.froz 0 (by simp)
          have x1 := BP1.out.froz 1 (by simp)
          have x2 := BP1.out.froz 2 (by simp)
          have x3 := BP1.out.froz 3 (by simp)
          have x4 := BP1.out.froz 4 (by simp)
          have lB := BP1.out.lt
          clear ho hsm hg hC hsz hRB0 n1 n2 hgs
          go_wp2_with fail
          clear p0 p1 p2 p3 p4 x0 x1 x2 x3 x4 lB BP1 S1
          refine (l1Once_any b v l _ _ S.out.cur (by omega) (by omega)).mono ?_
          rintro e w1 ⟨o, rfl, hg, hC⟩
          have S := Lib.hid (S.out.draw hg hC)
          clear hg hC
          cases o
          case false =>
            have BP := Lib.hid S.out.box
            have BR := Lib.hid S.out.res
            have p0 := BP.out.cell 0 (by simp)
            have p1 := BP.out.cell 1 (by simp)
            have p2 := BP.out.cell 2 (by simp)
            have p3 := BP.out.cell 3 (by simp)
            have p4 := BP.out.cell 4 (by simp)
            simp only [List.getElem_cons_zero, List.getElem_cons_succ] at p0 p1 p2 p3 p4
            have x0 := BP.out.froz 0 (by simp)
            have x1 := BP.out.froz 1 (by simp)
            have x2 := BP.out.froz 2 (by simp)
            have x3 := BP.out.froz 3 (by simp)
            have x4 := BP.out.froz 4 (by simp)
            have r0 := BR.out.cell 0 (by simp)
            have r1 := BR.out.cell 1 (by simp)
            have r2 := BR.out.cell 2 (by simp)
            have r3 := BR.out.cell 3 (by simp)
            have r4 := BR.out.cell 4 (by simp)
            simp only [List.getElem_cons_zero, List.getElem_cons_succ] at r0 r1 r2 r3 r4
            have y0 := BR.out.froz 0 (by simp)
            have y1 := BR.out.froz 1 (by simp)
            have y2 := BR.out.froz 2 (by simp)
            have y3 := BR.out.froz 3 (by simp)
            have y4 := BR.out.froz 4 (by simp)
            have lB := BP.out.lt
            have lR := BR.out.lt
            have hRB := S.out.RB
            go_wp2_with fail
            refine bodyPost_ret (v := .agg #[.string ⟨#[114, 111, 98, 111, 116]⟩, .bool true, .bool false, (.slice ua y.length uc), .int .i64 cnt]) (by simp [results, Tryz.results88, go_sem, cell_set_at, cell_set_ne, r0, r1, r2, r3, r4]) rfl ?_
            exact DSt.fin (d := ⟨[114, 111, 98, 111, 116], true, false, y, cnt⟩) S.out ⟨by simp, HSM.out.1, HSM.out.2, show I64 cnt from ⟨by omega, by omega⟩⟩ _ _ _ _ _
          case true =>
            go_wp2_with fail
            refine (l1Below_any b v l _ _ S.out.cur (by omega) (by omega)).mono ?_
            rintro e w1 ⟨k, rfl, ⟨k0, k1, k2⟩, hg, hC⟩
            have k3 := k2 (by omega)
            have hk9 : IntKind.i64.wrap (999 - k) = 999 - k := by rw [IntKind.wrap_i64]; omega
            have S := Lib.hid (S.out.draw hg hC)
            clear hg hC k1 k2
            have BP := Lib.hid S.out.box
            have BR := Lib.hid S.out.res
            have p0 := BP.out.cell 0 (by simp)
            have p1 := BP.out.cell 1 (by simp)
            have p2 := BP.out.cell 2 (by simp)
            have p3 := BP.out.cell 3 (by simp)
            have p4 := BP.out.cell 4 (by simp)
            simp only [List.getElem_cons_zero, List.getElem_cons_succ] at p0 p1 p2 p3 p4
            have x0 := BP.out.froz 0 (by simp)
            have x1 := BP.out.froz 1 (by simp)
            have x2 := BP.out.froz 2 (by simp)
            have x3 := BP.out.froz 3 (by simp)
            have x4 := BP.out.froz 4 (by simp)
            have r0 := BR.out.cell 0 (by simp)
            have r1 := BR.out.cell 1 (by simp)
            have r2 := BR.out.cell 2 (by simp)
            have r3 := BR.out.cell 3 (by simp)
            have r4 := BR.out.cell 4 (by simp)
            simp only [List.getElem_cons_zero, List.getElem_cons_succ] at r0 r1 r2 r3 r4
            have y0 := BR.out.froz 0 (by simp)
            have y1 := BR.out.froz 1 (by simp)
            have y2 := BR.out.froz 2 (by simp)
            have y3 := BR.out.froz 3 (by simp)
            have y4 := BR.out.froz 4 (by simp)
            have lB := BP.out.lt
            have lR := BR.out.lt
            have hRB := S.out.RB
            have S9 := Lib.hid (DSt.set (d' := ⟨[114, 111, 98, 111, 116], true, false, y, 999 - k⟩) S.out 4 (by decide) (.int .i64 (999 - k)) rfl rfl)
            go_wp2_with fail
            refine bodyPost_ret (v := .agg #[.string ⟨#[114, 111, 98, 111, 116]⟩, .bool true, .bool false, (.slice ua y.length uc), .int .i64 (999 - k)]) (by simp [results, Tryz.results88, go_sem, cell_set_at, cell_set_ne, r0, r1, r2, r3, r4]) rfl ?_
            exact DSt.fin (d := ⟨[114, 111, 98, 111, 116], true, false, y, 999 - k⟩) S9.out ⟨by simp, HSM.out.1, HSM.out.2, show I64 (999 - k) from ⟨by omega, by omega⟩⟩ _ _ _ _ _
      · skip
        have hdn : decide (0 < n) = false := by simpa using hn
        have S1 := Lib.hid (DSt.set (d' := ⟨[114, 111, 98, 111, 116], false, false, [], cnt⟩) S0.out 1 (by decide) (.bool false) rfl rfl)
        have BP := Lib.hid S0.out.box
        have p0 := BP.out.cell 0 (by simp)
        have p1 := BP.out.cell 1 (by simp)
        have p2 := BP.out.cell 2 (by simp)
        have p3 := BP.out.cell 3 (by simp)
        have p4 := BP.out.cell 4 (by simp)
        simp only [List.getElem_cons_zero, List.getElem_cons_succ] at p0 p1 p2 p3 p4
        have x0 := BP.out.froz 0 (by simp)
        have x1 := BP.out.froz 1 (by simp)
        have x2 := BP.out.froz 2 (by simp)
        have x3 := BP.out.froz 3 (by simp)
        have x4 := BP.out.froz 4 (by simp)
        have lB := BP.out.lt
        go_wp2_with fail
        refine (l1Once_any b v l _ _ S1.out.cur (by omega) (by omega)).mono ?_
        rintro e w6 ⟨o, rfl, hg, hC⟩
        have S2 := Lib.hid (S1.out.draw hg hC)
        have S := Lib.hid (DSt.set (d' := ⟨[114, 111, 98, 111, 116], false, o, [], cnt⟩) S2.out 2 (by decide) (.bool o) rfl rfl)
        clear hg hC BP p0 p1 p2 p3 p4 x0 x1 x2 x3 x4 lB
        have BP := Lib.hid S2.out.box
        have p0 := BP.out.cell 0 (by simp)
        have p1 := BP.out.cell 1 (by simp)
        have p2 := BP.out.cell 2 (by simp)
        have p3 := BP.out.cell 3 (by simp)
        have p4 := BP.out.cell 4 (by simp)
        simp only [List.getElem_cons_zero, List.getElem_cons_succ] at p0 p1 p2 p3 p4
        have x0 := BP.out.froz 0 (by simp)
        have x1 := BP.out.froz 1 (by simp)
        have x2 := BP.out.froz 2 (by simp)
        have x3 := BP.out.froz 3 (by simp)
        have x4 := BP.out.froz 4 (by simp)
        have lB := BP.out.lt
        go_wp2_with fail
        clear S0 S1 S2 BP p0 p1 p2 p3 p4 x0 x1 x2 x3 x4 lB
        refine (HH1.out _).mono ?_
        rintro e w' ⟨rfl, rfl⟩
        cases h1
        case false =>
          go_wp2_with fail
          refine (l1Once_any b v l _ _ S.out.cur (by omega) (by omega)).mono ?_
          rintro e w1 ⟨o, rfl, hg, hC⟩
          have S := Lib.hid (S.out.draw hg hC)
          clear hg hC
          cases o
          case false =>
            have BP := Lib.hid S.out.box
            have BR := Lib.hid S.out.res
            have p0 := BP.out.cell 0 (by simp)
            have p1 := BP.out.cell 1 (by simp)
            have p2 := BP.out.cell 2 (by simp)
            have p3 := BP.out.cell 3 (by simp)
            have p4 := BP.out.cell 4 (by simp)
            simp only [List.getElem_cons_zero, List.getElem_cons_succ] at p0 p1 p2 p3 p4
            have x0 := BP.out.froz 0 (by simp)
            have x1 := BP.out.froz 1 (by simp)
            have x2 := BP.out.froz 2 (by simp)
            have x3 := BP.out.froz 3 (by simp)
            have x4 := BP.out.froz 4 (by simp)
            have r0 := BR.out.cell 0 (by simp)
            have r1 := BR.out.cell 1 (by simp)
            have r2 := BR.out.cell 2 (by simp)
            have r3 := BR.out.cell 3 (by simp)
            have r4 := BR.out.cell 4 (by simp)
            simp only [List.getElem_cons_zero, List.getElem_cons_succ] at r0 r1 r2 r3 r4
            have y0 := BR.out.froz 0 (by simp)
            have y1 := BR.out.froz 1 (by simp)
            have y2 := BR.out.froz 2 (by simp)
            have y3 := BR.out.froz 3 (by simp)
            have y4 := BR.out.froz 4 (by simp)
            have lB := BP.out.lt
            have lR := BR.out.lt
            have hRB := S.out.RB
            go_wp2_with fail
            refine bodyPost_ret (v := .agg #[.string ⟨#[114, 111, 98, 111, 116]⟩, .bool false, .bool o, (.slice none 0 0), .int .i64 cnt]) (by simp [results, Tryz.results88, go_sem, cell_set_at, cell_set_ne, r0, r1, r2, r3, r4]) rfl ?_
            exact DSt.fin (d := ⟨[114, 111, 98, 111, 116], false, o, [], cnt⟩) S.out ⟨by simp, by simp, by simp, show I64 cnt from ⟨by omega, by omega⟩⟩ _ _ _ _ _
          case true =>
            go_wp2_with fail
            refine (l1Below_any b v l _ _ S.out.cur (by omega) (by omega)).mono ?_
            rintro e w1 ⟨k, rfl, ⟨k0, k1, k2⟩, hg, hC⟩
            have k3 := k2 (by omega)
            have hk9 : IntKind.i64.wrap (999 - k) = 999 - k := by rw [IntKind.wrap_i64]; omega
            have S := Lib.hid (S.out.draw hg hC)
            clear hg hC k1 k2
            have BP := Lib.hid S.out.box
            have BR := Lib.hid S.out.res
            have p0 := BP.out.cell 0 (by simp)
            have p1 := BP.out.cell 1 (by simp)
            have p2 := BP.out.cell 2 (by simp)
            have p3 := BP.out.cell 3 (by simp)
            have p4 := BP.out.cell 4 (by simp)
            simp only [List.getElem_cons_zero, List.getElem_cons_succ] at p0 p1 p2 p3 p4
            have x0 := BP.out.froz 0 (by simp)
            have x1 := BP.out.froz 1 (by simp)
            have x2 := BP.out.froz 2 (by simp)
            have x3 := BP.out.froz 3 (by simp)
            have x4 := BP.out.froz 4 (by simp)
            have r0 := BR.out.cell 0 (by simp)
            have r1 := BR.out.cell 1 (by simp)
            have r2 := BR.out.cell 2 (by simp)
            have r3 := BR.out.cell 3 (by simp)
            have r4 := BR.out.cell 4 (by simp)
            simp only [List.getElem_cons_zero, List.getElem_cons_succ] at r0 r1 r2 r3 r4
            have y0 := BR.out.froz 0 (by simp)
            have y1 := BR.out.froz 1 (by simp)
            have y2 := BR.out.froz 2 (by simp)
            have y3 := BR.out.froz 3 (by simp)
            have y4 := BR.out.froz 4 (by simp)
            have lB := BP.out.lt
            have lR := BR.out.lt
            have hRB := S.out.RB
            have S9 := Lib.hid (DSt.set (d' := ⟨[114, 111, 98, 111, 116], false, o, [], 999 - k⟩) S.out 4 (by decide) (.int .i64 (999 - k)) rfl rfl)
            go_wp2_with fail
            refine bodyPost_ret (v := .agg #[.string ⟨#[114, 111, 98, 111, 116]⟩, .bool false, .bool o, (.slice none 0 0), .int .i64 (999 - k)]) (by simp [results, Tryz.results88, go_sem, cell_set_at, cell_set_ne, r0, r1, r2, r3, r4]) rfl ?_
            exact DSt.fin (d := ⟨[114, 111, 98, 111, 116], false, o, [], 999 - k⟩) S9.out ⟨by simp, by simp, by simp, show I64 (999 - k) from ⟨by omega, by omega⟩⟩ _ _ _ _ _
        case true =>
          go_wp2_with fail
          have hsz := S.out.box.lt
          have hRB0 := S.out.RB
          refine (l3Cells_any b v l _ S.out.cur).mono ?_
          rintro e w1 ⟨u, y, rfl, ho, hsm, hg, hC⟩
          have HSM := Lib.hid hsm
          obtain ⟨ua, uc, rfl⟩ := slice_of ho
          have n1 : (Value.slice ua y.length uc).ownBlock ≠ some w3.heap.size := fun e => by have := (World.ownsRow.lt ho _ e).1; omega
          have n2 : (Value.slice ua y.length uc).ownBlock ≠ some w.heap.size := fun e => by have := (World.ownsRow.lt ho _ e).1; omega
          have hgs := S.out.grown.size
          have S1 := Lib.hid (S.out.draw hg hC)
          have S := Lib.hid (S1.out.setC _ y (ownsF_base ho hgs) n1 n2)
          have BP1 := Lib.hid S1.out.box
          have p0 := BP1.out.cell 0 (by simp)
          have p1 := BP1.out.cell 1 (by simp)
          have p2 := BP1.out.cell 2 (by simp)
          have p3 := BP1.out.cell 3 (by simp)
          have p4 := BP1.out.cell 4 (by simp)
          simp only [List.getElem_cons_zero, List.getElem_cons_succ] at p0 p1 p2 p3 p4
          have x0 := BP1.out.froz 0 (by simp)
          have x1 := BP1.out.froz 1 (by simp)
          have x2 := BP1.out.froz 2 (by simp)
          have x3 := BP1.out.froz 3 (by simp)
          have x4 := BP1.out.froz 4 (by simp)
          have lB := BP1.out.lt
          clear ho hsm hg hC hsz hRB0 n1 n2 hgs
          go_wp2_with fail
          clear p0 p1 p2 p3 p4 x0 x1 x2 x3 x4 lB BP1 S1
          refine (l1Once_any b v l _ _ S.out.cur (by omega) (by omega)).mono ?_
          rintro e w1 ⟨o, rfl, hg, hC⟩
          have S := Lib.hid (S.out.draw hg hC)
          clear hg hC
          cases o
          case false =>
            have BP := Lib.hid S.out.box
            have BR := Lib.hid S.out.res
            have p0 := BP.out.cell 0 (by simp)
            have p1 := BP.out.cell 1 (by simp)
            have p2 := BP.out.cell 2 (by simp)
            have p3 := BP.out.cell 3 (by simp)
            have p4 := BP.out.cell 4 (by simp)
            simp only [List.getElem_cons_zero, List.getElem_cons_succ] at p0 p1 p2 p3 p4
            have x0 := BP.out.froz 0 (by simp)
            have x1 := BP.out.froz 1 (by simp)
            have x2 := BP.out.froz 2 (by simp)
            have x3 := BP.out.froz 3 (by simp)
            have x4 := BP.out.froz 4 (by simp)
            have r0 := BR.out.cell 0 (by simp)
            have r1 := BR.out.cell 1 (by simp)
            have r2 := BR.out.cell 2 (by simp)
            have r3 := BR.out.cell 3 (by simp)
            have r4 := BR.out.cell 4 (by simp)
            simp only [List.getElem_cons_zero, List.getElem_cons_succ] at r0 r1 r2 r3 r4
            have y0 := BR.out.froz 0 (by simp)
            have y1 := BR.out.froz 1 (by simp)
            have y2 := BR.out.froz 2 (by simp)
            have y3 := BR.out.froz 3 (by simp)
            have y4 := BR.out.froz 4 (by simp)
            have lB := BP.out.lt
            have lR := BR.out.lt
            have hRB := S.out.RB
            go_wp2_with fail
            refine bodyPost_ret (v := .agg #[.string ⟨#[114, 111, 98, 111, 116]⟩, .bool false, .bool o, (.slice ua y.length uc), .int .i64 cnt]) (by simp [results, Tryz.results88, go_sem, cell_set_at, cell_set_ne, r0, r1, r2, r3, r4]) rfl ?_
            exact DSt.fin (d := ⟨[114, 111, 98, 111, 116], false, o, y, cnt⟩) S.out ⟨by simp, HSM.out.1, HSM.out.2, show I64 cnt from ⟨by omega, by omega⟩⟩ _ _ _ _ _
          case true =>
            go_wp2_with fail
            refine (l1Below_any b v l _ _ S.out.cur (by omega) (by omega)).mono ?_
            rintro e w1 ⟨k, rfl, ⟨k0, k1, k2⟩, hg, hC⟩
            have k3 := k2 (by omega)
            have hk9 : IntKind.i64.wrap (999 - k) = 999 - k := by rw [IntKind.wrap_i64]; omega
            have S := Lib.hid (S.out.draw hg hC)
            clear hg hC k1 k2
            have BP := Lib.hid S.out.box
            have BR := Lib.hid S.out.res
            have p0 := BP.out.cell 0 (by simp)
            have p1 := BP.out.cell 1 (by simp)
            have p2 := BP.out.cell 2 (by simp)
            have p3 := BP.out.cell 3 (by simp)
            have p4 := BP.out.cell 4 (by simp)
            simp only [List.getElem_cons_zero, List.getElem_cons_succ] at p0 p1 p2 p3 p4
            have x0 := BP.out.froz 0 (by simp)
            have x1 := BP.out.froz 1 (by simp)
            have x2 := BP.out.froz 2 (by simp)
            have x3 := BP.out.froz 3 (by simp)
            have x4 := BP.out.froz 4 (by simp)
            have r0 := BR.out.cell 0 (by simp)
            have r1 := BR.out.cell 1 (by simp)
            have r2 := BR.out.cell 2 (by simp)
            have r3 := BR.out.cell 3 (by simp)
            have r4 := BR.out.cell 4 (by simp)
            simp only [List.getElem_cons_zero, List.getElem_cons_succ] at r0 r1 r2 r3 r4
            have y0 := BR.out.froz 0 (by simp)
            have y1 := BR.out.froz 1 (by simp)
            have y2 := BR.out.froz 2 (by simp)
            have y3 := BR.out.froz 3 (by simp)
            have y4 := BR.out.froz 4 (by simp)
            have lB := BP.out.lt
            have lR := BR.out.lt
            have hRB := S.out.RB
            have S9 := Lib.hid (DSt.set (d' := ⟨[114, 111, 98, 111, 116], false, o, y, 999 - k⟩) S.out 4 (by decide) (.int .i64 (999 - k)) rfl rfl)
            go_wp2_with fail
            refine bodyPost_ret (v := .agg #[.string ⟨#[114, 111, 98, 111, 116]⟩, .bool false, .bool o, (.slice ua y.length uc), .int .i64 (999 - k)]) (by simp [results, Tryz.results88, go_sem, cell_set_at, cell_set_ne, r0, r1, r2, r3, r4]) rfl ?_
            exact DSt.fin (d := ⟨[114, 111, 98, 111, 116], false, o, y, 999 - k⟩) S9.out ⟨by simp, HSM.out.1, HSM.out.2, show I64 (999 - k) from ⟨by omega, by omega⟩⟩ _ _ _ _ _
  case true =>
    go_wp2_with fail
    refine (l1Below_any b v l _ _ HC2.out (by omega) (by omega)).mono ?_
    rintro e w3 ⟨cnt, rfl, ⟨c0, c1, c2⟩, hg, hC⟩
    have c3 := c2 (by omega)
    clear c2 c1
    have hRl : w.heap.size < w3.heap.size := Nat.lt_of_lt_of_le BR2.out.lt hg.size
    have S := Lib.hid (show DSt w b v l w.heap.size w3.heap.size ⟨kl, false, false, [], cnt⟩ (.slice none 0 0) (w3.alloc (.cells #[.string ⟨kl.toArray⟩, .bool false, .bool false, .slice none 0 0, .int .i64 cnt] 31)) from ⟨grown_alloc (grown_trans HG2.out hg) _, cur_alloc hC _, (bx_grownC BR2.out hg (by omega)).alloc _, Bx.new w3 (cCoreV ⟨kl, false, false, [], cnt⟩ (.slice none 0 0)) 31, ownsF_nil _ _ _ _ _, hbl, Nat.le_refl _, hRl, by simp [Value.ownBlock], by simp [Value.ownBlock]⟩)
    clear hg hC HG2 HC2 BR2
    have HH0 := Lib.hid (fun W => l2Has_0 f _ rfl hff.out W)
    have HH1 := Lib.hid (fun W => l2Has_1 f _ rfl hff.out W)
    generalize hasI f 0 = h0 at *
    generalize hasI f 1 = h1 at *
    go_wp2_with fail
    generalize w3.alloc (.cells #[.string ⟨kl.toArray⟩, .bool false, .bool false, .slice none 0 0, .int .i64 cnt] 31) = w4 at *
    refine (HH0.out _).mono ?_
    rintro e w' ⟨rfl, rfl⟩
    cases h0
    case false =>
      go_wp2_with fail
      refine (HH1.out _).mono ?_
      rintro e w' ⟨rfl, rfl⟩
      cases h1
      case false =>
        go_wp2_with fail
        refine (l1Once_any b v l _ _ S.out.cur (by omega) (by omega)).mono ?_
        rintro e w1 ⟨o, rfl, hg, hC⟩
        have S := Lib.hid (S.out.draw hg hC)
        clear hg hC
        cases o
        case false =>
          have BP := Lib.hid S.out.box
          have BR := Lib.hid S.out.res
          have p0 := BP.out.cell 0 (by simp)
          have p1 := BP.out.cell 1 (by simp)
          have p2 := BP.out.cell 2 (by simp)
          have p3 := BP.out.cell 3 (by simp)
          have p4 := BP.out.cell 4 (by simp)
          simp only [List.getElem_cons_zero, List.getElem_cons_succ] at p0 p1 p2 p3 p4
          have x0 := BP.out.froz 0 (by simp)
          have x1 := BP.out.froz 1 (by simp)
          have x2 := BP.out.froz 2 (by simp)
          have x3 := BP.out.froz 3 (by simp)
          have x4 := BP.out.froz 4 (by simp)
          have r0 := BR.out.cell 0 (by simp)
          have r1 := BR.out.cell 1 (by simp)
          have r2 := BR.out.cell 2 (by simp)
          have r3 := BR.out.cell 3 (by simp)
          have r4 := BR.out.cell 4 (by simp)
          simp only [List.getElem_cons_zero, List.getElem_cons_succ] at r0 r1 r2 r3 r4
          have y0 := BR.out.froz 0 (by simp)
          have y1 := BR.out.froz 1 (by simp)
          have y2 := BR.out.froz 2 (by simp)
          have y3 := BR.out.froz 3 (by simp)
          have y4 := BR.out.froz 4 (by simp)
          have lB := BP.out.lt
          have lR := BR.out.lt
          have hRB := S.out.RB
          go_wp2_with fail
          refine bodyPost_ret (v := .agg #[.string ⟨kl.toArray⟩, .bool false, .bool false, (.slice none 0 0), .int .i64 cnt]) (by simp [results, Tryz.results88, go_sem, cell_set_at, cell_set_ne, r0, r1, r2, r3, r4]) rfl ?_
          exact DSt.fin (d := ⟨kl, false, false, [], cnt⟩) S.out ⟨hkl.out, by simp, by simp, show I64 cnt from ⟨by omega, by omega⟩⟩ _ _ _ _ _
        case true =>
          go_wp2_with fail
          refine (l1Below_any b v l _ _ S.out.cur (by omega) (by omega)).mono ?_
          rintro e w1 ⟨k, rfl, ⟨k0, k1, k2⟩, hg, hC⟩
          have k3 := k2 (by omega)
          have hk9 : IntKind.i64.wrap (999 - k) = 999 - k := by rw [IntKind.wrap_i64]; omega
          have S := Lib.hid (S.out.draw hg hC)
          clear hg hC k1 k2
          have BP := Lib.hid S.out.box
          have BR := Lib.hid S.out.res
          have p0 := BP.out.cell 0 (by simp)
          have p1 := BP.out.cell 1 (by simp)
          have p2 := BP.out.cell 2 (by simp)
          have p3 := BP.out.cell 3 (by simp)
          have p4 := BP.out.cell 4 (by simp)
          simp only [List.getElem_cons_zero, List.getElem_cons_succ] at p0 p1 p2 p3 p4
          have x0 := BP.out.froz 0 (by simp)
          have x1 := BP.out.froz 1 (by simp)
          have x2 := BP.out.froz 2 (by simp)
          have x3 := BP.out.froz 3 (by simp)
          have x4 := BP.out.froz 4 (by simp)
          have r0 := BR.out.cell 0 (by simp)
          have r1 := BR.out.cell 1 (by simp)
          have r2 := BR.out.cell 2 (by simp)
          have r3 := BR.out.cell 3 (by simp)
          have r4 := BR.out.cell 4 (by simp)
          simp only [List.getElem_cons_zero, List.getElem_cons_succ] at r0 r1 r2 r3 r4
          have y0 := BR.out.froz 0 (by simp)
          have y1 := BR.out.froz 1 (by simp)
          have y2 := BR.out.froz 2 (by simp)
          have y3 := BR.out.froz 3 (by simp)
          have y4 := BR.out.froz 4 (by simp)
          have lB := BP.out.lt
          have lR := BR.out.lt
          have hRB := S.out.RB
          have S9 := Lib.hid (DSt.set (d' := ⟨kl, false, false, [], 999 - k⟩) S.out 4 (by decide) (.int .i64 (999 - k)) rfl rfl)
          go_wp2_with fail
          refine bodyPost_ret (v := .agg #[.string ⟨kl.toArray⟩, .bool false, .bool false, (.slice none 0 0), .int .i64 (999 - k)]) (by simp [results, Tryz.results88, go_sem, cell_set_at, cell_set_ne, r0, r1, r2, r3, r4]) rfl ?_
          exact DSt.fin (d := ⟨kl, false, false, [], 999 - k⟩) S9.out ⟨hkl.out, by simp, by simp, show I64 (999 - k) from ⟨by omega, by omega⟩⟩ _ _ _ _ _
      case true =>
        go_wp2_with fail
        have hsz := S.out.box.lt
        have hRB0 := S.out.RB
        refine (l3Cells_any b v l _ S.out.cur).mono ?_
        rintro e w1 ⟨u, y, rfl, ho, hsm, hg, hC⟩
        have HSM := Lib.hid hsm
        obtain ⟨ua, uc, rfl⟩ := slice_of ho
        have n1 : (Value.slice ua y.length uc).ownBlock ≠ some w3.heap.size := fun e => by have := (World.ownsRow.lt ho _ e).1; omega
        have n2 : (Value.slice ua y.length uc).ownBlock ≠ some w.heap.size := fun e => by have := (World.ownsRow.lt ho _ e).1; omega
        have hgs := S.out.grown.size
        have S1 := Lib.hid (S.out.draw hg hC)
        have S := Lib.hid (S1.out.setC _ y (ownsF_base ho hgs) n1 n2)
        have BP1 := Lib.hid S1.out.box
        have p0 := BP1.out.cell 0 (by simp)
        have p1 := BP1.out.cell 1 (by simp)
        have p2 := BP1.out.cell 2 (by simp)
        have p3 := BP1.out.cell 3 (by simp)
        have p4 := BP1.out.cell 4 (by simp)
        simp only [List.getElem_cons_zero, List.getElem_cons_succ] at p0 p1 p2 p3 p4
        have x0 := BP1.out.froz 0 (by simp)
        have x1 := BP1.out.froz 1 (by simp)
        have x2 := BP1.out.froz 2 (by simp)
        have x3 := BP1.out.froz 3 (by simp)
        have x4 := BP1.out.froz 4 (by simp)
        have lB := BP1.out.lt
        clear ho hsm hg hC hsz hRB0 n1 n2 hgs
        go_wp2_with fail
        clear p0 p1 p2 p3 p4 x0 x1 x2 x3 x4 lB BP1 S1
        refine (l1Once_any b v l _ _ S.out.cur (by omega) (by omega)).mono ?_
        rintro e w1 ⟨o, rfl, hg, hC⟩
        have S := Lib.hid (S.out.draw hg hC)
        clear hg hC
        cases o
        case false =>
          have BP := Lib.hid S.out.box
          have BR := Lib.hid S.out.res
          have p0 := BP.out.cell 0 (by simp)
          have p1 := BP.out.cell 1 (by simp)
          have p2 := BP.out.cell 2 (by simp)
          have p3 := BP.out.cell 3 (by simp)
          have p4 := BP.out.cell 4 (by simp)
          simp only [List.getElem_cons_zero, List.getElem_cons_succ] at p0 p1 p2 p3 p4
          have x0 := BP.out.froz 0 (by simp)
          have x1 := BP.out.froz 1 (by simp)
          have x2 := BP.out.froz 2 (by simp)
          have x3 := BP.out.froz 3 (by simp)
          have x4 := BP.out.froz 4 (by simp)
          have r0 := BR.out.cell 0 (by simp)
          have r1 := BR.out.cell 1 (by simp)
          have r2 := BR.out.cell 2 (by simp)
          have r3 := BR.out.cell 3 (by simp)
          have r4 := BR.out.cell 4 (by simp)
          simp only [List.getElem_cons_zero, List.getElem_cons_succ] at r0 r1 r2 r3 r4
          have y0 := BR.out.froz 0 (by simp)
          have y1 := BR.out.froz 1 (by simp)
          have y2 := BR.out.froz 2 (by simp)
          have y3 := BR.out.froz 3 (by simp)
          have y4 := BR.out.froz 4 (by simp)
          have lB := BP.out.lt
          have lR := BR.out.lt
          have hRB := S.out.RB
          go_wp2_with fail
          refine bodyPost_ret (v := .agg #[.string ⟨kl.toArray⟩, .bool false, .bool false, (.slice ua y.length uc), .int .i64 cnt]) (by simp [results, Tryz.results88, go_sem, cell_set_at, cell_set_ne, r0, r1, r2, r3, r4]) rfl ?_
          exact DSt.fin (d := ⟨kl, false, false, y, cnt⟩) S.out ⟨hkl.out, HSM.out.1, HSM.out.2, show I64 cnt from ⟨by omega, by omega⟩⟩ _ _ _ _ _
        case true =>
          go_wp2_with fail
          refine (l1Below_any b v l _ _ S.out.cur (by omega) (by omega)).mono ?_
          rintro e w1 ⟨k, rfl, ⟨k0, k1, k2⟩, hg, hC⟩
          have k3 := k2 (by omega)
          have hk9 : IntKind.i64.wrap (999 - k) = 999 - k := by rw [IntKind.wrap_i64]; omega
          have S := Lib.hid (S.out.draw hg hC)
          clear hg hC k1 k2
          have BP := Lib.hid S.out.box
          have BR := Lib.hid S.out.res
          have p0 := BP.out.cell 0 (by simp)
          have p1 := BP.out.cell 1 (by simp)
          have p2 := BP.out.cell 2 (by simp)
          have p3 := BP.out.cell 3 (by simp)
          have p4 := BP.out.cell 4 (by simp)
          simp only [List.getElem_cons_zero, List.getElem_cons_succ] at p0 p1 p2 p3 p4
          have x0 := BP.out.froz 0 (by simp)
          have x1 := BP.out.froz 1 (by simp)
          have x2 := BP.out.froz 2 (by simp)
          have x3 := BP.out.froz 3 (by simp)
          have x4 := BP.out.froz 4 (by simp)
          have r0 := BR.out.cell 0 (by simp)
          have r1 := BR.out.cell 1 (by simp)
          have r2 := BR.out.cell 2 (by simp)
          have r3 := BR.out.cell 3 (by simp)
          have r4 := BR.out.cell 4 (by simp)
          simp only [List.getElem_cons_zero, List.getElem_cons_succ] at r0 r1 r2 r3 r4
          have y0 := BR.out.froz 0 (by simp)
          have y1 := BR.out.froz 1 (by simp)
          have y2 := BR.out.froz 2 (by simp)
          have y3 := BR.out.froz 3 (by simp)
          have y4 := BR.out.froz 4 (by simp)
          have lB := BP.out.lt
          have lR := BR.out.lt
          have hRB := S.out.RB
          have S9 := Lib.hid (DSt.set (d' := ⟨kl, false, false, y, 999 - k⟩) S.out 4 (by decide) (.int .i64 (999 - k)) rfl rfl)
          go_wp2_with fail
          refine bodyPost_ret (v := .agg #[.string ⟨kl.toArray⟩, .bool false, .bool false, (.slice ua y.length uc), .int .i64 (999 - k)]) (by simp [results, Tryz.results88, go_sem, cell_set_at, cell_set_ne, r0, r1, r2, r3, r4]) rfl ?_
          exact DSt.fin (d := ⟨kl, false, false, y, 999 - k⟩) S9.out ⟨hkl.out, HSM.out.1, HSM.out.2, show I64 (999 - k) from ⟨by omega, by omega⟩⟩ _ _ _ _ _
    case true =>
      go_wp2_with fail
      refine (l1Below_any b v l _ _ S.out.cur (by omega) (by omega)).mono ?_
      rintro e w5 ⟨n, rfl, ⟨n0, n1, n2⟩, hg, hC⟩
      have S0 := Lib.hid (S.out.draw hg hC)
      clear hg hC n1 n2
      by_cases hn : 0 < n
      · skip
        have hdn : decide (0 < n) = true := by simpa using hn
        have S1 := Lib.hid (DSt.set (d' := ⟨kl, true, false, [], cnt⟩) S0.out 1 (by decide) (.bool true) rfl rfl)
        have BP := Lib.hid S0.out.box
        have p0 := BP.out.cell 0 (by simp)
        have p1 := BP.out.cell 1 (by simp)
        have p2 := BP.out.cell 2 (by simp)
        have p3 := BP.out.cell 3 (by simp)
        have p4 := BP.out.cell 4 (by simp)
        simp only [List.getElem_cons_zero, List.getElem_cons_succ] at p0 p1 p2 p3 p4
        have x0 := BP.out.froz 0 (by simp)
        have x1 := BP.out.froz 1 (by simp)
        have x2 := BP.out.froz 2 (by simp)
        have x3 := BP.out.froz 3 (by simp)
        have x4 := BP.out.froz 4 (by simp)
        have lB := BP.out.lt
        go_wp2_with fail
        have S := Lib.hid (DSt.set (d' := ⟨kl, true, false, [], cnt⟩) S1.out 2 (by decide) (.bool false) rfl rfl)
        clear S0 S1 BP p0 p1 p2 p3 p4 x0 x1 x2 x3 x4 lB
        refine (HH1.out _).mono ?_
        rintro e w' ⟨rfl, rfl⟩
        cases h1
        case false =>
          go_wp2_with fail
          refine (l1Once_any b v l _ _ S.out.cur (by omega) (by omega)).mono ?_
          rintro e w1 ⟨o, rfl, hg, hC⟩
          have S := Lib.hid (S.out.draw hg hC)
          clear hg hC
          cases o
          case false =>
            have BP := Lib.hid S.out.box
            have BR := Lib.hid S.out.res
            have p0 := BP.out.cell 0 (by simp)
            have p1 := BP.out.cell 1 (by simp)
            have p2 := BP.out.cell 2 (by simp)
            have p3 := BP.out.cell 3 (by simp)
            have p4 := BP.out.cell 4 (by simp)
            simp only [List.getElem_cons_zero, List.getElem_cons_succ] at p0 p1 p2 p3 p4
            have x0 := BP.out.froz 0 (by simp)
            have x1 := BP.out.froz 1 (by simp)
            have x2 := BP.out.froz 2 (by simp)
            have x3 := BP.out.froz 3 (by simp)
            have x4 := BP.out.froz 4 (by simp)
            have r0 := BR.out.cell 0 (by simp)
            have r1 := BR.out.cell 1 (by simp)
            have r2 := BR.out.cell 2 (by simp)
            have r3 := BR.out.cell 3 (by simp)
            have r4 := BR.out.cell 4 (by simp)
            simp only [List.getElem_cons_zero, List.getElem_cons_succ] at r0 r1 r2 r3 r4
            have y0 := BR.out.froz 0 (by simp)
            have y1 := BR.out.froz 1 (by simp)
            have y2 := BR.out.froz 2 (by simp)
            have y3 := BR.out.froz 3 (by simp)
            have y4 := BR.out.froz 4 (by simp)
            have lB := BP.out.lt
            have lR := BR.out.lt
            have hRB := S.out.RB
            go_wp2_with fail
            refine bodyPost_ret (v := .agg #[.string ⟨kl.toArray⟩, .bool true, .bool false, (.slice none 0 0), .int .i64 cnt]) (by simp [results, Tryz.results88, go_sem, cell_set_at, cell_set_ne, r0, r1, r2, r3, r4]) rfl ?_
            exact DSt.fin (d := ⟨kl, true, false, [], cnt⟩) S.out ⟨hkl.out, by simp, by simp, show I64 cnt from ⟨by omega, by omega⟩⟩ _ _ _ _ _
          case true =>
            go_wp2_with fail
            refine (l1Below_any b v l _ _ S.out.cur (by omega) (by omega)).mono ?_
            rintro e w1 ⟨k, rfl, ⟨k0, k1, k2⟩, hg, hC⟩
            have k3 := k2 (by omega)
            have hk9 : IntKind.i64.wrap (999 - k) = 999 - k := by rw [IntKind.wrap_i64]; omega
            have S := Lib.hid (S.out.draw hg hC)
            clear hg hC k1 k2
            have BP := Lib.hid S.out.box
            have BR := Lib.hid S.out.res
            have p0 := BP.out.cell 0 (by simp)
            have p1 := BP.out.cell 1 (by simp)
            have p2 := BP.out.cell 2 (by simp)
            have p3 := BP.out.cell 3 (by simp)
            have p4 := BP.out.cell 4 (by simp)
            simp only [List.getElem_cons_zero, List.getElem_cons_succ] at p0 p1 p2 p3 p4
            have x0 := BP.out.froz 0 (by simp)
            have x1 := BP.out.froz 1 (by simp)
            have x2 := BP.out.froz 2 (by simp)
            have x3 := BP.out.froz 3 (by simp)
            have x4 := BP.out.froz 4 (by simp)
            have r0 := BR.out.cell 0 (by simp)
            have r1 := BR.out.cell 1 (by simp)
            have r2 := BR.out.cell 2 (by simp)
            have r3 := BR.out.cell 3 (by simp)
            have r4 := BR.out.cell 4 (by simp)
            simp only [List.getElem_cons_zero, List.getElem_cons_succ] at r0 r1 r2 r3 r4
            have y0 := BR.out.froz 0 (by simp)
            have y1 := BR.out.froz 1 (by simp)
            have y2 := BR.out.froz 2 (by simp)
            have y3 := BR.out.froz 3 (by simp)
            have y4 := BR.out.froz 4 (by simp)
            have lB := BP.out.lt
            have lR := BR.out.lt
            have hRB := S.out.RB
            have S9 := Lib.hid (DSt.set (d' := ⟨kl, true, false, [], 999 - k⟩) S.out 4 (by decide) (.int .i64 (999 - k)) rfl rfl)
            go_wp2_with fail
            refine bodyPost_ret (v := .agg #[.string ⟨kl.toArray⟩, .bool true, .bool false, (.slice none 0 0), .int .i64 (999 - k)]) (by simp [results, Tryz.results88, go_sem, cell_set_at, cell_set_ne, r0, r1, r2, r3, r4]) rfl ?_
            exact DSt.fin (d := ⟨kl, true, false, [], 999 - k⟩) S9.out ⟨hkl.out, by simp, by simp, show I64 (999 - k) from ⟨by omega, by omega⟩⟩ _ _ _ _ _
        case true =>
          go_wp2_with fail
          have hsz := S.out.box.lt
          have hRB0 := S.out.RB
          refine (l3Cells_any b v l _ S.out.cur).mono ?_
          rintro e w1 ⟨u, y, rfl, ho, hsm, hg, hC⟩
          have HSM := Lib.hid hsm
          obtain ⟨ua, uc, rfl⟩ := slice_of ho
          have n1 : (Value.slice ua y.length uc).ownBlock ≠ some w3.heap.size := fun e => by have := (World.ownsRow.lt ho _ e).1; omega
          have n2 : (Value.slice ua y.length uc).ownBlock ≠ some w.heap.size := fun e => by have := (World.ownsRow.lt ho _ e).1; omega
          have hgs := S.out.grown.size
          have S1 := Lib.hid (S.out.draw hg hC)
          have S := Lib.hid (S1.out.setC _ y (ownsF_base ho hgs) n1 n2)
          have BP1 := Lib.hid S1.out.box
          have p0 := BP1.out.cell 0 (by simp)
          have p1 := BP1.out.cell 1 (by simp)
          have p2 := BP1.out.cell 2 (by simp)
          have p3 := BP1.out.cell 3 (by simp)
          have p4 := BP1.out.cell 4 (by simp)
          simp only [List.getElem_cons_zero, List.getElem_cons_succ] at p0 p1 p2 p3 p4
          have x0 := BP1.out.froz 0 (by simp)
          have x1 := BP1.out.froz 1 (by simp)
          have x2 := BP1.out.froz 2 (by simp)
          have x3 := BP1.out.froz 3 (by simp)
          have x4 := BP1.out.froz 4 (by simp)
          have lB := BP1.out.lt
          clear ho hsm hg hC hsz hRB0 n1 n2 hgs
          go_wp2_with fail
          clear p0 p1 p2 p3 p4 x0 x1 x2 x3 x4 lB BP1 S1
          refine (l1Once_any b v l _ _ S.out.cur (by omega) (by omega)).mono ?_
          rintro e w1 ⟨o, rfl, hg, hC⟩
          have S := Lib.hid (S.out.draw hg hC)
          clear hg hC
          cases o
          case false =>
            have BP := Lib.hid S.out.box
            have BR := Lib.hid S.out.res
            have p0 := BP.out.cell 0 (by simp)
            have p1 := BP.out.cell 1 (by simp)
            have p2 := BP.out.cell 2 (by simp)
            have p3 := BP.out.cell 3 (by simp)
            have p4 := BP.out.cell 4 (by simp)
            simp only [List.getElem_cons_zero, List.getElem_cons_succ] at p0 p1 p2 p3 p4
            have x0 := BP.out.froz 0 (by simp)
            have x1 := BP.out.froz 1 (by simp)
            have x2 := BP.out.froz 2 (by simp)
            have x3 := BP.out.froz 3 (by simp)
            have x4 := BP.out.froz 4 (by simp)
            have r0 := BR.out.cell 0 (by simp)
            have r1 := BR.out.cell 1 (by simp)
            have r2 := BR.out.cell 2 (by simp)
            have r3 := BR.out.cell 3 (by simp)
            have r4 := BR.out.cell 4 (by simp)
            simp only [List.getElem_cons_zero, List.getElem_cons_succ] at r0 r1 r2 r3 r4
            have y0 := BR.out.froz 0 (by simp)
            have y1 := BR.out.froz 1 (by simp)
            have y2 := BR.out.froz 2 (by simp)
            have y3 := BR.out.froz 3 (by simp)
            have y4 := BR.out.froz 4 (by simp)
            have lB := BP.out.lt
            have lR := BR.out.lt
            have hRB := S.out.RB
            go_wp2_with fail
            refine bodyPost_ret (v := .agg #[.string ⟨kl.toArray⟩, .bool true, .bool false, (.slice ua y.length uc), .int .i64 cnt]) (by simp [results, Tryz.results88, go_sem, cell_set_at, cell_set_ne, r0, r1, r2, r3, r4]) rfl ?_
            exact DSt.fin (d := ⟨kl, true, false, y, cnt⟩) S.out ⟨hkl.out, HSM.out.1, HSM.out.2, show I64 cnt from ⟨by omega, by omega⟩⟩ _ _ _ _ _
          case true =>
            go_wp2_with fail
            refine (l1Below_any b v l _ _ S.out.cur (by omega) (by omega)).mono ?_
            rintro e w1 ⟨k, rfl, ⟨k0, k1, k2⟩, hg, hC⟩
            have k3 := k2 (by omega)
            have hk9 : IntKind.i64.wrap (999 - k) = 999 - k := by rw [IntKind.wrap_i64]; omega
            have S := Lib.hid (S.out.draw hg hC)
            clear hg hC k1 k2
            have BP := Lib.hid S.out.box
            have BR := Lib.hid S.out.res
            have p0 := BP.out.cell 0 (by simp)
            have p1 := BP.out.cell 1 (by simp)
            have p2 := BP.out.cell 2 (by simp)
            have p3 := BP.out.cell 3 (by simp)
            have p4 := BP.out.cell 4 (by simp)
            simp only [List.getElem_cons_zero, List.getElem_cons_succ] at p0 p1 p2 p3 p4
            have x0 := BP.out.froz 0 (by simp)
            have x1 := BP.out.froz 1 (by simp)
            have x2 := BP.out.froz 2 (by simp)
            have x3 := BP.out.froz 3 (by simp)
            have x4 := BP.out.froz 4 (by simp)
            have r0 := BR.out.cell 0 (by simp)
            have r1 := BR.out.cell 1 (by simp)
            have r2 := BR.out.cell 2 (by simp)
            have r3 := BR.out.cell 3 (by simp)
            have r4 := BR.out.cell 4 (by simp)
            simp only [List.getElem_cons_zero, List.getElem_cons_succ] at r0 r1 r2 r3 r4
            have y0 := BR.out.froz 0 (by simp)
            have y1 := BR.out.froz 1 (by simp)
            have y2 := BR.out.froz 2 (by simp)
            have y3 := BR.out.froz 3 (by simp)
            have y4 := BR.out.froz 4 (by simp)
            have lB := BP.out.lt
            have lR := BR.out.lt
            have hRB := S.out.RB
            have S9 := Lib.hid (DSt.set (d' := ⟨kl, true, false, y, 999 - k⟩) S.out 4 (by decide) (.int .i64 (999 - k)) rfl rfl)
            go_wp2_with fail
            refine bodyPost_ret (v := .agg #[.string ⟨kl.toArray⟩, .bool true, .bool false, (.slice ua y.length uc), .int .i64 (999 - k)]) (by simp [results, Tryz.results88, go_sem, cell_set_at, cell_set_ne, r0, r1, r2, r3, r4]) rfl ?_
            exact DSt.fin (d := ⟨kl, true, false, y, 999 - k⟩) S9.out ⟨hkl.out, HSM.out.1, HSM.out.2, show I64 (999 - k) from ⟨by omega, by omega⟩⟩ _ _ _ _ _
      · skip
        have hdn : decide (0 < n) = false := by simpa using hn
        have S1 := Lib.hid (DSt.set (d' := ⟨kl, false, false, [], cnt⟩) S0.out 1 (by decide) (.bool false) rfl rfl)
        have BP := Lib.hid S0.out.box
        have p0 := BP.out.cell 0 (by simp)
        have p1 := BP.out.cell 1 (by simp)
        have p2 := BP.out.cell 2 (by simp)
        have p3 := BP.out.cell 3 (by simp)
        have p4 := BP.out.cell 4 (by simp)
        simp only [List.getElem_cons_zero, List.getElem_cons_succ] at p0 p1 p2 p3 p4
        have x0 := BP.out.froz 0 (by simp)
        have x1 := BP.out.froz 1 (by simp)
        have x2 := BP.out.froz 2 (by simp)
        have x3 := BP.out.froz 3 (by simp)
        have x4 := BP.out.froz 4 (by simp)
        have lB := BP.out.lt
        go_wp2_with fail
        refine (l1Once_any b v l _ _ S1.out.cur (by omega) (by omega)).mono ?_
        rintro e w6 ⟨o, rfl, hg, hC⟩
        have S2 := Lib.hid (S1.out.draw hg hC)
        have S := Lib.hid (DSt.set (d' := ⟨kl, false, o, [], cnt⟩) S2.out 2 (by decide) (.bool o) rfl rfl)
        clear hg hC BP p0 p1 p2 p3 p4 x0 x1 x2 x3 x4 lB
        have BP := Lib.hid S2.out.box
        have p0 := BP.out.cell 0 (by simp)
        have p1 := BP.out.cell 1 (by simp)
        have p2 := BP.out.cell 2 (by simp)
        have p3 := BP.out.cell 3 (by simp)
        have p4 := BP.out.cell 4 (by simp)
        simp only [List.getElem_cons_zero, List.getElem_cons_succ] at p0 p1 p2 p3 p4
        have x0 := BP.out.froz 0 (by simp)
        have x1 := BP.out.froz 1 (by simp)
        have x2 := BP.out.froz 2 (by simp)
        have x3 := BP.out.froz 3 (by simp)
        have x4 := BP.out.froz 4 (by simp)
        have lB := BP.out.lt
        go_wp2_with fail
        clear S0 S1 S2 BP p0 p1 p2 p3 p4 x0 x1 x2 x3 x4 lB
        refine (HH1.out _).mono ?_
        rintro e w' ⟨rfl, rfl⟩
        cases h1
        case false =>
          go_wp2_with fail
          refine (l1Once_any b v l _ _ S.out.cur (by omega) (by omega)).mono ?_
          rintro e w1 ⟨o, rfl, hg, hC⟩
          have S := Lib.hid (S.out.draw hg hC)
          clear hg hC
          cases o
          case false =>
            have BP := Lib.hid S.out.box
            have BR := Lib.hid S.out.res
            have p0 := BP.out.cell 0 (by simp)
            have p1 := BP.out.cell 1 (by simp)
            have p2 := BP.out.cell 2 (by simp)
            have p3 := BP.out.cell 3 (by simp)
            have p4 := BP.out.cell 4 (by simp)
            simp only [List.getElem_cons_zero, List.getElem_cons_succ] at p0 p1 p2 p3 p4
            have x0 := BP.out.froz 0 (by simp)
            have x1 := BP.out.froz 1 (by simp)
            have x2 := BP.out.froz 2 (by simp)
            have x3 := BP.out.froz 3 (by simp)
            have x4 := BP.out.froz 4 (by simp)
            have r0 := BR.out.cell 0 (by simp)
            have r1 := BR.out.cell 1 (by simp)
            have r2 := BR.out.cell 2 (by simp)
            have r3 := BR.out.cell 3 (by simp)
            have r4 := BR.out.cell 4 (by simp)
            simp only [List.getElem_cons_zero, List.getElem_cons_succ] at r0 r1 r2 r3 r4
            have y0 := BR.out.froz 0 (by simp)
            have y1 := BR.out.froz 1 (by simp)
            have y2 := BR.out.froz 2 (by simp)
            have y3 := BR.out.froz 3 (by simp)
            have y4 := BR.out.froz 4 (by simp)
            have lB := BP.out.lt
            have lR := BR.out.lt
            have hRB := S.out.RB
            go_wp2_with fail
            refine bodyPost_ret (v := .agg #[.string ⟨kl.toArray⟩, .bool false, .bool o, (.slice none 0 0), .int .i64 cnt]) (by simp [results, Tryz.results88, go_sem, cell_set_at, cell_set_ne, r0, r1, r2, r3, r4]) rfl ?_
            exact DSt.fin (d := ⟨kl, false, o, [], cnt⟩) S.out ⟨hkl.out, by simp, by simp, show I64 cnt from ⟨by omega, by omega⟩⟩ _ _ _ _ _
          case true =>
            go_wp2_with fail
            refine (l1Below_any b v l _ _ S.out.cur (by omega) (by omega)).mono ?_
            rintro e w1 ⟨k, rfl, ⟨k0, k1, k2⟩, hg, hC⟩
            have k3 := k2 (by omega)
            have hk9 : IntKind.i64.wrap (999 - k) = 999 - k := by rw [IntKind.wrap_i64]; omega
            have S := Lib.hid (S.out.draw hg hC)
            clear hg hC k1 k2
            have BP := Lib.hid S.out.box
            have BR := Lib.hid S.out.res
            have p0 := BP.out.cell 0 (by simp)
            have p1 := BP.out.cell 1 (by simp)
            have p2 := BP.out.cell 2 (by simp)
            have p3 := BP.out.cell 3 (by simp)
            have p4 := BP.out.cell 4 (by simp)
            simp only [List.getElem_cons_zero, List.getElem_cons_succ] at p0 p1 p2 p3 p4
            have x0 := BP.out.froz 0 (by simp)
            have x1 := BP.out.froz 1 (by simp)
            have x2 := BP.out.froz 2 (by simp)
            have x3 := BP.out.froz 3 (by simp)
            have x4 := BP.out.froz 4 (by simp)
            have r0 := BR.out.cell 0 (by simp)
            have r1 := BR.out.cell 1 (by simp)
            have r2 := BR.out.cell 2 (by simp)
            have r3 := BR.out.cell 3 (by simp)
            have r4 := BR.out.cell 4 (by simp)
            simp only [List.getElem_cons_zero, List.getElem_cons_succ] at r0 r1 r2 r3 r4
            have y0 := BR.out.froz 0 (by simp)
            have y1 := BR.out.froz 1 (by simp)
            have y2 := BR.out.froz 2 (by simp)
            have y3 := BR.out.froz 3 (by simp)
            have y4 := BR.out.froz 4 (by simp)
            have lB := BP.out.lt
            have lR := BR.out.lt
            have hRB := S.out.RB
            have S9 := Lib.hid (DSt.set (d' := ⟨kl, false, o, [], 999 - k⟩) S.out 4 (by decide) (.int .i64 (999 - k)) rfl rfl)
            go_wp2_with fail
            refine bodyPost_ret (v := .agg #[.string ⟨kl.toArray⟩, .bool false, .bool o, (.slice none 0 0), .int .i64 (999 - k)]) (by simp [results, Tryz.results88, go_sem, cell_set_at, cell_set_ne, r0, r1, r2, r3, r4]) rfl ?_
            exact DSt.fin (d := ⟨kl, false, o, [], 999 - k⟩) S9.out ⟨hkl.out, by simp, by simp, show I64 (999 - k) from ⟨by omega, by omega⟩⟩ _ _ _ _ _
        case true =>
          go_wp2_with fail
          have hsz := S.out.box.lt
          have hRB0 := S.out.RB
          refine (l3Cells_any b v l _ S.out.cur).mono ?_
          rintro e w1 ⟨u, y, rfl, ho, hsm, hg, hC⟩
          have HSM := Lib.hid hsm
          obtain ⟨ua, uc, rfl⟩ := slice_of ho
          have n1 : (Value.slice ua y.length uc).ownBlock ≠ some w3.heap.size := fun e => by have := (World.ownsRow.lt ho _ e).1; omega
          have n2 : (Value.slice ua y.length uc).ownBlock ≠ some w.heap.size := fun e => by have := (World.ownsRow.lt ho _ e).1; omega
          have hgs := S.out.grown.size
          have S1 := Lib.hid (S.out.draw hg hC)
          have S := Lib.hid (S1.out.setC _ y (ownsF_base ho hgs) n1 n2)
          have BP1 := Lib.hid S1.out.box
          have p0 := BP1.out.cell 0 (by simp)
          have p1 := BP1.out.cell 1 (by simp)
          have p2 := BP1.out.cell 2 (by simp)
          have p3 := BP1.out.cell 3 (by simp)
          have p4 := BP1.out.cell 4 (by simp)
          simp only [List.getElem_cons_zero, List.getElem_cons_succ] at p0 p1 p2 p3 p4
          have x0 := BP1.out.froz 0 (by simp)
          have x1 := BP1.out.froz 1 (by simp)
          have x2 := BP1.out.froz 2 (by simp)
          have x3 := BP1.out.froz 3 (by simp)
          have x4 := BP1.out.froz 4 (by simp)
          have lB := BP1.out.lt
          clear ho hsm hg hC hsz hRB0 n1 n2 hgs
          go_wp2_with fail
          clear p0 p1 p2 p3 p4 x0 x1 x2 x3 x4 lB BP1 S1
          refine (l1Once_any b v l _ _ S.out.cur (by omega) (by omega)).mono ?_
          rintro e w1 ⟨o, rfl, hg, hC⟩
          have S := Lib.hid (S.out.draw hg hC)
          clear hg hC
          cases o
          case false =>
            have BP := Lib.hid S.out.box
            have BR := Lib.hid S.out.res
            have p0 := BP.out.cell 0 (by simp)
            have p1 := BP.out.cell 1 (by simp)
            have p2 := BP.out.cell 2 (by simp)
            have p3 := BP.out.cell 3 (by simp)
            have p4 := BP.out.cell 4 (by simp)
            simp only [List.getElem_cons_zero, List.getElem_cons_succ] at p0 p1 p2 p3 p4
            have x0 := BP.out.froz 0 (by simp)
            have x1 := BP.out.froz 1 (by simp)
            have x2 := BP.out.froz 2 (by simp)
            have x3 := BP.out.froz 3 (by simp)
            have x4 := BP.out.froz 4 (by simp)
            have r0 := BR.out.cell 0 (by simp)
            have r1 := BR.out.cell 1 (by simp)
            have r2 := BR.out.cell 2 (by simp)
            have r3 := BR.out.cell 3 (by simp)
            have r4 := BR.out.cell 4 (by simp)
            simp only [List.getElem_cons_zero, List.getElem_cons_succ] at r0 r1 r2 r3 r4
            have y0 := BR.out.froz 0 (by simp)
            have y1 := BR.out.froz 1 (by simp)
            have y2 := BR.out.froz 2 (by simp)
            have y3 := BR.out.froz 3 (by simp)
            have y4 := BR.out.froz 4 (by simp)
            have lB := BP.out.lt
            have lR := BR.out.lt
            have hRB := S.out.RB
            go_wp2_with fail
            refine bodyPost_ret (v := .agg #[.string ⟨kl.toArray⟩, .bool false, .bool o, (.slice ua y.length uc), .int .i64 cnt]) (by simp [results, Tryz.results88, go_sem, cell_set_at, cell_set_ne, r0, r1, r2, r3, r4]) rfl ?_
            exact DSt.fin (d := ⟨kl, false, o, y, cnt⟩) S.out ⟨hkl.out, HSM.out.1, HSM.out.2, show I64 cnt from ⟨by omega, by omega⟩⟩ _ _ _ _ _
          case true =>
            go_wp2_with fail
            refine (l1Below_any b v l _ _ S.out.cur (by omega) (by omega)).mono ?_
            rintro e w1 ⟨k, rfl, ⟨k0, k1, k2⟩, hg, hC⟩
            have k3 := k2 (by omega)
            have hk9 : IntKind.i64.wrap (999 - k) = 999 - k := by rw [IntKind.wrap_i64]; omega
            have S := Lib.hid (S.out.draw hg hC)
            clear hg hC k1 k2
            have BP := Lib.hid S.out.box
            have BR := Lib.hid S.out.res
            have p0 := BP.out.cell 0 (by simp)
            have p1 := BP.out.cell 1 (by simp)
            have p2 := BP.out.cell 2 (by simp)
            have p3 := BP.out.cell 3 (by simp)
            have p4 := BP.out.cell 4 (by simp)
            simp only [List.getElem_cons_zero, List.getElem_cons_succ] at p0 p1 p2 p3 p4
            have x0 := BP.out.froz 0 (by simp)
            have x1 := BP.out.froz 1 (by simp)
            have x2 := BP.out.froz 2 (by simp)
            have x3 := BP.out.froz 3 (by simp)
            have x4 := BP.out.froz 4 (by simp)
            have r0 := BR.out.cell 0 (by simp)
            have r1 := BR.out.cell 1 (by simp)
            have r2 := BR.out.cell 2 (by simp)
            have r3 := BR.out.cell 3 (by simp)
            have r4 := BR.out.cell 4 (by simp)
            simp only [List.getElem_cons_zero, List.getElem_cons_succ] at r0 r1 r2 r3 r4
            have y0 := BR.out.froz 0 (by simp)
            have y1 := BR.out.froz 1 (by simp)
            have y2 := BR.out.froz 2 (by simp)
            have y3 := BR.out.froz 3 (by simp)
            have y4 := BR.out.froz 4 (by simp)
            have lB := BP.out.lt
            have lR := BR.out.lt
            have hRB := S.out.RB
            have S9 := Lib.hid (DSt.set (d' := ⟨kl, false, o, y, 999 - k⟩) S.out 4 (by decide) (.int .i64 (999 - k)) rfl rfl)
            go_wp2_with fail
            refine bodyPost_ret (v := .agg #[.string ⟨kl.toArray⟩, .bool false, .bool o, (.slice ua y.length uc), .int .i64 (999 - k)]) (by simp [results, Tryz.results88, go_sem, cell_set_at, cell_set_ne, r0, r1, r2, r3, r4]) rfl ?_
            exact DSt.fin (d := ⟨kl, false, o, y, 999 - k⟩) S9.out ⟨hkl.out, HSM.out.1, HSM.out.2, show I64 (999 - k) from ⟨by omega, by omega⟩⟩ _ _ _ _ _
end Go.Proofs.YtandbnpgccpcoaaGreat
/- The draws of chapter 3: cores that may be none. Written by gen/ch3dr.py. -/
namespace Go.Proofs.YtandbnpgccpcoaaGreat
set_option linter.unusedVariables false
set_option linter.unusedSimpArgs false
open Go.RowKit
set_option maxRecDepth 100000 in
set_option maxHeartbeats 6400000 in
theorem l3Any_any (b : Nat) (v : Value) (l : List UInt8) (w : World) (hC : Cur w b v l) :
    Calls Tryz.prog 57 #[.pointer (some ⟨b, 0, none⟩)] w fun e w' => DrawnCore 7 b v l w e w' := by
  have hbl := hC.lt
  have HC0 := Lib.hid (cur_alloc hC (.cells #[.string ⟨#[]⟩, .bool false, .bool false, .slice none 0 0, .int .i64 0] 31))
  have BR0 := Lib.hid (Bx.new w zCoreV 31)
  have HG0 := Lib.hid (grown_alloc (grown_refl w (some b)) (.cells #[.string ⟨#[]⟩, .bool false, .bool false, .slice none 0 0, .int .i64 0] 31))
  clear hC
  go_enter Tryz.func57, Tryz.ntmps57
  go_wp2_with fail
  refine (l3Draw_any b v l _ HC0.out).mono ?_
  rintro e w1 ⟨⟨kd, on, br, y, cnt⟩, cv, rfl, ho, hok, hg, hC⟩
  have HOK := Lib.hid hok
  skip
  have hwl : w.heap.size < w1.heap.size := Nat.lt_of_lt_of_le BR0.out.lt hg.size
  obtain ⟨ua, uc, rfl⟩ := slice_of ho
  have ho1 : OwnsF cCell 66 2 w1 (w.heap.size + 1) (.slice ua y.length uc) y := by simpa using ho
  have S := Lib.hid (show DSt w b v l w.heap.size w1.heap.size ⟨kd, on, br, y, cnt⟩ (.slice ua y.length uc) (w1.alloc (.cells #[.string ⟨kd.toArray⟩, .bool on, .bool br, .slice ua y.length uc, .int .i64 cnt] 31)) from ⟨grown_alloc (grown_trans HG0.out hg) _, cur_alloc hC _, (bx_grownC BR0.out hg (by omega)).alloc _, Bx.new w1 (cCoreV ⟨kd, on, br, y, cnt⟩ (.slice ua y.length uc)) 31, ownsF_alloc (ownsF_base ho1 (by omega)) _, hbl, Nat.le_refl _, hwl, fun e => by have := (World.ownsRow.lt ho1 _ e).2; omega, fun e => by have := (World.ownsRow.lt ho1 _ e).1; omega⟩)
  clear ho ho1 hok hg hC HC0 BR0 HG0
  unfold vCore
  simp only
  go_wp2_with fail
  generalize w1.alloc (.cells #[.string ⟨kd.toArray⟩, .bool on, .bool br, .slice ua y.length uc, .int .i64 cnt] 31) = w2 at *
  refine (l1Below_any b v l _ _ S.out.cur (by omega) (by omega)).mono ?_
  rintro e w3 ⟨k, rfl, ⟨k0, k1, k2⟩, hg, hC⟩
  have S := Lib.hid (S.out.draw hg hC)
  clear hg hC k1 k2
  by_cases e0 : k = 0
  · subst e0
    go_wp2_with fail
    refine (l1Str_new b v l _ _ _ _ _ 9 S.out.cur (by rfl) (by decide) (by decide) (by decide)).mono ?_
    rintro e w4 ⟨z, rfl, hz, hg, hC⟩
    obtain ⟨⟨zl⟩⟩ := z
    have hzl : zl.length ≤ 9 := hz
    have S := Lib.hid (S.out.draw hg hC)
    clear hg hC hz
    have BP := Lib.hid S.out.box
    have BR := Lib.hid S.out.res
    have p0 := BP.out.cell 0 (by simp)
    have p1 := BP.out.cell 1 (by simp)
    have p2 := BP.out.cell 2 (by simp)
    have p3 := BP.out.cell 3 (by simp)
    have p4 := BP.out.cell 4 (by simp)
    simp only [List.getElem_cons_zero, List.getElem_cons_succ] at p0 p1 p2 p3 p4
    have x0 := BP.out.froz 0 (by simp)
    have x1 := BP.out.froz 1 (by simp)
    have x2 := BP.out.froz 2 (by simp)
    have x3 := BP.out.froz 3 (by simp)
    have x4 := BP.out.froz 4 (by simp)
    have r0 := BR.out.cell 0 (by simp)
    have r1 := BR.out.cell 1 (by simp)
    have r2 := BR.out.cell 2 (by simp)
    have r3 := BR.out.cell 3 (by simp)
    have r4 := BR.out.cell 4 (by simp)
    simp only [List.getElem_cons_zero, List.getElem_cons_succ] at r0 r1 r2 r3 r4
    have y0 := BR.out.froz 0 (by simp)
    have y1 := BR.out.froz 1 (by simp)
    have y2 := BR.out.froz 2 (by simp)
    have y3 := BR.out.froz 3 (by simp)
    have y4 := BR.out.froz 4 (by simp)
    have lB := BP.out.lt
    have lR := BR.out.lt
    have hRB := S.out.RB
    have S9 := Lib.hid (DSt.set (d' := ⟨zl, on, br, y, cnt⟩) S.out 0 (by decide) (.string ⟨zl.toArray⟩) rfl rfl)
    go_wp2_with fail
    refine bodyPost_ret (v := .agg #[.string ⟨zl.toArray⟩, .bool on, .bool br, (.slice ua y.length uc), .int .i64 cnt]) (by simp [results, Tryz.results57, go_sem, cell_set_at, cell_set_ne, r0, r1, r2, r3, r4]) rfl ?_
    exact DSt.fin (d := ⟨zl, on, br, y, cnt⟩) S9.out ⟨hzl, Nat.le_succ_of_le HOK.out.2.1, HOK.out.2.2.1, HOK.out.2.2.2⟩ _ _ _ _ _
  have E0 : (k == 0) = false := by simpa using e0
  by_cases e1 : k = 1
  · subst e1
    have BP := Lib.hid S.out.box
    have BR := Lib.hid S.out.res
    have p0 := BP.out.cell 0 (by simp)
    have p1 := BP.out.cell 1 (by simp)
    have p2 := BP.out.cell 2 (by simp)
    have p3 := BP.out.cell 3 (by simp)
    have p4 := BP.out.cell 4 (by simp)
    simp only [List.getElem_cons_zero, List.getElem_cons_succ] at p0 p1 p2 p3 p4
    have x0 := BP.out.froz 0 (by simp)
    have x1 := BP.out.froz 1 (by simp)
    have x2 := BP.out.froz 2 (by simp)
    have x3 := BP.out.froz 3 (by simp)
    have x4 := BP.out.froz 4 (by simp)
    have r0 := BR.out.cell 0 (by simp)
    have r1 := BR.out.cell 1 (by simp)
    have r2 := BR.out.cell 2 (by simp)
    have r3 := BR.out.cell 3 (by simp)
    have r4 := BR.out.cell 4 (by simp)
    simp only [List.getElem_cons_zero, List.getElem_cons_succ] at r0 r1 r2 r3 r4
    have y0 := BR.out.froz 0 (by simp)
    have y1 := BR.out.froz 1 (by simp)
    have y2 := BR.out.froz 2 (by simp)
    have y3 := BR.out.froz 3 (by simp)
    have y4 := BR.out.froz 4 (by simp)
    have lB := BP.out.lt
    have lR := BR.out.lt
    have hRB := S.out.RB
    have S9 := Lib.hid (DSt.set (d' := ⟨kd, true, br, y, cnt⟩) S.out 1 (by decide) (.bool true) rfl rfl)
    go_wp2_with fail
    refine bodyPost_ret (v := .agg #[.string ⟨kd.toArray⟩, .bool true, .bool br, (.slice ua y.length uc), .int .i64 cnt]) (by simp [results, Tryz.results57, go_sem, cell_set_at, cell_set_ne, r0, r1, r2, r3, r4]) rfl ?_
    exact DSt.fin (d := ⟨kd, true, br, y, cnt⟩) S9.out ⟨HOK.out.1, Nat.le_succ_of_le HOK.out.2.1, HOK.out.2.2.1, HOK.out.2.2.2⟩ _ _ _ _ _
  have E1 : (k == 1) = false := by simpa using e1
  by_cases e2 : k = 2
  · subst e2
    have BP := Lib.hid S.out.box
    have BR := Lib.hid S.out.res
    have p0 := BP.out.cell 0 (by simp)
    have p1 := BP.out.cell 1 (by simp)
    have p2 := BP.out.cell 2 (by simp)
    have p3 := BP.out.cell 3 (by simp)
    have p4 := BP.out.cell 4 (by simp)
    simp only [List.getElem_cons_zero, List.getElem_cons_succ] at p0 p1 p2 p3 p4
    have x0 := BP.out.froz 0 (by simp)
    have x1 := BP.out.froz 1 (by simp)
    have x2 := BP.out.froz 2 (by simp)
    have x3 := BP.out.froz 3 (by simp)
    have x4 := BP.out.froz 4 (by simp)
    have r0 := BR.out.cell 0 (by simp)
    have r1 := BR.out.cell 1 (by simp)
    have r2 := BR.out.cell 2 (by simp)
    have r3 := BR.out.cell 3 (by simp)
    have r4 := BR.out.cell 4 (by simp)
    simp only [List.getElem_cons_zero, List.getElem_cons_succ] at r0 r1 r2 r3 r4
    have y0 := BR.out.froz 0 (by simp)
    have y1 := BR.out.froz 1 (by simp)
    have y2 := BR.out.froz 2 (by simp)
    have y3 := BR.out.froz 3 (by simp)
    have y4 := BR.out.froz 4 (by simp)
    have lB := BP.out.lt
    have lR := BR.out.lt
    have hRB := S.out.RB
    have S9 := Lib.hid (DSt.set (d' := ⟨kd, on, true, y, cnt⟩) S.out 2 (by decide) (.bool true) rfl rfl)
    go_wp2_with fail
    refine bodyPost_ret (v := .agg #[.string ⟨kd.toArray⟩, .bool on, .bool true, (.slice ua y.length uc), .int .i64 cnt]) (by simp [results, Tryz.results57, go_sem, cell_set_at, cell_set_ne, r0, r1, r2, r3, r4]) rfl ?_
    exact DSt.fin (d := ⟨kd, on, true, y, cnt⟩) S9.out ⟨HOK.out.1, Nat.le_succ_of_le HOK.out.2.1, HOK.out.2.2.1, HOK.out.2.2.2⟩ _ _ _ _ _
  have E2 : (k == 2) = false := by simpa using e2
  by_cases e3 : k = 3
  · subst e3
    go_wp2_with fail
    have c3 := S.out.box.cell 3 (by simp)
    have S := Lib.hid S.out.drew
    refine region_T (S := fun w' => w'.cell? ⟨w1.heap.size, 3, none⟩ = some (.slice ua y.length uc)) (t := 10) (by kernel_rfl) ?_ (fun hHeld => ?_)
    · exact S.out.box.cell 3 (by simp)
    refine anyT_take (i := 0) (v := ?_) rfl (by kernel_rfl) (by kernel_rfl) (by kernel_rfl) (by kernel_rfl) (by kernel_rfl) (fun _ _ _ h => h) (Or.inl ⟨by rfl, ?_⟩) (by assumption) ?_
    rotate_left
    · intro w hSw; (try dsimp only at hSw); go_simp; with_reducible rfl
    try simp only [Act.put, List.getElem_toArray, List.getElem_cons_zero, List.getElem_cons_succ, List.setIfInBounds_toArray, List.set_cons_zero, List.set_cons_succ]
    refine anyT_take (i := 2) (v := ?_) rfl (by kernel_rfl) (by kernel_rfl) (by kernel_rfl) (by kernel_rfl) (by kernel_rfl) (fun _ _ _ h => h) (Or.inl ⟨by rfl, ?_⟩) (by assumption) ?_
    rotate_left
    · intro w hSw; (try dsimp only at hSw); go_simp; with_reducible rfl
    try simp only [Act.put, List.getElem_toArray, List.getElem_cons_zero, List.getElem_cons_succ, List.setIfInBounds_toArray, List.set_cons_zero, List.set_cons_succ]
    refine anyT_take (i := 4) (v := ?_) rfl (by kernel_rfl) (by kernel_rfl) (by kernel_rfl) (by kernel_rfl) (by kernel_rfl) (fun _ _ _ h => h) (Or.inl ⟨by rfl, ?_⟩) (by assumption) ?_
    rotate_left
    · intro w hSw; (try dsimp only at hSw); go_simp; with_reducible rfl
    try simp only [Act.put, List.getElem_toArray, List.getElem_cons_zero, List.getElem_cons_succ, List.setIfInBounds_toArray, List.set_cons_zero, List.set_cons_succ]
    refine anyT_take (i := 1) (v := ?_) rfl (by kernel_rfl) (by kernel_rfl) (by kernel_rfl) (by kernel_rfl) (by kernel_rfl) (fun _ _ _ h => h) (Or.inl ⟨by rfl, ?_⟩) (by assumption) ?_
    rotate_left
    · intro w hSw; (try dsimp only at hSw); go_simp; with_reducible rfl
    try simp only [Act.put, List.getElem_toArray, List.getElem_cons_zero, List.getElem_cons_succ, List.setIfInBounds_toArray, List.set_cons_zero, List.set_cons_succ]
    refine anyT_only (i := 3) (by kernel_rfl) rfl (fun K hK => ?_)
    go_simp
    go_at_call 91; refine (l1Word_any b v l _ S.out.cur).mono ?_; rintro e w5 ⟨z, rfl, hz, hg, hC⟩; obtain ⟨⟨zl⟩⟩ := z; have hzl : zl.length ≤ 9 := hz; have S := Lib.hid (S.out.draw hg hC); clear hg hC hz
    refine hK.out _ _ ?_ (fun hHeld => ?_)
    · exact S.out.box.cell 3 (by simp)
    clear hK K
    try simp only [Act.put, List.getElem_toArray, List.getElem_cons_zero, List.getElem_cons_succ, List.setIfInBounds_toArray, List.set_cons_zero, List.set_cons_succ]
    refine anyT_only (i := 5) (by kernel_rfl) rfl (fun K hK => ?_)
    go_simp
    go_at_call 92; refine (l1Odd_any b v l _ S.out.cur).mono ?_; rintro e w6 ⟨q, rfl, ⟨q0, q1⟩, hg, hC⟩; have S := Lib.hid (S.out.draw hg hC); clear hg hC
    refine hK.out _ _ ?_ (fun hHeld => ?_)
    · exact S.out.box.cell 3 (by simp)
    clear hK K
    try simp only [Act.put, List.getElem_toArray, List.getElem_cons_zero, List.getElem_cons_succ, List.setIfInBounds_toArray, List.set_cons_zero, List.set_cons_succ]
    refine anyT_take (i := 6) (v := ?_) rfl (by kernel_rfl) (by kernel_rfl) (by kernel_rfl) (by kernel_rfl) (by kernel_rfl) (fun _ _ _ h => h) (Or.inl ⟨by rfl, ?_⟩) (by assumption) ?_
    rotate_left
    · intro w hSw; (try dsimp only at hSw); go_simp; with_reducible rfl
    try simp only [Act.put, List.getElem_toArray, List.getElem_cons_zero, List.getElem_cons_succ, List.setIfInBounds_toArray, List.set_cons_zero, List.set_cons_succ]
    refine anyT_only (i := 7) (by kernel_rfl) rfl (fun K hK => ?_)
    go_simp
    have hba := bx_box w6 (.cells #[.string ⟨zl.toArray⟩, .int .i64 q] 66); have S7 := Lib.hid (S.out.below hba)
    refine hK.out _ _ ?_ (fun hHeld => ?_)
    · exact S7.out.box.cell 3 (by simp)
    clear hK K
    try simp only [Act.put, List.getElem_toArray, List.getElem_cons_zero, List.getElem_cons_succ, List.setIfInBounds_toArray, List.set_cons_zero, List.set_cons_succ]
    refine anyT_only (i := 8) (by kernel_rfl) rfl (fun K hK => ?_)
    refine step_cells rfl (.tmp 23) (.tmp 29) rfl w.heap.size (.slice ua y.length uc) y (⟨zl, q⟩ : CellD) _ w6.heap.size rfl S7.out.own rfl (cell_newC w6 (⟨zl, q⟩ : CellD) _ rfl) (by have := HOK.out.2.1; simp only at this; omega) S7.out.grown.size ?_
    intro u w8 ho hg
    obtain ⟨h1, h2, h3, h4⟩ := S7.out.app hg
    refine hK.out _ _ ?_ (fun hHeld => ?_)
    · exact h4.cell 3 (by simp)
    clear hK K
    try simp only [Act.put, List.getElem_toArray, List.getElem_cons_zero, List.getElem_cons_succ, List.setIfInBounds_toArray, List.set_cons_zero, List.set_cons_succ]
    have HOK2 := Lib.hid (show okDr 7 ⟨kd, on, br, y ++ [(⟨zl, q⟩ : CellD)], cnt⟩ from ⟨HOK.out.1, by have := HOK.out.2.1; simp only at this; simp; omega, fun c hc => by rcases List.mem_append.1 hc with hc | hc; exact HOK.out.2.2.1 c hc; rw [List.mem_singleton.1 hc]; exact ⟨hzl, q0, q1⟩, HOK.out.2.2.2⟩)
    have hpos : 0 < (y ++ [(⟨zl, q⟩ : CellD)]).length := by simp
    generalize y ++ [(⟨zl, q⟩ : CellD)] = yy at *
    obtain ⟨ub, ud, rfl⟩ := slice_of ho
    have hq1 := h4.cell 1 (by simp)
    have hq2 := h3.cell 1 (by simp)
    have n1 := row_not_bool ho hpos hq1
    have n2 := row_not_bool ho hpos hq2
    have S9 := Lib.hid (S7.out.setC2 h1 h2 h3 h4 _ _ ho n1 n2)
    have BP := Lib.hid h4
    have BR := Lib.hid h3
    clear h1 h2 h3 h4 ho hg hq1 hq2 n1 n2
    have p0 := BP.out.cell 0 (by simp)
    have p1 := BP.out.cell 1 (by simp)
    have p2 := BP.out.cell 2 (by simp)
    have p3 := BP.out.cell 3 (by simp)
    have p4 := BP.out.cell 4 (by simp)
    simp only [List.getElem_cons_zero, List.getElem_cons_succ] at p0 p1 p2 p3 p4
    have x0 := BP.out.froz 0 (by simp)
    have x1 := BP.out.froz 1 (by simp)
    have x2 := BP.out.froz 2 (by simp)
    have x3 := BP.out.froz 3 (by simp)
    have x4 := BP.out.froz 4 (by simp)
    have r0 := BR.out.cell 0 (by simp)
    have r1 := BR.out.cell 1 (by simp)
    have r2 := BR.out.cell 2 (by simp)
    have r3 := BR.out.cell 3 (by simp)
    have r4 := BR.out.cell 4 (by simp)
    simp only [List.getElem_cons_zero, List.getElem_cons_succ] at r0 r1 r2 r3 r4
    have y0 := BR.out.froz 0 (by simp)
    have y1 := BR.out.froz 1 (by simp)
    have y2 := BR.out.froz 2 (by simp)
    have y3 := BR.out.froz 3 (by simp)
    have y4 := BR.out.froz 4 (by simp)
    have lB := BP.out.lt
    have lR := BR.out.lt
    have hRB := S9.out.RB
    refine anyT_take (i := 9) (v := ?_) rfl (by kernel_rfl) (by kernel_rfl) (by kernel_rfl) (by kernel_rfl) (by kernel_rfl) (fun _ _ _ h => h) (Or.inl ⟨by rfl, ?_⟩) (by assumption) ?_
    rotate_left
    · intro w hSw; (try dsimp only at hSw); go_simp; with_reducible rfl
    try simp only [Act.put, List.getElem_toArray, List.getElem_cons_zero, List.getElem_cons_succ, List.setIfInBounds_toArray, List.set_cons_zero, List.set_cons_succ]
    refine anyT_tail (by kernel_rfl) rfl (fun K hK => ?_)
    go_simp
    refine hK.out _ _ ?_
    clear hK K
    try simp only [Act.put, List.getElem_toArray, List.getElem_cons_zero, List.getElem_cons_succ, List.setIfInBounds_toArray, List.set_cons_zero, List.set_cons_succ]
    refine anyT_done (by kernel_rfl) ?_ _
    go_wp2_with fail
    refine bodyPost_ret (v := .agg #[.string ⟨kd.toArray⟩, .bool on, .bool br, (.slice ub yy.length ud), .int .i64 cnt]) (by simp [results, Tryz.results57, go_sem, cell_set_at, cell_set_ne, r0, r1, r2, r3, r4]) rfl ?_
    exact DSt.fin (d := ⟨kd, on, br, yy, cnt⟩) S9.out HOK2.out _ _ _ _ _
  have E3 : (k == 3) = false := by simpa using e3
  by_cases e4 : k = 4
  · subst e4
    go_wp2_with fail
    refine (l1Odd_any b v l _ S.out.cur).mono ?_
    rintro e w4 ⟨z, rfl, ⟨z0, z1⟩, hg, hC⟩
    have S := Lib.hid (S.out.draw hg hC)
    clear hg hC
    have BP := Lib.hid S.out.box
    have BR := Lib.hid S.out.res
    have p0 := BP.out.cell 0 (by simp)
    have p1 := BP.out.cell 1 (by simp)
    have p2 := BP.out.cell 2 (by simp)
    have p3 := BP.out.cell 3 (by simp)
    have p4 := BP.out.cell 4 (by simp)
    simp only [List.getElem_cons_zero, List.getElem_cons_succ] at p0 p1 p2 p3 p4
    have x0 := BP.out.froz 0 (by simp)
    have x1 := BP.out.froz 1 (by simp)
    have x2 := BP.out.froz 2 (by simp)
    have x3 := BP.out.froz 3 (by simp)
    have x4 := BP.out.froz 4 (by simp)
    have r0 := BR.out.cell 0 (by simp)
    have r1 := BR.out.cell 1 (by simp)
    have r2 := BR.out.cell 2 (by simp)
    have r3 := BR.out.cell 3 (by simp)
    have r4 := BR.out.cell 4 (by simp)
    simp only [List.getElem_cons_zero, List.getElem_cons_succ] at r0 r1 r2 r3 r4
    have y0 := BR.out.froz 0 (by simp)
    have y1 := BR.out.froz 1 (by simp)
    have y2 := BR.out.froz 2 (by simp)
    have y3 := BR.out.froz 3 (by simp)
    have y4 := BR.out.froz 4 (by simp)
    have lB := BP.out.lt
    have lR := BR.out.lt
    have hRB := S.out.RB
    have S9 := Lib.hid (DSt.set (d' := ⟨kd, on, br, y, z⟩) S.out 4 (by decide) (.int .i64 z) rfl rfl)
    go_wp2_with fail
    refine bodyPost_ret (v := .agg #[.string ⟨kd.toArray⟩, .bool on, .bool br, (.slice ua y.length uc), .int .i64 z]) (by simp [results, Tryz.results57, go_sem, cell_set_at, cell_set_ne, r0, r1, r2, r3, r4]) rfl ?_
    exact DSt.fin (d := ⟨kd, on, br, y, z⟩) S9.out ⟨HOK.out.1, Nat.le_succ_of_le HOK.out.2.1, HOK.out.2.2.1, show I64 z from ⟨z0, z1⟩⟩ _ _ _ _ _
  have E4 : (k == 4) = false := by simpa using e4
  clear e0 e1 e2 e3 e4
  have BP := Lib.hid S.out.box
  have BR := Lib.hid S.out.res
  have p0 := BP.out.cell 0 (by simp)
  have p1 := BP.out.cell 1 (by simp)
  have p2 := BP.out.cell 2 (by simp)
  have p3 := BP.out.cell 3 (by simp)
  have p4 := BP.out.cell 4 (by simp)
  simp only [List.getElem_cons_zero, List.getElem_cons_succ] at p0 p1 p2 p3 p4
  have x0 := BP.out.froz 0 (by simp)
  have x1 := BP.out.froz 1 (by simp)
  have x2 := BP.out.froz 2 (by simp)
  have x3 := BP.out.froz 3 (by simp)
  have x4 := BP.out.froz 4 (by simp)
  have r0 := BR.out.cell 0 (by simp)
  have r1 := BR.out.cell 1 (by simp)
  have r2 := BR.out.cell 2 (by simp)
  have r3 := BR.out.cell 3 (by simp)
  have r4 := BR.out.cell 4 (by simp)
  simp only [List.getElem_cons_zero, List.getElem_cons_succ] at r0 r1 r2 r3 r4
  have y0 := BR.out.froz 0 (by simp)
  have y1 := BR.out.froz 1 (by simp)
  have y2 := BR.out.froz 2 (by simp)
  have y3 := BR.out.froz 3 (by simp)
  have y4 := BR.out.froz 4 (by simp)
  have lB := BP.out.lt
  have lR := BR.out.lt
  have hRB := S.out.RB
  go_wp2_with fail
  refine bodyPost_ret (v := .agg #[.string ⟨kd.toArray⟩, .bool on, .bool br, (.slice ua y.length uc), .int .i64 cnt]) (by simp [results, Tryz.results57, go_sem, cell_set_at, cell_set_ne, r0, r1, r2, r3, r4]) rfl ?_
  exact DSt.fin (d := ⟨kd, on, br, y, cnt⟩) S.out ⟨HOK.out.1, Nat.le_succ_of_le HOK.out.2.1, HOK.out.2.2.1, HOK.out.2.2.2⟩ _ _ _ _ _
end Go.Proofs.YtandbnpgccpcoaaGreat
/- Contracts of chapter 3: the model's FormatCells. -/
namespace Go.Proofs.YtandbnpgccpcoaaGreat
set_option linter.unusedVariables false
open Go.RowKit
theorem cellT_cat (a0 : List UInt8) (z : Nat) : ((⟨a0.toArray⟩ ++ ⟨#[61]⟩ ++ ⟨(numL z).toArray⟩ : ByteArray)).data.toList = cellT ⟨a0, z⟩ := by
  rw [data_app, data_app]; simp [cellT]
theorem cell_cat (w : World) (a0 : List UInt8) (z : Nat) (t : TypeId) (blk : Nat) (h : blk = w.heap.size) : (w.alloc (.cells #[.string (⟨a0.toArray⟩ ++ ⟨#[61]⟩ ++ ⟨(numL z).toArray⟩ : ByteArray)] t)).cell? ⟨blk, 0, none⟩ = some (strV (cellT ⟨a0, z⟩)) := by
  rw [cell_newS _ _ _ _ h, cellT_cat]
set_option maxRecDepth 100000 in
set_option maxHeartbeats 1600000 in
theorem specFormatCells_any (v : Value) (l : List CellD) (w : World) (hx : FlatAt cCell 2 w v l) (hs : ∀ d ∈ l, d.fKey.length ≤ maxLen) :
    Calls Tryz.prog 80 #[v] w fun e w' => e = .returned (.string ⟨(fmtC l).toArray⟩) ∧ Below w.heap.size w w' := by
  have HC := Lib.hid (fun o => specIsCells_any v l (w.alloc o) (hx.below ((Below.refl w.heap.size w).alloc (Nat.le_refl _) o) (Nat.le_refl _)) hs)
  obtain ⟨a, c, rfl, hl⟩ := flatAt_len hx
  have HX := Lib.hid hx
  clear hx hs
  unfold maxLen at hl
  have HA0 := Lib.hid (show ∀ o, Below w.heap.size w (w.alloc o) from fun o => (Below.refl w.heap.size w).alloc (Nat.le_refl _) o)
  cases hc : cellsB l with
  | false =>
    have HF := Lib.hid (show fmtC l = [] by unfold fmtC; rw [hc]; rfl)
    rw [hc] at HC
    clear hc
    go_enter Tryz.func80, Tryz.ntmps80
    go_wp2_with fail
    refine (HC.out _).mono ?_
    rintro e w1 ⟨rfl, hb⟩
    go_wp2_with fail
    go_ret
    exact ⟨ret_str (by rw [HF.out]), (HA0.out _).trans (hb.mono (HA0.out _).size)⟩
  | true =>
    have hm := cellsB_mem hc
    have hl4 := cellsB_len hc
    have HSM := Lib.hid (fmt_small l hm hl4)
    have HM := Lib.hid hm
    have HF0 := Lib.hid (show l = [] → fmtC l = [45] by rintro rfl; rfl)
    have HF := Lib.hid (show l ≠ [] → fmtC l = joinL (l.map cellT) [44] from fun h0 => by unfold fmtC; rw [if_pos hc, if_neg h0])
    rw [hc] at HC
    clear hc hm
    have HO := Lib.hid (owns_new w)
    go_enter Tryz.func80, Tryz.ntmps80
    go_wp2_with fail
    refine (HC.out _).mono ?_
    rintro e w1 ⟨rfl, hb⟩
    have HO1 := Lib.hid (owns_below HO.out hb (Nat.le_refl _))
    have HB := Lib.hid ((HA0.out _).trans (hb.mono (HA0.out _).size))
    have HX1 := Lib.hid (FlatAt.below HX.out HB.out (Nat.le_refl _))
    clear hb
    go_wp2_with fail
    go_loopw [3, 5, 12] (fun ov _ i wr => ∃ k : Nat, k ≤ l.length ∧ i = .int .i64 k ∧ Owns wr w.heap.size ov ((l.take k).map cellT) ∧ Below w.heap.size w wr) (fun _ _ i _ => l.length - (intOf i).toNat)
    case atStart => exact ⟨0, Nat.zero_le _, rfl, HO1.out, HB.out⟩
    case round =>
      obtain ⟨k, hk, rfl, hO, hb⟩ := hrel
      have HO2 := Lib.hid hO
      have HB2 := Lib.hid hb
      have HXr := Lib.hid (FlatAt.below HX.out hb (Nat.le_refl _))
      clear hO hb
      by_cases hlt : k < l.length
      · obtain ⟨b, o, rfl, hbl, hd⟩ := flatAt_cell cCell_len HXr.out k hlt (by decide)
        have d0 := hd 0 (by decide)
        have d1 := hd 1 (by decide)
        clear hd
        have HSN := Lib.hid (map_cellT_snoc l k hlt)
        have hmm := HM.out l[k] (List.getElem_mem hlt)
        obtain ⟨z, hz, hz9⟩ := numB_nat hmm.2
        have HFM := Lib.hid (fun w0 => specFormat_any z w0 (by omega) (by omega))
        have hn8 := nameB_len8 hmm.1
        have hz3 := numL_len hz9
        clear hmm
        generalize l[k] = p at *
        obtain ⟨a0, a1⟩ := p
        simp only [cCell, List.getElem?_cons_zero, List.getElem?_cons_succ, Nat.add_zero] at d0 d1 hz
        subst hz
        have hc1 : ∀ w0, (Op.stringOp .add ⟨a0.toArray⟩ ⟨#[61]⟩).run Tryz.prog w0 = .ok (.string (⟨a0.toArray⟩ ++ ⟨#[61]⟩)) w0 := fun w0 => run_string_add_sum w0 _ _ (by rw [size_strB]; show a0.length + 1 ≤ _; simp only at hn8; omega)
        have hc2 : ∀ w0, (Op.stringOp .add (⟨a0.toArray⟩ ++ ⟨#[61]⟩) ⟨(numL z).toArray⟩).run Tryz.prog w0 = .ok (.string (⟨a0.toArray⟩ ++ ⟨#[61]⟩ ++ ⟨(numL z).toArray⟩)) w0 := fun w0 => run_string_add_sum w0 _ _ (by have h3 := size_strB (numL z); rw [ByteArray.size_append, size_strB]; show a0.length + 1 + _ ≤ _; simp only at hn8; omega)
        have HLT := Lib.hid (show ∀ g, u3.ownBlock = some g → g < wr.heap.size from fun g h => (World.ownsRow.lt HO2.out g h).2)
        go_wp2_with fail
        go_region_held3 (fun w' => w'.cell? ⟨wr.heap.size, 0, none⟩ = some (.string ⟨a0.toArray⟩) ∧ w'.cell? ⟨wr.heap.size, 1, none⟩ = some (.int .i64 z))
          (first
            | go_keep
            | (rw [hb1.cell (p := ⟨wr.heap.size, 0, none⟩) (by simp), hb1.cell (p := ⟨wr.heap.size, 1, none⟩) (by simp)]; assumption)
            | (rw [hg1.cell_far ⟨wr.heap.size, 0, none⟩ (by have := hb1.size; simp at *; omega) (by intro e; have := HLT.out _ e.symm; simp at this), hg1.cell_far ⟨wr.heap.size, 1, none⟩ (by have := hb1.size; simp at *; omega) (by intro e; have := HLT.out _ e.symm; simp at this)]; assumption))
          (first
            | (go_at_call 109; refine (HFM.out _).mono ?_; rintro e w2 ⟨rfl, hb1⟩)
            | (refine step_strs rfl _ _ rfl w.heap.size u3 ((l.take k).map cellT) (cellT ⟨a0, z⟩) _ w2.heap.size rfl (owns_alloc (owns_below (owns_drew (owns_alloc HO2.out _)) hb1 (Nat.le_refl _)) _) rfl (cell_cat _ a0 z _ _ rfl) ?_ ?_ ?_; (simp; omega); (have h1 := hb1.size; have h3 := HB2.out.size; simp at h1 h3; simp; omega); intro v' w4 hO4 hg1))
        have HA := Lib.hid (below_drew ((Below.refl wr.heap.size wr).alloc (Nat.le_refl _) (.cells #[.string ⟨a0.toArray⟩, .int .i64 z] 66)))
        have HA1 := Lib.hid ((HA.out.trans (hb1.mono HA.out.size)).alloc (HA.out.trans (hb1.mono HA.out.size)).size (.cells #[.string (⟨a0.toArray⟩ ++ ⟨#[61]⟩ ++ ⟨(numL z).toArray⟩ : ByteArray)] 9))
        have HA3 := Lib.hid (below_append (HB2.out.trans (HA1.out.mono HB2.out.size)) (owns_alloc (owns_below (owns_drew (owns_alloc HO2.out _)) hb1 (Nat.le_refl _)) _) hg1 (HB2.out.trans (HA1.out.mono HB2.out.size)).size)
        have HO4' := Lib.hid hO4
        rename_i hheld
        clear hb1 hg1 hO4 hheld
        go_wp2_with fail
        exact ⟨⟨k + 1, by omega, by go_num, by rw [HSN.out]; exact HO4'.out, HA3.out⟩, by simp [intOf]; omega⟩
      · have HN := Lib.hid (show (l.take k).map cellT = l.map cellT from by rw [List.take_of_length_le (by omega)])
        have hkl : k = l.length := by omega
        obtain ⟨a', c', e', _⟩ := rowAt_len (owns_row HO2.out (by simp; omega))
        rw [List.length_map, List.length_map, List.length_take, Nat.min_eq_left hk] at e'
        subst e'
        have HJ := Lib.hid (specJoin_any (.slice a' k c') (l.map cellT) ⟨#[44]⟩ wr (by rw [← HN.out]; exact owns_row HO2.out (by simp; omega)) (by have := HSM.out; simp only at *; omega) (by decide))
        by_cases h0 : k = 0
        · have hne : ((k : Int) == 0) = true := by rw [beq_iff_eq]; omega
          have HR := Lib.hid (HF0.out (List.eq_nil_of_length_eq_zero (by omega)))
          clear h0 hkl
          go_wp2_with fail
          go_ret
          exact ⟨ret_str (by rw [HR.out]), HB2.out⟩
        · have hne : ((k : Int) == 0) = false := by rw [beq_eq_false_iff_ne]; omega
          have HR := Lib.hid (HF.out (by intro h; rw [h] at hkl; exact h0 hkl))
          clear h0 hkl
          go_wp2_with fail
          refine HJ.out.mono ?_
          rintro e w2 ⟨rfl, hb⟩
          go_wp2_with fail
          go_ret
          exact ⟨ret_str HR.out.symm, HB2.out.trans (hb.mono HB2.out.size)⟩
end Go.Proofs.YtandbnpgccpcoaaGreat
/- The draws of chapter 3: calls. Written by gen/ch3dk.py. -/
namespace Go.Proofs.YtandbnpgccpcoaaGreat
set_option linter.unusedVariables false
set_option linter.unusedSimpArgs false
open Go.RowKit
def okCl (d : CallD) : Prop := d.fMethod.length ≤ 9 ∧ d.fKey.length ≤ 9 ∧ I64 d.fValue ∧ d.fText.length ≤ 120
def DrawnCall (b : Nat) (v : Value) (l : List UInt8) (w : World) (e : Ending) (w' : World) : Prop := ∃ d : CallD, e = .returned (vCall d) ∧ okCl d ∧ w.grownBy w' (some b) ∧ Cur w' b v l
abbrev zCallV : List Value := [.string ⟨#[]⟩, .string ⟨#[]⟩, .int .i64 0, .string ⟨#[]⟩]
abbrev cCallV (d : CallD) : List Value := [.string ⟨d.fMethod.toArray⟩, .string ⟨d.fKey.toArray⟩, .int .i64 d.fValue, .string ⟨d.fText.toArray⟩]
structure KSt (w : World) (b : Nat) (v : Value) (l : List UInt8) (R B : Nat) (d : CallD) (wx : World) : Prop where
  grown : w.grownBy wx (some b)
  cur : Cur wx b v l
  res : Bx wx R zCallV
  box : Bx wx B (cCallV d)
  bw : b < w.heap.size
  wR : w.heap.size ≤ R
  RB : R < B
theorem KSt.draw {w : World} {b : Nat} {v : Value} {l : List UInt8} {R B : Nat} {d : CallD} {wx w' : World} (h : KSt w b v l R B d wx) (hg : wx.grownBy w' (some b)) (hC : Cur w' b v l) : KSt w b v l R B d w' :=
  ⟨grown_trans h.grown hg, hC, bx_grownC h.res hg (by have := h.bw; have := h.wR; omega), bx_grownC h.box hg (by have := h.bw; have := h.wR; have := h.RB; omega), h.bw, h.wR, h.RB⟩
theorem KSt.set {w : World} {b : Nat} {v : Value} {l : List UInt8} {R B : Nat} {d d' : CallD} {wx : World} (h : KSt w b v l R B d wx) (j : Nat) (hj : j < 4) (u : Value) (hd : (cCallV d).set j u = cCallV d') : KSt w b v l R B d' (wx.setCell ⟨B, j, none⟩ u) :=
  ⟨grown_setO h.grown (by have := h.wR; have := h.RB; omega) j u, cur_setO h.cur (by have := h.bw; have := h.wR; have := h.RB; omega) j u, h.res.other (by have := h.RB; omega) j u, by rw [← hd]; exact h.box.set j hj u, h.bw, h.wR, h.RB⟩
theorem KSt.fin {w : World} {b : Nat} {v : Value} {l : List UInt8} {R B : Nat} {d : CallD} {wx : World} (h : KSt w b v l R B d wx) (hk : okCl d) (u0 u1 u2 u3 : Value) :
    DrawnCall b v l w (.returned (vCall d)) ((((wx.setCell ⟨R, 0, none⟩ u0).setCell ⟨R, 1, none⟩ u1).setCell ⟨R, 2, none⟩ u2).setCell ⟨R, 3, none⟩ u3) :=
  have hb : b < R := Nat.lt_of_lt_of_le h.bw h.wR
  ⟨d, rfl, hk, grown_setO (grown_setO (grown_setO (grown_setO h.grown h.wR 0 u0) h.wR 1 u1) h.wR 2 u2) h.wR 3 u3, cur_setO (cur_setO (cur_setO (cur_setO h.cur hb 0 u0) hb 1 u1) hb 2 u2) hb 3 u3⟩
theorem size_appS (a b : ByteArray) : (a ++ b).size = a.size + b.size := ByteArray.size_append
theorem size_litS (l : List UInt8) : (⟨l.toArray⟩ : ByteArray).size = l.length := by simp [ByteArray.size]
set_option maxHeartbeats 800000 in
theorem l2Method_any (b : Nat) (v : Value) (l : List UInt8) (w : World) (hC : Cur w b v l) :
    Calls Tryz.prog 94 #[.pointer (some ⟨b, 0, none⟩)] w fun e w' => DrawnStr (fun x => x.size ≤ 9) b v l w e w' := by
  have HC0 := Lib.hid hC
  clear hC
  go_enter Tryz.func94, Tryz.ntmps94
  go_wp2_with fail
  refine (l1Once_any b v l _ w HC0.out (by omega) (by omega)).mono ?_
  rintro e w1 ⟨x, rfl, hg, hC⟩
  have HG1 := Lib.hid (hg)
  have HC1 := Lib.hid hC
  clear hg hC
  cases x
  · go_wp2_with fail
    refine (l1Str_new b v l w1 _ _ _ _ 9 HC1.out (by rfl) (by decide) (by decide) (by decide)).mono ?_
    rintro e w2 ⟨x, rfl, hx, hg1, hC1⟩
    have HG := Lib.hid (grown_trans HG1.out hg1)
    have HC2 := Lib.hid hC1
    clear hg1 hC1
    go_wp2_with fail
    go_ret
    exact ⟨_, rfl, hx, HG.out, HC2.out⟩
  · go_wp2_with fail
    refine (l1Str_new b v l w1 _ _ _ _ 9 HC1.out (by rfl) (by decide) (by decide) (by decide)).mono ?_
    rintro e w2 ⟨x, rfl, hx, hg1, hC1⟩
    have HG := Lib.hid (grown_trans HG1.out hg1)
    have HC2 := Lib.hid hC1
    clear hg1 hC1
    go_wp2_with fail
    go_ret
    exact ⟨_, rfl, hx, HG.out, HC2.out⟩
theorem fmtC_len (x : List CellD) : (fmtC x).length ≤ 100 := by
  unfold fmtC
  split
  · rename_i h
    split
    · simp
    · have hc := h
      simp only [cellsB, Bool.and_eq_true, decide_eq_true_eq] at hc
      refine fmt_small x (fun d hd => ?_) hc.1
      obtain ⟨i, hi, rfl⟩ := List.mem_iff_getElem.1 hd
      have := okTo_at x _ i hc.2 hi
      simp only [okAt, Bool.and_eq_true] at this
      rw [getD_at x i hi] at this
      exact this.1
  · simp
set_option maxRecDepth 100000 in
set_option maxHeartbeats 1600000 in
theorem l3Text_any (b : Nat) (v : Value) (l : List UInt8) (w : World) (hC : Cur w b v l) :
    Calls Tryz.prog 121 #[.pointer (some ⟨b, 0, none⟩)] w fun e w' => DrawnStr (fun x => x.size ≤ 120) b v l w e w' := by
  have HC0 := Lib.hid hC
  clear hC
  go_enter Tryz.func121, Tryz.ntmps121
  go_wp2_with fail
  refine (l3Cells_any b v l _ HC0.out).mono ?_
  rintro e w1 ⟨u, y, rfl, ho, hsm, hg, hC⟩
  have HFC := Lib.hid (specFormatCells_any u y w1 (ownsF_at ho (by have := hsm.1; omega)) (fun d hd => by have := (hsm.2 d hd).1; unfold maxLen; omega))
  have HG1 := Lib.hid hg
  have HC1 := Lib.hid hC
  have hfl := fmtC_len y
  generalize fmtC y = ft at *
  obtain ⟨ua, uc, rfl⟩ := slice_of ho
  clear ho hsm hg hC
  go_wp2_with fail
  refine HFC.out.mono ?_
  rintro e w2 ⟨rfl, hb⟩
  have HG2 := Lib.hid (grown_below HG1.out hb HG1.out.size)
  have HC2 := Lib.hid (HC1.out.below hb HC1.out.lt)
  clear hb
  go_wp2_with fail
  refine (l1Below_any b v l _ _ HC2.out (by omega) (by omega)).mono ?_
  rintro e w3 ⟨k, rfl, ⟨k0, k1, k2⟩, hg, hC⟩
  have HG3 := Lib.hid (grown_trans HG2.out hg)
  have HC3 := Lib.hid hC
  clear hg hC k1 k2
  by_cases e0 : k = 0
  · subst e0
    go_wp2_with fail
    refine (l1Str_new b v l _ _ _ _ _ 9 HC3.out (by rfl) (by decide) (by decide) (by decide)).mono ?_
    rintro e w4 ⟨z, rfl, hz, hg, hC⟩
    have HG4 := Lib.hid (grown_trans HG3.out hg)
    have HC4 := Lib.hid hC
    clear hg hC
    go_wp2_with fail
    go_ret
    exact ⟨_, rfl, by show ByteArray.size _ ≤ 120; rw [size_appS, size_litS]; omega, HG4.out, HC4.out⟩
  · have E0 : (k == 0) = false := by simpa using e0
    by_cases e1 : k = 1
    · subst e1
      clear e0 E0
      go_wp2_with fail
      refine (l1Str_new b v l _ _ _ _ _ 30 HC3.out (by rfl) (by decide) (by decide) (by decide)).mono ?_
      rintro e w4 ⟨z, rfl, hz, hg, hC⟩
      have HG4 := Lib.hid (grown_trans HG3.out hg)
      have HC4 := Lib.hid hC
      clear hg hC
      go_wp2_with fail
      go_ret
      exact ⟨_, rfl, by show ByteArray.size _ ≤ 120; omega, HG4.out, HC4.out⟩
    · have E1 : (k == 1) = false := by simpa using e1
      clear e0 e1
      go_wp2_with fail
      go_ret
      exact ⟨_, rfl, by show ByteArray.size _ ≤ 120; rw [size_litS]; omega, HG3.out, HC3.out⟩
set_option maxRecDepth 100000 in
set_option maxHeartbeats 6400000 in
theorem l3Call_any (b : Nat) (v : Value) (l : List UInt8) (w : World) (hC : Cur w b v l) :
    Calls Tryz.prog 93 #[.pointer (some ⟨b, 0, none⟩)] w fun e w' => DrawnCall b v l w e w' := by
  have hbl := hC.lt
  have HC0 := Lib.hid (cur_alloc hC (.cells #[.string ⟨#[]⟩, .string ⟨#[]⟩, .int .i64 0, .string ⟨#[]⟩] 37))
  have BR0 := Lib.hid (Bx.new w zCallV 37)
  have HG0 := Lib.hid (grown_alloc (grown_refl w (some b)) (.cells #[.string ⟨#[]⟩, .string ⟨#[]⟩, .int .i64 0, .string ⟨#[]⟩] 37))
  clear hC
  go_enter Tryz.func93, Tryz.ntmps93
  go_wp2_with fail
  have HST := Lib.hid (l1Str_new b v l (w.alloc (.cells #[.string ⟨#[]⟩, .string ⟨#[]⟩, .int .i64 0, .string ⟨#[]⟩] 37)) #[.string ⟨#[83, 116, 97, 114, 116]⟩, .string ⟨#[83, 116, 97, 114, 116]⟩, .string ⟨#[83, 116, 111, 112]⟩, .string ⟨#[71, 101, 116]⟩, .string ⟨#[71, 101, 116]⟩, .string ⟨#[80, 117, 116]⟩, .string ⟨#[80, 117, 116]⟩, .string ⟨#[84, 101, 108, 108]⟩, .string ⟨#[72, 101, 97, 114]⟩, .string ⟨#[76, 111, 97, 100]⟩, .string ⟨#[83, 97, 118, 101]⟩, .string ⟨#[72, 101, 97, 108]⟩] 9 12 12 9 HC0.out (by rfl) (by decide) (by decide) (by decide))
  rw [show (w.alloc (.cells #[.string ⟨#[]⟩, .string ⟨#[]⟩, .int .i64 0, .string ⟨#[]⟩] 37)).heap.size = w.heap.size + 1 by simp] at HST
  refine HST.out.mono ?_
  rintro e w1 ⟨z, rfl, hz, hg, hC⟩
  obtain ⟨m, rfl⟩ : ∃ m : List UInt8, z = ⟨m.toArray⟩ := ⟨z.data.toList, by cases z; simp⟩
  have hml : m.length ≤ 9 := by rw [size_litS] at hz; exact hz
  have hwl : w.heap.size < w1.heap.size := Nat.lt_of_lt_of_le BR0.out.lt hg.size
  have S := Lib.hid (show KSt w b v l w.heap.size w1.heap.size ⟨m, [], 0, []⟩ (w1.alloc (.cells #[.string ⟨m.toArray⟩, .string ⟨#[]⟩, .int .i64 0, .string ⟨#[]⟩] 37)) from ⟨grown_alloc (grown_trans HG0.out hg) _, cur_alloc hC _, (bx_grownC BR0.out hg (by omega)).alloc _, Bx.new w1 (cCallV ⟨m, [], 0, []⟩) 37, hbl, Nat.le_refl _, hwl⟩)
  have BRw := Lib.hid (bx_grownC BR0.out hg (by omega))
  have HGw := Lib.hid (grown_trans HG0.out hg)
  have HCw := Lib.hid hC
  clear hg hC HC0 BR0 HG0 hz HST
  by_cases e0 : m = [71, 101, 116]
  · subst e0
    go_wp2_with fail
    generalize w1.alloc (.cells #[.string ⟨#[71, 101, 116]⟩, .string ⟨#[]⟩, .int .i64 0, .string ⟨#[]⟩] 37) = w2 at *
    refine (l3Key_any b v l _ S.out.cur).mono ?_
    rintro e w4 ⟨z, rfl, hz, hg, hC⟩
    obtain ⟨⟨zl⟩⟩ := z
    have hzl : zl.length ≤ 9 := hz
    have S := Lib.hid (S.out.draw hg hC)
    clear hg hC hz
    have BP := Lib.hid S.out.box
    have BR := Lib.hid S.out.res
    have p0 := BP.out.cell 0 (by simp)
    have p1 := BP.out.cell 1 (by simp)
    have p2 := BP.out.cell 2 (by simp)
    have p3 := BP.out.cell 3 (by simp)
    simp only [List.getElem_cons_zero, List.getElem_cons_succ] at p0 p1 p2 p3
    have x0 := BP.out.froz 0 (by simp)
    have x1 := BP.out.froz 1 (by simp)
    have x2 := BP.out.froz 2 (by simp)
    have x3 := BP.out.froz 3 (by simp)
    have r0 := BR.out.cell 0 (by simp)
    have r1 := BR.out.cell 1 (by simp)
    have r2 := BR.out.cell 2 (by simp)
    have r3 := BR.out.cell 3 (by simp)
    simp only [List.getElem_cons_zero, List.getElem_cons_succ] at r0 r1 r2 r3
    have y0 := BR.out.froz 0 (by simp)
    have y1 := BR.out.froz 1 (by simp)
    have y2 := BR.out.froz 2 (by simp)
    have y3 := BR.out.froz 3 (by simp)
    have lB := BP.out.lt
    have lR := BR.out.lt
    have hRB := S.out.RB
    have S9 := Lib.hid (KSt.set (d' := ⟨[71, 101, 116], zl, 0, []⟩) S.out 1 (by decide) (.string ⟨zl.toArray⟩) rfl)
    go_wp2_with fail
    refine bodyPost_ret (v := .agg #[.string ⟨#[71, 101, 116]⟩, .string ⟨zl.toArray⟩, .int .i64 0, .string ⟨#[]⟩]) (by simp [results, Tryz.results93, go_sem, cell_set_at, cell_set_ne, r0, r1, r2, r3]) rfl ?_
    exact KSt.fin (d := ⟨[71, 101, 116], zl, 0, []⟩) S9.out ⟨by simp, hzl, (show I64 0 from ⟨by omega, by omega⟩), by simp⟩ _ _ _ _
  have E0 : (m == [71, 101, 116]) = false := by simpa using e0
  by_cases e1 : m = [80, 117, 116]
  · subst e1
    go_wp2_with fail
    generalize w1.alloc (.cells #[.string ⟨#[80, 117, 116]⟩, .string ⟨#[]⟩, .int .i64 0, .string ⟨#[]⟩] 37) = w2 at *
    refine (l3Key_any b v l _ S.out.cur).mono ?_
    rintro e w4 ⟨z, rfl, hz, hg, hC⟩
    obtain ⟨⟨zl⟩⟩ := z
    have hzl : zl.length ≤ 9 := hz
    have S0 := Lib.hid (S.out.draw hg hC)
    clear hg hC hz
    have S1 := Lib.hid (KSt.set (d' := ⟨[80, 117, 116], zl, 0, []⟩) S0.out 1 (by decide) (.string ⟨zl.toArray⟩) rfl)
    have BP := Lib.hid S0.out.box
    have BR := Lib.hid S0.out.res
    have p0 := BP.out.cell 0 (by simp)
    have p1 := BP.out.cell 1 (by simp)
    have p2 := BP.out.cell 2 (by simp)
    have p3 := BP.out.cell 3 (by simp)
    simp only [List.getElem_cons_zero, List.getElem_cons_succ] at p0 p1 p2 p3
    have x0 := BP.out.froz 0 (by simp)
    have x1 := BP.out.froz 1 (by simp)
    have x2 := BP.out.froz 2 (by simp)
    have x3 := BP.out.froz 3 (by simp)
    have r0 := BR.out.cell 0 (by simp)
    have r1 := BR.out.cell 1 (by simp)
    have r2 := BR.out.cell 2 (by simp)
    have r3 := BR.out.cell 3 (by simp)
    simp only [List.getElem_cons_zero, List.getElem_cons_succ] at r0 r1 r2 r3
    have y0 := BR.out.froz 0 (by simp)
    have y1 := BR.out.froz 1 (by simp)
    have y2 := BR.out.froz 2 (by simp)
    have y3 := BR.out.froz 3 (by simp)
    have lB := BP.out.lt
    have lR := BR.out.lt
    have hRB := S0.out.RB
    go_wp2_with fail
    clear BP BR p0 p1 p2 p3 x0 x1 x2 x3 r0 r1 r2 r3 y0 y1 y2 y3 lB lR hRB
    refine (l1Below_any b v l _ _ S1.out.cur (by omega) (by omega)).mono ?_
    rintro e w5 ⟨q, rfl, ⟨q0, q1, q2⟩, hg, hC⟩
    have q3 := q2 (by omega)
    have S := Lib.hid (S1.out.draw hg hC)
    clear hg hC q1 q2 S0 S1
    have BP := Lib.hid S.out.box
    have BR := Lib.hid S.out.res
    have p0 := BP.out.cell 0 (by simp)
    have p1 := BP.out.cell 1 (by simp)
    have p2 := BP.out.cell 2 (by simp)
    have p3 := BP.out.cell 3 (by simp)
    simp only [List.getElem_cons_zero, List.getElem_cons_succ] at p0 p1 p2 p3
    have x0 := BP.out.froz 0 (by simp)
    have x1 := BP.out.froz 1 (by simp)
    have x2 := BP.out.froz 2 (by simp)
    have x3 := BP.out.froz 3 (by simp)
    have r0 := BR.out.cell 0 (by simp)
    have r1 := BR.out.cell 1 (by simp)
    have r2 := BR.out.cell 2 (by simp)
    have r3 := BR.out.cell 3 (by simp)
    simp only [List.getElem_cons_zero, List.getElem_cons_succ] at r0 r1 r2 r3
    have y0 := BR.out.froz 0 (by simp)
    have y1 := BR.out.froz 1 (by simp)
    have y2 := BR.out.froz 2 (by simp)
    have y3 := BR.out.froz 3 (by simp)
    have lB := BP.out.lt
    have lR := BR.out.lt
    have hRB := S.out.RB
    have S9 := Lib.hid (KSt.set (d' := ⟨[80, 117, 116], zl, q, []⟩) S.out 2 (by decide) (.int .i64 q) rfl)
    go_wp2_with fail
    refine bodyPost_ret (v := .agg #[.string ⟨#[80, 117, 116]⟩, .string ⟨zl.toArray⟩, .int .i64 q, .string ⟨#[]⟩]) (by simp [results, Tryz.results93, go_sem, cell_set_at, cell_set_ne, r0, r1, r2, r3]) rfl ?_
    exact KSt.fin (d := ⟨[80, 117, 116], zl, q, []⟩) S9.out ⟨by simp, hzl, (show I64 q from ⟨by omega, by omega⟩), by simp⟩ _ _ _ _
  have E1 : (m == [80, 117, 116]) = false := by simpa using e1
  by_cases e2 : m = [72, 101, 97, 114]
  · subst e2
    go_wp2_with fail
    generalize w1.alloc (.cells #[.string ⟨#[72, 101, 97, 114]⟩, .string ⟨#[]⟩, .int .i64 0, .string ⟨#[]⟩] 37) = w2 at *
    refine (l1Below_any b v l _ _ S.out.cur (by omega) (by omega)).mono ?_
    rintro e w5 ⟨q, rfl, ⟨q0, q1, q2⟩, hg, hC⟩
    have q3 := q2 (by omega)
    have S := Lib.hid (S.out.draw hg hC)
    clear hg hC q1 q2
    have BP := Lib.hid S.out.box
    have BR := Lib.hid S.out.res
    have p0 := BP.out.cell 0 (by simp)
    have p1 := BP.out.cell 1 (by simp)
    have p2 := BP.out.cell 2 (by simp)
    have p3 := BP.out.cell 3 (by simp)
    simp only [List.getElem_cons_zero, List.getElem_cons_succ] at p0 p1 p2 p3
    have x0 := BP.out.froz 0 (by simp)
    have x1 := BP.out.froz 1 (by simp)
    have x2 := BP.out.froz 2 (by simp)
    have x3 := BP.out.froz 3 (by simp)
    have r0 := BR.out.cell 0 (by simp)
    have r1 := BR.out.cell 1 (by simp)
    have r2 := BR.out.cell 2 (by simp)
    have r3 := BR.out.cell 3 (by simp)
    simp only [List.getElem_cons_zero, List.getElem_cons_succ] at r0 r1 r2 r3
    have y0 := BR.out.froz 0 (by simp)
    have y1 := BR.out.froz 1 (by simp)
    have y2 := BR.out.froz 2 (by simp)
    have y3 := BR.out.froz 3 (by simp)
    have lB := BP.out.lt
    have lR := BR.out.lt
    have hRB := S.out.RB
    have S9 := Lib.hid (KSt.set (d' := ⟨[72, 101, 97, 114], [], q, []⟩) S.out 2 (by decide) (.int .i64 q) rfl)
    go_wp2_with fail
    refine bodyPost_ret (v := .agg #[.string ⟨#[72, 101, 97, 114]⟩, .string ⟨#[]⟩, .int .i64 q, .string ⟨#[]⟩]) (by simp [results, Tryz.results93, go_sem, cell_set_at, cell_set_ne, r0, r1, r2, r3]) rfl ?_
    exact KSt.fin (d := ⟨[72, 101, 97, 114], [], q, []⟩) S9.out ⟨by simp, by simp, (show I64 q from ⟨by omega, by omega⟩), by simp⟩ _ _ _ _
  have E2 : (m == [72, 101, 97, 114]) = false := by simpa using e2
  by_cases e3 : m = [76, 111, 97, 100]
  · subst e3
    go_wp2_with fail
    generalize w1.alloc (.cells #[.string ⟨#[76, 111, 97, 100]⟩, .string ⟨#[]⟩, .int .i64 0, .string ⟨#[]⟩] 37) = w2 at *
    refine (l3Text_any b v l _ S.out.cur).mono ?_
    rintro e w4 ⟨z, rfl, hz, hg, hC⟩
    obtain ⟨⟨zl⟩⟩ := z
    have hzl : zl.length ≤ 120 := hz
    have S := Lib.hid (S.out.draw hg hC)
    clear hg hC hz
    have BP := Lib.hid S.out.box
    have BR := Lib.hid S.out.res
    have p0 := BP.out.cell 0 (by simp)
    have p1 := BP.out.cell 1 (by simp)
    have p2 := BP.out.cell 2 (by simp)
    have p3 := BP.out.cell 3 (by simp)
    simp only [List.getElem_cons_zero, List.getElem_cons_succ] at p0 p1 p2 p3
    have x0 := BP.out.froz 0 (by simp)
    have x1 := BP.out.froz 1 (by simp)
    have x2 := BP.out.froz 2 (by simp)
    have x3 := BP.out.froz 3 (by simp)
    have r0 := BR.out.cell 0 (by simp)
    have r1 := BR.out.cell 1 (by simp)
    have r2 := BR.out.cell 2 (by simp)
    have r3 := BR.out.cell 3 (by simp)
    simp only [List.getElem_cons_zero, List.getElem_cons_succ] at r0 r1 r2 r3
    have y0 := BR.out.froz 0 (by simp)
    have y1 := BR.out.froz 1 (by simp)
    have y2 := BR.out.froz 2 (by simp)
    have y3 := BR.out.froz 3 (by simp)
    have lB := BP.out.lt
    have lR := BR.out.lt
    have hRB := S.out.RB
    have S9 := Lib.hid (KSt.set (d' := ⟨[76, 111, 97, 100], [], 0, zl⟩) S.out 3 (by decide) (.string ⟨zl.toArray⟩) rfl)
    go_wp2_with fail
    refine bodyPost_ret (v := .agg #[.string ⟨#[76, 111, 97, 100]⟩, .string ⟨#[]⟩, .int .i64 0, .string ⟨zl.toArray⟩]) (by simp [results, Tryz.results93, go_sem, cell_set_at, cell_set_ne, r0, r1, r2, r3]) rfl ?_
    exact KSt.fin (d := ⟨[76, 111, 97, 100], [], 0, zl⟩) S9.out ⟨by simp, by simp, (show I64 0 from ⟨by omega, by omega⟩), hzl⟩ _ _ _ _
  have E3 : (m == [76, 111, 97, 100]) = false := by simpa using e3
  clear e0 e1 e2 e3
  have r0 := BRw.out.cell 0 (by simp)
  have r1 := BRw.out.cell 1 (by simp)
  have r2 := BRw.out.cell 2 (by simp)
  have r3 := BRw.out.cell 3 (by simp)
  simp only [List.getElem_cons_zero, List.getElem_cons_succ] at r0 r1 r2 r3
  have y0 := BRw.out.froz 0 (by simp)
  have y1 := BRw.out.froz 1 (by simp)
  have y2 := BRw.out.froz 2 (by simp)
  have y3 := BRw.out.froz 3 (by simp)
  have lR := BRw.out.lt
  have hRB := S.out.RB
  go_wp2_with fail
  refine bodyPost_ret (v := .agg #[.string ⟨m.toArray⟩, .string ⟨#[]⟩, .int .i64 0, .string ⟨#[]⟩]) (by simp [results, Tryz.results93, go_sem, past_cell, lR, cell_set_at, cell_set_ne, r0, r1, r2, r3]) rfl ?_
  exact ⟨⟨m, [], 0, []⟩, rfl, ⟨hml, by simp, (show I64 0 from ⟨by omega, by omega⟩), by simp⟩, grown_alloc (grown_setO (grown_setO (grown_setO (grown_setO HGw.out (Nat.le_refl _) 0 _) (Nat.le_refl _) 1 _) (Nat.le_refl _) 2 _) (Nat.le_refl _) 3 _) _, cur_alloc (cur_setO (cur_setO (cur_setO (cur_setO HCw.out hbl 0 _) hbl 1 _) hbl 2 _) hbl 3 _) _⟩
set_option maxRecDepth 100000 in
set_option maxHeartbeats 6400000 in
theorem l3AnyCall_any (b : Nat) (v : Value) (l : List UInt8) (w : World) (hC : Cur w b v l) :
    Calls Tryz.prog 58 #[.pointer (some ⟨b, 0, none⟩)] w fun e w' => DrawnCall b v l w e w' := by
  have hbl := hC.lt
  have HC0 := Lib.hid (cur_alloc hC (.cells #[.string ⟨#[]⟩, .string ⟨#[]⟩, .int .i64 0, .string ⟨#[]⟩] 37))
  have BR0 := Lib.hid (Bx.new w zCallV 37)
  have HG0 := Lib.hid (grown_alloc (grown_refl w (some b)) (.cells #[.string ⟨#[]⟩, .string ⟨#[]⟩, .int .i64 0, .string ⟨#[]⟩] 37))
  clear hC
  go_enter Tryz.func58, Tryz.ntmps58
  go_wp2_with fail
  refine (l3Call_any b v l _ HC0.out).mono ?_
  rintro e w1 ⟨⟨m, k, n, t⟩, rfl, hok, hg, hC⟩
  have HOK := Lib.hid hok
  have hwl : w.heap.size < w1.heap.size := Nat.lt_of_lt_of_le BR0.out.lt hg.size
  have S := Lib.hid (show KSt w b v l w.heap.size w1.heap.size ⟨m, k, n, t⟩ (w1.alloc (.cells #[.string ⟨m.toArray⟩, .string ⟨k.toArray⟩, .int .i64 n, .string ⟨t.toArray⟩] 37)) from ⟨grown_alloc (grown_trans HG0.out hg) _, cur_alloc hC _, (bx_grownC BR0.out hg (by omega)).alloc _, Bx.new w1 (cCallV ⟨m, k, n, t⟩) 37, hbl, Nat.le_refl _, hwl⟩)
  clear hok hg hC HC0 BR0 HG0
  unfold vCall
  simp only
  go_wp2_with fail
  generalize w1.alloc (.cells #[.string ⟨m.toArray⟩, .string ⟨k.toArray⟩, .int .i64 n, .string ⟨t.toArray⟩] 37) = w2 at *
  refine (l1Below_any b v l _ _ S.out.cur (by omega) (by omega)).mono ?_
  rintro e w3 ⟨j, rfl, ⟨j0, j1, j2⟩, hg, hC⟩
  have S := Lib.hid (S.out.draw hg hC)
  clear hg hC j1 j2
  by_cases e0 : j = 0
  · subst e0
    go_wp2_with fail
    refine (l2Method_any b v l _ S.out.cur).mono ?_
    rintro e w4 ⟨z, rfl, hz, hg, hC⟩
    obtain ⟨⟨zl⟩⟩ := z
    have hzl : zl.length ≤ 9 := hz
    have S := Lib.hid (S.out.draw hg hC)
    clear hg hC hz
    have BP := Lib.hid S.out.box
    have BR := Lib.hid S.out.res
    have p0 := BP.out.cell 0 (by simp)
    have p1 := BP.out.cell 1 (by simp)
    have p2 := BP.out.cell 2 (by simp)
    have p3 := BP.out.cell 3 (by simp)
    simp only [List.getElem_cons_zero, List.getElem_cons_succ] at p0 p1 p2 p3
    have x0 := BP.out.froz 0 (by simp)
    have x1 := BP.out.froz 1 (by simp)
    have x2 := BP.out.froz 2 (by simp)
    have x3 := BP.out.froz 3 (by simp)
    have r0 := BR.out.cell 0 (by simp)
    have r1 := BR.out.cell 1 (by simp)
    have r2 := BR.out.cell 2 (by simp)
    have r3 := BR.out.cell 3 (by simp)
    simp only [List.getElem_cons_zero, List.getElem_cons_succ] at r0 r1 r2 r3
    have y0 := BR.out.froz 0 (by simp)
    have y1 := BR.out.froz 1 (by simp)
    have y2 := BR.out.froz 2 (by simp)
    have y3 := BR.out.froz 3 (by simp)
    have lB := BP.out.lt
    have lR := BR.out.lt
    have hRB := S.out.RB
    have S9 := Lib.hid (KSt.set (d' := ⟨zl, k, n, t⟩) S.out 0 (by decide) (.string ⟨zl.toArray⟩) rfl)
    go_wp2_with fail
    refine bodyPost_ret (v := .agg #[.string ⟨zl.toArray⟩, .string ⟨k.toArray⟩, .int .i64 n, .string ⟨t.toArray⟩]) (by simp [results, Tryz.results58, go_sem, cell_set_at, cell_set_ne, r0, r1, r2, r3]) rfl ?_
    exact KSt.fin (d := ⟨zl, k, n, t⟩) S9.out ⟨(Nat.le_trans hzl (by decide)), HOK.out.2.1, HOK.out.2.2.1, HOK.out.2.2.2⟩ _ _ _ _
  have E0 : (j == 0) = false := by simpa using e0
  by_cases e1 : j = 1
  · subst e1
    go_wp2_with fail
    refine (l1Word_any b v l _ S.out.cur).mono ?_
    rintro e w4 ⟨z, rfl, hz, hg, hC⟩
    obtain ⟨⟨zl⟩⟩ := z
    have hzl : zl.length ≤ 9 := hz
    have S := Lib.hid (S.out.draw hg hC)
    clear hg hC hz
    have BP := Lib.hid S.out.box
    have BR := Lib.hid S.out.res
    have p0 := BP.out.cell 0 (by simp)
    have p1 := BP.out.cell 1 (by simp)
    have p2 := BP.out.cell 2 (by simp)
    have p3 := BP.out.cell 3 (by simp)
    simp only [List.getElem_cons_zero, List.getElem_cons_succ] at p0 p1 p2 p3
    have x0 := BP.out.froz 0 (by simp)
    have x1 := BP.out.froz 1 (by simp)
    have x2 := BP.out.froz 2 (by simp)
    have x3 := BP.out.froz 3 (by simp)
    have r0 := BR.out.cell 0 (by simp)
    have r1 := BR.out.cell 1 (by simp)
    have r2 := BR.out.cell 2 (by simp)
    have r3 := BR.out.cell 3 (by simp)
    simp only [List.getElem_cons_zero, List.getElem_cons_succ] at r0 r1 r2 r3
    have y0 := BR.out.froz 0 (by simp)
    have y1 := BR.out.froz 1 (by simp)
    have y2 := BR.out.froz 2 (by simp)
    have y3 := BR.out.froz 3 (by simp)
    have lB := BP.out.lt
    have lR := BR.out.lt
    have hRB := S.out.RB
    have S9 := Lib.hid (KSt.set (d' := ⟨m, zl, n, t⟩) S.out 1 (by decide) (.string ⟨zl.toArray⟩) rfl)
    go_wp2_with fail
    refine bodyPost_ret (v := .agg #[.string ⟨m.toArray⟩, .string ⟨zl.toArray⟩, .int .i64 n, .string ⟨t.toArray⟩]) (by simp [results, Tryz.results58, go_sem, cell_set_at, cell_set_ne, r0, r1, r2, r3]) rfl ?_
    exact KSt.fin (d := ⟨m, zl, n, t⟩) S9.out ⟨HOK.out.1, (Nat.le_trans hzl (by decide)), HOK.out.2.2.1, HOK.out.2.2.2⟩ _ _ _ _
  have E1 : (j == 1) = false := by simpa using e1
  by_cases e2 : j = 2
  · subst e2
    go_wp2_with fail
    refine (l1Odd_any b v l _ S.out.cur).mono ?_
    rintro e w4 ⟨z, rfl, ⟨z0, z1⟩, hg, hC⟩
    have S := Lib.hid (S.out.draw hg hC)
    clear hg hC
    have BP := Lib.hid S.out.box
    have BR := Lib.hid S.out.res
    have p0 := BP.out.cell 0 (by simp)
    have p1 := BP.out.cell 1 (by simp)
    have p2 := BP.out.cell 2 (by simp)
    have p3 := BP.out.cell 3 (by simp)
    simp only [List.getElem_cons_zero, List.getElem_cons_succ] at p0 p1 p2 p3
    have x0 := BP.out.froz 0 (by simp)
    have x1 := BP.out.froz 1 (by simp)
    have x2 := BP.out.froz 2 (by simp)
    have x3 := BP.out.froz 3 (by simp)
    have r0 := BR.out.cell 0 (by simp)
    have r1 := BR.out.cell 1 (by simp)
    have r2 := BR.out.cell 2 (by simp)
    have r3 := BR.out.cell 3 (by simp)
    simp only [List.getElem_cons_zero, List.getElem_cons_succ] at r0 r1 r2 r3
    have y0 := BR.out.froz 0 (by simp)
    have y1 := BR.out.froz 1 (by simp)
    have y2 := BR.out.froz 2 (by simp)
    have y3 := BR.out.froz 3 (by simp)
    have lB := BP.out.lt
    have lR := BR.out.lt
    have hRB := S.out.RB
    have S9 := Lib.hid (KSt.set (d' := ⟨m, k, z, t⟩) S.out 2 (by decide) (.int .i64 z) rfl)
    go_wp2_with fail
    refine bodyPost_ret (v := .agg #[.string ⟨m.toArray⟩, .string ⟨k.toArray⟩, .int .i64 z, .string ⟨t.toArray⟩]) (by simp [results, Tryz.results58, go_sem, cell_set_at, cell_set_ne, r0, r1, r2, r3]) rfl ?_
    exact KSt.fin (d := ⟨m, k, z, t⟩) S9.out ⟨HOK.out.1, HOK.out.2.1, (show I64 z from ⟨z0, z1⟩), HOK.out.2.2.2⟩ _ _ _ _
  have E2 : (j == 2) = false := by simpa using e2
  by_cases e3 : j = 3
  · subst e3
    go_wp2_with fail
    refine (l1Str_new b v l _ _ _ _ _ 9 S.out.cur (by rfl) (by decide) (by decide) (by decide)).mono ?_
    rintro e w4 ⟨z, rfl, hz, hg, hC⟩
    obtain ⟨⟨zl⟩⟩ := z
    have hzl : zl.length ≤ 9 := hz
    have S := Lib.hid (S.out.draw hg hC)
    clear hg hC hz
    have BP := Lib.hid S.out.box
    have BR := Lib.hid S.out.res
    have p0 := BP.out.cell 0 (by simp)
    have p1 := BP.out.cell 1 (by simp)
    have p2 := BP.out.cell 2 (by simp)
    have p3 := BP.out.cell 3 (by simp)
    simp only [List.getElem_cons_zero, List.getElem_cons_succ] at p0 p1 p2 p3
    have x0 := BP.out.froz 0 (by simp)
    have x1 := BP.out.froz 1 (by simp)
    have x2 := BP.out.froz 2 (by simp)
    have x3 := BP.out.froz 3 (by simp)
    have r0 := BR.out.cell 0 (by simp)
    have r1 := BR.out.cell 1 (by simp)
    have r2 := BR.out.cell 2 (by simp)
    have r3 := BR.out.cell 3 (by simp)
    simp only [List.getElem_cons_zero, List.getElem_cons_succ] at r0 r1 r2 r3
    have y0 := BR.out.froz 0 (by simp)
    have y1 := BR.out.froz 1 (by simp)
    have y2 := BR.out.froz 2 (by simp)
    have y3 := BR.out.froz 3 (by simp)
    have lB := BP.out.lt
    have lR := BR.out.lt
    have hRB := S.out.RB
    have S9 := Lib.hid (KSt.set (d' := ⟨m, k, n, zl⟩) S.out 3 (by decide) (.string ⟨zl.toArray⟩) rfl)
    go_wp2_with fail
    refine bodyPost_ret (v := .agg #[.string ⟨m.toArray⟩, .string ⟨k.toArray⟩, .int .i64 n, .string ⟨zl.toArray⟩]) (by simp [results, Tryz.results58, go_sem, cell_set_at, cell_set_ne, r0, r1, r2, r3]) rfl ?_
    exact KSt.fin (d := ⟨m, k, n, zl⟩) S9.out ⟨HOK.out.1, HOK.out.2.1, HOK.out.2.2.1, (Nat.le_trans hzl (by decide))⟩ _ _ _ _
  have E3 : (j == 3) = false := by simpa using e3
  clear e0 e1 e2 e3
  have BP := Lib.hid S.out.box
  have BR := Lib.hid S.out.res
  have p0 := BP.out.cell 0 (by simp)
  have p1 := BP.out.cell 1 (by simp)
  have p2 := BP.out.cell 2 (by simp)
  have p3 := BP.out.cell 3 (by simp)
  simp only [List.getElem_cons_zero, List.getElem_cons_succ] at p0 p1 p2 p3
  have x0 := BP.out.froz 0 (by simp)
  have x1 := BP.out.froz 1 (by simp)
  have x2 := BP.out.froz 2 (by simp)
  have x3 := BP.out.froz 3 (by simp)
  have r0 := BR.out.cell 0 (by simp)
  have r1 := BR.out.cell 1 (by simp)
  have r2 := BR.out.cell 2 (by simp)
  have r3 := BR.out.cell 3 (by simp)
  simp only [List.getElem_cons_zero, List.getElem_cons_succ] at r0 r1 r2 r3
  have y0 := BR.out.froz 0 (by simp)
  have y1 := BR.out.froz 1 (by simp)
  have y2 := BR.out.froz 2 (by simp)
  have y3 := BR.out.froz 3 (by simp)
  have lB := BP.out.lt
  have lR := BR.out.lt
  have hRB := S.out.RB
  go_wp2_with fail
  refine bodyPost_ret (v := .agg #[.string ⟨m.toArray⟩, .string ⟨k.toArray⟩, .int .i64 n, .string ⟨t.toArray⟩]) (by simp [results, Tryz.results58, go_sem, cell_set_at, cell_set_ne, r0, r1, r2, r3]) rfl ?_
  exact KSt.fin (d := ⟨m, k, n, t⟩) S.out ⟨HOK.out.1, HOK.out.2.1, HOK.out.2.2.1, HOK.out.2.2.2⟩ _ _ _ _
end Go.Proofs.YtandbnpgccpcoaaGreat
/- The draws of chapter 3: a core and a call. -/
namespace Go.Proofs.YtandbnpgccpcoaaGreat
set_option linter.unusedVariables false
set_option linter.unusedSimpArgs false
open Go.RowKit
def GivesCC (w : World) (e : Ending) (w' : World) : Prop := ∃ d cv x, e = .returned (.tuple #[vCore d cv, vCall x]) ∧ OwnsF cCell 66 2 w' w.heap.size cv d.fCells ∧ okDr 7 d ∧ okCl x ∧ Below w.heap.size w w'
set_option maxRecDepth 100000 in
set_option maxHeartbeats 3200000 in
theorem drawCallCore_any (v : Value) (l : List UInt8) (w : World) (hR : RowAt w v (Lib.byteCells l)) :
    Calls Tryz.prog 30 #[v] w fun e w' => GivesCC w e w' := by
  obtain ⟨B1, B2, HB0⟩ := bx_start2 w zCoreV zCallV 31 37
  have HR := Lib.hid (RowAt.below hR HB0 (Nat.le_refl _))
  have B1 := Lib.hid B1
  have B2 := Lib.hid B2
  have HB0 := Lib.hid HB0
  have HN := Lib.hid (l1New_any v l _ HR.out)
  clear hR
  go_enter Tryz.func30, Tryz.ntmps30
  go_wp2_with fail
  generalize (w.alloc (.cells #[.string ⟨#[]⟩, .bool false, .bool false, .slice none 0 0, .int .i64 0] 31)).alloc (.cells #[.string ⟨#[]⟩, .string ⟨#[]⟩, .int .i64 0, .string ⟨#[]⟩] 37) = w0 at *
  refine HN.out.mono ?_
  rintro e w1 ⟨b, rfl, hb, hB, hC⟩
  have hl1 := B1.out.lt
  have hl2 := B2.out.lt
  have hbw : w.heap.size + 1 < b := by omega
  have B1 := Lib.hid (B1.out.below hB)
  have B2 := Lib.hid (B2.out.below hB)
  have HB1 := Lib.hid (belS HB0.out hB)
  have HC1 := Lib.hid hC
  clear hB hC hb HB0 HN HR hl1 hl2
  go_wp2_with fail
  refine (l3Any_any b v l _ HC1.out).mono ?_
  rintro e w2 ⟨⟨kd, on, br, y, cnt⟩, cv, rfl, ho, hok, hg, hC⟩
  obtain ⟨ua, uc, rfl⟩ := slice_of ho
  have hgs := HB1.out.size
  have HOK := Lib.hid hok
  have B1 := Lib.hid (bx_grownC B1.out hg (by omega))
  have B2 := Lib.hid (bx_grownC B2.out hg (by omega))
  have HB2 := Lib.hid (below_grown HB1.out hg (by omega) HB1.out.size)
  have HC2 := Lib.hid hC
  have hl2 : w.heap.size + 1 < w1.heap.size := Nat.lt_of_lt_of_le hbw (Nat.le_of_lt HC1.out.lt)
  have hbl : b < w1.heap.size := HC1.out.lt
  have HO := Lib.hid ho
  clear ho hok hg hC HC1 HB1
  unfold vCore
  simp only
  go_wp2_with fail
  refine (l3AnyCall_any b v l _ HC2.out).mono ?_
  rintro e w3 ⟨⟨m, k, n, t⟩, rfl, hokx, hg, hC⟩
  have HOX := Lib.hid hokx
  have B1 := Lib.hid (bx_grownC B1.out hg (by omega))
  have B2 := Lib.hid (bx_grownC B2.out hg (by omega))
  have HB3 := Lib.hid (below_grown HB2.out hg (by omega) HB2.out.size)
  have HO := Lib.hid (ownsF_grownC HO.out hg hbl)
  clear hokx hg hC HC2 HB2
  unfold vCall
  simp only
  have p0 := B1.out.cell 0 (by simp)
  have p1 := B1.out.cell 1 (by simp)
  have p2 := B1.out.cell 2 (by simp)
  have p3 := B1.out.cell 3 (by simp)
  have p4 := B1.out.cell 4 (by simp)
  simp only [List.getElem_cons_zero, List.getElem_cons_succ] at p0 p1 p2 p3 p4
  have x0 := B1.out.froz 0 (by simp)
  have x1 := B1.out.froz 1 (by simp)
  have x2 := B1.out.froz 2 (by simp)
  have x3 := B1.out.froz 3 (by simp)
  have x4 := B1.out.froz 4 (by simp)
  have r0 := B2.out.cell 0 (by simp)
  have r1 := B2.out.cell 1 (by simp)
  have r2 := B2.out.cell 2 (by simp)
  have r3 := B2.out.cell 3 (by simp)
  simp only [List.getElem_cons_zero, List.getElem_cons_succ] at r0 r1 r2 r3
  have z0 := B2.out.froz 0 (by simp)
  have z1 := B2.out.froz 1 (by simp)
  have z2 := B2.out.froz 2 (by simp)
  have z3 := B2.out.froz 3 (by simp)
  have lB := B1.out.lt
  have lR := B2.out.lt
  go_wp2_with fail
  refine bodyPost_ret (v := .tuple #[.agg #[.string ⟨kd.toArray⟩, .bool on, .bool br, .slice ua y.length uc, .int .i64 cnt], .agg #[.string ⟨m.toArray⟩, .string ⟨k.toArray⟩, .int .i64 n, .string ⟨t.toArray⟩]]) (by simp [results, Tryz.results30, go_sem, cell_set_at, cell_set_ne, p0, p1, p2, p3, p4, r0, r1, r2, r3]) rfl ?_
  refine ⟨⟨kd, on, br, y, cnt⟩, _, ⟨m, k, n, t⟩, rfl, ?_, HOK.out, HOX.out, ?_⟩
  · refine ownsF_base (B := w1.heap.size) ?_ (by omega)
    repeat (with_reducible refine ownsF_set ?_ (by simp; try omega))
    exact HO.out
  · repeat (with_reducible refine Below.setCell ?_ (by simp; try omega) _)
    exact HB3.out
end Go.Proofs.YtandbnpgccpcoaaGreat
/- Contracts of chapter 3: the program's ParseCells. -/
namespace Go.Proofs.YtandbnpgccpcoaaGreat
set_option linter.unusedVariables false
open Go.RowKit
def GivesCells (s : List UInt8) (w : World) (e : Ending) (w' : World) : Prop := ∃ v, e = .returned (.tuple #[v, .bool (prsB s)]) ∧ OwnsF cCell 66 2 w' w.heap.size v (prsC s) ∧ Below w.heap.size w w'
theorem rdCs_len (s : List UInt8) : (rdCs s).length ≤ s.length + 1 := by
  unfold rdCs
  split
  · simp
  · have := splitL_len s [44]; simpa using this
theorem rdCs_key (s : List UInt8) : ∀ d ∈ rdCs s, d.fKey.length ≤ s.length := by
  intro d hd
  unfold rdCs at hd
  split at hd
  · simp at hd
  · obtain ⟨p, hp, rfl⟩ := List.mem_map.1 hd
    have h1 := split_part s 44 p hp
    have h2 := (cut_len p [61]).1
    unfold rdC; simp only; omega
theorem prsC_len (s : List UInt8) : (prsC s).length ≤ s.length + 1 := by
  unfold prsC
  split
  · exact rdCs_len s
  · simp
theorem ret_pairV {v : Value} {c d : Bool} (h : c = d) : Ending.returned (.tuple #[v, .bool c]) = .returned (.tuple #[v, .bool d]) := by rw [h]
set_option maxRecDepth 100000 in
set_option maxHeartbeats 1600000 in
theorem implParseCells_any (s : ByteArray) (m : Int) (w : World) (hm : w.cell? ⟨0, 0, none⟩ = some (.int .i64 m)) (hs : s.size ≤ 1048576) :
    Calls Tryz.prog 159 #[.string s] w fun e w' => GivesCells s.data.toList w e w' := by
  have HR := Lib.hid (implReadCells_any s m w hm hs)
  have HLN := Lib.hid (show (rdCs s.data.toList).length ≤ 1048577 by have := rdCs_len s.data.toList; rw [size_list] at this; omega)
  have HK := Lib.hid (show ∀ d ∈ rdCs s.data.toList, d.fKey.length ≤ maxLen from fun d hd => by have := rdCs_key _ d hd; rw [size_list] at this; unfold maxLen; omega)
  have HP := Lib.hid (show prsB s.data.toList = (cellsB (rdCs s.data.toList) && decide (fmtC (rdCs s.data.toList) = s.data.toList)) from rfl)
  have HY := Lib.hid (@prsC_yes s.data.toList)
  have HN := Lib.hid (@prsC_no s.data.toList)
  unfold GivesCells
  generalize prsC s.data.toList = z at *
  generalize prsB s.data.toList = y at *
  generalize rdCs s.data.toList = l at *
  clear hm
  cases hc : cellsB l with
  | false =>
    have HYF := Lib.hid (show y = false by rw [HP.out, hc]; rfl)
    have HZ := Lib.hid (HN.out HYF.out)
    go_enter Tryz.func159, Tryz.ntmps159
    go_wp2_with fail
    refine HR.out.mono ?_
    rintro e w1 ⟨u, rfl, ho, hb⟩
    have HB := Lib.hid hb
    have HIC := Lib.hid (implIsCells_any u l w1 (ownsF_at ho (by have := HLN.out; omega)) HK.out)
    rw [hc] at HIC
    clear ho hb hc
    go_wp2_with fail
    refine HIC.out.mono ?_
    rintro e w2 ⟨rfl, hb⟩
    have HB2 := Lib.hid (HB.out.trans (hb.mono HB.out.size))
    clear hb
    go_wp2_with fail
    go_ret2
    exact ⟨_, ret_pairV HYF.out.symm, by rw [HZ.out]; exact ownsF_base (ownsF_new cCell 66 2 w2) HB2.out.size, HB2.out.alloc HB2.out.size _⟩
  | true =>
    cases hf : decide (fmtC l = s.data.toList) with
    | false =>
      have HYF := Lib.hid (show y = false by rw [HP.out, hc, hf]; rfl)
      have HZ := Lib.hid (HN.out HYF.out)
      have hne : (fmtC l == s.toList) = false := by rw [Lib.toList_data]; simpa using hf
      have hne2 : (fmtC l != s.toList) = true := by rw [bne, hne]; rfl
      clear hf
      go_enter Tryz.func159, Tryz.ntmps159
      go_wp2_with fail
      refine HR.out.mono ?_
      rintro e w1 ⟨u, rfl, ho, hb⟩
      have HB := Lib.hid hb
      have HU := Lib.hid (ownsF_at ho (by have := HLN.out; omega))
      have HIC := Lib.hid (implIsCells_any u l w1 HU.out HK.out)
      rw [hc] at HIC
      clear ho hb hc
      go_wp2_with fail
      refine HIC.out.mono ?_
      rintro e w2 ⟨rfl, hb⟩
      have HB2 := Lib.hid (HB.out.trans (hb.mono HB.out.size))
      have HFC := Lib.hid (implFormatCells_any u l w2 (HU.out.below hb (Nat.le_refl _)) HK.out)
      clear hb
      go_wp2_with fail
      refine HFC.out.mono ?_
      rintro e w3 ⟨rfl, hb⟩
      have HB3 := Lib.hid (HB2.out.trans (hb.mono HB2.out.size))
      clear hb
      go_wp2_with fail
      go_ret2
      exact ⟨_, ret_pairV HYF.out.symm, by rw [HZ.out]; exact ownsF_base (ownsF_new cCell 66 2 w3) HB3.out.size, HB3.out.alloc HB3.out.size _⟩
    | true =>
      have HYF := Lib.hid (show y = true by rw [HP.out, hc, hf]; rfl)
      have HZ := Lib.hid (HY.out HYF.out)
      have hne : (fmtC l == s.toList) = true := by rw [Lib.toList_data]; simpa using hf
      have hne2 : (fmtC l != s.toList) = false := by rw [bne, hne]; rfl
      clear hf
      go_enter Tryz.func159, Tryz.ntmps159
      go_wp2_with fail
      refine HR.out.mono ?_
      rintro e w1 ⟨u, rfl, ho, hb⟩
      have HB := Lib.hid hb
      have HO := Lib.hid ho
      have HU := Lib.hid (ownsF_at ho (by have := HLN.out; omega))
      have HIC := Lib.hid (implIsCells_any u l w1 HU.out HK.out)
      rw [hc] at HIC
      clear ho hb hc
      go_wp2_with fail
      refine HIC.out.mono ?_
      rintro e w2 ⟨rfl, hb⟩
      have HB2 := Lib.hid (HB.out.trans (hb.mono HB.out.size))
      have HO2 := Lib.hid (ownsF_below HO.out hb (Nat.le_refl _))
      have HFC := Lib.hid (implFormatCells_any u l w2 (HU.out.below hb (Nat.le_refl _)) HK.out)
      clear hb
      go_wp2_with fail
      refine HFC.out.mono ?_
      rintro e w3 ⟨rfl, hb⟩
      have HB3 := Lib.hid (HB2.out.trans (hb.mono HB2.out.size))
      have HO3 := Lib.hid (ownsF_below HO2.out hb (Nat.le_refl _))
      clear hb
      go_wp2_with fail
      go_ret2
      exact ⟨_, ret_pairV HYF.out.symm, by rw [HZ.out]; exact HO3.out, HB3.out⟩
end Go.Proofs.YtandbnpgccpcoaaGreat
namespace Go.Proofs.YtandbnpgccpcoaaGreat
set_option linter.unusedVariables false
set_option linter.unusedSimpArgs false
open Go.RowKit
set_option maxHeartbeats 1600000 in
theorem save_c (N b : Nat) (cv : Value) (d : CoreD) (w : World) (h : CoreSt N b cv d w) (hm : d.fCells.length ≤ 4194304) (hs : ∀ c ∈ d.fCells, c.fKey.length ≤ maxLen) :
    Calls Tryz.prog 158 #[.agg #[.pointer (some ⟨b, 0, none⟩)]] w fun e w' => Does N b cv (saveD d) w e w' := by
  have HS := Lib.hid h
  have HB := Lib.hid h.box
  have hl0 := h.box.lt
  have HX := Lib.hid (ownsF_at h.own hm)
  obtain ⟨c0, c1, c2, c3, c4, z1, z2, z3, z4⟩ := h.box
  clear h
  have HD := Lib.hid (fun w' (hw : Below w.heap.size w w') => show CoreBox w' b cv d ∧ Kept2 w w' (some b) none from ⟨HB.out.keep (hw.block b hl0), Kept2.of_below hw⟩)
  have HF := Lib.hid (fun w' (hw : Below w.heap.size w w') => implFormatCells_any cv d.fCells w' (HX.out.below hw (Nat.le_refl _)) hs)
  obtain ⟨kd, on, br, l, cnt⟩ := d
  simp only at *
  have hl1 : b < w.heap.size + 1 := by omega
  have hl2 : b < w.heap.size + 1 + 1 := by omega
  have hn0 : ¬ b = w.heap.size := by omega
  have hn1 : ¬ b = w.heap.size + 1 := by omega
  have hap := @past_cell b
  have HB2 := Lib.hid (show ∀ o1 o2, Below w.heap.size w ((w.alloc o1).alloc o2) from fun o1 o2 => ((Below.refl _ _).alloc (Nat.le_refl _) _).alloc (by simp) _)
  cases br with
  | true =>
    go_enter Tryz.func158, Tryz.ntmps158
    go_wp2_with fail
    refine bodyPost_ret (v := vReply (rC 3)) (by simp [results, Tryz.results158, go_sem, vReply, rC, rV, rT]) rfl ?_
    exact does_of (d' := ⟨kd, on, true, l, cnt⟩) (r := rC 3) HS.out (HD.out _ (HB2.out _ _)).1 rfl (HD.out _ (HB2.out _ _)).2 rfl rfl
  | false =>
    have HE := Lib.hid (show saveD ⟨kd, on, false, l, cnt⟩ = (⟨kd, on, false, l, cnt⟩, rT (fmtC l)) from rfl)
    generalize fmtC l = t at *
    go_enter Tryz.func158, Tryz.ntmps158
    go_wp2_with fail
    refine (HF.out _ (HB2.out _ _)).mono ?_
    rintro e w1 ⟨rfl, hb⟩
    have HB3 := Lib.hid ((HB2.out _ _).trans (hb.mono (HB2.out _ _).size))
    obtain ⟨hcc, hff⟩ := bcell hb
    simp at hcc hff
    have hsz := hb.size
    simp at hsz
    clear hb
    go_wp2_with fail
    refine bodyPost_ret (v := vReply (rT t)) (by simp [results, Tryz.results158, go_sem, vReply, rC, rV, rT, cell_set_at, cell_set_ne, hcc]) rfl ?_
    refine does_of (d' := ⟨kd, on, false, l, cnt⟩) (r := rT t) HS.out ?_ rfl ?_ HE.out rfl
    · exact (HD.out _ (by repeat (first | with_reducible exact HB3.out | with_reducible refine Below.setCell ?_ (by simp; try omega) _)) ).1
    · exact (HD.out _ (by repeat (first | with_reducible exact HB3.out | with_reducible refine Below.setCell ?_ (by simp; try omega) _)) ).2
set_option maxHeartbeats 1600000 in
theorem load_c (N b : Nat) (cv : Value) (d : CoreD) (t : List UInt8) (m : Int) (w : World) (h : CoreSt N b cv d w) (hN : N ≤ w.heap.size) (hM : w.cell? ⟨0, 0, none⟩ = some (.int .i64 m)) (ht : t.length ≤ 1048576) :
    Calls Tryz.prog 157 #[.agg #[.pointer (some ⟨b, 0, none⟩)], .string ⟨t.toArray⟩] w fun e w' => Does N b cv (loadD d t) w e w' := by
  have HS := Lib.hid h
  have HB := Lib.hid h.box
  have hl0 := h.box.lt
  have hge := h.ge
  obtain ⟨c0, c1, c2, c3, c4, z1, z2, z3, z4⟩ := h.box
  clear h
  have HD := Lib.hid (fun w' (hw : Below w.heap.size w w') => show CoreBox w' b cv d ∧ Kept2 w w' (some b) none from ⟨HB.out.keep (hw.block b hl0), Kept2.of_below hw⟩)
  have hML := World.block_lt_of_cell? w _ hM
  simp only at hML
  have HF := Lib.hid (fun w' (hw : Below w.heap.size w w') => implParseCells_any ⟨t.toArray⟩ m w' ((hw.cell (p := ⟨0, 0, none⟩) hML).trans hM) (by rw [← size_list]; simpa using ht))
  clear hM
  unfold GivesCells at HF
  simp only [List.toList_toArray] at HF
  have HE := Lib.hid (show d.fBroken = false → loadD d t = if prsB t = true then ({ d with fCells := prsC t }, rV (prsC t).length) else (d, rC 6) from fun h => by unfold loadD; rw [h]; rfl)
  have hE3 := Lib.hid (show d.fBroken = true → loadD d t = (d, rC 3) from fun h => by unfold loadD; rw [h]; rfl)
  generalize loadD d t = out at *
  generalize prsB t = q at *
  generalize prsC t = l2 at *
  obtain ⟨kd, on, br, l, cnt⟩ := d
  simp only at *
  have hl1 : b < w.heap.size + 1 := by omega
  have hl2 : b < w.heap.size + 1 + 1 := by omega
  have hn0 : ¬ b = w.heap.size := by omega
  have hn1 : ¬ b = w.heap.size + 1 := by omega
  have hm0 : ¬ w.heap.size = b := by omega
  have hm1 : ¬ w.heap.size + 1 = b := by omega
  have hap := @past_cell b
  have haf := @past_frozen b
  have HB2 := Lib.hid (show ∀ o1 o2, Below w.heap.size w ((w.alloc o1).alloc o2) from fun o1 o2 => ((Below.refl _ _).alloc (Nat.le_refl _) _).alloc (by simp) _)
  cases br with
  | true =>
    go_enter Tryz.func157, Tryz.ntmps157
    go_wp2_with fail
    refine bodyPost_ret (v := vReply (rC 3)) (by simp [results, Tryz.results157, go_sem, vReply, rC, rV, rT]) rfl ?_
    exact does_of (d' := ⟨kd, on, true, l, cnt⟩) (r := rC 3) HS.out (HD.out _ (HB2.out _ _)).1 rfl (HD.out _ (HB2.out _ _)).2 (hE3.out (by first | rfl | trivial)) rfl
  | false =>
    have HE1 := Lib.hid (HE.out (by first | rfl | trivial))
    clear HE hE3
    go_enter Tryz.func157, Tryz.ntmps157
    go_wp2_with fail
    refine (HF.out _ (HB2.out _ _)).mono ?_
    rintro e w1 ⟨v, rfl, ho, hb⟩
    have HO := Lib.hid (show OwnsF cCell 66 2 w1 (w.heap.size + 1 + 1) v l2 from by simpa using ho)
    have HB3 := Lib.hid ((HB2.out _ _).trans (hb.mono (HB2.out _ _).size))
    obtain ⟨hcc, hff⟩ := bcell hb
    simp at hcc hff
    have hsz := hb.size
    simp at hsz
    clear hb ho
    cases q with
    | true =>
      have hvl : ∃ va vc, v = .slice va l2.length vc := by
        rcases HO.out.2 with ⟨rfl, hn⟩ | ⟨g, cap, cur, rfl, _⟩
        · exact ⟨none, 0, by rw [hn]⟩
        · exact ⟨_, _, rfl⟩
      obtain ⟨va, vc, rfl⟩ := hvl
      go_wp2_with fail
      refine bodyPost_ret (v := vReply (rV l2.length)) (by simp [results, Tryz.results157, go_sem, vReply, rC, rV, rT, cell_set_at, cell_set_ne, hcc]) rfl ?_
      rw [HE1.out]
      refine ⟨rfl, .slice va l2.length vc, ⟨?_, ?_, ?_, hge⟩, ?_⟩
      · show CoreBox _ b _ ⟨kd, on, false, l2, cnt⟩
        repeat (first | with_reducible refine CoreBox.s3 (cv0 := cv) (l0 := l) ?_ _ _ | with_reducible refine CoreBox.so ?_ _ _ (by simp; try omega))
        exact (HD.out _ HB3.out).1
      · refine ownsF_base (B := w.heap.size + 1 + 1) ?_ (by omega)
        repeat (with_reducible refine ownsF_set ?_ (by simp; try omega))
        exact HO.out
      · intro e
        have := (World.ownsRow.lt HO.out b e).1
        omega
      · have k0 := Kept2.of_below (r1 := some b) (r2 := Value.ownBlock cv) HB3.out
        repeat (with_reducible refine Kept2.set ?_ _ ?_)
        · exact k0
        all_goals (first | exact Or.inr (Or.inl rfl) | (left; simp; try omega))
    | false =>
      go_wp2_with fail
      refine bodyPost_ret (v := vReply (rC 6)) (by simp [results, Tryz.results157, go_sem, vReply, rC, rV, rT, cell_set_at, cell_set_ne, hcc]) rfl ?_
      refine does_of (d' := ⟨kd, on, false, l, cnt⟩) (r := rC 6) HS.out ?_ rfl ?_ (by rw [HE1.out]; rfl) rfl
      · exact (HD.out _ (by repeat (first | with_reducible exact HB3.out | with_reducible refine Below.setCell ?_ (by simp; try omega) _)) ).1
      · exact (HD.out _ (by repeat (first | with_reducible exact HB3.out | with_reducible refine Below.setCell ?_ (by simp; try omega) _)) ).2
end Go.Proofs.YtandbnpgccpcoaaGreat
