/- FnPartWants: a call of a part fails its assertion exactly if the part does not offer what it wants, and changes nothing then, at every code that is drawn from. No condition. -/
import Derived.Test.YtcpbikilgacdlaaGreatPartWantsFnM2
import Derived.Test.YtcpbikilgacdlaaGreatPartWantsFnM1
import Derived.Deep.CutRange
import Derived.Test.YtcpbikilgacdlaaGreatPartWantsFnM0
namespace Go.Proofs.YtcpbikilgacdlaaGreat
set_option linter.unusedVariables false
set_option linter.unusedSimpArgs false
open Go.RowKit
set_option maxRecDepth 100000 in
set_option maxHeartbeats 6400000 in
theorem l3Any_any (b : Nat) (v : Value) (l : List UInt8) (w : World) (hC : Cur w b v l) :
    Calls Tryz.prog 125 #[.pointer (some ⟨b, 0, none⟩)] w fun e w' => DrawnCore 7 b v l w e w' := by
  have hbl := hC.lt
  have HC0 := Lib.hid (cur_alloc hC (.cells #[.string ⟨#[]⟩, .bool false, .bool false, .slice none 0 0, .int .i64 0] 34))
  have BR0 := Lib.hid (Bx.new w zCoreV 34)
  have HG0 := Lib.hid (grown_alloc (grown_refl w (some b)) (.cells #[.string ⟨#[]⟩, .bool false, .bool false, .slice none 0 0, .int .i64 0] 34))
  clear hC
  go_enter Tryz.func125, Tryz.ntmps125
  go_wp2_with fail
  refine (l3Draw_any b v l _ HC0.out).mono ?_
  rintro e w1 ⟨⟨kd, on, br, y, cnt⟩, cv, rfl, ho, hok, hg, hC⟩
  have HOK := Lib.hid hok
  skip
  have hwl : w.heap.size < w1.heap.size := Nat.lt_of_lt_of_le BR0.out.lt hg.size
  obtain ⟨ua, uc, rfl⟩ := slice_of ho
  have ho1 : OwnsF cCell 139 2 w1 (w.heap.size + 1) (.slice ua y.length uc) y := by simpa using ho
  have S := Lib.hid (show DSt w b v l w.heap.size w1.heap.size ⟨kd, on, br, y, cnt⟩ (.slice ua y.length uc) (w1.alloc (.cells #[.string ⟨kd.toArray⟩, .bool on, .bool br, .slice ua y.length uc, .int .i64 cnt] 34)) from ⟨grown_alloc (grown_trans HG0.out hg) _, cur_alloc hC _, (bx_grownC BR0.out hg (by omega)).alloc _, Bx.new w1 (cCoreV ⟨kd, on, br, y, cnt⟩ (.slice ua y.length uc)) 34, ownsF_alloc (ownsF_base ho1 (by omega)) _, hbl, Nat.le_refl _, hwl, fun e => by have := (World.ownsRow.lt ho1 _ e).2; omega, fun e => by have := (World.ownsRow.lt ho1 _ e).1; omega⟩)
  clear ho ho1 hok hg hC HC0 BR0 HG0
  unfold vCore
  simp only
  go_wp2_with fail
  generalize w1.alloc (.cells #[.string ⟨kd.toArray⟩, .bool on, .bool br, .slice ua y.length uc, .int .i64 cnt] 34) = w2 at *
  refine (l1Below_any b v l _ _ S.out.cur (by omega) (by omega)).mono ?_
  rintro e w3 ⟨k, rfl, ⟨k0, k1, k2⟩, hg, hC⟩
  have S := Lib.hid (S.out.draw hg hC)
  clear hg hC k1 k2
  by_cases e0 : k = 0
  · subst e0
    go_wp2_with fail
    refine (l1Str_new b v l _ _ _ _ _ 9 S.out.cur (by rfl) (by decide) (by decide) (by decide)).mono ?_
    rintro e w4 ⟨z, rfl, hz, hg, hC⟩
    obtain ⟨⟨zl⟩⟩ := z
    have hzl : zl.length ≤ 9 := hz
    have S := Lib.hid (S.out.draw hg hC)
    clear hg hC hz
    have BP := Lib.hid S.out.box
    have BR := Lib.hid S.out.res
    have p0 := BP.out.cell 0 (by simp)
    have p1 := BP.out.cell 1 (by simp)
    have p2 := BP.out.cell 2 (by simp)
    have p3 := BP.out.cell 3 (by simp)
    have p4 := BP.out.cell 4 (by simp)
    simp only [List.getElem_cons_zero, List.getElem_cons_succ] at p0 p1 p2 p3 p4
    have x0 := BP.out.froz 0 (by simp)
    have x1 := BP.out.froz 1 (by simp)
    have x2 := BP.out.froz 2 (by simp)
    have x3 := BP.out.froz 3 (by simp)
    have x4 := BP.out.froz 4 (by simp)
    have r0 := BR.out.cell 0 (by simp)
    have r1 := BR.out.cell 1 (by simp)
    have r2 := BR.out.cell 2 (by simp)
    have r3 := BR.out.cell 3 (by simp)
    have r4 := BR.out.cell 4 (by simp)
    simp only [List.getElem_cons_zero, List.getElem_cons_succ] at r0 r1 r2 r3 r4
    have y0 := BR.out.froz 0 (by simp)
    have y1 := BR.out.froz 1 (by simp)
    have y2 := BR.out.froz 2 (by simp)
    have y3 := BR.out.froz 3 (by simp)
    have y4 := BR.out.froz 4 (by simp)
    have lB := BP.out.lt
    have lR := BR.out.lt
    have hRB := S.out.RB
    have S9 := Lib.hid (DSt.set (d' := ⟨zl, on, br, y, cnt⟩) S.out 0 (by decide) (.string ⟨zl.toArray⟩) rfl rfl)
    go_wp2_with fail
    refine bodyPost_ret (v := .agg #[.string ⟨zl.toArray⟩, .bool on, .bool br, (.slice ua y.length uc), .int .i64 cnt]) (by simp [results, Tryz.results125, go_sem, cell_set_at, cell_set_ne, r0, r1, r2, r3, r4]) rfl ?_
    exact DSt.fin (d := ⟨zl, on, br, y, cnt⟩) S9.out ⟨hzl, Nat.le_succ_of_le HOK.out.2.1, HOK.out.2.2.1, HOK.out.2.2.2⟩ _ _ _ _ _
  have E0 : (k == 0) = false := by simpa using e0
  by_cases e1 : k = 1
  · subst e1
    have BP := Lib.hid S.out.box
    have BR := Lib.hid S.out.res
    have p0 := BP.out.cell 0 (by simp)
    have p1 := BP.out.cell 1 (by simp)
    have p2 := BP.out.cell 2 (by simp)
    have p3 := BP.out.cell 3 (by simp)
    have p4 := BP.out.cell 4 (by simp)
    simp only [List.getElem_cons_zero, List.getElem_cons_succ] at p0 p1 p2 p3 p4
    have x0 := BP.out.froz 0 (by simp)
    have x1 := BP.out.froz 1 (by simp)
    have x2 := BP.out.froz 2 (by simp)
    have x3 := BP.out.froz 3 (by simp)
    have x4 := BP.out.froz 4 (by simp)
    have r0 := BR.out.cell 0 (by simp)
    have r1 := BR.out.cell 1 (by simp)
    have r2 := BR.out.cell 2 (by simp)
    have r3 := BR.out.cell 3 (by simp)
    have r4 := BR.out.cell 4 (by simp)
    simp only [List.getElem_cons_zero, List.getElem_cons_succ] at r0 r1 r2 r3 r4
    have y0 := BR.out.froz 0 (by simp)
    have y1 := BR.out.froz 1 (by simp)
    have y2 := BR.out.froz 2 (by simp)
    have y3 := BR.out.froz 3 (by simp)
    have y4 := BR.out.froz 4 (by simp)
    have lB := BP.out.lt
    have lR := BR.out.lt
    have hRB := S.out.RB
    have S9 := Lib.hid (DSt.set (d' := ⟨kd, true, br, y, cnt⟩) S.out 1 (by decide) (.bool true) rfl rfl)
    go_wp2_with fail
    refine bodyPost_ret (v := .agg #[.string ⟨kd.toArray⟩, .bool true, .bool br, (.slice ua y.length uc), .int .i64 cnt]) (by simp [results, Tryz.results125, go_sem, cell_set_at, cell_set_ne, r0, r1, r2, r3, r4]) rfl ?_
    exact DSt.fin (d := ⟨kd, true, br, y, cnt⟩) S9.out ⟨HOK.out.1, Nat.le_succ_of_le HOK.out.2.1, HOK.out.2.2.1, HOK.out.2.2.2⟩ _ _ _ _ _
  have E1 : (k == 1) = false := by simpa using e1
  by_cases e2 : k = 2
  · subst e2
    have BP := Lib.hid S.out.box
    have BR := Lib.hid S.out.res
    have p0 := BP.out.cell 0 (by simp)
    have p1 := BP.out.cell 1 (by simp)
    have p2 := BP.out.cell 2 (by simp)
    have p3 := BP.out.cell 3 (by simp)
    have p4 := BP.out.cell 4 (by simp)
    simp only [List.getElem_cons_zero, List.getElem_cons_succ] at p0 p1 p2 p3 p4
    have x0 := BP.out.froz 0 (by simp)
    have x1 := BP.out.froz 1 (by simp)
    have x2 := BP.out.froz 2 (by simp)
    have x3 := BP.out.froz 3 (by simp)
    have x4 := BP.out.froz 4 (by simp)
    have r0 := BR.out.cell 0 (by simp)
    have r1 := BR.out.cell 1 (by simp)
    have r2 := BR.out.cell 2 (by simp)
    have r3 := BR.out.cell 3 (by simp)
    have r4 := BR.out.cell 4 (by simp)
    simp only [List.getElem_cons_zero, List.getElem_cons_succ] at r0 r1 r2 r3 r4
    have y0 := BR.out.froz 0 (by simp)
    have y1 := BR.out.froz 1 (by simp)
    have y2 := BR.out.froz 2 (by simp)
    have y3 := BR.out.froz 3 (by simp)
    have y4 := BR.out.froz 4 (by simp)
    have lB := BP.out.lt
    have lR := BR.out.lt
    have hRB := S.out.RB
    have S9 := Lib.hid (DSt.set (d' := ⟨kd, on, true, y, cnt⟩) S.out 2 (by decide) (.bool true) rfl rfl)
    go_wp2_with fail
    refine bodyPost_ret (v := .agg #[.string ⟨kd.toArray⟩, .bool on, .bool true, (.slice ua y.length uc), .int .i64 cnt]) (by simp [results, Tryz.results125, go_sem, cell_set_at, cell_set_ne, r0, r1, r2, r3, r4]) rfl ?_
    exact DSt.fin (d := ⟨kd, on, true, y, cnt⟩) S9.out ⟨HOK.out.1, Nat.le_succ_of_le HOK.out.2.1, HOK.out.2.2.1, HOK.out.2.2.2⟩ _ _ _ _ _
  have E2 : (k == 2) = false := by simpa using e2
  by_cases e3 : k = 3
  · subst e3
    go_wp2_with fail
    have c3 := S.out.box.cell 3 (by simp)
    have S := Lib.hid S.out.drew
    refine region_T (S := fun w' => w'.cell? ⟨w1.heap.size, 3, none⟩ = some (.slice ua y.length uc)) (t := 10) (by kernel_rfl) ?_ (fun hHeld => ?_)
    · exact S.out.box.cell 3 (by simp)
    refine anyT_take (i := 0) (v := ?_) rfl (by kernel_rfl) (by kernel_rfl) (by kernel_rfl) (by kernel_rfl) (by kernel_rfl) (fun _ _ _ h => h) (Or.inl ⟨by rfl, ?_⟩) (by assumption) ?_
    rotate_left
    · intro w hSw; (try dsimp only at hSw); go_simp; with_reducible rfl
    try simp only [Act.put, List.getElem_toArray, List.getElem_cons_zero, List.getElem_cons_succ, List.setIfInBounds_toArray, List.set_cons_zero, List.set_cons_succ]
    refine anyT_take (i := 2) (v := ?_) rfl (by kernel_rfl) (by kernel_rfl) (by kernel_rfl) (by kernel_rfl) (by kernel_rfl) (fun _ _ _ h => h) (Or.inl ⟨by rfl, ?_⟩) (by assumption) ?_
    rotate_left
    · intro w hSw; (try dsimp only at hSw); go_simp; with_reducible rfl
    try simp only [Act.put, List.getElem_toArray, List.getElem_cons_zero, List.getElem_cons_succ, List.setIfInBounds_toArray, List.set_cons_zero, List.set_cons_succ]
    refine anyT_take (i := 4) (v := ?_) rfl (by kernel_rfl) (by kernel_rfl) (by kernel_rfl) (by kernel_rfl) (by kernel_rfl) (fun _ _ _ h => h) (Or.inl ⟨by rfl, ?_⟩) (by assumption) ?_
    rotate_left
    · intro w hSw; (try dsimp only at hSw); go_simp; with_reducible rfl
    try simp only [Act.put, List.getElem_toArray, List.getElem_cons_zero, List.getElem_cons_succ, List.setIfInBounds_toArray, List.set_cons_zero, List.set_cons_succ]
    refine anyT_take (i := 1) (v := ?_) rfl (by kernel_rfl) (by kernel_rfl) (by kernel_rfl) (by kernel_rfl) (by kernel_rfl) (fun _ _ _ h => h) (Or.inl ⟨by rfl, ?_⟩) (by assumption) ?_
    rotate_left
    · intro w hSw; (try dsimp only at hSw); go_simp; with_reducible rfl
    try simp only [Act.put, List.getElem_toArray, List.getElem_cons_zero, List.getElem_cons_succ, List.setIfInBounds_toArray, List.set_cons_zero, List.set_cons_succ]
    refine anyT_only (i := 3) (by kernel_rfl) rfl (fun K hK => ?_)
    go_simp
    go_at_call 159; refine (l1Word_any b v l _ S.out.cur).mono ?_; rintro e w5 ⟨z, rfl, hz, hg, hC⟩; obtain ⟨⟨zl⟩⟩ := z; have hzl : zl.length ≤ 9 := hz; have S := Lib.hid (S.out.draw hg hC); clear hg hC hz
    refine hK.out _ _ ?_ (fun hHeld => ?_)
    · exact S.out.box.cell 3 (by simp)
    clear hK K
    try simp only [Act.put, List.getElem_toArray, List.getElem_cons_zero, List.getElem_cons_succ, List.setIfInBounds_toArray, List.set_cons_zero, List.set_cons_succ]
    refine anyT_only (i := 5) (by kernel_rfl) rfl (fun K hK => ?_)
    go_simp
    go_at_call 127; refine (l1Odd_any b v l _ S.out.cur).mono ?_; rintro e w6 ⟨q, rfl, ⟨q0, q1⟩, hg, hC⟩; have S := Lib.hid (S.out.draw hg hC); clear hg hC
    refine hK.out _ _ ?_ (fun hHeld => ?_)
    · exact S.out.box.cell 3 (by simp)
    clear hK K
    try simp only [Act.put, List.getElem_toArray, List.getElem_cons_zero, List.getElem_cons_succ, List.setIfInBounds_toArray, List.set_cons_zero, List.set_cons_succ]
    refine anyT_take (i := 6) (v := ?_) rfl (by kernel_rfl) (by kernel_rfl) (by kernel_rfl) (by kernel_rfl) (by kernel_rfl) (fun _ _ _ h => h) (Or.inl ⟨by rfl, ?_⟩) (by assumption) ?_
    rotate_left
    · intro w hSw; (try dsimp only at hSw); go_simp; with_reducible rfl
    try simp only [Act.put, List.getElem_toArray, List.getElem_cons_zero, List.getElem_cons_succ, List.setIfInBounds_toArray, List.set_cons_zero, List.set_cons_succ]
    refine anyT_only (i := 7) (by kernel_rfl) rfl (fun K hK => ?_)
    go_simp
    have hba := bx_box w6 (.cells #[.string ⟨zl.toArray⟩, .int .i64 q] 139); have S7 := Lib.hid (S.out.below hba)
    refine hK.out _ _ ?_ (fun hHeld => ?_)
    · exact S7.out.box.cell 3 (by simp)
    clear hK K
    try simp only [Act.put, List.getElem_toArray, List.getElem_cons_zero, List.getElem_cons_succ, List.setIfInBounds_toArray, List.set_cons_zero, List.set_cons_succ]
    refine anyT_only (i := 8) (by kernel_rfl) rfl (fun K hK => ?_)
    refine step_cells rfl (.tmp 23) (.tmp 29) rfl w.heap.size (.slice ua y.length uc) y (⟨zl, q⟩ : CellD) _ w6.heap.size rfl S7.out.own rfl (cell_newC w6 (⟨zl, q⟩ : CellD) _ rfl) (by have := HOK.out.2.1; simp only at this; omega) S7.out.grown.size ?_
    intro u w8 ho hg
    obtain ⟨h1, h2, h3, h4⟩ := S7.out.app hg
    refine hK.out _ _ ?_ (fun hHeld => ?_)
    · exact h4.cell 3 (by simp)
    clear hK K
    try simp only [Act.put, List.getElem_toArray, List.getElem_cons_zero, List.getElem_cons_succ, List.setIfInBounds_toArray, List.set_cons_zero, List.set_cons_succ]
    have HOK2 := Lib.hid (show okDr 7 ⟨kd, on, br, y ++ [(⟨zl, q⟩ : CellD)], cnt⟩ from ⟨HOK.out.1, by have := HOK.out.2.1; simp only at this; simp; omega, fun c hc => by rcases List.mem_append.1 hc with hc | hc; exact HOK.out.2.2.1 c hc; rw [List.mem_singleton.1 hc]; exact ⟨hzl, q0, q1⟩, HOK.out.2.2.2⟩)
    have hpos : 0 < (y ++ [(⟨zl, q⟩ : CellD)]).length := by simp
    generalize y ++ [(⟨zl, q⟩ : CellD)] = yy at *
    obtain ⟨ub, ud, rfl⟩ := slice_of ho
    have hq1 := h4.cell 1 (by simp)
    have hq2 := h3.cell 1 (by simp)
    have n1 := row_not_bool ho hpos hq1
    have n2 := row_not_bool ho hpos hq2
    have S9 := Lib.hid (S7.out.setC2 h1 h2 h3 h4 _ _ ho n1 n2)
    have BP := Lib.hid h4
    have BR := Lib.hid h3
    clear h1 h2 h3 h4 ho hg hq1 hq2 n1 n2
    have p0 := BP.out.cell 0 (by simp)
    have p1 := BP.out.cell 1 (by simp)
    have p2 := BP.out.cell 2 (by simp)
    have p3 := BP.out.cell 3 (by simp)
    have p4 := BP.out.cell 4 (by simp)
    simp only [List.getElem_cons_zero, List.getElem_cons_succ] at p0 p1 p2 p3 p4
    have x0 := BP.out.froz 0 (by simp)
    have x1 := BP.out.froz 1 (by simp)
    have x2 := BP.out.froz 2 (by simp)
    have x3 := BP.out.froz 3 (by simp)
    have x4 := BP.out.froz 4 (by simp)
    have r0 := BR.out.cell 0 (by simp)
    have r1 := BR.out.cell 1 (by simp)
    have r2 := BR.out.cell 2 (by simp)
    have r3 := BR.out.cell 3 (by simp)
    have r4 := BR.out.cell 4 (by simp)
    simp only [List.getElem_cons_zero, List.getElem_cons_succ] at r0 r1 r2 r3 r4
    have y0 := BR.out.froz 0 (by simp)
    have y1 := BR.out.froz 1 (by simp)
    have y2 := BR.out.froz 2 (by simp)
    have y3 := BR.out.froz 3 (by simp)
    have y4 := BR.out.froz 4 (by simp)
    have lB := BP.out.lt
    have lR := BR.out.lt
    have hRB := S9.out.RB
    refine anyT_take (i := 9) (v := ?_) rfl (by kernel_rfl) (by kernel_rfl) (by kernel_rfl) (by kernel_rfl) (by kernel_rfl) (fun _ _ _ h => h) (Or.inl ⟨by rfl, ?_⟩) (by assumption) ?_
    rotate_left
    · intro w hSw; (try dsimp only at hSw); go_simp; with_reducible rfl
    try simp only [Act.put, List.getElem_toArray, List.getElem_cons_zero, List.getElem_cons_succ, List.setIfInBounds_toArray, List.set_cons_zero, List.set_cons_succ]
    refine anyT_tail (by kernel_rfl) rfl (fun K hK => ?_)
    go_simp
    refine hK.out _ _ ?_
    clear hK K
    try simp only [Act.put, List.getElem_toArray, List.getElem_cons_zero, List.getElem_cons_succ, List.setIfInBounds_toArray, List.set_cons_zero, List.set_cons_succ]
    refine anyT_done (by kernel_rfl) ?_ _
    go_wp2_with fail
    refine bodyPost_ret (v := .agg #[.string ⟨kd.toArray⟩, .bool on, .bool br, (.slice ub yy.length ud), .int .i64 cnt]) (by simp [results, Tryz.results125, go_sem, cell_set_at, cell_set_ne, r0, r1, r2, r3, r4]) rfl ?_
    exact DSt.fin (d := ⟨kd, on, br, yy, cnt⟩) S9.out HOK2.out _ _ _ _ _
  have E3 : (k == 3) = false := by simpa using e3
  by_cases e4 : k = 4
  · subst e4
    go_wp2_with fail
    refine (l1Odd_any b v l _ S.out.cur).mono ?_
    rintro e w4 ⟨z, rfl, ⟨z0, z1⟩, hg, hC⟩
    have S := Lib.hid (S.out.draw hg hC)
    clear hg hC
    have BP := Lib.hid S.out.box
    have BR := Lib.hid S.out.res
    have p0 := BP.out.cell 0 (by simp)
    have p1 := BP.out.cell 1 (by simp)
    have p2 := BP.out.cell 2 (by simp)
    have p3 := BP.out.cell 3 (by simp)
    have p4 := BP.out.cell 4 (by simp)
    simp only [List.getElem_cons_zero, List.getElem_cons_succ] at p0 p1 p2 p3 p4
    have x0 := BP.out.froz 0 (by simp)
    have x1 := BP.out.froz 1 (by simp)
    have x2 := BP.out.froz 2 (by simp)
    have x3 := BP.out.froz 3 (by simp)
    have x4 := BP.out.froz 4 (by simp)
    have r0 := BR.out.cell 0 (by simp)
    have r1 := BR.out.cell 1 (by simp)
    have r2 := BR.out.cell 2 (by simp)
    have r3 := BR.out.cell 3 (by simp)
    have r4 := BR.out.cell 4 (by simp)
    simp only [List.getElem_cons_zero, List.getElem_cons_succ] at r0 r1 r2 r3 r4
    have y0 := BR.out.froz 0 (by simp)
    have y1 := BR.out.froz 1 (by simp)
    have y2 := BR.out.froz 2 (by simp)
    have y3 := BR.out.froz 3 (by simp)
    have y4 := BR.out.froz 4 (by simp)
    have lB := BP.out.lt
    have lR := BR.out.lt
    have hRB := S.out.RB
    have S9 := Lib.hid (DSt.set (d' := ⟨kd, on, br, y, z⟩) S.out 4 (by decide) (.int .i64 z) rfl rfl)
    go_wp2_with fail
    refine bodyPost_ret (v := .agg #[.string ⟨kd.toArray⟩, .bool on, .bool br, (.slice ua y.length uc), .int .i64 z]) (by simp [results, Tryz.results125, go_sem, cell_set_at, cell_set_ne, r0, r1, r2, r3, r4]) rfl ?_
    exact DSt.fin (d := ⟨kd, on, br, y, z⟩) S9.out ⟨HOK.out.1, Nat.le_succ_of_le HOK.out.2.1, HOK.out.2.2.1, show I64 z from ⟨z0, z1⟩⟩ _ _ _ _ _
  have E4 : (k == 4) = false := by simpa using e4
  clear e0 e1 e2 e3 e4
  have BP := Lib.hid S.out.box
  have BR := Lib.hid S.out.res
  have p0 := BP.out.cell 0 (by simp)
  have p1 := BP.out.cell 1 (by simp)
  have p2 := BP.out.cell 2 (by simp)
  have p3 := BP.out.cell 3 (by simp)
  have p4 := BP.out.cell 4 (by simp)
  simp only [List.getElem_cons_zero, List.getElem_cons_succ] at p0 p1 p2 p3 p4
  have x0 := BP.out.froz 0 (by simp)
  have x1 := BP.out.froz 1 (by simp)
  have x2 := BP.out.froz 2 (by simp)
  have x3 := BP.out.froz 3 (by simp)
  have x4 := BP.out.froz 4 (by simp)
  have r0 := BR.out.cell 0 (by simp)
  have r1 := BR.out.cell 1 (by simp)
  have r2 := BR.out.cell 2 (by simp)
  have r3 := BR.out.cell 3 (by simp)
  have r4 := BR.out.cell 4 (by simp)
  simp only [List.getElem_cons_zero, List.getElem_cons_succ] at r0 r1 r2 r3 r4
  have y0 := BR.out.froz 0 (by simp)
  have y1 := BR.out.froz 1 (by simp)
  have y2 := BR.out.froz 2 (by simp)
  have y3 := BR.out.froz 3 (by simp)
  have y4 := BR.out.froz 4 (by simp)
  have lB := BP.out.lt
  have lR := BR.out.lt
  have hRB := S.out.RB
  go_wp2_with fail
  refine bodyPost_ret (v := .agg #[.string ⟨kd.toArray⟩, .bool on, .bool br, (.slice ua y.length uc), .int .i64 cnt]) (by simp [results, Tryz.results125, go_sem, cell_set_at, cell_set_ne, r0, r1, r2, r3, r4]) rfl ?_
  exact DSt.fin (d := ⟨kd, on, br, y, cnt⟩) S.out ⟨HOK.out.1, Nat.le_succ_of_le HOK.out.2.1, HOK.out.2.2.1, HOK.out.2.2.2⟩ _ _ _ _ _
end Go.Proofs.YtcpbikilgacdlaaGreat
namespace Go.Proofs.YtcpbikilgacdlaaGreat
set_option linter.unusedVariables false
open Go.RowKit
section
variable {w : World} {N b : Nat} {v : Value} {l : List UInt8} {bs : List (Nat × List Value)} {rs : List Held} {wx : World}
theorem Bag.join {B : Nat} {cs : List Value} (h : Bag w N b v l bs rs wx) (hx : Bx wx B cs) (hN : N ≤ B) (hb : B ≠ b) (hne : ∀ p ∈ bs, p.1 ≠ B) (hrs : ∀ r ∈ rs, ¬ r.own B) : Bag w N b v l ((B, cs) :: bs) rs wx := by
  refine ⟨h.os, h.tape, h.output, h.size, h.block, h.nw, h.code, h.cur, ?_, h.row, ?_, h.geR, ?_, ?_, h.rdis⟩
  · intro p hp
    rcases List.mem_cons.1 hp with rfl | hp
    · exact hx
    · exact h.box p hp
  · intro p hp
    rcases List.mem_cons.1 hp with rfl | hp
    · exact ⟨hN, hb⟩
    · exact h.geB p hp
  · intro p hp r hr
    rcases List.mem_cons.1 hp with rfl | hp
    · exact hrs r hr
    · exact h.sep p hp r hr
  · exact List.pairwise_cons.2 ⟨fun p hp e => hne p hp e.symm, h.dis⟩
theorem Bag.elem2 {α : Type} {f : α → List Value} {E B g n cap : Nat} {x : List α} (h : Bag w N b v l bs rs wx) (i : Nat) (hi : rs[i]? = some (hRow f E 2 B (.slice (some ⟨g, 0, none⟩) n cap) x)) (hn : n = x.length) (hk : ∀ y, (f y).length = 2) (j : Nat) (hj : j < x.length) (z : α) (u : Value) (hz : f z = (f x[j]).set 1 u) :
    Bag w N b v l bs (rs.set i (hRow f E 2 B (.slice (some ⟨g, 0, none⟩) n cap) (x.set j z))) (wx.setCell ⟨g, j * 2 + 1, none⟩ u) := by
  subst hn
  obtain ⟨hlt, he⟩ := List.getElem?_eq_some_iff.1 hi
  have ho : OwnsF f E 2 wx B (.slice (some ⟨g, 0, none⟩) x.length cap) x := by
    have := h.row _ (List.getElem_mem hlt)
    rw [he] at this; exact this
  obtain ⟨h1, h2⟩ := World.ownsRow.stored ho (j * 2 + 1) u
  refine h.app i hi h2 ?_ (fun c _ hne => hne)
  unfold OwnsF
  rw [List.length_set]
  have e : (x.flatMap f).set (j * 2 + 1) u = (x.set j z).flatMap f := by
    refine List.ext_getElem? fun m => ?_
    have hm : m / 2 * 2 + m % 2 = m := by omega
    have hr : m % 2 < 2 := Nat.mod_lt _ (by decide)
    by_cases hq : m / 2 < x.length
    · have e1 := flat_get f 2 hk x (m / 2) hq (m % 2) hr
      have e2 := flat_get f 2 hk (x.set j z) (m / 2) (by simpa using hq) (m % 2) hr
      rw [hm] at e1 e2
      rw [e2, List.getElem?_set]
      by_cases hjm : j * 2 + 1 = m
      · subst hjm
        have hjj : (j * 2 + 1) / 2 = j := by omega
        have hjr : (j * 2 + 1) % 2 = 1 := by omega
        have hlen := flat_len f 2 hk x
        simp only [hjj, hjr, List.getElem_set_self, if_true]
        rw [if_pos (by rw [hlen]; omega), hz, List.getElem?_set]
        simp [hk]
      · rw [if_neg hjm, e1, List.getElem_set]
        split
        · rename_i hjq
          have hmr : m % 2 = 0 := by omega
          rw [hz, hmr, List.getElem?_set_ne (by decide)]
          subst hjq; rfl
        · rfl
    · have hlen := flat_len f 2 hk x
      have hlen2 := flat_len f 2 hk (x.set j z)
      rw [List.getElem?_eq_none (by rw [List.length_set, hlen]; omega), List.getElem?_eq_none (by rw [hlen2, List.length_set]; omega)]
  rw [← e]; exact h1
theorem Bag.put6 {B : Nat} {c0 c1 c2 c3 c4 c5 : Value} (h : Bag w N b v l bs rs wx) (i : Nat) (hi : bs[i]? = some (B, [c0, c1, c2, c3, c4, c5])) (u0 u1 u2 u3 u4 u5 : Value) :
    Bag w N b v l (bs.set i (B, [u0, u1, u2, u3, u4, u5])) rs ((((((wx.setCell ⟨B, 0, none⟩ u0).setCell ⟨B, 1, none⟩ u1).setCell ⟨B, 2, none⟩ u2).setCell ⟨B, 3, none⟩ u3).setCell ⟨B, 4, none⟩ u4).setCell ⟨B, 5, none⟩ u5) := by
  obtain ⟨hlt, he⟩ := List.getElem?_eq_some_iff.1 hi
  have h0 := h.set i hi (j := 0) (by simp) u0
  have h1 := h0.set i (B := B) (cs := [u0, c1, c2, c3, c4, c5]) (by rw [List.getElem?_set_self (by simp [hlt])]; rfl) (j := 1) (by simp) u1
  have h2 := h1.set i (B := B) (cs := [u0, u1, c2, c3, c4, c5]) (by rw [List.getElem?_set_self (by simp [hlt])]; rfl) (j := 2) (by simp) u2
  have h3 := h2.set i (B := B) (cs := [u0, u1, u2, c3, c4, c5]) (by rw [List.getElem?_set_self (by simp [hlt])]; rfl) (j := 3) (by simp) u3
  have h4 := h3.set i (B := B) (cs := [u0, u1, u2, u3, c4, c5]) (by rw [List.getElem?_set_self (by simp [hlt])]; rfl) (j := 4) (by simp) u4
  have h5 := h4.set i (B := B) (cs := [u0, u1, u2, u3, u4, c5]) (by rw [List.getElem?_set_self (by simp [hlt])]; rfl) (j := 5) (by simp) u5
  simpa using h5
theorem Bag.put5 {B : Nat} {c0 c1 c2 c3 c4 : Value} {cr : List Value} (h : Bag w N b v l bs rs wx) (i : Nat) (hi : bs[i]? = some (B, c0 :: c1 :: c2 :: c3 :: c4 :: cr)) (u0 u1 u2 u3 u4 : Value) :
    Bag w N b v l (bs.set i (B, u0 :: u1 :: u2 :: u3 :: u4 :: cr)) rs (((((wx.setCell ⟨B, 0, none⟩ u0).setCell ⟨B, 1, none⟩ u1).setCell ⟨B, 2, none⟩ u2).setCell ⟨B, 3, none⟩ u3).setCell ⟨B, 4, none⟩ u4) := by
  obtain ⟨hlt, he⟩ := List.getElem?_eq_some_iff.1 hi
  have h0 := h.set i hi (j := 0) (by simp) u0
  have h1 := h0.set i (B := B) (cs := u0 :: c1 :: c2 :: c3 :: c4 :: cr) (by rw [List.getElem?_set_self (by simp [hlt])]; rfl) (j := 1) (by simp) u1
  have h2 := h1.set i (B := B) (cs := u0 :: u1 :: c2 :: c3 :: c4 :: cr) (by rw [List.getElem?_set_self (by simp [hlt])]; rfl) (j := 2) (by simp) u2
  have h3 := h2.set i (B := B) (cs := u0 :: u1 :: u2 :: c3 :: c4 :: cr) (by rw [List.getElem?_set_self (by simp [hlt])]; rfl) (j := 3) (by simp) u3
  have h4 := h3.set i (B := B) (cs := u0 :: u1 :: u2 :: u3 :: c4 :: cr) (by rw [List.getElem?_set_self (by simp [hlt])]; rfl) (j := 4) (by simp) u4
  simpa using h4
end
theorem gr_below {w w' : World} {r : Option Nat} (hb : Below w.heap.size w w') : w.grownBy w' r := ⟨hb.os, hb.tape, hb.output, hb.size, fun k hk _ => hb.block k hk⟩
theorem Bag.add {w : World} {N b : Nat} {v : Value} {l : List UInt8} {bs : List (Nat × List Value)} {rs : List Held} {wx : World} (h : Bag w N b v l bs rs wx) (r : Held) (hP : r.P wx) (hge : ∀ g, r.own g → N ≤ g ∧ b < g) (hsep : ∀ p ∈ bs, ¬ r.own p.1) (hd : ∀ s ∈ rs, ∀ g, r.own g → ¬ s.own g) : Bag w N b v l bs (r :: rs) wx := by
  refine ⟨h.os, h.tape, h.output, h.size, h.block, h.nw, h.code, h.cur, h.box, ?_, h.geB, ?_, ?_, h.dis, List.pairwise_cons.2 ⟨hd, h.rdis⟩⟩
  · intro s hs
    rcases List.mem_cons.1 hs with rfl | hs
    · exact hP
    · exact h.row s hs
  · intro s hs g hg
    rcases List.mem_cons.1 hs with rfl | hs
    · exact hge g hg
    · exact h.geR s hs g hg
  · intro p hp s hs
    rcases List.mem_cons.1 hs with rfl | hs
    · exact hsep p hp
    · exact h.sep p hp s hs
def six (W : World) (P : Nat) (c0 c1 c2 c3 c4 c5 : Value) : Prop := W.cell? ⟨P, 0, none⟩ = some c0 ∧ W.cell? ⟨P, 1, none⟩ = some c1 ∧ W.cell? ⟨P, 2, none⟩ = some c2 ∧ W.cell? ⟨P, 3, none⟩ = some c3 ∧ W.cell? ⟨P, 4, none⟩ = some c4 ∧ W.cell? ⟨P, 5, none⟩ = some c5
theorem bx_six {W : World} {P : Nat} {c0 c1 c2 c3 c4 c5 : Value} (h : Bx W P [c0, c1, c2, c3, c4, c5]) : six W P c0 c1 c2 c3 c4 c5 :=
  ⟨h.cell 0 (by simp), h.cell 1 (by simp), h.cell 2 (by simp), h.cell 3 (by simp), h.cell 4 (by simp), h.cell 5 (by simp)⟩
theorem six_below {W W' : World} {P : Nat} {c0 c1 c2 c3 c4 c5 : Value} (h : six W P c0 c1 c2 c3 c4 c5) (hb : Below W.heap.size W W') : six W' P c0 c1 c2 c3 c4 c5 := by
  obtain ⟨h0, h1, h2, h3, h4, h5⟩ := h
  have hl : P < W.heap.size := World.block_lt_of_cell? W _ h0
  exact ⟨(hb.cell (p := ⟨P, 0, none⟩) hl).trans h0, (hb.cell (p := ⟨P, 1, none⟩) hl).trans h1, (hb.cell (p := ⟨P, 2, none⟩) hl).trans h2, (hb.cell (p := ⟨P, 3, none⟩) hl).trans h3, (hb.cell (p := ⟨P, 4, none⟩) hl).trans h4, (hb.cell (p := ⟨P, 5, none⟩) hl).trans h5⟩
def okPt (n : Nat) (x : PartD) : Prop := okDr 7 x.fCore ∧ x.fLayers.length ≤ n ∧ ∀ y ∈ x.fLayers, y.fName.length ≤ 9 ∧ I64 y.fCount
theorem okPt_small {n : Nat} {x : PartD} (h : okPt n x) (hn : n ≤ 100) : SmallP x := by
  obtain ⟨⟨h1, h2, h3, _⟩, h5, h6⟩ := h
  refine smallP_of ?_
  have e1 := sumF_le zCell 9 x.fCore.fCells (fun c hc => (h3 c hc).1)
  have e2 := sumF_le zLayer 9 x.fLayers (fun y hy => (h6 y hy).1)
  have e3 : x.fCore.fCells.length * 9 ≤ 63 := by omega
  have e4 : x.fLayers.length * 9 ≤ 900 := by omega
  unfold zPart zCore
  omega
theorem okPt_keys {n : Nat} {x : PartD} (h : okPt n x) : ∀ c ∈ x.fCore.fCells, c.fKey.length ≤ maxLen := fun c hc => Nat.le_trans (h.1.2.2.1 c hc).1 (by decide)
theorem okPt_wrap {x : PartD} {s : List UInt8} (h : okPt 3 x) (hs : s.length ≤ 9) : okPt 3 (wrapP x s) := by
  unfold wrapP
  split
  · rename_i hi
    obtain ⟨h1, h2, h3⟩ := h
    have hl : x.fLayers.length ≠ 3 := by
      unfold wrapI at hi
      intro e
      by_cases hp : partB x = true ∧ 0 ≤ layI s
      · rw [if_pos hp, if_pos e] at hi; cases hi
      · rw [if_neg hp] at hi; cases hi
    refine ⟨h1, by simp; omega, fun y hy => ?_⟩
    rcases List.mem_append.1 hy with hy | hy
    · exact h3 y hy
    · rw [List.mem_singleton.1 hy]; exact ⟨hs, by unfold I64; simp⟩
  · exact h
abbrev hPC (w : World) (u : Value) (x : List CellD) : Held := hRow cCell 139 2 w.heap.size u x
abbrev hPL (w : World) (u : Value) (x : List LayerD) : Held := hRow cLayer 86 2 w.heap.size u x
abbrev zPartV : List Value := [.string ⟨#[]⟩, .bool false, .bool false, .slice none 0 0, .int .i64 0, .slice none 0 0]
abbrev zReplyV : List Value := [.int .i64 0, .int .i64 0, .string ⟨#[]⟩, .int .i64 0, .int .i64 0]
abbrev cPartV (k : List UInt8) (on br : Bool) (cv : Value) (ct : Int) (lv : Value) : List Value := [.string ⟨k.toArray⟩, .bool on, .bool br, cv, .int .i64 ct, lv]
def DrawnPart (n : Nat) (b : Nat) (v : Value) (l : List UInt8) (w : World) (e : Ending) (w' : World) : Prop := ∃ (x : PartD) (cv lv : Value), e = .returned (.agg (cPartV x.fCore.fKind x.fCore.fOn x.fCore.fBroken cv x.fCore.fCount lv).toArray) ∧ OwnsF cCell 139 2 w' w.heap.size cv x.fCore.fCells ∧ OwnsF cLayer 86 2 w' w.heap.size lv x.fLayers ∧ okPt n x ∧ w.grownBy w' (some b) ∧ Cur w' b v l
theorem row_form {α : Type} {f : α → List Value} {E k : Nat} {w : World} {B n c : Nat} {a : Option Addr} {x : List α} (h : OwnsF f E k w B (.slice a n c) x) (hk : ∀ y, (f y).length = k) (h0 : 0 < n) :
    ∃ g, a = some ⟨g, 0, none⟩ ∧ g < w.heap.size ∧ ∀ (i : Nat) (hi : i < x.length), ∀ j, j < k → w.cell? ⟨g, i * k + j, none⟩ = (f x[i])[j]? ∧ w.frozen? ⟨g, i * k + j, none⟩ = false := by
  have hl := h.1
  rcases h.2 with ⟨e, hn⟩ | ⟨g, cap, cur, e, hb, hg, _⟩
  · injection e with e1 e2 e3; omega
  · injection e with e1 e2 e3
    subst e1; subst e2; subst e3
    refine ⟨g, rfl, (World.ownsRow.lt h g rfl).2, fun i hi j hj => ⟨?_, World.ownsRow.frozenAt h _⟩⟩
    have h3 : (i + 1) * k ≤ x.length * k := Nat.mul_le_mul_right k hi
    rw [Nat.succ_mul] at h3
    rw [World.ownsRow.cellAt h (i * k + j) (by omega)]
    exact flat_get f k hk x i hi j hj
theorem Bag.add2 {w : World} {b : Nat} {v : Value} {l : List UInt8} {bs : List (Nat × List Value)} {rs : List Held} {wx : World} {u3 u5 : Value} {y : List CellD} {z : List LayerD} {F : Nat} (h : Bag w w.heap.size b v l bs rs wx) (ho3 : OwnsF cCell 139 2 wx F u3 y) (ho5 : OwnsF cLayer 86 2 wx F u5 z)
    (hw : w.heap.size ≤ F) (hb : b < F) (hbs : ∀ p ∈ bs, p.1 < F) (hrs : ∀ s ∈ rs, ∀ g, s.own g → g < F) : Bag w w.heap.size b v l bs (hPL w u5 z :: hPC w u3 y :: rs) wx := by
  have h3 := h.hold (F := F) (hPC w u3 y) (ownsF_base ho3 hw) (fun g e => (World.ownsRow.lt ho3 g e).1) hw hb hbs hrs
  refine h3.add (hPL w u5 z) (ownsF_base ho5 hw) (fun g e => ?_) (fun p hp e => ?_) (fun s hs g e e2 => ?_)
  · have := (World.ownsRow.lt ho5 g e).1; omega
  · have h1 := (World.ownsRow.lt ho5 _ e).1; have := hbs p hp; omega
  · have h1 := (World.ownsRow.lt ho5 g e).1
    rcases List.mem_cons.1 hs with rfl | hs
    · have e3 : u5.ownBlock = some g := e
      have e4 : u3.ownBlock = some g := e2
      rcases rows_apart ho5 ho3 (by decide) with h2 | h2
      · rw [h2] at e3; cases e3
      · exact h2 (by rw [e3, e4])
    · have := hrs s hs g e2; omega
theorem Bag.made2 {w : World} {b : Nat} {v : Value} {l : List UInt8} {bs : List (Nat × List Value)} {rs : List Held} {wx w' : World} {u3 u5 : Value} {y : List CellD} {z : List LayerD} (h : Bag w w.heap.size b v l bs rs wx) (hb : Below wx.heap.size wx w') (ho3 : OwnsF cCell 139 2 w' wx.heap.size u3 y) (ho5 : OwnsF cLayer 86 2 w' wx.heap.size u5 z) :
    Bag w w.heap.size b v l bs (hPL w u5 z :: hPC w u3 y :: rs) w' :=
  (h.below hb).add2 ho3 ho5 h.sizes.1 h.sizes.2.1 h.sizes.2.2.1 h.sizes.2.2.2
theorem Bag.drawn2 {w : World} {b : Nat} {v : Value} {l : List UInt8} {bs : List (Nat × List Value)} {rs : List Held} {wx w' : World} {u3 u5 : Value} {y : List CellD} {z : List LayerD} (h : Bag w w.heap.size b v l bs rs wx) (hg : wx.grownBy w' (some b)) (hC : Cur w' b v l) (ho3 : OwnsF cCell 139 2 w' wx.heap.size u3 y) (ho5 : OwnsF cLayer 86 2 w' wx.heap.size u5 z) :
    Bag w w.heap.size b v l bs (hPL w u5 z :: hPC w u3 y :: rs) w' :=
  (h.draw hg hC).add2 ho3 ho5 h.sizes.1 h.sizes.2.1 h.sizes.2.2.1 h.sizes.2.2.2
theorem bag_part {w : World} {N b : Nat} {v : Value} {l : List UInt8} {bs : List (Nat × List Value)} {rs : List Held} {wx : World} {u5 u3 : Value} {n : Nat} {x : PartD} (h : Bag w N b v l bs rs wx) (h5 : hPL w u5 x.fLayers ∈ rs) (h3 : hPC w u3 x.fCore.fCells ∈ rs) (hk : okPt n x) (hn : n ≤ 100) :
    rPart 0 wx (cPartV x.fCore.fKind x.fCore.fOn x.fCore.fBroken u3 x.fCore.fCount u5) x :=
  goodPart.mono (oPart_r (B := w.heap.size) ⟨u3, u5, rfl, h.row _ h3, h.row _ h5⟩ (okPt_small hk hn)) (Nat.zero_le _)
end Go.Proofs.YtcpbikilgacdlaaGreat
namespace Go.Proofs.YtcpbikilgacdlaaGreat
set_option linter.unusedVariables false
set_option linter.unusedSimpArgs false
open Go.RowKit
set_option maxRecDepth 100000 in
set_option maxHeartbeats 6400000 in
theorem l4Draw_any (b : Nat) (v : Value) (l : List UInt8) (w : World) (hC : Cur w b v l) :
    Calls Tryz.prog 106 #[.pointer (some ⟨b, 0, none⟩)] w fun e w' => DrawnPart 3 b v l w e w' := by
  have BG := Lib.hid ((bag_start hC).var zPartV 37)
  clear hC
  go_enter Tryz.func106, Tryz.ntmps106
  go_wp2_with fail
  generalize w.alloc (.cells #[.string ⟨#[]⟩, .bool false, .bool false, .slice none 0 0, .int .i64 0, .slice none 0 0] 37) = w0 at *
  refine (l3Draw_any b v l _ BG.out.cur).mono ?_
  rintro e w1 ⟨⟨kd, on, br, y, cnt⟩, cv, rfl, ho, hok, hg, hC⟩
  obtain ⟨ca, cc, rfl⟩ := slice_of ho
  simp only at ho
  have HOK := Lib.hid (show okPt 3 ⟨⟨kd, on, br, y, cnt⟩, []⟩ from ⟨⟨hok.1, Nat.le_trans hok.2.1 (by decide), hok.2.2⟩, by simp, by simp⟩)
  replace BG := Lib.hid (BG.out.drawn2 hg hC (u5 := .slice none 0 0) (z := []) ho (ownsF_no _ _ _ _ _))
  clear ho hok hg hC
  replace BG := Lib.hid (BG.out.var (cPartV kd on br (.slice ca y.length cc) cnt (.slice none 0 0)) 37)
  unfold vCore
  simp only
  go_wp2_with fail
  generalize w1.alloc (.cells #[.string ⟨kd.toArray⟩, .bool on, .bool br, .slice ca y.length cc, .int .i64 cnt, .slice none 0 0] 37) = w2 at *
  generalize w1.heap.size = P at *
  refine (l1Below_any b v l _ _ BG.out.cur (by omega) (by omega)).mono ?_
  rintro e w3 ⟨n, rfl, ⟨n0, n1, n2⟩, hg, hC⟩
  have n3 := n2 (by omega)
  replace BG := Lib.hid (BG.out.draw hg hC)
  clear hg hC n1 n2
  go_wp2_with fail
  go_loopw [4, 5, 6] (fun nv _ _ wr => ∃ (n : Int) (kd : List UInt8) (on br : Bool) (ca la : Option Addr) (cc lc : Nat) (y : List CellD) (z : List LayerD) (cnt : Int), nv = .int .i64 n ∧ 0 ≤ n ∧ n ≤ 3 ∧ okPt 3 (⟨⟨kd, on, br, y, cnt⟩, z⟩ : PartD) ∧ Bag w w.heap.size b v l [(P, cPartV kd on br (.slice ca y.length cc) cnt (.slice la z.length lc)), (w.heap.size, zPartV)] [hPL w (.slice la z.length lc) z, hPC w (.slice ca y.length cc) y] wr) (fun nv _ _ _ => (intOf nv).toNat)
  case atStart => exact ⟨n, kd, on, br, ca, none, cc, 0, y, [], cnt, rfl, by omega, by omega, HOK.out, BG.out⟩
  case round =>
    clear BG HOK n0 n3
    obtain ⟨n, kd, on, br, ca, la, cc, lc, y, z, cnt, rfl, hn0, hn3, hok, hbg⟩ := hrel
    have BG := Lib.hid hbg
    have HOK := Lib.hid hok
    clear hbg hok
    by_cases hp : 0 < n
    · skip
      go_wp2_with fail
      have HSof := Lib.hid (fun W (h : Bx W P (cPartV kd on br (.slice ca y.length cc) cnt (.slice la z.length lc))) => (show six W P (.string ⟨kd.toArray⟩) (.bool on) (.bool br) (.slice ca y.length cc) (.int .i64 cnt) (.slice la z.length lc) from bx_six h))
      have HFS := Lib.hid (show ∀ W W' : World, six W P (.string ⟨kd.toArray⟩) (.bool on) (.bool br) (.slice ca y.length cc) (.int .i64 cnt) (.slice la z.length lc) → Below W.heap.size W W' → six W' P (.string ⟨kd.toArray⟩) (.bool on) (.bool br) (.slice ca y.length cc) (.int .i64 cnt) (.slice la z.length lc) from fun W W' hh hb => six_below hh hb)
      refine wp_region_held_drew (S := fun w' => six w' P (.string ⟨kd.toArray⟩) (.bool on) (.bool br) (.slice ca y.length cc) (.int .i64 cnt) (.slice la z.length lc)) (by kernel_rfl) ?_ (fun hHeld => ?_)
      · exact HSof.out _ (BG.out.drew.box (P, cPartV kd on br (.slice ca y.length cc) cnt (.slice la z.length lc)) (by simp))
      replace BG := Lib.hid BG.out.drew
      generalize wr.drew = v0 at *
      refine wpAnyH_take (i := 0) (v := ?_) rfl (by kernel_rfl) (by kernel_rfl) (by kernel_rfl) (fun _ _ _ h => h) (Or.inl ⟨by rfl, ?_⟩) (by assumption) ?_
      rotate_left
      · intro w hSw; (try dsimp only at hSw); obtain ⟨s0, s1, s2, s3, s4, s5⟩ := hSw; go_simp; with_reducible rfl
      try simp only [Act.put, List.getElem_toArray, List.getElem_cons_zero, List.getElem_cons_succ, List.setIfInBounds_toArray, List.set_cons_zero, List.set_cons_succ]
      refine wpAnyH_take (i := 1) (v := ?_) rfl (by kernel_rfl) (by kernel_rfl) (by kernel_rfl) (fun _ _ _ h => h) (Or.inl ⟨by rfl, ?_⟩) (by assumption) ?_
      rotate_left
      · intro w hSw; (try dsimp only at hSw); obtain ⟨s0, s1, s2, s3, s4, s5⟩ := hSw; go_simp; with_reducible rfl
      try simp only [Act.put, List.getElem_toArray, List.getElem_cons_zero, List.getElem_cons_succ, List.setIfInBounds_toArray, List.set_cons_zero, List.set_cons_succ]
      refine wpAnyH_take (i := 2) (v := ?_) rfl (by kernel_rfl) (by kernel_rfl) (by kernel_rfl) (fun _ _ _ h => h) (Or.inl ⟨by rfl, ?_⟩) (by assumption) ?_
      rotate_left
      · intro w hSw; (try dsimp only at hSw); obtain ⟨s0, s1, s2, s3, s4, s5⟩ := hSw; go_simp; with_reducible rfl
      try simp only [Act.put, List.getElem_toArray, List.getElem_cons_zero, List.getElem_cons_succ, List.setIfInBounds_toArray, List.set_cons_zero, List.set_cons_succ]
      have ZS := Lib.hid BG.out.sizes
      refine wpAnyH_floatD (r := some b) (k1 := 9) (k2 := 10) (d1 := 5) (d2 := 6) (z1 := zPartV) (z2 := zReplyV) (T1 := 37) (T2 := 39) (js := [(3, false), (4, false), (5, false), (6, true), (7, true), (8, true)]) (fz := 2) rfl (fun g e => by injection e with e; subst e; exact BG.out.cur.lt) ⟨⟨_, rfl, rfl, rfl, fun a w => ?_⟩⟩ ⟨⟨_, rfl, rfl, rfl, fun a w => ?_⟩⟩ (by kernel_rfl) (by decide) (by decide) (by kernel_rfl) (fun _ _ _ _ _ => Iff.rfl) HFS.out (by assumption) ?_
      · rfl
      · rfl
      refine wpFd_step rfl (fun v1 hbG hHeld K hK => ?_)
      replace BG := Lib.hid (BG.out.below hbG)
      clear hbG
      go_simp
      go_at_call 62
      refine (specFaceOf_any _ (⟨⟨kd, on, br, y, cnt⟩, z⟩ : PartD) _ (show ValAt rPart 0 _ (.agg #[.string ⟨kd.toArray⟩, .bool on, .bool br, .slice ca y.length cc, .int .i64 cnt, .slice la z.length lc]) (⟨⟨kd, on, br, y, cnt⟩, z⟩ : PartD) from ⟨cPartV kd on br (.slice ca y.length cc) cnt (.slice la z.length lc), rfl, bag_part (n := 3) (x := (⟨⟨kd, on, br, y, cnt⟩, z⟩ : PartD)) BG.out (by simp) (by simp) HOK.out (by decide)⟩)).mono ?_
      rintro e v2 ⟨rfl, hb⟩
      replace BG := Lib.hid (BG.out.below hb)
      refine hK.out _ _ (gr_below hb) (HSof.out _ (BG.out.box (P, cPartV kd on br (.slice ca y.length cc) cnt (.slice la z.length lc)) (by simp))) ?_
      clear hK K hb hHeld
      try simp only [Act.put, List.getElem_toArray, List.getElem_cons_zero, List.getElem_cons_succ, List.setIfInBounds_toArray, List.set_cons_zero, List.set_cons_succ]
      generalize faceP (⟨⟨kd, on, br, y, cnt⟩, z⟩ : PartD) = fc at *
      refine wpFd_step rfl (fun v3 hbG hHeld K hK => ?_)
      replace BG := Lib.hid (BG.out.below hbG)
      clear hbG
      go_simp
      go_at_call 143
      refine (l4Fitting_any b v l _ _ BG.out.cur).mono ?_
      rintro e v4 ⟨s, rfl, hs, hg, hC⟩
      obtain ⟨⟨sl⟩⟩ := s
      have hsl : sl.length ≤ 9 := hs
      replace BG := Lib.hid (BG.out.draw hg hC)
      refine hK.out _ _ hg (HSof.out _ (BG.out.box (P, cPartV kd on br (.slice ca y.length cc) cnt (.slice la z.length lc)) (by simp))) ?_
      clear hK K hg hC hHeld hs
      try simp only [Act.put, List.getElem_toArray, List.getElem_cons_zero, List.getElem_cons_succ, List.setIfInBounds_toArray, List.set_cons_zero, List.set_cons_succ]
      refine wpFd_step rfl (fun v5 hbG hHeld K hK => ?_)
      replace BG := Lib.hid (BG.out.below hbG)
      clear hbG
      have HOK2 := Lib.hid (okPt_wrap HOK.out hsl)
      have HW := Lib.hid (specWrap_any _ (⟨⟨kd, on, br, y, cnt⟩, z⟩ : PartD) ⟨sl.toArray⟩ v5 (show ValAt rPart 0 v5 (.agg #[.string ⟨kd.toArray⟩, .bool on, .bool br, .slice ca y.length cc, .int .i64 cnt, .slice la z.length lc]) (⟨⟨kd, on, br, y, cnt⟩, z⟩ : PartD) from ⟨cPartV kd on br (.slice ca y.length cc) cnt (.slice la z.length lc), rfl, bag_part (n := 3) (x := (⟨⟨kd, on, br, y, cnt⟩, z⟩ : PartD)) BG.out (by simp) (by simp) HOK.out (by decide)⟩) (okPt_small HOK.out (by decide)) (okPt_keys HOK.out) (Nat.le_trans hsl (by decide)))
      simp only [List.toList_toArray] at HW
      generalize wrapP (⟨⟨kd, on, br, y, cnt⟩, z⟩ : PartD) sl = p2 at *
      generalize wrapR (⟨⟨kd, on, br, y, cnt⟩, z⟩ : PartD) sl = r2 at *
      obtain ⟨⟨kd2, on2, br2, y2, cnt2⟩, z2⟩ := p2
      obtain ⟨t0, t1, t2, t3, t4⟩ := r2
      unfold GivesOPR vReply at HW
      simp only at HW
      go_simp
      go_at_call 56
      refine HW.out.mono ?_
      rintro e v6 ⟨_, rfl, ⟨u3, u5, rfl, ho3, ho5⟩, hb⟩
      simp only at ho3 ho5
      obtain ⟨ca2, cc2, rfl⟩ := slice_of ho3
      obtain ⟨la2, lc2, rfl⟩ := slice_of ho5
      have HN3 := Lib.hid (fun g e => World.ownsRow.lt ho3 g e)
      have HN5 := Lib.hid (fun g e => World.ownsRow.lt ho5 g e)
      have hv5 := BG.out.size
      replace BG := Lib.hid (BG.out.made2 hb ho3 ho5)
      refine hK.out _ _ (gr_below hb) (HSof.out _ (BG.out.box (P, cPartV kd on br (.slice ca y.length cc) cnt (.slice la z.length lc)) (by simp))) ?_
      clear hK K hb hHeld ho3 ho5 HW
      try simp only [Act.put, List.getElem_toArray, List.getElem_cons_zero, List.getElem_cons_succ, List.setIfInBounds_toArray, List.set_cons_zero, List.set_cons_succ]
      refine wpFd_take (v := ?_) rfl (Or.inl ⟨by rfl, ?_⟩) ?_
      rotate_left
      · intro w hSw; (try dsimp only at hSw); go_simp; with_reducible rfl
      try simp only [Act.put, List.getElem_toArray, List.getElem_cons_zero, List.getElem_cons_succ, List.setIfInBounds_toArray, List.set_cons_zero, List.set_cons_succ]
      refine wpFd_take (v := ?_) rfl (Or.inl ⟨by rfl, ?_⟩) ?_
      rotate_left
      · intro w hSw; (try dsimp only at hSw); go_simp; with_reducible rfl
      try simp only [Act.put, List.getElem_toArray, List.getElem_cons_zero, List.getElem_cons_succ, List.setIfInBounds_toArray, List.set_cons_zero, List.set_cons_succ]
      refine wpFd_take (v := ?_) rfl (Or.inl ⟨by rfl, ?_⟩) ?_
      rotate_left
      · intro w hSw; (try dsimp only at hSw); go_simp; with_reducible rfl
      try simp only [Act.put, List.getElem_toArray, List.getElem_cons_zero, List.getElem_cons_succ, List.setIfInBounds_toArray, List.set_cons_zero, List.set_cons_succ]
      refine wpFd_end (fun v7 Q1 Q2 hbG hHeld hx1 hx2 hne hl1 hl2 hgap => ?_)
      replace BG := Lib.hid (BG.out.below hbG)
      have hg5 := hgap (v5.heap.size, v6.heap.size) (by simp)
      simp only at hg5
      clear hbG hgap
      have z1 := ZS.out.1
      have z2s := ZS.out.2.1
      have Z3 := Lib.hid ZS.out.2.2.1
      have Z4 := Lib.hid ZS.out.2.2.2
      clear ZS
      have JB2 : ∀ p ∈ [(P, cPartV kd on br (.slice ca y.length cc) cnt (.slice la z.length lc)), (w.heap.size, zPartV)], p.1 ≠ Q2 := by
        intro p hp e
        have := Z3.out p hp; omega
      have JR2 : ∀ r ∈ [hPL w (.slice la2 z2.length lc2) z2, hPC w (.slice ca2 y2.length cc2) y2, hPL w (.slice la z.length lc) z, hPC w (.slice ca y.length cc) y], ¬ r.own Q2 := by
        intro r hr ho
        rcases List.mem_cons.1 hr with rfl | hr
        · have := HN5.out Q2 ho; omega
        rcases List.mem_cons.1 hr with rfl | hr
        · have := HN3.out Q2 ho; omega
        have := Z4.out r hr Q2 ho; omega
      replace BG := Lib.hid (BG.out.join hx2 (by omega) (by omega) JB2 JR2)
      have JB1 : ∀ p ∈ [(Q2, zReplyV), (P, cPartV kd on br (.slice ca y.length cc) cnt (.slice la z.length lc)), (w.heap.size, zPartV)], p.1 ≠ Q1 := by
        intro p hp e
        rcases List.mem_cons.1 hp with rfl | hp
        · exact hne e.symm
        · have := Z3.out p hp; omega
      have JR1 : ∀ r ∈ [hPL w (.slice la2 z2.length lc2) z2, hPC w (.slice ca2 y2.length cc2) y2, hPL w (.slice la z.length lc) z, hPC w (.slice ca y.length cc) y], ¬ r.own Q1 := by
        intro r hr ho
        rcases List.mem_cons.1 hr with rfl | hr
        · have := HN5.out Q1 ho; omega
        rcases List.mem_cons.1 hr with rfl | hr
        · have := HN3.out Q1 ho; omega
        have := Z4.out r hr Q1 ho; omega
      replace BG := Lib.hid (BG.out.join hx1 (by omega) (by omega) JB1 JR1)
      clear hx1 hx2 JB1 JB2 JR1 JR2 hg5 Z3 Z4 HN3 HN5 z1 z2s hl1 hl2
      try simp only [Act.put, List.getElem_toArray, List.getElem_cons_zero, List.getElem_cons_succ, List.setIfInBounds_toArray, List.set_cons_zero, List.set_cons_succ]
      have B_x := Lib.hid (BG.out.box (Q1, zPartV) (by simp))
      have x0 := B_x.out.cell 0 (by simp)
      have x1 := B_x.out.cell 1 (by simp)
      have x2 := B_x.out.cell 2 (by simp)
      have x3 := B_x.out.cell 3 (by simp)
      have x4 := B_x.out.cell 4 (by simp)
      have x5 := B_x.out.cell 5 (by simp)
      simp only [List.getElem_cons_zero, List.getElem_cons_succ] at x0 x1 x2 x3 x4 x5
      have fx0 := B_x.out.froz 0 (by simp)
      have fx1 := B_x.out.froz 1 (by simp)
      have fx2 := B_x.out.froz 2 (by simp)
      have fx3 := B_x.out.froz 3 (by simp)
      have fx4 := B_x.out.froz 4 (by simp)
      have fx5 := B_x.out.froz 5 (by simp)
      have l_x := B_x.out.lt
      have B_e := Lib.hid (BG.out.box (Q2, zReplyV) (by simp))
      have e0 := B_e.out.cell 0 (by simp)
      have e1 := B_e.out.cell 1 (by simp)
      have e2 := B_e.out.cell 2 (by simp)
      have e3 := B_e.out.cell 3 (by simp)
      have e4 := B_e.out.cell 4 (by simp)
      simp only [List.getElem_cons_zero, List.getElem_cons_succ] at e0 e1 e2 e3 e4
      have fe0 := B_e.out.froz 0 (by simp)
      have fe1 := B_e.out.froz 1 (by simp)
      have fe2 := B_e.out.froz 2 (by simp)
      have fe3 := B_e.out.froz 3 (by simp)
      have fe4 := B_e.out.froz 4 (by simp)
      have l_e := B_e.out.lt
      have ne12 : ¬ Q1 = Q2 := hne
      have ne21 : ¬ Q2 = Q1 := fun e => hne e.symm
      refine wpAnyH_ready (rs := [11]) (by kernel_rfl) (by simp) ?_
      refine AllReadyH.cons rfl (fun K hK => ?_) AllReadyH.nil
      go_simp
      have BG2 := Lib.hid (BG.out.put6 0 rfl (.string ⟨kd2.toArray⟩) (.bool on2) (.bool br2) (.slice ca2 y2.length cc2) (.int .i64 cnt2) (.slice la2 z2.length lc2))
      simp only [List.set_cons_zero, List.set_cons_succ] at BG2
      refine hK.out _ _ (HSof.out _ (BG2.out.box (P, cPartV kd on br (.slice ca y.length cc) cnt (.slice la z.length lc)) (by simp))) (fun hHeld => ?_)
      clear hK K
      try simp only [Act.put, List.getElem_toArray, List.getElem_cons_zero, List.getElem_cons_succ, List.setIfInBounds_toArray, List.set_cons_zero, List.set_cons_succ]
      refine wpAnyH_ready (rs := [12]) (by kernel_rfl) (by simp) ?_
      refine AllReadyH.cons rfl (fun K hK => ?_) AllReadyH.nil
      go_simp
      have BG3 := Lib.hid (BG2.out.put5 1 rfl (.int .i64 t0) (.int .i64 t1) (.string ⟨t2.toArray⟩) (.int .i64 t3) (.int .i64 t4))
      simp only [List.set_cons_zero, List.set_cons_succ] at BG3
      refine hK.out _ _ (HSof.out _ (BG3.out.box (P, cPartV kd on br (.slice ca y.length cc) cnt (.slice la z.length lc)) (by simp))) (fun hHeld => ?_)
      clear hK K
      try simp only [Act.put, List.getElem_toArray, List.getElem_cons_zero, List.getElem_cons_succ, List.setIfInBounds_toArray, List.set_cons_zero, List.set_cons_succ]
      refine wpAnyH_done (by kernel_rfl) ?_ _
      replace BG := BG3
      clear BG2 BG3
      clear B_x l_x x0 x1 x2 x3 x4 x5 fx0 fx1 fx2 fx3 fx4 fx5
      clear B_e l_e e0 e1 e2 e3 e4 fe0 fe1 fe2 fe3 fe4
      generalize (((((((((((v7.setCell ⟨Q1, 0, none⟩ (.string ⟨kd2.toArray⟩)).setCell ⟨Q1, 1, none⟩ (.bool on2)).setCell ⟨Q1, 2, none⟩ (.bool br2)).setCell ⟨Q1, 3, none⟩ (.slice ca2 y2.length cc2)).setCell ⟨Q1, 4, none⟩ (.int .i64 cnt2)).setCell ⟨Q1, 5, none⟩ (.slice la2 z2.length lc2)).setCell ⟨Q2, 0, none⟩ (.int .i64 t0)).setCell ⟨Q2, 1, none⟩ (.int .i64 t1)).setCell ⟨Q2, 2, none⟩ (.string ⟨t2.toArray⟩)).setCell ⟨Q2, 3, none⟩ (.int .i64 t3)).setCell ⟨Q2, 4, none⟩ (.int .i64 t4)) = v8 at *
      clear hHeld HSof HFS
      have B_x := Lib.hid (BG.out.box (Q1, cPartV kd2 on2 br2 (.slice ca2 y2.length cc2) cnt2 (.slice la2 z2.length lc2)) (by simp))
      have x0 := B_x.out.cell 0 (by simp)
      have x1 := B_x.out.cell 1 (by simp)
      have x2 := B_x.out.cell 2 (by simp)
      have x3 := B_x.out.cell 3 (by simp)
      have x4 := B_x.out.cell 4 (by simp)
      have x5 := B_x.out.cell 5 (by simp)
      simp only [List.getElem_cons_zero, List.getElem_cons_succ] at x0 x1 x2 x3 x4 x5
      have l_x := B_x.out.lt
      have B_e := Lib.hid (BG.out.box (Q2, [.int .i64 t0, .int .i64 t1, .string ⟨t2.toArray⟩, .int .i64 t3, .int .i64 t4]) (by simp))
      have e0 := B_e.out.cell 0 (by simp)
      have e1 := B_e.out.cell 1 (by simp)
      have e2 := B_e.out.cell 2 (by simp)
      have e3 := B_e.out.cell 3 (by simp)
      have e4 := B_e.out.cell 4 (by simp)
      simp only [List.getElem_cons_zero, List.getElem_cons_succ] at e0 e1 e2 e3 e4
      have l_e := B_e.out.lt
      have B_q := Lib.hid (BG.out.box (P, cPartV kd on br (.slice ca y.length cc) cnt (.slice la z.length lc)) (by simp))
      have q0 := B_q.out.cell 0 (by simp)
      have q1 := B_q.out.cell 1 (by simp)
      have q2 := B_q.out.cell 2 (by simp)
      have q3 := B_q.out.cell 3 (by simp)
      have q4 := B_q.out.cell 4 (by simp)
      have q5 := B_q.out.cell 5 (by simp)
      simp only [List.getElem_cons_zero, List.getElem_cons_succ] at q0 q1 q2 q3 q4 q5
      have fq0 := B_q.out.froz 0 (by simp)
      have fq1 := B_q.out.froz 1 (by simp)
      have fq2 := B_q.out.froz 2 (by simp)
      have fq3 := B_q.out.froz 3 (by simp)
      have fq4 := B_q.out.froz 4 (by simp)
      have fq5 := B_q.out.froz 5 (by simp)
      have l_q := B_q.out.lt
      by_cases e0 : t0 = 0
      · subst e0
        have BG4 := Lib.hid ((BG.out.put6 2 rfl (.string ⟨kd2.toArray⟩) (.bool on2) (.bool br2) (.slice ca2 y2.length cc2) (.int .i64 cnt2) (.slice la2 z2.length lc2)).less (bs' := [(P, cPartV kd2 on2 br2 (.slice ca2 y2.length cc2) cnt2 (.slice la2 z2.length lc2)), (w.heap.size, zPartV)]) (rs' := [hPL w (.slice la2 z2.length lc2) z2, hPC w (.slice ca2 y2.length cc2) y2]) (.cons _ (.cons _ (.refl _))) (.cons_cons _ (.cons_cons _ (.cons _ (.cons _ .slnil)))))
        go_wp2_with fail
        exact ⟨⟨n - 1, kd2, on2, br2, ca2, la2, cc2, lc2, y2, z2, cnt2, by go_num, by omega, by omega, HOK2.out, BG4.out⟩, by simp [intOf]; omega⟩
      · have E0 : (t0 == 0) = false := by simpa using e0
        have BG4 := Lib.hid (BG.out.less (bs' := [(P, cPartV kd on br (.slice ca y.length cc) cnt (.slice la z.length lc)), (w.heap.size, zPartV)]) (rs' := [hPL w (.slice la z.length lc) z, hPC w (.slice ca y.length cc) y]) (.cons _ (.cons _ (.refl _))) (.cons _ (.cons _ (.refl _))))
        go_wp2_with fail
        exact ⟨⟨n - 1, kd, on, br, ca, la, cc, lc, y, z, cnt, by go_num, by omega, by omega, HOK.out, BG4.out⟩, by simp [intOf]; omega⟩
    · have hn : n = 0 := by omega
      subst hn
      have B_q := Lib.hid (BG.out.box (P, cPartV kd on br (.slice ca y.length cc) cnt (.slice la z.length lc)) (by simp))
      have q0 := B_q.out.cell 0 (by simp)
      have q1 := B_q.out.cell 1 (by simp)
      have q2 := B_q.out.cell 2 (by simp)
      have q3 := B_q.out.cell 3 (by simp)
      have q4 := B_q.out.cell 4 (by simp)
      have q5 := B_q.out.cell 5 (by simp)
      simp only [List.getElem_cons_zero, List.getElem_cons_succ] at q0 q1 q2 q3 q4 q5
      have fq0 := B_q.out.froz 0 (by simp)
      have fq1 := B_q.out.froz 1 (by simp)
      have fq2 := B_q.out.froz 2 (by simp)
      have fq3 := B_q.out.froz 3 (by simp)
      have fq4 := B_q.out.froz 4 (by simp)
      have fq5 := B_q.out.froz 5 (by simp)
      have l_q := B_q.out.lt
      go_wp2_with fail
      clear B_q l_q q0 q1 q2 q3 q4 q5 fq0 fq1 fq2 fq3 fq4 fq5
      have hzm : z.length = z.length := rfl
      have hz3 : z.length ≤ 3 := HOK.out.2.1
      have Z0 := Lib.hid (show z.length = z.length from rfl)
      clear hzm Z0
      generalize hm : z.length = m at *
      go_loopw [7, 8, 34] (fun _ _ iv wr => ∃ (k : Nat) (z : List LayerD), iv = .int .i64 k ∧ k ≤ m ∧ z.length = m ∧ okPt 3 (⟨⟨kd, on, br, y, cnt⟩, z⟩ : PartD) ∧ Bag w w.heap.size b v l [(P, cPartV kd on br (.slice ca y.length cc) cnt (.slice la m lc)), (w.heap.size, zPartV)] [hPL w (.slice la m lc) z, hPC w (.slice ca y.length cc) y] wr) (fun _ _ iv _ => m - (intOf iv).toNat)
      case atStart => exact ⟨0, z, rfl, Nat.zero_le _, hm, HOK.out, BG.out⟩
      case round =>
        clear BG HOK hm
        obtain ⟨k, z, rfl, hk, hzm, hok, hbg⟩ := hrel
        have BG := Lib.hid hbg
        have HOK := Lib.hid hok
        clear hbg hok
        by_cases hlt : k < m
        · skip
          have hkz : k < z.length := by omega
          have hic : (k : Int) < (m : Int) := by omega
          obtain ⟨g, rfl, hgl, hf⟩ := row_form (show OwnsF cLayer 86 2 _ w.heap.size (.slice la m lc) z from BG.out.row (hPL w (.slice la m lc) z) (by simp)) cLayer_len (by omega)
          have d0 := (hf k hkz 0 (by decide)).1
          have d1 := (hf k hkz 1 (by decide)).1
          clear hf
          have HM := Lib.hid (HOK.out.2.2 z[k] (List.getElem_mem hkz))
          have HZK := Lib.hid (show z[k] = z[k] from rfl)
          generalize hzk : z[k] = e at d0 d1 HM
          obtain ⟨nm, ct⟩ := e
          simp only [cLayer, List.getElem?_cons_zero, List.getElem?_cons_succ, Nat.add_zero] at d0 d1
          clear HZK
          have HZK := Lib.hid hzk
          clear hzk
          have BV := Lib.hid (BG.out.var [.string ⟨nm.toArray⟩, .int .i64 ct] 86)
          go_upto_region 11 with fail
          clear d0 d1
          generalize wr.alloc (.cells #[.string ⟨nm.toArray⟩, .int .i64 ct] 86) = w20 at *
          generalize wr.heap.size = XB at *
          by_cases hcn : countedB nm = true
          · skip
            have hcn2 : nm = [99, 111, 117, 110, 116, 115] ∨ nm = [104, 101, 97, 114, 115] := by simpa [countedB] using hcn
            clear hcn
            replace BG := BV
            clear BV
            have BX0 := Lib.hid (BG.out.box (XB, [.string ⟨nm.toArray⟩, .int .i64 ct]) (by simp))
            have x0 := BX0.out.cell 0 (by simp)
            have x1 := BX0.out.cell 1 (by simp)
            simp only [List.getElem_cons_zero, List.getElem_cons_succ] at x0 x1
            have hXl := BX0.out.lt
            rcases hcn2 with rfl | rfl
            · skip
              go_wp2_with fail
              clear x0 x1 BX0 hXl
              replace BG := Lib.hid BG.out.drew
              refine region_T (S := fun w' => w'.cell? ⟨P, 5, none⟩ = some (.slice (some ⟨g, 0, none⟩) m lc)) (t := 7) (by kernel_rfl) ?_ (fun hHeld => ?_)
              · exact (BG.out.box (P, cPartV kd on br (.slice ca y.length cc) cnt (.slice (some ⟨g, 0, none⟩) m lc)) (by simp)).cell 5 (by simp)
              refine anyT_take (i := 0) (v := ?_) rfl (by kernel_rfl) (by kernel_rfl) (by kernel_rfl) (by kernel_rfl) (by kernel_rfl) (fun _ _ _ h => h) (Or.inl ⟨by rfl, ?_⟩) (by assumption) ?_
              rotate_left
              · intro w hSw; (try dsimp only at hSw); go_simp; with_reducible rfl
              try simp only [Act.put, List.getElem_toArray, List.getElem_cons_zero, List.getElem_cons_succ, List.setIfInBounds_toArray, List.set_cons_zero, List.set_cons_succ]
              refine anyT_take (i := 2) (v := ?_) rfl (by kernel_rfl) (by kernel_rfl) (by kernel_rfl) (by kernel_rfl) (by kernel_rfl) (fun _ _ _ h => h) (Or.inl ⟨by rfl, ?_⟩) (by assumption) ?_
              rotate_left
              · intro w hSw; (try dsimp only at hSw); go_simp; with_reducible rfl
              try simp only [Act.put, List.getElem_toArray, List.getElem_cons_zero, List.getElem_cons_succ, List.setIfInBounds_toArray, List.set_cons_zero, List.set_cons_succ]
              refine anyT_take (i := 3) (v := ?_) rfl (by kernel_rfl) (by kernel_rfl) (by kernel_rfl) (by kernel_rfl) (by kernel_rfl) (fun _ _ _ h => h) (Or.inl ⟨by rfl, ?_⟩) (by assumption) ?_
              rotate_left
              · intro w hSw; (try dsimp only at hSw); go_simp; with_reducible rfl
              try simp only [Act.put, List.getElem_toArray, List.getElem_cons_zero, List.getElem_cons_succ, List.setIfInBounds_toArray, List.set_cons_zero, List.set_cons_succ]
              refine anyT_take (i := 1) (v := ?_) rfl (by kernel_rfl) (by kernel_rfl) (by kernel_rfl) (by kernel_rfl) (by kernel_rfl) (fun _ _ _ h => h) (Or.inl ⟨by rfl, ?_⟩) (by assumption) ?_
              rotate_left
              · intro w hSw; (try dsimp only at hSw); go_simp; with_reducible rfl
              try simp only [Act.put, List.getElem_toArray, List.getElem_cons_zero, List.getElem_cons_succ, List.setIfInBounds_toArray, List.set_cons_zero, List.set_cons_succ]
              refine anyT_only (i := 4) (by kernel_rfl) rfl (fun K hK => ?_)
              go_simp
              go_at_call 101; refine (l1Below_any b v l _ _ BG.out.cur (by omega) (by omega)).mono ?_; rintro e w21 ⟨cn, rfl, ⟨c0, c1, c2⟩, hg, hC⟩; have c3 := c2 (by omega); replace BG := Lib.hid (BG.out.draw hg hC); clear hg hC c1 c2
              refine hK.out _ _ ?_ (fun hHeld => ?_)
              · exact (BG.out.box (P, cPartV kd on br (.slice ca y.length cc) cnt (.slice (some ⟨g, 0, none⟩) m lc)) (by simp)).cell 5 (by simp)
              clear hK K
              try simp only [Act.put, List.getElem_toArray, List.getElem_cons_zero, List.getElem_cons_succ, List.setIfInBounds_toArray, List.set_cons_zero, List.set_cons_succ]
              refine anyT_take (i := 5) (v := ?_) rfl (by kernel_rfl) (by kernel_rfl) (by kernel_rfl) (by kernel_rfl) (by kernel_rfl) (fun _ _ _ h => h) (Or.inl ⟨by rfl, ?_⟩) (by assumption) ?_
              rotate_left
              · intro w hSw; (try dsimp only at hSw); go_simp; with_reducible rfl
              try simp only [Act.put, List.getElem_toArray, List.getElem_cons_zero, List.getElem_cons_succ, List.setIfInBounds_toArray, List.set_cons_zero, List.set_cons_succ]
              refine anyT_take (i := 6) (v := ?_) rfl (by kernel_rfl) (by kernel_rfl) (by kernel_rfl) (by kernel_rfl) (by kernel_rfl) (fun _ _ _ h => h) (Or.inl ⟨by rfl, ?_⟩) (by assumption) ?_
              rotate_left
              · intro w hSw; (try dsimp only at hSw); go_simp; with_reducible rfl
              try simp only [Act.put, List.getElem_toArray, List.getElem_cons_zero, List.getElem_cons_succ, List.setIfInBounds_toArray, List.set_cons_zero, List.set_cons_succ]
              obtain ⟨g2, hg2, hgl2, hf⟩ := row_form (show OwnsF cLayer 86 2 _ w.heap.size (.slice (some ⟨g, 0, none⟩) m lc) z from BG.out.row (hPL w (.slice (some ⟨g, 0, none⟩) m lc) z) (by simp)) cLayer_len (by omega)
              obtain rfl : g = g2 := by injection hg2 with hg2; injection hg2
              have d0 := (hf k hkz 0 (by decide)).1
              have d1 := (hf k hkz 1 (by decide)).1
              have fz1 := (hf k hkz 1 (by decide)).2
              clear hf hg2
              rw [HZK.out] at d0 d1
              simp only [cLayer, List.getElem?_cons_zero, List.getElem?_cons_succ, Nat.add_zero] at d0 d1
              have BG2 := Lib.hid (BG.out.elem2 0 rfl hzm.symm cLayer_len k hkz (⟨[99, 111, 117, 110, 116, 115], cn⟩ : LayerD) (.int .i64 cn) (by rw [HZK.out]; rfl))
              simp only [List.set_cons_zero, List.set_cons_succ] at BG2
              refine anyT_tail (by kernel_rfl) rfl (fun K hK => ?_)
              go_simp
              refine hK.out _ _ ?_
              clear hK K
              try simp only [Act.put, List.getElem_toArray, List.getElem_cons_zero, List.getElem_cons_succ, List.setIfInBounds_toArray, List.set_cons_zero, List.set_cons_succ]
              refine anyT_done (by kernel_rfl) ?_ _
              have hkz3 : k < (z.set k (⟨[99, 111, 117, 110, 116, 115], cn⟩ : LayerD)).length := by rw [List.length_set]; exact hkz
              have HOK3 := Lib.hid (show okPt 3 ⟨⟨kd, on, br, y, cnt⟩, z.set k (⟨[99, 111, 117, 110, 116, 115], cn⟩ : LayerD)⟩ from ⟨HOK.out.1, by simp only [List.length_set]; exact HOK.out.2.1, fun t ht => by rcases List.mem_or_eq_of_mem_set ht with ht | rfl; exact HOK.out.2.2 t ht; exact ⟨by simp, by unfold I64; simp only; omega⟩⟩)
              have hzm3 : (z.set k (⟨[99, 111, 117, 110, 116, 115], cn⟩ : LayerD)).length = m := by rw [List.length_set]; exact hzm
              have HZK3 := Lib.hid (show (z.set k (⟨[99, 111, 117, 110, 116, 115], cn⟩ : LayerD))[k] = ⟨[99, 111, 117, 110, 116, 115], cn⟩ from List.getElem_set_self ..)
              generalize z.set k (⟨[99, 111, 117, 110, 116, 115], cn⟩ : LayerD) = z3 at *
              replace BG := BG2
              clear BG2 d0 d1 fz1 hgl2 hHeld
              go_wp2_with fail
              generalize w21.setCell ⟨g, k * 2 + 1, none⟩ (.int .i64 cn) = w22 at *
              refine (l1Once_any b v l _ _ BG.out.cur (by omega) (by omega)).mono ?_
              rintro e w23 ⟨bo, rfl, hg, hC⟩
              replace BG := Lib.hid (BG.out.draw hg hC)
              clear hg hC
              cases bo
              case false =>
                have BG4 := Lib.hid (BG.out.less (bs' := [(P, cPartV kd on br (.slice ca y.length cc) cnt (.slice (some ⟨g, 0, none⟩) m lc)), (w.heap.size, zPartV)]) (.cons _ (.refl _)) (.refl _))
                go_wp2_with fail
                exact ⟨⟨k + 1, z3, by go_num, by omega, hzm3, HOK3.out, BG4.out⟩, by simp [intOf]; omega⟩
              case true =>
                obtain ⟨g2, hg2, hgl2, hf⟩ := row_form (show OwnsF cLayer 86 2 _ w.heap.size (.slice (some ⟨g, 0, none⟩) m lc) z3 from BG.out.row (hPL w (.slice (some ⟨g, 0, none⟩) m lc) z3) (by simp)) cLayer_len (by omega)
                obtain rfl : g = g2 := by injection hg2 with hg2; injection hg2
                have d1 := (hf k hkz3 1 (by decide)).1
                have fz1 := (hf k hkz3 1 (by decide)).2
                clear hf hg2
                rw [HZK3.out] at d1
                simp only [cLayer, List.getElem?_cons_zero, List.getElem?_cons_succ, Nat.add_zero] at d1
                have BG2 := Lib.hid (BG.out.elem2 0 rfl hzm3.symm cLayer_len k hkz3 (⟨[99, 111, 117, 110, 116, 115], 999⟩ : LayerD) (.int .i64 999) (by rw [HZK3.out]; rfl))
                simp only [List.set_cons_zero, List.set_cons_succ] at BG2
                have HOK5 := Lib.hid (show okPt 3 ⟨⟨kd, on, br, y, cnt⟩, z3.set k (⟨[99, 111, 117, 110, 116, 115], 999⟩ : LayerD)⟩ from ⟨HOK3.out.1, by simp only [List.length_set]; exact HOK3.out.2.1, fun t ht => by rcases List.mem_or_eq_of_mem_set ht with ht | rfl; exact HOK3.out.2.2 t ht; exact ⟨by simp, by unfold I64; simp⟩⟩)
                have hzm5 : (z3.set k (⟨[99, 111, 117, 110, 116, 115], 999⟩ : LayerD)).length = m := by rw [List.length_set]; exact hzm3
                have BG4 := Lib.hid (BG2.out.less (bs' := [(P, cPartV kd on br (.slice ca y.length cc) cnt (.slice (some ⟨g, 0, none⟩) m lc)), (w.heap.size, zPartV)]) (.cons _ (.refl _)) (.refl _))
                have B_q := Lib.hid (BG.out.box (P, cPartV kd on br (.slice ca y.length cc) cnt (.slice (some ⟨g, 0, none⟩) m lc)) (by simp))
                have q0 := B_q.out.cell 0 (by simp)
                have q1 := B_q.out.cell 1 (by simp)
                have q2 := B_q.out.cell 2 (by simp)
                have q3 := B_q.out.cell 3 (by simp)
                have q4 := B_q.out.cell 4 (by simp)
                have q5 := B_q.out.cell 5 (by simp)
                simp only [List.getElem_cons_zero, List.getElem_cons_succ] at q0 q1 q2 q3 q4 q5
                have l_q := B_q.out.lt
                go_wp2_with fail
                exact ⟨⟨k + 1, _, by go_num, by omega, hzm5, HOK5.out, BG4.out⟩, by simp [intOf]; omega⟩
            · skip
              go_wp2_with fail
              clear x0 x1 BX0 hXl
              replace BG := Lib.hid BG.out.drew
              refine region_T (S := fun w' => w'.cell? ⟨P, 5, none⟩ = some (.slice (some ⟨g, 0, none⟩) m lc)) (t := 7) (by kernel_rfl) ?_ (fun hHeld => ?_)
              · exact (BG.out.box (P, cPartV kd on br (.slice ca y.length cc) cnt (.slice (some ⟨g, 0, none⟩) m lc)) (by simp)).cell 5 (by simp)
              refine anyT_take (i := 0) (v := ?_) rfl (by kernel_rfl) (by kernel_rfl) (by kernel_rfl) (by kernel_rfl) (by kernel_rfl) (fun _ _ _ h => h) (Or.inl ⟨by rfl, ?_⟩) (by assumption) ?_
              rotate_left
              · intro w hSw; (try dsimp only at hSw); go_simp; with_reducible rfl
              try simp only [Act.put, List.getElem_toArray, List.getElem_cons_zero, List.getElem_cons_succ, List.setIfInBounds_toArray, List.set_cons_zero, List.set_cons_succ]
              refine anyT_take (i := 2) (v := ?_) rfl (by kernel_rfl) (by kernel_rfl) (by kernel_rfl) (by kernel_rfl) (by kernel_rfl) (fun _ _ _ h => h) (Or.inl ⟨by rfl, ?_⟩) (by assumption) ?_
              rotate_left
              · intro w hSw; (try dsimp only at hSw); go_simp; with_reducible rfl
              try simp only [Act.put, List.getElem_toArray, List.getElem_cons_zero, List.getElem_cons_succ, List.setIfInBounds_toArray, List.set_cons_zero, List.set_cons_succ]
              refine anyT_take (i := 3) (v := ?_) rfl (by kernel_rfl) (by kernel_rfl) (by kernel_rfl) (by kernel_rfl) (by kernel_rfl) (fun _ _ _ h => h) (Or.inl ⟨by rfl, ?_⟩) (by assumption) ?_
              rotate_left
              · intro w hSw; (try dsimp only at hSw); go_simp; with_reducible rfl
              try simp only [Act.put, List.getElem_toArray, List.getElem_cons_zero, List.getElem_cons_succ, List.setIfInBounds_toArray, List.set_cons_zero, List.set_cons_succ]
              refine anyT_take (i := 1) (v := ?_) rfl (by kernel_rfl) (by kernel_rfl) (by kernel_rfl) (by kernel_rfl) (by kernel_rfl) (fun _ _ _ h => h) (Or.inl ⟨by rfl, ?_⟩) (by assumption) ?_
              rotate_left
              · intro w hSw; (try dsimp only at hSw); go_simp; with_reducible rfl
              try simp only [Act.put, List.getElem_toArray, List.getElem_cons_zero, List.getElem_cons_succ, List.setIfInBounds_toArray, List.set_cons_zero, List.set_cons_succ]
              refine anyT_only (i := 4) (by kernel_rfl) rfl (fun K hK => ?_)
              go_simp
              go_at_call 101; refine (l1Below_any b v l _ _ BG.out.cur (by omega) (by omega)).mono ?_; rintro e w21 ⟨cn, rfl, ⟨c0, c1, c2⟩, hg, hC⟩; have c3 := c2 (by omega); replace BG := Lib.hid (BG.out.draw hg hC); clear hg hC c1 c2
              refine hK.out _ _ ?_ (fun hHeld => ?_)
              · exact (BG.out.box (P, cPartV kd on br (.slice ca y.length cc) cnt (.slice (some ⟨g, 0, none⟩) m lc)) (by simp)).cell 5 (by simp)
              clear hK K
              try simp only [Act.put, List.getElem_toArray, List.getElem_cons_zero, List.getElem_cons_succ, List.setIfInBounds_toArray, List.set_cons_zero, List.set_cons_succ]
              refine anyT_take (i := 5) (v := ?_) rfl (by kernel_rfl) (by kernel_rfl) (by kernel_rfl) (by kernel_rfl) (by kernel_rfl) (fun _ _ _ h => h) (Or.inl ⟨by rfl, ?_⟩) (by assumption) ?_
              rotate_left
              · intro w hSw; (try dsimp only at hSw); go_simp; with_reducible rfl
              try simp only [Act.put, List.getElem_toArray, List.getElem_cons_zero, List.getElem_cons_succ, List.setIfInBounds_toArray, List.set_cons_zero, List.set_cons_succ]
              refine anyT_take (i := 6) (v := ?_) rfl (by kernel_rfl) (by kernel_rfl) (by kernel_rfl) (by kernel_rfl) (by kernel_rfl) (fun _ _ _ h => h) (Or.inl ⟨by rfl, ?_⟩) (by assumption) ?_
              rotate_left
              · intro w hSw; (try dsimp only at hSw); go_simp; with_reducible rfl
              try simp only [Act.put, List.getElem_toArray, List.getElem_cons_zero, List.getElem_cons_succ, List.setIfInBounds_toArray, List.set_cons_zero, List.set_cons_succ]
              obtain ⟨g2, hg2, hgl2, hf⟩ := row_form (show OwnsF cLayer 86 2 _ w.heap.size (.slice (some ⟨g, 0, none⟩) m lc) z from BG.out.row (hPL w (.slice (some ⟨g, 0, none⟩) m lc) z) (by simp)) cLayer_len (by omega)
              obtain rfl : g = g2 := by injection hg2 with hg2; injection hg2
              have d0 := (hf k hkz 0 (by decide)).1
              have d1 := (hf k hkz 1 (by decide)).1
              have fz1 := (hf k hkz 1 (by decide)).2
              clear hf hg2
              rw [HZK.out] at d0 d1
              simp only [cLayer, List.getElem?_cons_zero, List.getElem?_cons_succ, Nat.add_zero] at d0 d1
              have BG2 := Lib.hid (BG.out.elem2 0 rfl hzm.symm cLayer_len k hkz (⟨[104, 101, 97, 114, 115], cn⟩ : LayerD) (.int .i64 cn) (by rw [HZK.out]; rfl))
              simp only [List.set_cons_zero, List.set_cons_succ] at BG2
              refine anyT_tail (by kernel_rfl) rfl (fun K hK => ?_)
              go_simp
              refine hK.out _ _ ?_
              clear hK K
              try simp only [Act.put, List.getElem_toArray, List.getElem_cons_zero, List.getElem_cons_succ, List.setIfInBounds_toArray, List.set_cons_zero, List.set_cons_succ]
              refine anyT_done (by kernel_rfl) ?_ _
              have hkz3 : k < (z.set k (⟨[104, 101, 97, 114, 115], cn⟩ : LayerD)).length := by rw [List.length_set]; exact hkz
              have HOK3 := Lib.hid (show okPt 3 ⟨⟨kd, on, br, y, cnt⟩, z.set k (⟨[104, 101, 97, 114, 115], cn⟩ : LayerD)⟩ from ⟨HOK.out.1, by simp only [List.length_set]; exact HOK.out.2.1, fun t ht => by rcases List.mem_or_eq_of_mem_set ht with ht | rfl; exact HOK.out.2.2 t ht; exact ⟨by simp, by unfold I64; simp only; omega⟩⟩)
              have hzm3 : (z.set k (⟨[104, 101, 97, 114, 115], cn⟩ : LayerD)).length = m := by rw [List.length_set]; exact hzm
              have HZK3 := Lib.hid (show (z.set k (⟨[104, 101, 97, 114, 115], cn⟩ : LayerD))[k] = ⟨[104, 101, 97, 114, 115], cn⟩ from List.getElem_set_self ..)
              generalize z.set k (⟨[104, 101, 97, 114, 115], cn⟩ : LayerD) = z3 at *
              replace BG := BG2
              clear BG2 d0 d1 fz1 hgl2 hHeld
              go_wp2_with fail
              generalize w21.setCell ⟨g, k * 2 + 1, none⟩ (.int .i64 cn) = w22 at *
              refine (l1Once_any b v l _ _ BG.out.cur (by omega) (by omega)).mono ?_
              rintro e w23 ⟨bo, rfl, hg, hC⟩
              replace BG := Lib.hid (BG.out.draw hg hC)
              clear hg hC
              cases bo
              case false =>
                have BG4 := Lib.hid (BG.out.less (bs' := [(P, cPartV kd on br (.slice ca y.length cc) cnt (.slice (some ⟨g, 0, none⟩) m lc)), (w.heap.size, zPartV)]) (.cons _ (.refl _)) (.refl _))
                go_wp2_with fail
                exact ⟨⟨k + 1, z3, by go_num, by omega, hzm3, HOK3.out, BG4.out⟩, by simp [intOf]; omega⟩
              case true =>
                obtain ⟨g2, hg2, hgl2, hf⟩ := row_form (show OwnsF cLayer 86 2 _ w.heap.size (.slice (some ⟨g, 0, none⟩) m lc) z3 from BG.out.row (hPL w (.slice (some ⟨g, 0, none⟩) m lc) z3) (by simp)) cLayer_len (by omega)
                obtain rfl : g = g2 := by injection hg2 with hg2; injection hg2
                have d1 := (hf k hkz3 1 (by decide)).1
                have fz1 := (hf k hkz3 1 (by decide)).2
                clear hf hg2
                rw [HZK3.out] at d1
                simp only [cLayer, List.getElem?_cons_zero, List.getElem?_cons_succ, Nat.add_zero] at d1
                have BG2 := Lib.hid (BG.out.elem2 0 rfl hzm3.symm cLayer_len k hkz3 (⟨[104, 101, 97, 114, 115], 999⟩ : LayerD) (.int .i64 999) (by rw [HZK3.out]; rfl))
                simp only [List.set_cons_zero, List.set_cons_succ] at BG2
                have HOK5 := Lib.hid (show okPt 3 ⟨⟨kd, on, br, y, cnt⟩, z3.set k (⟨[104, 101, 97, 114, 115], 999⟩ : LayerD)⟩ from ⟨HOK3.out.1, by simp only [List.length_set]; exact HOK3.out.2.1, fun t ht => by rcases List.mem_or_eq_of_mem_set ht with ht | rfl; exact HOK3.out.2.2 t ht; exact ⟨by simp, by unfold I64; simp⟩⟩)
                have hzm5 : (z3.set k (⟨[104, 101, 97, 114, 115], 999⟩ : LayerD)).length = m := by rw [List.length_set]; exact hzm3
                have BG4 := Lib.hid (BG2.out.less (bs' := [(P, cPartV kd on br (.slice ca y.length cc) cnt (.slice (some ⟨g, 0, none⟩) m lc)), (w.heap.size, zPartV)]) (.cons _ (.refl _)) (.refl _))
                have B_q := Lib.hid (BG.out.box (P, cPartV kd on br (.slice ca y.length cc) cnt (.slice (some ⟨g, 0, none⟩) m lc)) (by simp))
                have q0 := B_q.out.cell 0 (by simp)
                have q1 := B_q.out.cell 1 (by simp)
                have q2 := B_q.out.cell 2 (by simp)
                have q3 := B_q.out.cell 3 (by simp)
                have q4 := B_q.out.cell 4 (by simp)
                have q5 := B_q.out.cell 5 (by simp)
                simp only [List.getElem_cons_zero, List.getElem_cons_succ] at q0 q1 q2 q3 q4 q5
                have l_q := B_q.out.lt
                go_wp2_with fail
                exact ⟨⟨k + 1, _, by go_num, by omega, hzm5, HOK5.out, BG4.out⟩, by simp [intOf]; omega⟩
          · skip
            have g0 : (nm == [99, 111, 117, 110, 116, 115]) = false := by cases h : (nm == [99, 111, 117, 110, 116, 115]) with | false => rfl | true => exact absurd (by unfold countedB; rw [h]; rfl) hcn
            have g1 : (nm == [104, 101, 97, 114, 115]) = false := by cases h : (nm == [104, 101, 97, 114, 115]) with | false => rfl | true => exact absurd (by unfold countedB; rw [h]; simp) hcn
            clear hcn
            replace BG := BV
            clear BV
            have BX0 := Lib.hid (BG.out.box (XB, [.string ⟨nm.toArray⟩, .int .i64 ct]) (by simp))
            have x0 := BX0.out.cell 0 (by simp)
            have x1 := BX0.out.cell 1 (by simp)
            simp only [List.getElem_cons_zero, List.getElem_cons_succ] at x0 x1
            have hXl := BX0.out.lt
            have BG4 := Lib.hid (BG.out.less (bs' := [(P, cPartV kd on br (.slice ca y.length cc) cnt (.slice (some ⟨g, 0, none⟩) m lc)), (w.heap.size, zPartV)]) (.cons _ (.refl _)) (.refl _))
            go_wp2_with fail
            exact ⟨⟨k + 1, z, by go_num, by omega, hzm, HOK.out, BG4.out⟩, by simp [intOf]; omega⟩
        · skip
          have hic : ¬ (k : Int) < (m : Int) := by omega
          have B_q := Lib.hid (BG.out.box (P, cPartV kd on br (.slice ca y.length cc) cnt (.slice la m lc)) (by simp))
          have q0 := B_q.out.cell 0 (by simp)
          have q1 := B_q.out.cell 1 (by simp)
          have q2 := B_q.out.cell 2 (by simp)
          have q3 := B_q.out.cell 3 (by simp)
          have q4 := B_q.out.cell 4 (by simp)
          have q5 := B_q.out.cell 5 (by simp)
          simp only [List.getElem_cons_zero, List.getElem_cons_succ] at q0 q1 q2 q3 q4 q5
          have l_q := B_q.out.lt
          have B_r := Lib.hid (BG.out.box (w.heap.size, zPartV) (by simp))
          have r0 := B_r.out.cell 0 (by simp)
          have r1 := B_r.out.cell 1 (by simp)
          have r2 := B_r.out.cell 2 (by simp)
          have r3 := B_r.out.cell 3 (by simp)
          have r4 := B_r.out.cell 4 (by simp)
          have r5 := B_r.out.cell 5 (by simp)
          simp only [List.getElem_cons_zero, List.getElem_cons_succ] at r0 r1 r2 r3 r4 r5
          have fr0 := B_r.out.froz 0 (by simp)
          have fr1 := B_r.out.froz 1 (by simp)
          have fr2 := B_r.out.froz 2 (by simp)
          have fr3 := B_r.out.froz 3 (by simp)
          have fr4 := B_r.out.froz 4 (by simp)
          have fr5 := B_r.out.froz 5 (by simp)
          have l_r := B_r.out.lt
          have BGf := Lib.hid (BG.out.put6 1 rfl (.string ⟨kd.toArray⟩) (.bool on) (.bool br) (.slice ca y.length cc) (.int .i64 cnt) (.slice la m lc))
          simp only [List.set_cons_zero, List.set_cons_succ] at BGf
          have hPR : ¬ P = w.heap.size := by have := BG.out.dis; simp only [List.pairwise_cons, List.mem_cons, List.not_mem_nil, or_false, forall_eq] at this; exact this.1
          have hRP : ¬ w.heap.size = P := fun e => hPR e.symm
          go_wp2_with fail
          refine bodyPost_ret (v := .agg #[.string ⟨kd.toArray⟩, .bool on, .bool br, .slice ca y.length cc, .int .i64 cnt, .slice la m lc]) (by simp [results, Tryz.results106, go_sem, cell_set_at, cell_set_ne, r0, r1, r2, r3, r4, r5]) rfl ?_
          exact ⟨⟨⟨kd, on, br, y, cnt⟩, z⟩, .slice ca y.length cc, .slice la m lc, rfl, BGf.out.row (hPC w (.slice ca y.length cc) y) (by simp), BGf.out.row (hPL w (.slice la m lc) z) (by simp), HOK.out, BGf.out.grown, BGf.out.cur⟩
end Go.Proofs.YtcpbikilgacdlaaGreat
namespace Go.Proofs.YtcpbikilgacdlaaGreat
set_option linter.unusedVariables false
set_option linter.unusedSimpArgs false
open Go.RowKit
theorem okPt_up {n m : Nat} {x : PartD} (h : okPt n x) (hm : n ≤ m) : okPt m x := ⟨h.1, Nat.le_trans h.2.1 hm, h.2.2⟩
set_option maxRecDepth 100000 in
set_option maxHeartbeats 6400000 in
theorem l4Any_any (b : Nat) (v : Value) (l : List UInt8) (w : World) (hC : Cur w b v l) :
    Calls Tryz.prog 83 #[.pointer (some ⟨b, 0, none⟩)] w fun e w' => DrawnPart 4 b v l w e w' := by
  have BG := Lib.hid ((bag_start hC).var zPartV 37)
  clear hC
  go_enter Tryz.func83, Tryz.ntmps83
  go_wp2_with fail
  generalize w.alloc (.cells #[.string ⟨#[]⟩, .bool false, .bool false, .slice none 0 0, .int .i64 0, .slice none 0 0] 37) = w0 at *
  refine (l4Draw_any b v l _ BG.out.cur).mono ?_
  rintro e w1 ⟨⟨⟨kd, on, br, y, cnt⟩, z⟩, cv, lv, rfl, ho3, ho5, hok, hg, hC⟩
  simp only at ho3 ho5
  obtain ⟨ca, cc, rfl⟩ := slice_of ho3
  obtain ⟨la, lc, rfl⟩ := slice_of ho5
  have HOK := Lib.hid hok
  replace BG := Lib.hid (BG.out.drawn2 hg hC ho3 ho5)
  clear ho3 ho5 hok hg hC
  replace BG := Lib.hid (BG.out.var (cPartV kd on br (.slice ca y.length cc) cnt (.slice la z.length lc)) 37)
  go_wp2_with fail
  generalize w1.alloc (.cells #[.string ⟨kd.toArray⟩, .bool on, .bool br, .slice ca y.length cc, .int .i64 cnt, .slice la z.length lc] 37) = w2 at *
  generalize w1.heap.size = P at *
  refine (l1Below_any b v l _ _ BG.out.cur (by omega) (by omega)).mono ?_
  rintro e w3 ⟨k, rfl, ⟨k0, k1, k2⟩, hg, hC⟩
  replace BG := Lib.hid (BG.out.draw hg hC)
  clear hg hC k1 k2
  by_cases e0 : k = 0
  · subst e0
    go_wp2_with fail
    refine (l3Any_any b v l _ BG.out.cur).mono ?_
    rintro e w4 ⟨⟨kd2, on2, br2, y2, cnt2⟩, cv2, rfl, ho, hok, hg, hC⟩
    obtain ⟨ca2, cc2, rfl⟩ := slice_of ho
    simp only at ho
    have HOK2 := Lib.hid (show okPt 4 ⟨⟨kd2, on2, br2, y2, cnt2⟩, z⟩ from ⟨hok, Nat.le_trans HOK.out.2.1 (by decide), HOK.out.2.2⟩)
    replace BG := Lib.hid (BG.out.drawn hg hC (hPC w (.slice ca2 y2.length cc2) y2) (ownsF_base ho BG.out.size) (fun g e => (World.ownsRow.lt ho g e).1))
    clear ho hok hg hC
    unfold vCore
    simp only
    have B_q := Lib.hid (BG.out.box (P, cPartV kd on br (.slice ca y.length cc) cnt (.slice la z.length lc)) (by simp))
    have q0 := B_q.out.cell 0 (by simp)
    have q1 := B_q.out.cell 1 (by simp)
    have q2 := B_q.out.cell 2 (by simp)
    have q3 := B_q.out.cell 3 (by simp)
    have q4 := B_q.out.cell 4 (by simp)
    have q5 := B_q.out.cell 5 (by simp)
    simp only [List.getElem_cons_zero, List.getElem_cons_succ] at q0 q1 q2 q3 q4 q5
    have fq0 := B_q.out.froz 0 (by simp)
    have fq1 := B_q.out.froz 1 (by simp)
    have fq2 := B_q.out.froz 2 (by simp)
    have fq3 := B_q.out.froz 3 (by simp)
    have fq4 := B_q.out.froz 4 (by simp)
    have fq5 := B_q.out.froz 5 (by simp)
    have l_q := B_q.out.lt
    have BG5 := Lib.hid (BG.out.put5 0 rfl (.string ⟨kd2.toArray⟩) (.bool on2) (.bool br2) (.slice ca2 y2.length cc2) (.int .i64 cnt2))
    simp only [List.set_cons_zero, List.set_cons_succ] at BG5
    have B_r := Lib.hid (BG.out.box (w.heap.size, zPartV) (by simp))
    have r0 := B_r.out.cell 0 (by simp)
    have r1 := B_r.out.cell 1 (by simp)
    have r2 := B_r.out.cell 2 (by simp)
    have r3 := B_r.out.cell 3 (by simp)
    have r4 := B_r.out.cell 4 (by simp)
    have r5 := B_r.out.cell 5 (by simp)
    simp only [List.getElem_cons_zero, List.getElem_cons_succ] at r0 r1 r2 r3 r4 r5
    have fr0 := B_r.out.froz 0 (by simp)
    have fr1 := B_r.out.froz 1 (by simp)
    have fr2 := B_r.out.froz 2 (by simp)
    have fr3 := B_r.out.froz 3 (by simp)
    have fr4 := B_r.out.froz 4 (by simp)
    have fr5 := B_r.out.froz 5 (by simp)
    have l_r := B_r.out.lt
    have BGf := Lib.hid (BG5.out.put6 1 rfl (.string ⟨kd2.toArray⟩) (.bool on2) (.bool br2) (.slice ca2 y2.length cc2) (.int .i64 cnt2) (.slice la z.length lc))
    simp only [List.set_cons_zero, List.set_cons_succ] at BGf
    have hPR : ¬ P = w.heap.size := by have := BG.out.dis; simp only [List.pairwise_cons, List.mem_cons, List.not_mem_nil, or_false, forall_eq] at this; exact this.1
    have hRP : ¬ w.heap.size = P := fun e => hPR e.symm
    go_wp2_with fail
    refine bodyPost_ret (v := .agg #[.string ⟨kd2.toArray⟩, .bool on2, .bool br2, .slice ca2 y2.length cc2, .int .i64 cnt2, .slice la z.length lc]) (by simp [results, Tryz.results83, go_sem, cell_set_at, cell_set_ne, bx_set_ne, hPR, hRP, r0, r1, r2, r3, r4, r5]) rfl ?_
    exact ⟨⟨⟨kd2, on2, br2, y2, cnt2⟩, z⟩, .slice ca2 y2.length cc2, .slice la z.length lc, rfl, BGf.out.row (hPC w (.slice ca2 y2.length cc2) y2) (by simp), BGf.out.row (hPL w (.slice la z.length lc) z) (by simp), HOK2.out, BGf.out.grown, BGf.out.cur⟩
  have E0 : (k == 0) = false := by simpa using e0
  by_cases e1 : k = 1
  · subst e1
    go_wp2_with fail
    replace BG := Lib.hid BG.out.drew
    refine region_T (S := fun w' => w'.cell? ⟨P, 5, none⟩ = some (.slice la z.length lc)) (t := 10) (by kernel_rfl) ?_ (fun hHeld => ?_)
    · exact (BG.out.box (P, cPartV kd on br (.slice ca y.length cc) cnt (.slice la z.length lc)) (by simp)).cell 5 (by simp)
    refine anyT_take (i := 0) (v := ?_) rfl (by kernel_rfl) (by kernel_rfl) (by kernel_rfl) (by kernel_rfl) (by kernel_rfl) (fun _ _ _ h => h) (Or.inl ⟨by rfl, ?_⟩) (by assumption) ?_
    rotate_left
    · intro w hSw; (try dsimp only at hSw); go_simp; with_reducible rfl
    try simp only [Act.put, List.getElem_toArray, List.getElem_cons_zero, List.getElem_cons_succ, List.setIfInBounds_toArray, List.set_cons_zero, List.set_cons_succ]
    refine anyT_take (i := 2) (v := ?_) rfl (by kernel_rfl) (by kernel_rfl) (by kernel_rfl) (by kernel_rfl) (by kernel_rfl) (fun _ _ _ h => h) (Or.inl ⟨by rfl, ?_⟩) (by assumption) ?_
    rotate_left
    · intro w hSw; (try dsimp only at hSw); go_simp; with_reducible rfl
    try simp only [Act.put, List.getElem_toArray, List.getElem_cons_zero, List.getElem_cons_succ, List.setIfInBounds_toArray, List.set_cons_zero, List.set_cons_succ]
    refine anyT_take (i := 4) (v := ?_) rfl (by kernel_rfl) (by kernel_rfl) (by kernel_rfl) (by kernel_rfl) (by kernel_rfl) (fun _ _ _ h => h) (Or.inl ⟨by rfl, ?_⟩) (by assumption) ?_
    rotate_left
    · intro w hSw; (try dsimp only at hSw); go_simp; with_reducible rfl
    try simp only [Act.put, List.getElem_toArray, List.getElem_cons_zero, List.getElem_cons_succ, List.setIfInBounds_toArray, List.set_cons_zero, List.set_cons_succ]
    refine anyT_take (i := 1) (v := ?_) rfl (by kernel_rfl) (by kernel_rfl) (by kernel_rfl) (by kernel_rfl) (by kernel_rfl) (fun _ _ _ h => h) (Or.inl ⟨by rfl, ?_⟩) (by assumption) ?_
    rotate_left
    · intro w hSw; (try dsimp only at hSw); go_simp; with_reducible rfl
    try simp only [Act.put, List.getElem_toArray, List.getElem_cons_zero, List.getElem_cons_succ, List.setIfInBounds_toArray, List.set_cons_zero, List.set_cons_succ]
    refine anyT_only (i := 3) (by kernel_rfl) rfl (fun K hK => ?_)
    go_simp
    go_at_call 126; refine (l4Name_any b v l _ BG.out.cur).mono ?_; rintro e w5 ⟨s, rfl, hs, hg, hC⟩; obtain ⟨⟨sl⟩⟩ := s; have hsl : sl.length ≤ 9 := hs; replace BG := Lib.hid (BG.out.draw hg hC); clear hg hC hs
    refine hK.out _ _ ?_ (fun hHeld => ?_)
    · exact (BG.out.box (P, cPartV kd on br (.slice ca y.length cc) cnt (.slice la z.length lc)) (by simp)).cell 5 (by simp)
    clear hK K
    try simp only [Act.put, List.getElem_toArray, List.getElem_cons_zero, List.getElem_cons_succ, List.setIfInBounds_toArray, List.set_cons_zero, List.set_cons_succ]
    refine anyT_only (i := 5) (by kernel_rfl) rfl (fun K hK => ?_)
    go_simp
    go_at_call 101; refine (l1Below_any b v l _ _ BG.out.cur (by omega) (by omega)).mono ?_; rintro e w6 ⟨cn, rfl, ⟨c0, c1, c2⟩, hg, hC⟩; have c3 := c2 (by omega); replace BG := Lib.hid (BG.out.draw hg hC); clear hg hC c1 c2
    refine hK.out _ _ ?_ (fun hHeld => ?_)
    · exact (BG.out.box (P, cPartV kd on br (.slice ca y.length cc) cnt (.slice la z.length lc)) (by simp)).cell 5 (by simp)
    clear hK K
    try simp only [Act.put, List.getElem_toArray, List.getElem_cons_zero, List.getElem_cons_succ, List.setIfInBounds_toArray, List.set_cons_zero, List.set_cons_succ]
    refine anyT_take (i := 6) (v := ?_) rfl (by kernel_rfl) (by kernel_rfl) (by kernel_rfl) (by kernel_rfl) (by kernel_rfl) (fun _ _ _ h => h) (Or.inl ⟨by rfl, ?_⟩) (by assumption) ?_
    rotate_left
    · intro w hSw; (try dsimp only at hSw); go_simp; with_reducible rfl
    try simp only [Act.put, List.getElem_toArray, List.getElem_cons_zero, List.getElem_cons_succ, List.setIfInBounds_toArray, List.set_cons_zero, List.set_cons_succ]
    refine anyT_only (i := 7) (by kernel_rfl) rfl (fun K hK => ?_)
    go_simp
    have BGp := Lib.hid (BG.out.past (.cells #[.string ⟨sl.toArray⟩, .int .i64 cn] 86))
    refine hK.out _ _ ?_ (fun hHeld => ?_)
    · exact (BGp.out.box (P, cPartV kd on br (.slice ca y.length cc) cnt (.slice la z.length lc)) (by simp)).cell 5 (by simp)
    clear hK K
    try simp only [Act.put, List.getElem_toArray, List.getElem_cons_zero, List.getElem_cons_succ, List.setIfInBounds_toArray, List.set_cons_zero, List.set_cons_succ]
    refine anyT_only (i := 8) (by kernel_rfl) rfl (fun K hK => ?_)
    have hz3 := HOK.out.2.1
    simp only at hz3
    refine step_flat cLayer_len cLayer_one infoLay rfl (by decide) (by decide) Tryz.underlying35 rfl (.tmp 16) (.tmp 22) rfl w.heap.size (.slice la z.length lc) z (⟨sl, cn⟩ : LayerD) _ w6.heap.size rfl (show OwnsF cLayer 86 2 _ w.heap.size (.slice la z.length lc) z from BGp.out.row (hPL w (.slice la z.length lc) z) (by simp)) rfl (cell_newL w6 (⟨sl, cn⟩ : LayerD) _ rfl) (by omega) (by have := BG.out.size; simp; omega) ?_
    intro u w7 ho hgr hne
    have BG7 := Lib.hid (BGp.out.app 0 rfl hgr ho hne)
    simp only [List.set_cons_zero] at BG7
    refine hK.out _ _ ?_ (fun hHeld => ?_)
    · exact (BG7.out.box (P, cPartV kd on br (.slice ca y.length cc) cnt (.slice la z.length lc)) (by simp)).cell 5 (by simp)
    clear hK K
    try simp only [Act.put, List.getElem_toArray, List.getElem_cons_zero, List.getElem_cons_succ, List.setIfInBounds_toArray, List.set_cons_zero, List.set_cons_succ]
    have HOK2 := Lib.hid (show okPt 4 ⟨⟨kd, on, br, y, cnt⟩, z ++ [(⟨sl, cn⟩ : LayerD)]⟩ from ⟨HOK.out.1, by simp; omega, fun t ht => by rcases List.mem_append.1 ht with ht | ht; exact HOK.out.2.2 t ht; rw [List.mem_singleton.1 ht]; exact ⟨hsl, by unfold I64; simp only; omega⟩⟩)
    generalize z ++ [(⟨sl, cn⟩ : LayerD)] = zz at *
    obtain ⟨lb, ld, rfl⟩ := slice_of ho
    clear ho hgr hne hHeld BGp
    replace BG := BG7
    clear BG7
    have B_q := Lib.hid (BG.out.box (P, cPartV kd on br (.slice ca y.length cc) cnt (.slice la z.length lc)) (by simp))
    have q0 := B_q.out.cell 0 (by simp)
    have q1 := B_q.out.cell 1 (by simp)
    have q2 := B_q.out.cell 2 (by simp)
    have q3 := B_q.out.cell 3 (by simp)
    have q4 := B_q.out.cell 4 (by simp)
    have q5 := B_q.out.cell 5 (by simp)
    simp only [List.getElem_cons_zero, List.getElem_cons_succ] at q0 q1 q2 q3 q4 q5
    have fq0 := B_q.out.froz 0 (by simp)
    have fq1 := B_q.out.froz 1 (by simp)
    have fq2 := B_q.out.froz 2 (by simp)
    have fq3 := B_q.out.froz 3 (by simp)
    have fq4 := B_q.out.froz 4 (by simp)
    have fq5 := B_q.out.froz 5 (by simp)
    have l_q := B_q.out.lt
    have B_r := Lib.hid (BG.out.box (w.heap.size, zPartV) (by simp))
    have r0 := B_r.out.cell 0 (by simp)
    have r1 := B_r.out.cell 1 (by simp)
    have r2 := B_r.out.cell 2 (by simp)
    have r3 := B_r.out.cell 3 (by simp)
    have r4 := B_r.out.cell 4 (by simp)
    have r5 := B_r.out.cell 5 (by simp)
    simp only [List.getElem_cons_zero, List.getElem_cons_succ] at r0 r1 r2 r3 r4 r5
    have fr0 := B_r.out.froz 0 (by simp)
    have fr1 := B_r.out.froz 1 (by simp)
    have fr2 := B_r.out.froz 2 (by simp)
    have fr3 := B_r.out.froz 3 (by simp)
    have fr4 := B_r.out.froz 4 (by simp)
    have fr5 := B_r.out.froz 5 (by simp)
    have l_r := B_r.out.lt
    refine anyT_take (i := 9) (v := ?_) rfl (by kernel_rfl) (by kernel_rfl) (by kernel_rfl) (by kernel_rfl) (by kernel_rfl) (fun _ _ _ h => h) (Or.inl ⟨by rfl, ?_⟩) (q5) ?_
    rotate_left
    · intro w hSw; (try dsimp only at hSw); go_simp; with_reducible rfl
    try simp only [Act.put, List.getElem_toArray, List.getElem_cons_zero, List.getElem_cons_succ, List.setIfInBounds_toArray, List.set_cons_zero, List.set_cons_succ]
    refine anyT_tail (by kernel_rfl) rfl (fun K hK => ?_)
    go_simp
    refine hK.out _ _ ?_
    clear hK K
    try simp only [Act.put, List.getElem_toArray, List.getElem_cons_zero, List.getElem_cons_succ, List.setIfInBounds_toArray, List.set_cons_zero, List.set_cons_succ]
    refine anyT_done (by kernel_rfl) ?_ _
    have BG5 := Lib.hid (BG.out.set 0 rfl (j := 5) (by simp) (.slice lb zz.length ld))
    simp only [List.set_cons_zero, List.set_cons_succ] at BG5
    have BGf := Lib.hid (BG5.out.put6 1 rfl (.string ⟨kd.toArray⟩) (.bool on) (.bool br) (.slice ca y.length cc) (.int .i64 cnt) (.slice lb zz.length ld))
    simp only [List.set_cons_zero, List.set_cons_succ] at BGf
    have hPR : ¬ P = w.heap.size := by have := BG.out.dis; simp only [List.pairwise_cons, List.mem_cons, List.not_mem_nil, or_false, forall_eq] at this; exact this.1
    have hRP : ¬ w.heap.size = P := fun e => hPR e.symm
    go_wp2_with fail
    refine bodyPost_ret (v := .agg #[.string ⟨kd.toArray⟩, .bool on, .bool br, .slice ca y.length cc, .int .i64 cnt, .slice lb zz.length ld]) (by simp [results, Tryz.results83, go_sem, cell_set_at, cell_set_ne, bx_set_ne, hPR, hRP, r0, r1, r2, r3, r4, r5]) rfl ?_
    exact ⟨⟨⟨kd, on, br, y, cnt⟩, zz⟩, .slice ca y.length cc, .slice lb zz.length ld, rfl, BGf.out.row (hPC w (.slice ca y.length cc) y) (by simp), BGf.out.row (hPL w (.slice lb zz.length ld) zz) (by simp), HOK2.out, BGf.out.grown, BGf.out.cur⟩
  have E1 : (k == 1) = false := by simpa using e1
  by_cases e2 : k = 2
  · subst e2
    by_cases hz0 : 0 < z.length
    · skip
      have hz0i : (0 : Int) < (z.length : Int) := by omega
      have hz3 := HOK.out.2.1
      simp only at hz3
      have B_q := Lib.hid (BG.out.box (P, cPartV kd on br (.slice ca y.length cc) cnt (.slice la z.length lc)) (by simp))
      have q0 := B_q.out.cell 0 (by simp)
      have q1 := B_q.out.cell 1 (by simp)
      have q2 := B_q.out.cell 2 (by simp)
      have q3 := B_q.out.cell 3 (by simp)
      have q4 := B_q.out.cell 4 (by simp)
      have q5 := B_q.out.cell 5 (by simp)
      simp only [List.getElem_cons_zero, List.getElem_cons_succ] at q0 q1 q2 q3 q4 q5
      have fq0 := B_q.out.froz 0 (by simp)
      have fq1 := B_q.out.froz 1 (by simp)
      have fq2 := B_q.out.froz 2 (by simp)
      have fq3 := B_q.out.froz 3 (by simp)
      have fq4 := B_q.out.froz 4 (by simp)
      have fq5 := B_q.out.froz 5 (by simp)
      have l_q := B_q.out.lt
      go_wp2_with fail
      clear B_q l_q q0 q1 q2 q3 q4 q5 fq0 fq1 fq2 fq3 fq4 fq5
      replace BG := Lib.hid BG.out.drew
      obtain ⟨g, rfl, _, _⟩ := row_form (show OwnsF cLayer 86 2 _ w.heap.size (.slice la z.length lc) z from BG.out.row (hPL w (.slice la z.length lc) z) (by simp)) cLayer_len hz0
      refine region_T (S := fun w' => w'.cell? ⟨P, 5, none⟩ = some (.slice (some ⟨g, 0, none⟩) z.length lc)) (t := 11) (by kernel_rfl) ?_ (fun hHeld => ?_)
      · exact (BG.out.box (P, cPartV kd on br (.slice ca y.length cc) cnt (.slice (some ⟨g, 0, none⟩) z.length lc)) (by simp)).cell 5 (by simp)
      refine anyT_take (i := 0) (v := ?_) rfl (by kernel_rfl) (by kernel_rfl) (by kernel_rfl) (by kernel_rfl) (by kernel_rfl) (fun _ _ _ h => h) (Or.inl ⟨by rfl, ?_⟩) (by assumption) ?_
      rotate_left
      · intro w hSw; (try dsimp only at hSw); go_simp; with_reducible rfl
      try simp only [Act.put, List.getElem_toArray, List.getElem_cons_zero, List.getElem_cons_succ, List.setIfInBounds_toArray, List.set_cons_zero, List.set_cons_succ]
      refine anyT_take (i := 2) (v := ?_) rfl (by kernel_rfl) (by kernel_rfl) (by kernel_rfl) (by kernel_rfl) (by kernel_rfl) (fun _ _ _ h => h) (Or.inl ⟨by rfl, ?_⟩) (by assumption) ?_
      rotate_left
      · intro w hSw; (try dsimp only at hSw); go_simp; with_reducible rfl
      try simp only [Act.put, List.getElem_toArray, List.getElem_cons_zero, List.getElem_cons_succ, List.setIfInBounds_toArray, List.set_cons_zero, List.set_cons_succ]
      refine anyT_take (i := 3) (v := ?_) rfl (by kernel_rfl) (by kernel_rfl) (by kernel_rfl) (by kernel_rfl) (by kernel_rfl) (fun _ _ _ h => h) (Or.inl ⟨by rfl, ?_⟩) (by assumption) ?_
      rotate_left
      · intro w hSw; (try dsimp only at hSw); go_simp; with_reducible rfl
      try simp only [Act.put, List.getElem_toArray, List.getElem_cons_zero, List.getElem_cons_succ, List.setIfInBounds_toArray, List.set_cons_zero, List.set_cons_succ]
      refine anyT_take (i := 7) (v := ?_) rfl (by kernel_rfl) (by kernel_rfl) (by kernel_rfl) (by kernel_rfl) (by kernel_rfl) (fun _ _ _ h => h) (Or.inl ⟨by rfl, ?_⟩) (by assumption) ?_
      rotate_left
      · intro w hSw; (try dsimp only at hSw); go_simp; with_reducible rfl
      try simp only [Act.put, List.getElem_toArray, List.getElem_cons_zero, List.getElem_cons_succ, List.setIfInBounds_toArray, List.set_cons_zero, List.set_cons_succ]
      refine anyT_take (i := 1) (v := ?_) rfl (by kernel_rfl) (by kernel_rfl) (by kernel_rfl) (by kernel_rfl) (by kernel_rfl) (fun _ _ _ h => h) (Or.inl ⟨by rfl, ?_⟩) (by assumption) ?_
      rotate_left
      · intro w hSw; (try dsimp only at hSw); go_simp; with_reducible rfl
      try simp only [Act.put, List.getElem_toArray, List.getElem_cons_zero, List.getElem_cons_succ, List.setIfInBounds_toArray, List.set_cons_zero, List.set_cons_succ]
      refine anyT_take (i := 4) (v := ?_) rfl (by kernel_rfl) (by kernel_rfl) (by kernel_rfl) (by kernel_rfl) (by kernel_rfl) (fun _ _ _ h => h) (Or.inl ⟨by rfl, ?_⟩) (by assumption) ?_
      rotate_left
      · intro w hSw; (try dsimp only at hSw); go_simp; with_reducible rfl
      try simp only [Act.put, List.getElem_toArray, List.getElem_cons_zero, List.getElem_cons_succ, List.setIfInBounds_toArray, List.set_cons_zero, List.set_cons_succ]
      refine anyT_take (i := 5) (v := ?_) rfl (by kernel_rfl) (by kernel_rfl) (by kernel_rfl) (by kernel_rfl) (by kernel_rfl) (fun _ _ _ h => h) (Or.inl ⟨by rfl, ?_⟩) (by assumption) ?_
      rotate_left
      · intro w hSw; (try dsimp only at hSw); go_simp; with_reducible rfl
      try simp only [Act.put, List.getElem_toArray, List.getElem_cons_zero, List.getElem_cons_succ, List.setIfInBounds_toArray, List.set_cons_zero, List.set_cons_succ]
      refine anyT_only (i := 6) (by kernel_rfl) rfl (fun K hK => ?_)
      go_simp
      go_at_call 101; refine (l1Below_any b v l _ _ BG.out.cur (by omega) (by omega)).mono ?_; rintro e w5 ⟨ix, rfl, ⟨x0, x1, x2⟩, hg, hC⟩; have x3 := x2 (by omega); replace BG := Lib.hid (BG.out.draw hg hC); clear hg hC x1 x2
      refine hK.out _ _ ?_ (fun hHeld => ?_)
      · exact (BG.out.box (P, cPartV kd on br (.slice ca y.length cc) cnt (.slice (some ⟨g, 0, none⟩) z.length lc)) (by simp)).cell 5 (by simp)
      clear hK K
      try simp only [Act.put, List.getElem_toArray, List.getElem_cons_zero, List.getElem_cons_succ, List.setIfInBounds_toArray, List.set_cons_zero, List.set_cons_succ]
      refine anyT_only (i := 8) (by kernel_rfl) rfl (fun K hK => ?_)
      go_simp
      go_at_call 127; refine (l1Odd_any b v l _ BG.out.cur).mono ?_; rintro e w6 ⟨cn, rfl, hcn, hg, hC⟩; replace BG := Lib.hid (BG.out.draw hg hC); clear hg hC
      refine hK.out _ _ ?_ (fun hHeld => ?_)
      · exact (BG.out.box (P, cPartV kd on br (.slice ca y.length cc) cnt (.slice (some ⟨g, 0, none⟩) z.length lc)) (by simp)).cell 5 (by simp)
      clear hK K
      try simp only [Act.put, List.getElem_toArray, List.getElem_cons_zero, List.getElem_cons_succ, List.setIfInBounds_toArray, List.set_cons_zero, List.set_cons_succ]
      obtain ⟨ix, rfl⟩ : ∃ m : Nat, ix = (m : Int) := ⟨ix.toNat, by omega⟩
      have hix : ix < z.length := by omega
      refine anyT_take (i := 9) (v := ?_) rfl (by kernel_rfl) (by kernel_rfl) (by kernel_rfl) (by kernel_rfl) (by kernel_rfl) (fun _ _ _ h => h) (Or.inl ⟨by rfl, ?_⟩) (by assumption) ?_
      rotate_left
      · intro w hSw; (try dsimp only at hSw); go_simp; with_reducible rfl
      try simp only [Act.put, List.getElem_toArray, List.getElem_cons_zero, List.getElem_cons_succ, List.setIfInBounds_toArray, List.set_cons_zero, List.set_cons_succ]
      refine anyT_take (i := 10) (v := ?_) rfl (by kernel_rfl) (by kernel_rfl) (by kernel_rfl) (by kernel_rfl) (by kernel_rfl) (fun _ _ _ h => h) (Or.inl ⟨by rfl, ?_⟩) (by assumption) ?_
      rotate_left
      · intro w hSw; (try dsimp only at hSw); go_simp; with_reducible rfl
      try simp only [Act.put, List.getElem_toArray, List.getElem_cons_zero, List.getElem_cons_succ, List.setIfInBounds_toArray, List.set_cons_zero, List.set_cons_succ]
      obtain ⟨g2, hg2, hgl2, hf⟩ := row_form (show OwnsF cLayer 86 2 _ w.heap.size (.slice (some ⟨g, 0, none⟩) z.length lc) z from BG.out.row (hPL w (.slice (some ⟨g, 0, none⟩) z.length lc) z) (by simp)) cLayer_len hz0
      obtain rfl : g = g2 := by injection hg2 with hg2; injection hg2
      have d1 := (hf ix hix 1 (by decide)).1
      have fz1 := (hf ix hix 1 (by decide)).2
      clear hf hg2
      have HM := Lib.hid (HOK.out.2.2 z[ix] (List.getElem_mem hix))
      generalize hzk : z[ix] = e at d1 HM
      obtain ⟨nm, ct⟩ := e
      simp only [cLayer, List.getElem?_cons_zero, List.getElem?_cons_succ, Nat.add_zero] at d1
      have BG2 := Lib.hid (BG.out.elem2 0 rfl rfl cLayer_len ix hix (⟨nm, cn⟩ : LayerD) (.int .i64 cn) (by rw [hzk]; rfl))
      simp only [List.set_cons_zero, List.set_cons_succ] at BG2
      clear hzk
      have HOK2 := Lib.hid (show okPt 4 ⟨⟨kd, on, br, y, cnt⟩, z.set ix (⟨nm, cn⟩ : LayerD)⟩ from ⟨HOK.out.1, by simp only [List.length_set]; omega, fun t ht => by rcases List.mem_or_eq_of_mem_set ht with ht | rfl; exact HOK.out.2.2 t ht; exact ⟨HM.out.1, hcn⟩⟩)
      refine anyT_tail (by kernel_rfl) rfl (fun K hK => ?_)
      go_simp
      refine hK.out _ _ ?_
      clear hK K
      try simp only [Act.put, List.getElem_toArray, List.getElem_cons_zero, List.getElem_cons_succ, List.setIfInBounds_toArray, List.set_cons_zero, List.set_cons_succ]
      refine anyT_done (by kernel_rfl) ?_ _
      clear d1 fz1 hHeld HM
      replace BG := BG2
      clear BG2
      generalize w6.setCell ⟨g, ix * 2 + 1, none⟩ (.int .i64 cn) = w7 at *
      have B_q := Lib.hid (BG.out.box (P, cPartV kd on br (.slice ca y.length cc) cnt (.slice (some ⟨g, 0, none⟩) z.length lc)) (by simp))
      have q0 := B_q.out.cell 0 (by simp)
      have q1 := B_q.out.cell 1 (by simp)
      have q2 := B_q.out.cell 2 (by simp)
      have q3 := B_q.out.cell 3 (by simp)
      have q4 := B_q.out.cell 4 (by simp)
      have q5 := B_q.out.cell 5 (by simp)
      simp only [List.getElem_cons_zero, List.getElem_cons_succ] at q0 q1 q2 q3 q4 q5
      have l_q := B_q.out.lt
      have B_r := Lib.hid (BG.out.box (w.heap.size, zPartV) (by simp))
      have r0 := B_r.out.cell 0 (by simp)
      have r1 := B_r.out.cell 1 (by simp)
      have r2 := B_r.out.cell 2 (by simp)
      have r3 := B_r.out.cell 3 (by simp)
      have r4 := B_r.out.cell 4 (by simp)
      have r5 := B_r.out.cell 5 (by simp)
      simp only [List.getElem_cons_zero, List.getElem_cons_succ] at r0 r1 r2 r3 r4 r5
      have fr0 := B_r.out.froz 0 (by simp)
      have fr1 := B_r.out.froz 1 (by simp)
      have fr2 := B_r.out.froz 2 (by simp)
      have fr3 := B_r.out.froz 3 (by simp)
      have fr4 := B_r.out.froz 4 (by simp)
      have fr5 := B_r.out.froz 5 (by simp)
      have l_r := B_r.out.lt
      have BG5 := BG
      have BGf := Lib.hid (BG5.out.put6 1 rfl (.string ⟨kd.toArray⟩) (.bool on) (.bool br) (.slice ca y.length cc) (.int .i64 cnt) (.slice (some ⟨g, 0, none⟩) z.length lc))
      simp only [List.set_cons_zero, List.set_cons_succ] at BGf
      have hPR : ¬ P = w.heap.size := by have := BG.out.dis; simp only [List.pairwise_cons, List.mem_cons, List.not_mem_nil, or_false, forall_eq] at this; exact this.1
      have hRP : ¬ w.heap.size = P := fun e => hPR e.symm
      go_wp2_with fail
      refine bodyPost_ret (v := .agg #[.string ⟨kd.toArray⟩, .bool on, .bool br, .slice ca y.length cc, .int .i64 cnt, .slice (some ⟨g, 0, none⟩) z.length lc]) (by simp [results, Tryz.results83, go_sem, cell_set_at, cell_set_ne, bx_set_ne, hPR, hRP, r0, r1, r2, r3, r4, r5]) rfl ?_
      exact ⟨⟨⟨kd, on, br, y, cnt⟩, z.set ix (⟨nm, cn⟩ : LayerD)⟩, .slice ca y.length cc, .slice (some ⟨g, 0, none⟩) z.length lc, rfl, BGf.out.row (hPC w (.slice ca y.length cc) y) (by simp), BGf.out.row (hPL w (.slice (some ⟨g, 0, none⟩) z.length lc) (z.set ix (⟨nm, cn⟩ : LayerD))) (by simp), HOK2.out, BGf.out.grown, BGf.out.cur⟩
    · skip
      have hz0i : ¬ (0 : Int) < (z.length : Int) := by omega
      have B_q := Lib.hid (BG.out.box (P, cPartV kd on br (.slice ca y.length cc) cnt (.slice la z.length lc)) (by simp))
      have q0 := B_q.out.cell 0 (by simp)
      have q1 := B_q.out.cell 1 (by simp)
      have q2 := B_q.out.cell 2 (by simp)
      have q3 := B_q.out.cell 3 (by simp)
      have q4 := B_q.out.cell 4 (by simp)
      have q5 := B_q.out.cell 5 (by simp)
      simp only [List.getElem_cons_zero, List.getElem_cons_succ] at q0 q1 q2 q3 q4 q5
      have l_q := B_q.out.lt
      have B_r := Lib.hid (BG.out.box (w.heap.size, zPartV) (by simp))
      have r0 := B_r.out.cell 0 (by simp)
      have r1 := B_r.out.cell 1 (by simp)
      have r2 := B_r.out.cell 2 (by simp)
      have r3 := B_r.out.cell 3 (by simp)
      have r4 := B_r.out.cell 4 (by simp)
      have r5 := B_r.out.cell 5 (by simp)
      simp only [List.getElem_cons_zero, List.getElem_cons_succ] at r0 r1 r2 r3 r4 r5
      have fr0 := B_r.out.froz 0 (by simp)
      have fr1 := B_r.out.froz 1 (by simp)
      have fr2 := B_r.out.froz 2 (by simp)
      have fr3 := B_r.out.froz 3 (by simp)
      have fr4 := B_r.out.froz 4 (by simp)
      have fr5 := B_r.out.froz 5 (by simp)
      have l_r := B_r.out.lt
      have BG5 := BG
      have BGf := Lib.hid (BG5.out.put6 1 rfl (.string ⟨kd.toArray⟩) (.bool on) (.bool br) (.slice ca y.length cc) (.int .i64 cnt) (.slice la z.length lc))
      simp only [List.set_cons_zero, List.set_cons_succ] at BGf
      have hPR : ¬ P = w.heap.size := by have := BG.out.dis; simp only [List.pairwise_cons, List.mem_cons, List.not_mem_nil, or_false, forall_eq] at this; exact this.1
      have hRP : ¬ w.heap.size = P := fun e => hPR e.symm
      go_wp2_with fail
      refine bodyPost_ret (v := .agg #[.string ⟨kd.toArray⟩, .bool on, .bool br, .slice ca y.length cc, .int .i64 cnt, .slice la z.length lc]) (by simp [results, Tryz.results83, go_sem, cell_set_at, cell_set_ne, bx_set_ne, hPR, hRP, r0, r1, r2, r3, r4, r5]) rfl ?_
      exact ⟨⟨⟨kd, on, br, y, cnt⟩, z⟩, .slice ca y.length cc, .slice la z.length lc, rfl, BGf.out.row (hPC w (.slice ca y.length cc) y) (by simp), BGf.out.row (hPL w (.slice la z.length lc) z) (by simp), okPt_up HOK.out (by decide), BGf.out.grown, BGf.out.cur⟩
  have E2 : (k == 2) = false := by simpa using e2
  clear e0 e1 e2
  have B_q := Lib.hid (BG.out.box (P, cPartV kd on br (.slice ca y.length cc) cnt (.slice la z.length lc)) (by simp))
  have q0 := B_q.out.cell 0 (by simp)
  have q1 := B_q.out.cell 1 (by simp)
  have q2 := B_q.out.cell 2 (by simp)
  have q3 := B_q.out.cell 3 (by simp)
  have q4 := B_q.out.cell 4 (by simp)
  have q5 := B_q.out.cell 5 (by simp)
  simp only [List.getElem_cons_zero, List.getElem_cons_succ] at q0 q1 q2 q3 q4 q5
  have l_q := B_q.out.lt
  have B_r := Lib.hid (BG.out.box (w.heap.size, zPartV) (by simp))
  have r0 := B_r.out.cell 0 (by simp)
  have r1 := B_r.out.cell 1 (by simp)
  have r2 := B_r.out.cell 2 (by simp)
  have r3 := B_r.out.cell 3 (by simp)
  have r4 := B_r.out.cell 4 (by simp)
  have r5 := B_r.out.cell 5 (by simp)
  simp only [List.getElem_cons_zero, List.getElem_cons_succ] at r0 r1 r2 r3 r4 r5
  have fr0 := B_r.out.froz 0 (by simp)
  have fr1 := B_r.out.froz 1 (by simp)
  have fr2 := B_r.out.froz 2 (by simp)
  have fr3 := B_r.out.froz 3 (by simp)
  have fr4 := B_r.out.froz 4 (by simp)
  have fr5 := B_r.out.froz 5 (by simp)
  have l_r := B_r.out.lt
  have BG5 := BG
  have BGf := Lib.hid (BG5.out.put6 1 rfl (.string ⟨kd.toArray⟩) (.bool on) (.bool br) (.slice ca y.length cc) (.int .i64 cnt) (.slice la z.length lc))
  simp only [List.set_cons_zero, List.set_cons_succ] at BGf
  have hPR : ¬ P = w.heap.size := by have := BG.out.dis; simp only [List.pairwise_cons, List.mem_cons, List.not_mem_nil, or_false, forall_eq] at this; exact this.1
  have hRP : ¬ w.heap.size = P := fun e => hPR e.symm
  go_wp2_with fail
  refine bodyPost_ret (v := .agg #[.string ⟨kd.toArray⟩, .bool on, .bool br, .slice ca y.length cc, .int .i64 cnt, .slice la z.length lc]) (by simp [results, Tryz.results83, go_sem, cell_set_at, cell_set_ne, bx_set_ne, hPR, hRP, r0, r1, r2, r3, r4, r5]) rfl ?_
  exact ⟨⟨⟨kd, on, br, y, cnt⟩, z⟩, .slice ca y.length cc, .slice la z.length lc, rfl, BGf.out.row (hPC w (.slice ca y.length cc) y) (by simp), BGf.out.row (hPL w (.slice la z.length lc) z) (by simp), okPt_up HOK.out (by decide), BGf.out.grown, BGf.out.cur⟩
end Go.Proofs.YtcpbikilgacdlaaGreat
namespace Go.Proofs.YtcpbikilgacdlaaGreat
set_option linter.unusedVariables false
open Go.RowKit
theorem cellT_cat (a0 : List UInt8) (z : Nat) : ((⟨a0.toArray⟩ ++ ⟨#[61]⟩ ++ ⟨(numL z).toArray⟩ : ByteArray)).data.toList = cellT ⟨a0, z⟩ := by
  rw [data_app, data_app]; simp [cellT]
theorem cell_cat (w : World) (a0 : List UInt8) (z : Nat) (t : TypeId) (blk : Nat) (h : blk = w.heap.size) : (w.alloc (.cells #[.string (⟨a0.toArray⟩ ++ ⟨#[61]⟩ ++ ⟨(numL z).toArray⟩ : ByteArray)] t)).cell? ⟨blk, 0, none⟩ = some (strV (cellT ⟨a0, z⟩)) := by
  rw [cell_newS _ _ _ _ h, cellT_cat]
set_option maxRecDepth 100000 in
set_option maxHeartbeats 1600000 in
theorem specFormatCells_any (v : Value) (l : List CellD) (w : World) (hx : FlatAt cCell 2 w v l) (hs : ∀ d ∈ l, d.fKey.length ≤ maxLen) :
    Calls Tryz.prog 155 #[v] w fun e w' => e = .returned (.string ⟨(fmtC l).toArray⟩) ∧ Below w.heap.size w w' := by
  have HC := Lib.hid (fun o => specIsCells_any v l (w.alloc o) (hx.below ((Below.refl w.heap.size w).alloc (Nat.le_refl _) o) (Nat.le_refl _)) hs)
  obtain ⟨a, c, rfl, hl⟩ := flatAt_len hx
  have HX := Lib.hid hx
  clear hx hs
  unfold maxLen at hl
  have HA0 := Lib.hid (show ∀ o, Below w.heap.size w (w.alloc o) from fun o => (Below.refl w.heap.size w).alloc (Nat.le_refl _) o)
  cases hc : cellsB l with
  | false =>
    have HF := Lib.hid (show fmtC l = [] by unfold fmtC; rw [hc]; rfl)
    rw [hc] at HC
    clear hc
    go_enter Tryz.func155, Tryz.ntmps155
    go_wp2_with fail
    refine (HC.out _).mono ?_
    rintro e w1 ⟨rfl, hb⟩
    go_wp2_with fail
    go_ret
    exact ⟨ret_str (by rw [HF.out]), (HA0.out _).trans (hb.mono (HA0.out _).size)⟩
  | true =>
    have hm := cellsB_mem hc
    have hl4 := cellsB_len hc
    have HSM := Lib.hid (fmt_small l hm hl4)
    have HM := Lib.hid hm
    have HF0 := Lib.hid (show l = [] → fmtC l = [45] by rintro rfl; rfl)
    have HF := Lib.hid (show l ≠ [] → fmtC l = joinL (l.map cellT) [44] from fun h0 => by unfold fmtC; rw [if_pos hc, if_neg h0])
    rw [hc] at HC
    clear hc hm
    have HO := Lib.hid (owns_new w)
    go_enter Tryz.func155, Tryz.ntmps155
    go_wp2_with fail
    refine (HC.out _).mono ?_
    rintro e w1 ⟨rfl, hb⟩
    have HO1 := Lib.hid (owns_below HO.out hb (Nat.le_refl _))
    have HB := Lib.hid ((HA0.out _).trans (hb.mono (HA0.out _).size))
    have HX1 := Lib.hid (FlatAt.below HX.out HB.out (Nat.le_refl _))
    clear hb
    go_wp2_with fail
    go_loopw [3, 5, 12] (fun ov _ i wr => ∃ k : Nat, k ≤ l.length ∧ i = .int .i64 k ∧ Owns wr w.heap.size ov ((l.take k).map cellT) ∧ Below w.heap.size w wr) (fun _ _ i _ => l.length - (intOf i).toNat)
    case atStart => exact ⟨0, Nat.zero_le _, rfl, HO1.out, HB.out⟩
    case round =>
      obtain ⟨k, hk, rfl, hO, hb⟩ := hrel
      have HO2 := Lib.hid hO
      have HB2 := Lib.hid hb
      have HXr := Lib.hid (FlatAt.below HX.out hb (Nat.le_refl _))
      clear hO hb
      by_cases hlt : k < l.length
      · obtain ⟨b, o, rfl, hbl, hd⟩ := flatAt_cell cCell_len HXr.out k hlt (by decide)
        have d0 := hd 0 (by decide)
        have d1 := hd 1 (by decide)
        clear hd
        have HSN := Lib.hid (map_cellT_snoc l k hlt)
        have hmm := HM.out l[k] (List.getElem_mem hlt)
        obtain ⟨z, hz, hz9⟩ := numB_nat hmm.2
        have HFM := Lib.hid (fun w0 => specFormat_any z w0 (by omega) (by omega))
        have hn8 := nameB_len8 hmm.1
        have hz3 := numL_len hz9
        clear hmm
        generalize l[k] = p at *
        obtain ⟨a0, a1⟩ := p
        simp only [cCell, List.getElem?_cons_zero, List.getElem?_cons_succ, Nat.add_zero] at d0 d1 hz
        subst hz
        have hc1 : ∀ w0, (Op.stringOp .add ⟨a0.toArray⟩ ⟨#[61]⟩).run Tryz.prog w0 = .ok (.string (⟨a0.toArray⟩ ++ ⟨#[61]⟩)) w0 := fun w0 => run_string_add_sum w0 _ _ (by rw [size_strB]; show a0.length + 1 ≤ _; simp only at hn8; omega)
        have hc2 : ∀ w0, (Op.stringOp .add (⟨a0.toArray⟩ ++ ⟨#[61]⟩) ⟨(numL z).toArray⟩).run Tryz.prog w0 = .ok (.string (⟨a0.toArray⟩ ++ ⟨#[61]⟩ ++ ⟨(numL z).toArray⟩)) w0 := fun w0 => run_string_add_sum w0 _ _ (by have h3 := size_strB (numL z); rw [ByteArray.size_append, size_strB]; show a0.length + 1 + _ ≤ _; simp only at hn8; omega)
        have HLT := Lib.hid (show ∀ g, u3.ownBlock = some g → g < wr.heap.size from fun g h => (World.ownsRow.lt HO2.out g h).2)
        go_wp2_with fail
        go_region_held3 (fun w' => w'.cell? ⟨wr.heap.size, 0, none⟩ = some (.string ⟨a0.toArray⟩) ∧ w'.cell? ⟨wr.heap.size, 1, none⟩ = some (.int .i64 z))
          (first
            | go_keep
            | (rw [hb1.cell (p := ⟨wr.heap.size, 0, none⟩) (by simp), hb1.cell (p := ⟨wr.heap.size, 1, none⟩) (by simp)]; assumption)
            | (rw [hg1.cell_far ⟨wr.heap.size, 0, none⟩ (by have := hb1.size; simp at *; omega) (by intro e; have := HLT.out _ e.symm; simp at this), hg1.cell_far ⟨wr.heap.size, 1, none⟩ (by have := hb1.size; simp at *; omega) (by intro e; have := HLT.out _ e.symm; simp at this)]; assumption))
          (first
            | (go_at_call 170; refine (HFM.out _).mono ?_; rintro e w2 ⟨rfl, hb1⟩)
            | (refine step_strs rfl _ _ rfl w.heap.size u3 ((l.take k).map cellT) (cellT ⟨a0, z⟩) _ w2.heap.size rfl (owns_alloc (owns_below (owns_drew (owns_alloc HO2.out _)) hb1 (Nat.le_refl _)) _) rfl (cell_cat _ a0 z _ _ rfl) ?_ ?_ ?_; (simp; omega); (have h1 := hb1.size; have h3 := HB2.out.size; simp at h1 h3; simp; omega); intro v' w4 hO4 hg1))
        have HA := Lib.hid (below_drew ((Below.refl wr.heap.size wr).alloc (Nat.le_refl _) (.cells #[.string ⟨a0.toArray⟩, .int .i64 z] 139)))
        have HA1 := Lib.hid ((HA.out.trans (hb1.mono HA.out.size)).alloc (HA.out.trans (hb1.mono HA.out.size)).size (.cells #[.string (⟨a0.toArray⟩ ++ ⟨#[61]⟩ ++ ⟨(numL z).toArray⟩ : ByteArray)] 9))
        have HA3 := Lib.hid (below_append (HB2.out.trans (HA1.out.mono HB2.out.size)) (owns_alloc (owns_below (owns_drew (owns_alloc HO2.out _)) hb1 (Nat.le_refl _)) _) hg1 (HB2.out.trans (HA1.out.mono HB2.out.size)).size)
        have HO4' := Lib.hid hO4
        rename_i hheld
        clear hb1 hg1 hO4 hheld
        go_wp2_with fail
        exact ⟨⟨k + 1, by omega, by go_num, by rw [HSN.out]; exact HO4'.out, HA3.out⟩, by simp [intOf]; omega⟩
      · have HN := Lib.hid (show (l.take k).map cellT = l.map cellT from by rw [List.take_of_length_le (by omega)])
        have hkl : k = l.length := by omega
        obtain ⟨a', c', e', _⟩ := rowAt_len (owns_row HO2.out (by simp; omega))
        rw [List.length_map, List.length_map, List.length_take, Nat.min_eq_left hk] at e'
        subst e'
        have HJ := Lib.hid (specJoin_any (.slice a' k c') (l.map cellT) ⟨#[44]⟩ wr (by rw [← HN.out]; exact owns_row HO2.out (by simp; omega)) (by have := HSM.out; simp only at *; omega) (by decide))
        by_cases h0 : k = 0
        · have hne : ((k : Int) == 0) = true := by rw [beq_iff_eq]; omega
          have HR := Lib.hid (HF0.out (List.eq_nil_of_length_eq_zero (by omega)))
          clear h0 hkl
          go_wp2_with fail
          go_ret
          exact ⟨ret_str (by rw [HR.out]), HB2.out⟩
        · have hne : ((k : Int) == 0) = false := by rw [beq_eq_false_iff_ne]; omega
          have HR := Lib.hid (HF.out (by intro h; rw [h] at hkl; exact h0 hkl))
          clear h0 hkl
          go_wp2_with fail
          refine HJ.out.mono ?_
          rintro e w2 ⟨rfl, hb⟩
          go_wp2_with fail
          go_ret
          exact ⟨ret_str HR.out.symm, HB2.out.trans (hb.mono HB2.out.size)⟩
end Go.Proofs.YtcpbikilgacdlaaGreat
namespace Go.Proofs.YtcpbikilgacdlaaGreat
set_option linter.unusedVariables false
set_option linter.unusedSimpArgs false
open Go.RowKit
def okCl (d : CallD) : Prop := d.fMethod.length ≤ 9 ∧ d.fKey.length ≤ 9 ∧ I64 d.fValue ∧ d.fText.length ≤ 120
def DrawnCall (b : Nat) (v : Value) (l : List UInt8) (w : World) (e : Ending) (w' : World) : Prop := ∃ d : CallD, e = .returned (vCall d) ∧ okCl d ∧ w.grownBy w' (some b) ∧ Cur w' b v l
abbrev zCallV : List Value := [.string ⟨#[]⟩, .string ⟨#[]⟩, .int .i64 0, .string ⟨#[]⟩]
abbrev cCallV (d : CallD) : List Value := [.string ⟨d.fMethod.toArray⟩, .string ⟨d.fKey.toArray⟩, .int .i64 d.fValue, .string ⟨d.fText.toArray⟩]
structure KSt (w : World) (b : Nat) (v : Value) (l : List UInt8) (R B : Nat) (d : CallD) (wx : World) : Prop where
  grown : w.grownBy wx (some b)
  cur : Cur wx b v l
  res : Bx wx R zCallV
  box : Bx wx B (cCallV d)
  bw : b < w.heap.size
  wR : w.heap.size ≤ R
  RB : R < B
theorem KSt.draw {w : World} {b : Nat} {v : Value} {l : List UInt8} {R B : Nat} {d : CallD} {wx w' : World} (h : KSt w b v l R B d wx) (hg : wx.grownBy w' (some b)) (hC : Cur w' b v l) : KSt w b v l R B d w' :=
  ⟨grown_trans h.grown hg, hC, bx_grownC h.res hg (by have := h.bw; have := h.wR; omega), bx_grownC h.box hg (by have := h.bw; have := h.wR; have := h.RB; omega), h.bw, h.wR, h.RB⟩
theorem KSt.set {w : World} {b : Nat} {v : Value} {l : List UInt8} {R B : Nat} {d d' : CallD} {wx : World} (h : KSt w b v l R B d wx) (j : Nat) (hj : j < 4) (u : Value) (hd : (cCallV d).set j u = cCallV d') : KSt w b v l R B d' (wx.setCell ⟨B, j, none⟩ u) :=
  ⟨grown_setO h.grown (by have := h.wR; have := h.RB; omega) j u, cur_setO h.cur (by have := h.bw; have := h.wR; have := h.RB; omega) j u, h.res.other (by have := h.RB; omega) j u, by rw [← hd]; exact h.box.set j hj u, h.bw, h.wR, h.RB⟩
theorem KSt.fin {w : World} {b : Nat} {v : Value} {l : List UInt8} {R B : Nat} {d : CallD} {wx : World} (h : KSt w b v l R B d wx) (hk : okCl d) (u0 u1 u2 u3 : Value) :
    DrawnCall b v l w (.returned (vCall d)) ((((wx.setCell ⟨R, 0, none⟩ u0).setCell ⟨R, 1, none⟩ u1).setCell ⟨R, 2, none⟩ u2).setCell ⟨R, 3, none⟩ u3) :=
  have hb : b < R := Nat.lt_of_lt_of_le h.bw h.wR
  ⟨d, rfl, hk, grown_setO (grown_setO (grown_setO (grown_setO h.grown h.wR 0 u0) h.wR 1 u1) h.wR 2 u2) h.wR 3 u3, cur_setO (cur_setO (cur_setO (cur_setO h.cur hb 0 u0) hb 1 u1) hb 2 u2) hb 3 u3⟩
theorem size_appS (a b : ByteArray) : (a ++ b).size = a.size + b.size := ByteArray.size_append
theorem size_litS (l : List UInt8) : (⟨l.toArray⟩ : ByteArray).size = l.length := by simp [ByteArray.size]
set_option maxHeartbeats 800000 in
theorem l2Method_any (b : Nat) (v : Value) (l : List UInt8) (w : World) (hC : Cur w b v l) :
    Calls Tryz.prog 161 #[.pointer (some ⟨b, 0, none⟩)] w fun e w' => DrawnStr (fun x => x.size ≤ 9) b v l w e w' := by
  have HC0 := Lib.hid hC
  clear hC
  go_enter Tryz.func161, Tryz.ntmps161
  go_wp2_with fail
  refine (l1Once_any b v l _ w HC0.out (by omega) (by omega)).mono ?_
  rintro e w1 ⟨x, rfl, hg, hC⟩
  have HG1 := Lib.hid (hg)
  have HC1 := Lib.hid hC
  clear hg hC
  cases x
  · go_wp2_with fail
    refine (l1Str_new b v l w1 _ _ _ _ 9 HC1.out (by rfl) (by decide) (by decide) (by decide)).mono ?_
    rintro e w2 ⟨x, rfl, hx, hg1, hC1⟩
    have HG := Lib.hid (grown_trans HG1.out hg1)
    have HC2 := Lib.hid hC1
    clear hg1 hC1
    go_wp2_with fail
    go_ret
    exact ⟨_, rfl, hx, HG.out, HC2.out⟩
  · go_wp2_with fail
    refine (l1Str_new b v l w1 _ _ _ _ 9 HC1.out (by rfl) (by decide) (by decide) (by decide)).mono ?_
    rintro e w2 ⟨x, rfl, hx, hg1, hC1⟩
    have HG := Lib.hid (grown_trans HG1.out hg1)
    have HC2 := Lib.hid hC1
    clear hg1 hC1
    go_wp2_with fail
    go_ret
    exact ⟨_, rfl, hx, HG.out, HC2.out⟩
theorem fmtC_len (x : List CellD) : (fmtC x).length ≤ 100 := by
  unfold fmtC
  split
  · rename_i h
    split
    · simp
    · have hc := h
      simp only [cellsB, Bool.and_eq_true, decide_eq_true_eq] at hc
      refine fmt_small x (fun d hd => ?_) hc.1
      obtain ⟨i, hi, rfl⟩ := List.mem_iff_getElem.1 hd
      have := okTo_at x _ i hc.2 hi
      simp only [okAt, Bool.and_eq_true] at this
      rw [getD_at x i hi] at this
      exact this.1
  · simp
set_option maxRecDepth 100000 in
set_option maxHeartbeats 1600000 in
theorem l3Text_any (b : Nat) (v : Value) (l : List UInt8) (w : World) (hC : Cur w b v l) :
    Calls Tryz.prog 163 #[.pointer (some ⟨b, 0, none⟩)] w fun e w' => DrawnStr (fun x => x.size ≤ 120) b v l w e w' := by
  have HC0 := Lib.hid hC
  clear hC
  go_enter Tryz.func163, Tryz.ntmps163
  go_wp2_with fail
  refine (l3Cells_any b v l _ HC0.out).mono ?_
  rintro e w1 ⟨u, y, rfl, ho, hsm, hg, hC⟩
  have HFC := Lib.hid (specFormatCells_any u y w1 (ownsF_at ho (by have := hsm.1; omega)) (fun d hd => by have := (hsm.2 d hd).1; unfold maxLen; omega))
  have HG1 := Lib.hid hg
  have HC1 := Lib.hid hC
  have hfl := fmtC_len y
  generalize fmtC y = ft at *
  obtain ⟨ua, uc, rfl⟩ := slice_of ho
  clear ho hsm hg hC
  go_wp2_with fail
  refine HFC.out.mono ?_
  rintro e w2 ⟨rfl, hb⟩
  have HG2 := Lib.hid (grown_below HG1.out hb HG1.out.size)
  have HC2 := Lib.hid (HC1.out.below hb HC1.out.lt)
  clear hb
  go_wp2_with fail
  refine (l1Below_any b v l _ _ HC2.out (by omega) (by omega)).mono ?_
  rintro e w3 ⟨k, rfl, ⟨k0, k1, k2⟩, hg, hC⟩
  have HG3 := Lib.hid (grown_trans HG2.out hg)
  have HC3 := Lib.hid hC
  clear hg hC k1 k2
  by_cases e0 : k = 0
  · subst e0
    go_wp2_with fail
    refine (l1Str_new b v l _ _ _ _ _ 9 HC3.out (by rfl) (by decide) (by decide) (by decide)).mono ?_
    rintro e w4 ⟨z, rfl, hz, hg, hC⟩
    have HG4 := Lib.hid (grown_trans HG3.out hg)
    have HC4 := Lib.hid hC
    clear hg hC
    go_wp2_with fail
    go_ret
    exact ⟨_, rfl, by show ByteArray.size _ ≤ 120; rw [size_appS, size_litS]; omega, HG4.out, HC4.out⟩
  · have E0 : (k == 0) = false := by simpa using e0
    by_cases e1 : k = 1
    · subst e1
      clear e0 E0
      go_wp2_with fail
      refine (l1Str_new b v l _ _ _ _ _ 30 HC3.out (by rfl) (by decide) (by decide) (by decide)).mono ?_
      rintro e w4 ⟨z, rfl, hz, hg, hC⟩
      have HG4 := Lib.hid (grown_trans HG3.out hg)
      have HC4 := Lib.hid hC
      clear hg hC
      go_wp2_with fail
      go_ret
      exact ⟨_, rfl, by show ByteArray.size _ ≤ 120; omega, HG4.out, HC4.out⟩
    · have E1 : (k == 1) = false := by simpa using e1
      clear e0 e1
      go_wp2_with fail
      go_ret
      exact ⟨_, rfl, by show ByteArray.size _ ≤ 120; rw [size_litS]; omega, HG3.out, HC3.out⟩
set_option maxRecDepth 100000 in
set_option maxHeartbeats 6400000 in
theorem l3Call_any (b : Nat) (v : Value) (l : List UInt8) (w : World) (hC : Cur w b v l) :
    Calls Tryz.prog 129 #[.pointer (some ⟨b, 0, none⟩)] w fun e w' => DrawnCall b v l w e w' := by
  have hbl := hC.lt
  have HC0 := Lib.hid (cur_alloc hC (.cells #[.string ⟨#[]⟩, .string ⟨#[]⟩, .int .i64 0, .string ⟨#[]⟩] 43))
  have BR0 := Lib.hid (Bx.new w zCallV 43)
  have HG0 := Lib.hid (grown_alloc (grown_refl w (some b)) (.cells #[.string ⟨#[]⟩, .string ⟨#[]⟩, .int .i64 0, .string ⟨#[]⟩] 43))
  clear hC
  go_enter Tryz.func129, Tryz.ntmps129
  go_wp2_with fail
  have HST := Lib.hid (l1Str_new b v l (w.alloc (.cells #[.string ⟨#[]⟩, .string ⟨#[]⟩, .int .i64 0, .string ⟨#[]⟩] 43)) #[.string ⟨#[83, 116, 97, 114, 116]⟩, .string ⟨#[83, 116, 97, 114, 116]⟩, .string ⟨#[83, 116, 111, 112]⟩, .string ⟨#[71, 101, 116]⟩, .string ⟨#[71, 101, 116]⟩, .string ⟨#[80, 117, 116]⟩, .string ⟨#[80, 117, 116]⟩, .string ⟨#[84, 101, 108, 108]⟩, .string ⟨#[72, 101, 97, 114]⟩, .string ⟨#[76, 111, 97, 100]⟩, .string ⟨#[83, 97, 118, 101]⟩, .string ⟨#[72, 101, 97, 108]⟩] 9 12 12 9 HC0.out (by rfl) (by decide) (by decide) (by decide))
  rw [show (w.alloc (.cells #[.string ⟨#[]⟩, .string ⟨#[]⟩, .int .i64 0, .string ⟨#[]⟩] 43)).heap.size = w.heap.size + 1 by simp] at HST
  refine HST.out.mono ?_
  rintro e w1 ⟨z, rfl, hz, hg, hC⟩
  obtain ⟨m, rfl⟩ : ∃ m : List UInt8, z = ⟨m.toArray⟩ := ⟨z.data.toList, by cases z; simp⟩
  have hml : m.length ≤ 9 := by rw [size_litS] at hz; exact hz
  have hwl : w.heap.size < w1.heap.size := Nat.lt_of_lt_of_le BR0.out.lt hg.size
  have S := Lib.hid (show KSt w b v l w.heap.size w1.heap.size ⟨m, [], 0, []⟩ (w1.alloc (.cells #[.string ⟨m.toArray⟩, .string ⟨#[]⟩, .int .i64 0, .string ⟨#[]⟩] 43)) from ⟨grown_alloc (grown_trans HG0.out hg) _, cur_alloc hC _, (bx_grownC BR0.out hg (by omega)).alloc _, Bx.new w1 (cCallV ⟨m, [], 0, []⟩) 43, hbl, Nat.le_refl _, hwl⟩)
  have BRw := Lib.hid (bx_grownC BR0.out hg (by omega))
  have HGw := Lib.hid (grown_trans HG0.out hg)
  have HCw := Lib.hid hC
  clear hg hC HC0 BR0 HG0 hz HST
  by_cases e0 : m = [71, 101, 116]
  · subst e0
    go_wp2_with fail
    generalize w1.alloc (.cells #[.string ⟨#[71, 101, 116]⟩, .string ⟨#[]⟩, .int .i64 0, .string ⟨#[]⟩] 43) = w2 at *
    refine (l3Key_any b v l _ S.out.cur).mono ?_
    rintro e w4 ⟨z, rfl, hz, hg, hC⟩
    obtain ⟨⟨zl⟩⟩ := z
    have hzl : zl.length ≤ 9 := hz
    have S := Lib.hid (S.out.draw hg hC)
    clear hg hC hz
    have BP := Lib.hid S.out.box
    have BR := Lib.hid S.out.res
    have p0 := BP.out.cell 0 (by simp)
    have p1 := BP.out.cell 1 (by simp)
    have p2 := BP.out.cell 2 (by simp)
    have p3 := BP.out.cell 3 (by simp)
    simp only [List.getElem_cons_zero, List.getElem_cons_succ] at p0 p1 p2 p3
    have x0 := BP.out.froz 0 (by simp)
    have x1 := BP.out.froz 1 (by simp)
    have x2 := BP.out.froz 2 (by simp)
    have x3 := BP.out.froz 3 (by simp)
    have r0 := BR.out.cell 0 (by simp)
    have r1 := BR.out.cell 1 (by simp)
    have r2 := BR.out.cell 2 (by simp)
    have r3 := BR.out.cell 3 (by simp)
    simp only [List.getElem_cons_zero, List.getElem_cons_succ] at r0 r1 r2 r3
    have y0 := BR.out.froz 0 (by simp)
    have y1 := BR.out.froz 1 (by simp)
    have y2 := BR.out.froz 2 (by simp)
    have y3 := BR.out.froz 3 (by simp)
    have lB := BP.out.lt
    have lR := BR.out.lt
    have hRB := S.out.RB
    have S9 := Lib.hid (KSt.set (d' := ⟨[71, 101, 116], zl, 0, []⟩) S.out 1 (by decide) (.string ⟨zl.toArray⟩) rfl)
    go_wp2_with fail
    refine bodyPost_ret (v := .agg #[.string ⟨#[71, 101, 116]⟩, .string ⟨zl.toArray⟩, .int .i64 0, .string ⟨#[]⟩]) (by simp [results, Tryz.results129, go_sem, cell_set_at, cell_set_ne, r0, r1, r2, r3]) rfl ?_
    exact KSt.fin (d := ⟨[71, 101, 116], zl, 0, []⟩) S9.out ⟨by simp, hzl, (show I64 0 from ⟨by omega, by omega⟩), by simp⟩ _ _ _ _
  have E0 : (m == [71, 101, 116]) = false := by simpa using e0
  by_cases e1 : m = [80, 117, 116]
  · subst e1
    go_wp2_with fail
    generalize w1.alloc (.cells #[.string ⟨#[80, 117, 116]⟩, .string ⟨#[]⟩, .int .i64 0, .string ⟨#[]⟩] 43) = w2 at *
    refine (l3Key_any b v l _ S.out.cur).mono ?_
    rintro e w4 ⟨z, rfl, hz, hg, hC⟩
    obtain ⟨⟨zl⟩⟩ := z
    have hzl : zl.length ≤ 9 := hz
    have S0 := Lib.hid (S.out.draw hg hC)
    clear hg hC hz
    have S1 := Lib.hid (KSt.set (d' := ⟨[80, 117, 116], zl, 0, []⟩) S0.out 1 (by decide) (.string ⟨zl.toArray⟩) rfl)
    have BP := Lib.hid S0.out.box
    have BR := Lib.hid S0.out.res
    have p0 := BP.out.cell 0 (by simp)
    have p1 := BP.out.cell 1 (by simp)
    have p2 := BP.out.cell 2 (by simp)
    have p3 := BP.out.cell 3 (by simp)
    simp only [List.getElem_cons_zero, List.getElem_cons_succ] at p0 p1 p2 p3
    have x0 := BP.out.froz 0 (by simp)
    have x1 := BP.out.froz 1 (by simp)
    have x2 := BP.out.froz 2 (by simp)
    have x3 := BP.out.froz 3 (by simp)
    have r0 := BR.out.cell 0 (by simp)
    have r1 := BR.out.cell 1 (by simp)
    have r2 := BR.out.cell 2 (by simp)
    have r3 := BR.out.cell 3 (by simp)
    simp only [List.getElem_cons_zero, List.getElem_cons_succ] at r0 r1 r2 r3
    have y0 := BR.out.froz 0 (by simp)
    have y1 := BR.out.froz 1 (by simp)
    have y2 := BR.out.froz 2 (by simp)
    have y3 := BR.out.froz 3 (by simp)
    have lB := BP.out.lt
    have lR := BR.out.lt
    have hRB := S0.out.RB
    go_wp2_with fail
    clear BP BR p0 p1 p2 p3 x0 x1 x2 x3 r0 r1 r2 r3 y0 y1 y2 y3 lB lR hRB
    refine (l1Below_any b v l _ _ S1.out.cur (by omega) (by omega)).mono ?_
    rintro e w5 ⟨q, rfl, ⟨q0, q1, q2⟩, hg, hC⟩
    have q3 := q2 (by omega)
    have S := Lib.hid (S1.out.draw hg hC)
    clear hg hC q1 q2 S0 S1
    have BP := Lib.hid S.out.box
    have BR := Lib.hid S.out.res
    have p0 := BP.out.cell 0 (by simp)
    have p1 := BP.out.cell 1 (by simp)
    have p2 := BP.out.cell 2 (by simp)
    have p3 := BP.out.cell 3 (by simp)
    simp only [List.getElem_cons_zero, List.getElem_cons_succ] at p0 p1 p2 p3
    have x0 := BP.out.froz 0 (by simp)
    have x1 := BP.out.froz 1 (by simp)
    have x2 := BP.out.froz 2 (by simp)
    have x3 := BP.out.froz 3 (by simp)
    have r0 := BR.out.cell 0 (by simp)
    have r1 := BR.out.cell 1 (by simp)
    have r2 := BR.out.cell 2 (by simp)
    have r3 := BR.out.cell 3 (by simp)
    simp only [List.getElem_cons_zero, List.getElem_cons_succ] at r0 r1 r2 r3
    have y0 := BR.out.froz 0 (by simp)
    have y1 := BR.out.froz 1 (by simp)
    have y2 := BR.out.froz 2 (by simp)
    have y3 := BR.out.froz 3 (by simp)
    have lB := BP.out.lt
    have lR := BR.out.lt
    have hRB := S.out.RB
    have S9 := Lib.hid (KSt.set (d' := ⟨[80, 117, 116], zl, q, []⟩) S.out 2 (by decide) (.int .i64 q) rfl)
    go_wp2_with fail
    refine bodyPost_ret (v := .agg #[.string ⟨#[80, 117, 116]⟩, .string ⟨zl.toArray⟩, .int .i64 q, .string ⟨#[]⟩]) (by simp [results, Tryz.results129, go_sem, cell_set_at, cell_set_ne, r0, r1, r2, r3]) rfl ?_
    exact KSt.fin (d := ⟨[80, 117, 116], zl, q, []⟩) S9.out ⟨by simp, hzl, (show I64 q from ⟨by omega, by omega⟩), by simp⟩ _ _ _ _
  have E1 : (m == [80, 117, 116]) = false := by simpa using e1
  by_cases e2 : m = [72, 101, 97, 114]
  · subst e2
    go_wp2_with fail
    generalize w1.alloc (.cells #[.string ⟨#[72, 101, 97, 114]⟩, .string ⟨#[]⟩, .int .i64 0, .string ⟨#[]⟩] 43) = w2 at *
    refine (l1Below_any b v l _ _ S.out.cur (by omega) (by omega)).mono ?_
    rintro e w5 ⟨q, rfl, ⟨q0, q1, q2⟩, hg, hC⟩
    have q3 := q2 (by omega)
    have S := Lib.hid (S.out.draw hg hC)
    clear hg hC q1 q2
    have BP := Lib.hid S.out.box
    have BR := Lib.hid S.out.res
    have p0 := BP.out.cell 0 (by simp)
    have p1 := BP.out.cell 1 (by simp)
    have p2 := BP.out.cell 2 (by simp)
    have p3 := BP.out.cell 3 (by simp)
    simp only [List.getElem_cons_zero, List.getElem_cons_succ] at p0 p1 p2 p3
    have x0 := BP.out.froz 0 (by simp)
    have x1 := BP.out.froz 1 (by simp)
    have x2 := BP.out.froz 2 (by simp)
    have x3 := BP.out.froz 3 (by simp)
    have r0 := BR.out.cell 0 (by simp)
    have r1 := BR.out.cell 1 (by simp)
    have r2 := BR.out.cell 2 (by simp)
    have r3 := BR.out.cell 3 (by simp)
    simp only [List.getElem_cons_zero, List.getElem_cons_succ] at r0 r1 r2 r3
    have y0 := BR.out.froz 0 (by simp)
    have y1 := BR.out.froz 1 (by simp)
    have y2 := BR.out.froz 2 (by simp)
    have y3 := BR.out.froz 3 (by simp)
    have lB := BP.out.lt
    have lR := BR.out.lt
    have hRB := S.out.RB
    have S9 := Lib.hid (KSt.set (d' := ⟨[72, 101, 97, 114], [], q, []⟩) S.out 2 (by decide) (.int .i64 q) rfl)
    go_wp2_with fail
    refine bodyPost_ret (v := .agg #[.string ⟨#[72, 101, 97, 114]⟩, .string ⟨#[]⟩, .int .i64 q, .string ⟨#[]⟩]) (by simp [results, Tryz.results129, go_sem, cell_set_at, cell_set_ne, r0, r1, r2, r3]) rfl ?_
    exact KSt.fin (d := ⟨[72, 101, 97, 114], [], q, []⟩) S9.out ⟨by simp, by simp, (show I64 q from ⟨by omega, by omega⟩), by simp⟩ _ _ _ _
  have E2 : (m == [72, 101, 97, 114]) = false := by simpa using e2
  by_cases e3 : m = [76, 111, 97, 100]
  · subst e3
    go_wp2_with fail
    generalize w1.alloc (.cells #[.string ⟨#[76, 111, 97, 100]⟩, .string ⟨#[]⟩, .int .i64 0, .string ⟨#[]⟩] 43) = w2 at *
    refine (l3Text_any b v l _ S.out.cur).mono ?_
    rintro e w4 ⟨z, rfl, hz, hg, hC⟩
    obtain ⟨⟨zl⟩⟩ := z
    have hzl : zl.length ≤ 120 := hz
    have S := Lib.hid (S.out.draw hg hC)
    clear hg hC hz
    have BP := Lib.hid S.out.box
    have BR := Lib.hid S.out.res
    have p0 := BP.out.cell 0 (by simp)
    have p1 := BP.out.cell 1 (by simp)
    have p2 := BP.out.cell 2 (by simp)
    have p3 := BP.out.cell 3 (by simp)
    simp only [List.getElem_cons_zero, List.getElem_cons_succ] at p0 p1 p2 p3
    have x0 := BP.out.froz 0 (by simp)
    have x1 := BP.out.froz 1 (by simp)
    have x2 := BP.out.froz 2 (by simp)
    have x3 := BP.out.froz 3 (by simp)
    have r0 := BR.out.cell 0 (by simp)
    have r1 := BR.out.cell 1 (by simp)
    have r2 := BR.out.cell 2 (by simp)
    have r3 := BR.out.cell 3 (by simp)
    simp only [List.getElem_cons_zero, List.getElem_cons_succ] at r0 r1 r2 r3
    have y0 := BR.out.froz 0 (by simp)
    have y1 := BR.out.froz 1 (by simp)
    have y2 := BR.out.froz 2 (by simp)
    have y3 := BR.out.froz 3 (by simp)
    have lB := BP.out.lt
    have lR := BR.out.lt
    have hRB := S.out.RB
    have S9 := Lib.hid (KSt.set (d' := ⟨[76, 111, 97, 100], [], 0, zl⟩) S.out 3 (by decide) (.string ⟨zl.toArray⟩) rfl)
    go_wp2_with fail
    refine bodyPost_ret (v := .agg #[.string ⟨#[76, 111, 97, 100]⟩, .string ⟨#[]⟩, .int .i64 0, .string ⟨zl.toArray⟩]) (by simp [results, Tryz.results129, go_sem, cell_set_at, cell_set_ne, r0, r1, r2, r3]) rfl ?_
    exact KSt.fin (d := ⟨[76, 111, 97, 100], [], 0, zl⟩) S9.out ⟨by simp, by simp, (show I64 0 from ⟨by omega, by omega⟩), hzl⟩ _ _ _ _
  have E3 : (m == [76, 111, 97, 100]) = false := by simpa using e3
  clear e0 e1 e2 e3
  have r0 := BRw.out.cell 0 (by simp)
  have r1 := BRw.out.cell 1 (by simp)
  have r2 := BRw.out.cell 2 (by simp)
  have r3 := BRw.out.cell 3 (by simp)
  simp only [List.getElem_cons_zero, List.getElem_cons_succ] at r0 r1 r2 r3
  have y0 := BRw.out.froz 0 (by simp)
  have y1 := BRw.out.froz 1 (by simp)
  have y2 := BRw.out.froz 2 (by simp)
  have y3 := BRw.out.froz 3 (by simp)
  have lR := BRw.out.lt
  have hRB := S.out.RB
  go_wp2_with fail
  refine bodyPost_ret (v := .agg #[.string ⟨m.toArray⟩, .string ⟨#[]⟩, .int .i64 0, .string ⟨#[]⟩]) (by simp [results, Tryz.results129, go_sem, past_cellN, lR, cell_set_at, cell_set_ne, r0, r1, r2, r3]) rfl ?_
  exact ⟨⟨m, [], 0, []⟩, rfl, ⟨hml, by simp, (show I64 0 from ⟨by omega, by omega⟩), by simp⟩, grown_alloc (grown_setO (grown_setO (grown_setO (grown_setO HGw.out (Nat.le_refl _) 0 _) (Nat.le_refl _) 1 _) (Nat.le_refl _) 2 _) (Nat.le_refl _) 3 _) _, cur_alloc (cur_setO (cur_setO (cur_setO (cur_setO HCw.out hbl 0 _) hbl 1 _) hbl 2 _) hbl 3 _) _⟩
set_option maxRecDepth 100000 in
set_option maxHeartbeats 6400000 in
theorem l3AnyCall_any (b : Nat) (v : Value) (l : List UInt8) (w : World) (hC : Cur w b v l) :
    Calls Tryz.prog 128 #[.pointer (some ⟨b, 0, none⟩)] w fun e w' => DrawnCall b v l w e w' := by
  have hbl := hC.lt
  have HC0 := Lib.hid (cur_alloc hC (.cells #[.string ⟨#[]⟩, .string ⟨#[]⟩, .int .i64 0, .string ⟨#[]⟩] 43))
  have BR0 := Lib.hid (Bx.new w zCallV 43)
  have HG0 := Lib.hid (grown_alloc (grown_refl w (some b)) (.cells #[.string ⟨#[]⟩, .string ⟨#[]⟩, .int .i64 0, .string ⟨#[]⟩] 43))
  clear hC
  go_enter Tryz.func128, Tryz.ntmps128
  go_wp2_with fail
  refine (l3Call_any b v l _ HC0.out).mono ?_
  rintro e w1 ⟨⟨m, k, n, t⟩, rfl, hok, hg, hC⟩
  have HOK := Lib.hid hok
  have hwl : w.heap.size < w1.heap.size := Nat.lt_of_lt_of_le BR0.out.lt hg.size
  have S := Lib.hid (show KSt w b v l w.heap.size w1.heap.size ⟨m, k, n, t⟩ (w1.alloc (.cells #[.string ⟨m.toArray⟩, .string ⟨k.toArray⟩, .int .i64 n, .string ⟨t.toArray⟩] 43)) from ⟨grown_alloc (grown_trans HG0.out hg) _, cur_alloc hC _, (bx_grownC BR0.out hg (by omega)).alloc _, Bx.new w1 (cCallV ⟨m, k, n, t⟩) 43, hbl, Nat.le_refl _, hwl⟩)
  clear hok hg hC HC0 BR0 HG0
  unfold vCall
  simp only
  go_wp2_with fail
  generalize w1.alloc (.cells #[.string ⟨m.toArray⟩, .string ⟨k.toArray⟩, .int .i64 n, .string ⟨t.toArray⟩] 43) = w2 at *
  refine (l1Below_any b v l _ _ S.out.cur (by omega) (by omega)).mono ?_
  rintro e w3 ⟨j, rfl, ⟨j0, j1, j2⟩, hg, hC⟩
  have S := Lib.hid (S.out.draw hg hC)
  clear hg hC j1 j2
  by_cases e0 : j = 0
  · subst e0
    go_wp2_with fail
    refine (l2Method_any b v l _ S.out.cur).mono ?_
    rintro e w4 ⟨z, rfl, hz, hg, hC⟩
    obtain ⟨⟨zl⟩⟩ := z
    have hzl : zl.length ≤ 9 := hz
    have S := Lib.hid (S.out.draw hg hC)
    clear hg hC hz
    have BP := Lib.hid S.out.box
    have BR := Lib.hid S.out.res
    have p0 := BP.out.cell 0 (by simp)
    have p1 := BP.out.cell 1 (by simp)
    have p2 := BP.out.cell 2 (by simp)
    have p3 := BP.out.cell 3 (by simp)
    simp only [List.getElem_cons_zero, List.getElem_cons_succ] at p0 p1 p2 p3
    have x0 := BP.out.froz 0 (by simp)
    have x1 := BP.out.froz 1 (by simp)
    have x2 := BP.out.froz 2 (by simp)
    have x3 := BP.out.froz 3 (by simp)
    have r0 := BR.out.cell 0 (by simp)
    have r1 := BR.out.cell 1 (by simp)
    have r2 := BR.out.cell 2 (by simp)
    have r3 := BR.out.cell 3 (by simp)
    simp only [List.getElem_cons_zero, List.getElem_cons_succ] at r0 r1 r2 r3
    have y0 := BR.out.froz 0 (by simp)
    have y1 := BR.out.froz 1 (by simp)
    have y2 := BR.out.froz 2 (by simp)
    have y3 := BR.out.froz 3 (by simp)
    have lB := BP.out.lt
    have lR := BR.out.lt
    have hRB := S.out.RB
    have S9 := Lib.hid (KSt.set (d' := ⟨zl, k, n, t⟩) S.out 0 (by decide) (.string ⟨zl.toArray⟩) rfl)
    go_wp2_with fail
    refine bodyPost_ret (v := .agg #[.string ⟨zl.toArray⟩, .string ⟨k.toArray⟩, .int .i64 n, .string ⟨t.toArray⟩]) (by simp [results, Tryz.results128, go_sem, cell_set_at, cell_set_ne, r0, r1, r2, r3]) rfl ?_
    exact KSt.fin (d := ⟨zl, k, n, t⟩) S9.out ⟨(Nat.le_trans hzl (by decide)), HOK.out.2.1, HOK.out.2.2.1, HOK.out.2.2.2⟩ _ _ _ _
  have E0 : (j == 0) = false := by simpa using e0
  by_cases e1 : j = 1
  · subst e1
    go_wp2_with fail
    refine (l1Word_any b v l _ S.out.cur).mono ?_
    rintro e w4 ⟨z, rfl, hz, hg, hC⟩
    obtain ⟨⟨zl⟩⟩ := z
    have hzl : zl.length ≤ 9 := hz
    have S := Lib.hid (S.out.draw hg hC)
    clear hg hC hz
    have BP := Lib.hid S.out.box
    have BR := Lib.hid S.out.res
    have p0 := BP.out.cell 0 (by simp)
    have p1 := BP.out.cell 1 (by simp)
    have p2 := BP.out.cell 2 (by simp)
    have p3 := BP.out.cell 3 (by simp)
    simp only [List.getElem_cons_zero, List.getElem_cons_succ] at p0 p1 p2 p3
    have x0 := BP.out.froz 0 (by simp)
    have x1 := BP.out.froz 1 (by simp)
    have x2 := BP.out.froz 2 (by simp)
    have x3 := BP.out.froz 3 (by simp)
    have r0 := BR.out.cell 0 (by simp)
    have r1 := BR.out.cell 1 (by simp)
    have r2 := BR.out.cell 2 (by simp)
    have r3 := BR.out.cell 3 (by simp)
    simp only [List.getElem_cons_zero, List.getElem_cons_succ] at r0 r1 r2 r3
    have y0 := BR.out.froz 0 (by simp)
    have y1 := BR.out.froz 1 (by simp)
    have y2 := BR.out.froz 2 (by simp)
    have y3 := BR.out.froz 3 (by simp)
    have lB := BP.out.lt
    have lR := BR.out.lt
    have hRB := S.out.RB
    have S9 := Lib.hid (KSt.set (d' := ⟨m, zl, n, t⟩) S.out 1 (by decide) (.string ⟨zl.toArray⟩) rfl)
    go_wp2_with fail
    refine bodyPost_ret (v := .agg #[.string ⟨m.toArray⟩, .string ⟨zl.toArray⟩, .int .i64 n, .string ⟨t.toArray⟩]) (by simp [results, Tryz.results128, go_sem, cell_set_at, cell_set_ne, r0, r1, r2, r3]) rfl ?_
    exact KSt.fin (d := ⟨m, zl, n, t⟩) S9.out ⟨HOK.out.1, (Nat.le_trans hzl (by decide)), HOK.out.2.2.1, HOK.out.2.2.2⟩ _ _ _ _
  have E1 : (j == 1) = false := by simpa using e1
  by_cases e2 : j = 2
  · subst e2
    go_wp2_with fail
    refine (l1Odd_any b v l _ S.out.cur).mono ?_
    rintro e w4 ⟨z, rfl, ⟨z0, z1⟩, hg, hC⟩
    have S := Lib.hid (S.out.draw hg hC)
    clear hg hC
    have BP := Lib.hid S.out.box
    have BR := Lib.hid S.out.res
    have p0 := BP.out.cell 0 (by simp)
    have p1 := BP.out.cell 1 (by simp)
    have p2 := BP.out.cell 2 (by simp)
    have p3 := BP.out.cell 3 (by simp)
    simp only [List.getElem_cons_zero, List.getElem_cons_succ] at p0 p1 p2 p3
    have x0 := BP.out.froz 0 (by simp)
    have x1 := BP.out.froz 1 (by simp)
    have x2 := BP.out.froz 2 (by simp)
    have x3 := BP.out.froz 3 (by simp)
    have r0 := BR.out.cell 0 (by simp)
    have r1 := BR.out.cell 1 (by simp)
    have r2 := BR.out.cell 2 (by simp)
    have r3 := BR.out.cell 3 (by simp)
    simp only [List.getElem_cons_zero, List.getElem_cons_succ] at r0 r1 r2 r3
    have y0 := BR.out.froz 0 (by simp)
    have y1 := BR.out.froz 1 (by simp)
    have y2 := BR.out.froz 2 (by simp)
    have y3 := BR.out.froz 3 (by simp)
    have lB := BP.out.lt
    have lR := BR.out.lt
    have hRB := S.out.RB
    have S9 := Lib.hid (KSt.set (d' := ⟨m, k, z, t⟩) S.out 2 (by decide) (.int .i64 z) rfl)
    go_wp2_with fail
    refine bodyPost_ret (v := .agg #[.string ⟨m.toArray⟩, .string ⟨k.toArray⟩, .int .i64 z, .string ⟨t.toArray⟩]) (by simp [results, Tryz.results128, go_sem, cell_set_at, cell_set_ne, r0, r1, r2, r3]) rfl ?_
    exact KSt.fin (d := ⟨m, k, z, t⟩) S9.out ⟨HOK.out.1, HOK.out.2.1, (show I64 z from ⟨z0, z1⟩), HOK.out.2.2.2⟩ _ _ _ _
  have E2 : (j == 2) = false := by simpa using e2
  by_cases e3 : j = 3
  · subst e3
    go_wp2_with fail
    refine (l1Str_new b v l _ _ _ _ _ 9 S.out.cur (by rfl) (by decide) (by decide) (by decide)).mono ?_
    rintro e w4 ⟨z, rfl, hz, hg, hC⟩
    obtain ⟨⟨zl⟩⟩ := z
    have hzl : zl.length ≤ 9 := hz
    have S := Lib.hid (S.out.draw hg hC)
    clear hg hC hz
    have BP := Lib.hid S.out.box
    have BR := Lib.hid S.out.res
    have p0 := BP.out.cell 0 (by simp)
    have p1 := BP.out.cell 1 (by simp)
    have p2 := BP.out.cell 2 (by simp)
    have p3 := BP.out.cell 3 (by simp)
    simp only [List.getElem_cons_zero, List.getElem_cons_succ] at p0 p1 p2 p3
    have x0 := BP.out.froz 0 (by simp)
    have x1 := BP.out.froz 1 (by simp)
    have x2 := BP.out.froz 2 (by simp)
    have x3 := BP.out.froz 3 (by simp)
    have r0 := BR.out.cell 0 (by simp)
    have r1 := BR.out.cell 1 (by simp)
    have r2 := BR.out.cell 2 (by simp)
    have r3 := BR.out.cell 3 (by simp)
    simp only [List.getElem_cons_zero, List.getElem_cons_succ] at r0 r1 r2 r3
    have y0 := BR.out.froz 0 (by simp)
    have y1 := BR.out.froz 1 (by simp)
    have y2 := BR.out.froz 2 (by simp)
    have y3 := BR.out.froz 3 (by simp)
    have lB := BP.out.lt
    have lR := BR.out.lt
    have hRB := S.out.RB
    have S9 := Lib.hid (KSt.set (d' := ⟨m, k, n, zl⟩) S.out 3 (by decide) (.string ⟨zl.toArray⟩) rfl)
    go_wp2_with fail
    refine bodyPost_ret (v := .agg #[.string ⟨m.toArray⟩, .string ⟨k.toArray⟩, .int .i64 n, .string ⟨zl.toArray⟩]) (by simp [results, Tryz.results128, go_sem, cell_set_at, cell_set_ne, r0, r1, r2, r3]) rfl ?_
    exact KSt.fin (d := ⟨m, k, n, zl⟩) S9.out ⟨HOK.out.1, HOK.out.2.1, HOK.out.2.2.1, (Nat.le_trans hzl (by decide))⟩ _ _ _ _
  have E3 : (j == 3) = false := by simpa using e3
  clear e0 e1 e2 e3
  have BP := Lib.hid S.out.box
  have BR := Lib.hid S.out.res
  have p0 := BP.out.cell 0 (by simp)
  have p1 := BP.out.cell 1 (by simp)
  have p2 := BP.out.cell 2 (by simp)
  have p3 := BP.out.cell 3 (by simp)
  simp only [List.getElem_cons_zero, List.getElem_cons_succ] at p0 p1 p2 p3
  have x0 := BP.out.froz 0 (by simp)
  have x1 := BP.out.froz 1 (by simp)
  have x2 := BP.out.froz 2 (by simp)
  have x3 := BP.out.froz 3 (by simp)
  have r0 := BR.out.cell 0 (by simp)
  have r1 := BR.out.cell 1 (by simp)
  have r2 := BR.out.cell 2 (by simp)
  have r3 := BR.out.cell 3 (by simp)
  simp only [List.getElem_cons_zero, List.getElem_cons_succ] at r0 r1 r2 r3
  have y0 := BR.out.froz 0 (by simp)
  have y1 := BR.out.froz 1 (by simp)
  have y2 := BR.out.froz 2 (by simp)
  have y3 := BR.out.froz 3 (by simp)
  have lB := BP.out.lt
  have lR := BR.out.lt
  have hRB := S.out.RB
  go_wp2_with fail
  refine bodyPost_ret (v := .agg #[.string ⟨m.toArray⟩, .string ⟨k.toArray⟩, .int .i64 n, .string ⟨t.toArray⟩]) (by simp [results, Tryz.results128, go_sem, cell_set_at, cell_set_ne, r0, r1, r2, r3]) rfl ?_
  exact KSt.fin (d := ⟨m, k, n, t⟩) S.out ⟨HOK.out.1, HOK.out.2.1, HOK.out.2.2.1, HOK.out.2.2.2⟩ _ _ _ _
end Go.Proofs.YtcpbikilgacdlaaGreat
namespace Go.Proofs.YtcpbikilgacdlaaGreat
set_option linter.unusedVariables false
set_option linter.unusedSimpArgs false
open Go.RowKit
theorem Bag.partAt {w : World} {N b : Nat} {v : Value} {l : List UInt8} {bs : List (Nat × List Value)} {rs : List Held} {wx : World} {u5 u3 : Value} {n : Nat} {x : PartD} (h : Bag w N b v l bs rs wx) (h5 : hPL w u5 x.fLayers ∈ rs) (h3 : hPC w u3 x.fCore.fCells ∈ rs) (hk : okPt n x) (hn : n ≤ 100) (W : World) (hg : wx.grownBy W (some b)) :
    rPart 0 W (cPartV x.fCore.fKind x.fCore.fOn x.fCore.fBroken u3 x.fCore.fCount u5) x :=
  goodPart.mono (oPart_r (B := w.heap.size) ⟨u3, u5, rfl, (hPC w u3 x.fCore.fCells).keep (h.row _ h3) hg (fun g e ho => by injection e with e; have := (h.geR _ h3 g ho).2; omega), (hPL w u5 x.fLayers).keep (h.row _ h5) hg (fun g e ho => by injection e with e; have := (h.geR _ h5 g ho).2; omega)⟩ (okPt_small hk hn)) (Nat.zero_le _)
theorem Bag.put4 {w : World} {N b : Nat} {v : Value} {l : List UInt8} {bs : List (Nat × List Value)} {rs : List Held} {wx : World} {B : Nat} {c0 c1 c2 c3 : Value} (h : Bag w N b v l bs rs wx) (i : Nat) (hi : bs[i]? = some (B, [c0, c1, c2, c3])) (u0 u1 u2 u3 : Value) :
    Bag w N b v l (bs.set i (B, [u0, u1, u2, u3])) rs ((((wx.setCell ⟨B, 0, none⟩ u0).setCell ⟨B, 1, none⟩ u1).setCell ⟨B, 2, none⟩ u2).setCell ⟨B, 3, none⟩ u3) := by
  have hlt : i < bs.length := (List.getElem?_eq_some_iff.1 hi).1
  have a0 := h.set i hi (j := 0) (by simp) u0
  have a1 := a0.set i (B := B) (cs := [u0, c1, c2, c3]) (by simp [hlt]) (j := 1) (by simp) u1
  have a2 := a1.set i (B := B) (cs := [u0, u1, c2, c3]) (by simp [hlt]) (j := 2) (by simp) u2
  have a3 := a2.set i (B := B) (cs := [u0, u1, u2, c3]) (by simp [hlt]) (j := 3) (by simp) u3
  simpa using a3
set_option maxRecDepth 100000 in
set_option maxHeartbeats 6400000 in
theorem l4Call_any (b : Nat) (v : Value) (l : List UInt8) (kd : List UInt8) (on br : Bool) (ca la : Option Addr) (cc lc : Nat) (y : List CellD) (z : List LayerD) (cnt : Int) (w : World) (hC : Cur w b v l) (HV : ∀ W, w.grownBy W (some b) → rPart 0 W [.string ⟨kd.toArray⟩, .bool on, .bool br, .slice ca y.length cc, .int .i64 cnt, .slice la z.length lc] (⟨⟨kd, on, br, y, cnt⟩, z⟩ : PartD)) :
    Calls Tryz.prog 84 #[.pointer (some ⟨b, 0, none⟩), .agg #[.string ⟨kd.toArray⟩, .bool on, .bool br, .slice ca y.length cc, .int .i64 cnt, .slice la z.length lc]] w fun e w' => DrawnCall b v l w e w' := by
  have HVH := Lib.hid HV
  have BG := Lib.hid (((bag_start hC).var [.string ⟨kd.toArray⟩, .bool on, .bool br, .slice ca y.length cc, .int .i64 cnt, .slice la z.length lc] 37).var [.string ⟨#[]⟩, .string ⟨#[]⟩, .int .i64 0, .string ⟨#[]⟩] 43)
  rw [show (w.alloc (.cells [.string ⟨kd.toArray⟩, .bool on, .bool br, .slice ca y.length cc, .int .i64 cnt, .slice la z.length lc].toArray 37)).heap.size = w.heap.size + 1 by simp] at BG
  clear hC HV
  go_enter Tryz.func84, Tryz.ntmps84
  go_wp2_with fail
  generalize (w.alloc (.cells #[.string ⟨kd.toArray⟩, .bool on, .bool br, .slice ca y.length cc, .int .i64 cnt, .slice la z.length lc] 37)).alloc (.cells #[.string ⟨#[]⟩, .string ⟨#[]⟩, .int .i64 0, .string ⟨#[]⟩] 43) = w0 at *
  refine (l3AnyCall_any b v l _ BG.out.cur).mono ?_
  rintro e w1 ⟨⟨mm, kk, nn, tt⟩, rfl, hok, hg, hC⟩
  replace BG := Lib.hid (BG.out.draw hg hC)
  have HOK := Lib.hid hok
  clear hg hC hok
  replace BG := Lib.hid (BG.out.var [.string ⟨mm.toArray⟩, .string ⟨kk.toArray⟩, .int .i64 nn, .string ⟨tt.toArray⟩] 43)
  unfold vCall
  simp only
  go_wp2_with fail
  generalize w1.alloc (.cells #[.string ⟨mm.toArray⟩, .string ⟨kk.toArray⟩, .int .i64 nn, .string ⟨tt.toArray⟩] 43) = w2 at *
  generalize w1.heap.size = XB at *
  go_loopw [6] (fun iv wr => ∃ (i : Nat) (mm kk : List UInt8) (nn : Int) (tt : List UInt8), iv = .int .i64 i ∧ i ≤ 4 ∧ okCl (⟨mm, kk, nn, tt⟩ : CallD) ∧ Bag w w.heap.size b v l [(XB, [.string ⟨mm.toArray⟩, .string ⟨kk.toArray⟩, .int .i64 nn, .string ⟨tt.toArray⟩]), (w.heap.size + 1, [.string ⟨#[]⟩, .string ⟨#[]⟩, .int .i64 0, .string ⟨#[]⟩]), (w.heap.size, [.string ⟨kd.toArray⟩, .bool on, .bool br, .slice ca y.length cc, .int .i64 cnt, .slice la z.length lc])] [] wr) (fun iv _ => 4 - (intOf iv).toNat)
  case atStart => exact ⟨0, mm, kk, nn, tt, rfl, by omega, HOK.out, BG.out⟩
  case round =>
    clear BG HOK
    obtain ⟨i, mm, kk, nn, tt, rfl, hi, hok, hbg⟩ := hrel
    have BG := Lib.hid hbg
    have HOK := Lib.hid hok
    clear hbg hok
    by_cases hlt : i < 4
    · skip
      have hic : (i : Int) < 4 := by omega
      go_wp2_with fail
      have HSof := Lib.hid (fun W (h : Bx W (w.heap.size) [.string ⟨kd.toArray⟩, .bool on, .bool br, .slice ca y.length cc, .int .i64 cnt, .slice la z.length lc]) (h2 : Bx W XB [.string ⟨mm.toArray⟩, .string ⟨kk.toArray⟩, .int .i64 nn, .string ⟨tt.toArray⟩]) => (show (six W (w.heap.size) (.string ⟨kd.toArray⟩) (.bool on) (.bool br) (.slice ca y.length cc) (.int .i64 cnt) (.slice la z.length lc) ∧ W.cell? ⟨XB, 0, none⟩ = some (.string ⟨mm.toArray⟩)) from ⟨bx_six h, h2.cell 0 (by simp)⟩))
      refine wp_region_held_drew (S := fun w' => (six w' (w.heap.size) (.string ⟨kd.toArray⟩) (.bool on) (.bool br) (.slice ca y.length cc) (.int .i64 cnt) (.slice la z.length lc) ∧ w'.cell? ⟨XB, 0, none⟩ = some (.string ⟨mm.toArray⟩))) (by kernel_rfl) ?_ (fun hHeld => ?_)
      · exact HSof.out _ (BG.out.drew.box (w.heap.size, [.string ⟨kd.toArray⟩, .bool on, .bool br, .slice ca y.length cc, .int .i64 cnt, .slice la z.length lc]) (by simp)) (BG.out.drew.box (XB, [.string ⟨mm.toArray⟩, .string ⟨kk.toArray⟩, .int .i64 nn, .string ⟨tt.toArray⟩]) (by simp))
      replace BG := Lib.hid BG.out.drew
      generalize wr.drew = v0 at *
      refine wpAnyH_take (i := 0) (v := ?_) rfl (by kernel_rfl) (by kernel_rfl) (by kernel_rfl) (fun _ _ _ h => h) (Or.inl ⟨by rfl, ?_⟩) (by assumption) ?_
      rotate_left
      · intro w hSw; (try dsimp only at hSw); obtain ⟨⟨s0, s1, s2, s3, s4, s5⟩, s6⟩ := hSw; go_simp; with_reducible rfl
      try simp only [Act.put, List.getElem_toArray, List.getElem_cons_zero, List.getElem_cons_succ, List.setIfInBounds_toArray, List.set_cons_zero, List.set_cons_succ]
      refine wpAnyH_take (i := 1) (v := ?_) rfl (by kernel_rfl) (by kernel_rfl) (by kernel_rfl) (fun _ _ _ h => h) (Or.inl ⟨by rfl, ?_⟩) (by assumption) ?_
      rotate_left
      · intro w hSw; (try dsimp only at hSw); obtain ⟨⟨s0, s1, s2, s3, s4, s5⟩, s6⟩ := hSw; go_simp; with_reducible rfl
      try simp only [Act.put, List.getElem_toArray, List.getElem_cons_zero, List.getElem_cons_succ, List.setIfInBounds_toArray, List.set_cons_zero, List.set_cons_succ]
      refine wpAnyH_take (i := 2) (v := ?_) rfl (by kernel_rfl) (by kernel_rfl) (by kernel_rfl) (fun _ _ _ h => h) (Or.inl ⟨by rfl, ?_⟩) (by assumption) ?_
      rotate_left
      · intro w hSw; (try dsimp only at hSw); obtain ⟨⟨s0, s1, s2, s3, s4, s5⟩, s6⟩ := hSw; go_simp; with_reducible rfl
      try simp only [Act.put, List.getElem_toArray, List.getElem_cons_zero, List.getElem_cons_succ, List.setIfInBounds_toArray, List.set_cons_zero, List.set_cons_succ]
      refine wpAnyH_take (i := 3) (v := ?_) rfl (by kernel_rfl) (by kernel_rfl) (by kernel_rfl) (fun _ _ _ h => h) (Or.inl ⟨by rfl, ?_⟩) (by assumption) ?_
      rotate_left
      · intro w hSw; (try dsimp only at hSw); obtain ⟨⟨s0, s1, s2, s3, s4, s5⟩, s6⟩ := hSw; go_simp; with_reducible rfl
      try simp only [Act.put, List.getElem_toArray, List.getElem_cons_zero, List.getElem_cons_succ, List.setIfInBounds_toArray, List.set_cons_zero, List.set_cons_succ]
      refine wpAnyH_take (i := 5) (v := ?_) rfl (by kernel_rfl) (by kernel_rfl) (by kernel_rfl) (fun _ _ _ h => h) (Or.inl ⟨by rfl, ?_⟩) (by assumption) ?_
      rotate_left
      · intro w hSw; (try dsimp only at hSw); obtain ⟨⟨s0, s1, s2, s3, s4, s5⟩, s6⟩ := hSw; go_simp; with_reducible rfl
      try simp only [Act.put, List.getElem_toArray, List.getElem_cons_zero, List.getElem_cons_succ, List.setIfInBounds_toArray, List.set_cons_zero, List.set_cons_succ]
      refine wpAnyH_take (i := 6) (v := ?_) rfl (by kernel_rfl) (by kernel_rfl) (by kernel_rfl) (fun _ _ _ h => h) (Or.inl ⟨by rfl, ?_⟩) (by assumption) ?_
      rotate_left
      · intro w hSw; (try dsimp only at hSw); obtain ⟨⟨s0, s1, s2, s3, s4, s5⟩, s6⟩ := hSw; go_simp; with_reducible rfl
      try simp only [Act.put, List.getElem_toArray, List.getElem_cons_zero, List.getElem_cons_succ, List.setIfInBounds_toArray, List.set_cons_zero, List.set_cons_succ]
      refine wpAnyH_ready (rs := [4]) (by kernel_rfl) (by simp) ?_
      refine AllReadyH.cons rfl (fun K hK => ?_) AllReadyH.nil
      go_simp
      go_at_call 62
      refine (specFaceOf_any _ (⟨⟨kd, on, br, y, cnt⟩, z⟩ : PartD) _ ⟨_, rfl, HVH.out _ BG.out.grown⟩).mono ?_
      rintro e v1 ⟨rfl, hb⟩
      replace BG := Lib.hid (BG.out.below hb)
      clear hb
      refine hK.out _ _ (HSof.out _ (BG.out.box (w.heap.size, [.string ⟨kd.toArray⟩, .bool on, .bool br, .slice ca y.length cc, .int .i64 cnt, .slice la z.length lc]) (by simp)) (BG.out.box (XB, [.string ⟨mm.toArray⟩, .string ⟨kk.toArray⟩, .int .i64 nn, .string ⟨tt.toArray⟩]) (by simp))) (fun hHeld => ?_)
      clear hK K
      try simp only [Act.put, List.getElem_toArray, List.getElem_cons_zero, List.getElem_cons_succ, List.setIfInBounds_toArray, List.set_cons_zero, List.set_cons_succ]
      generalize faceP (⟨⟨kd, on, br, y, cnt⟩, z⟩ : PartD) = fc at *
      refine wpAnyH_ready (rs := [7]) (by kernel_rfl) (by simp) ?_
      refine AllReadyH.cons rfl (fun K hK => ?_) AllReadyH.nil
      go_simp
      go_at_call 63
      refine (specWant_any ⟨mm.toArray⟩ _).mono ?_
      rintro e v2 ⟨rfl, hb⟩
      simp only [List.toList_toArray]
      replace BG := Lib.hid (BG.out.below hb)
      clear hb
      refine hK.out _ _ (HSof.out _ (BG.out.box (w.heap.size, [.string ⟨kd.toArray⟩, .bool on, .bool br, .slice ca y.length cc, .int .i64 cnt, .slice la z.length lc]) (by simp)) (BG.out.box (XB, [.string ⟨mm.toArray⟩, .string ⟨kk.toArray⟩, .int .i64 nn, .string ⟨tt.toArray⟩]) (by simp))) (fun hHeld => ?_)
      clear hK K
      try simp only [Act.put, List.getElem_toArray, List.getElem_cons_zero, List.getElem_cons_succ, List.setIfInBounds_toArray, List.set_cons_zero, List.set_cons_succ]
      refine wpAnyH_ready (rs := [8]) (by kernel_rfl) (by simp) ?_
      refine AllReadyH.cons rfl (fun K hK => ?_) AllReadyH.nil
      go_simp
      go_at_call 61
      refine (specOffers_any fc (wantF mm) _).mono ?_
      rintro e v3 ⟨rfl, rfl⟩
      refine hK.out _ _ (HSof.out _ (BG.out.box (w.heap.size, [.string ⟨kd.toArray⟩, .bool on, .bool br, .slice ca y.length cc, .int .i64 cnt, .slice la z.length lc]) (by simp)) (BG.out.box (XB, [.string ⟨mm.toArray⟩, .string ⟨kk.toArray⟩, .int .i64 nn, .string ⟨tt.toArray⟩]) (by simp))) (fun hHeld => ?_)
      clear hK K
      try simp only [Act.put, List.getElem_toArray, List.getElem_cons_zero, List.getElem_cons_succ, List.setIfInBounds_toArray, List.set_cons_zero, List.set_cons_succ]
      generalize offersF fc (wantF mm) = of at *
      refine wpAnyH_take (i := 9) (v := ?_) rfl (by kernel_rfl) (by kernel_rfl) (by kernel_rfl) (fun _ _ _ h => h) (Or.inl ⟨by rfl, ?_⟩) (by assumption) ?_
      rotate_left
      · intro w hSw; (try dsimp only at hSw); obtain ⟨⟨s0, s1, s2, s3, s4, s5⟩, s6⟩ := hSw; go_simp; with_reducible rfl
      try simp only [Act.put, List.getElem_toArray, List.getElem_cons_zero, List.getElem_cons_succ, List.setIfInBounds_toArray, List.set_cons_zero, List.set_cons_succ]
      refine wpAnyH_take (i := 10) (v := ?_) rfl (by kernel_rfl) (by kernel_rfl) (by kernel_rfl) (fun _ _ _ h => h) (Or.inl ⟨by rfl, ?_⟩) (by assumption) ?_
      rotate_left
      · intro w hSw; (try dsimp only at hSw); obtain ⟨⟨s0, s1, s2, s3, s4, s5⟩, s6⟩ := hSw; go_simp; with_reducible rfl
      try simp only [Act.put, List.getElem_toArray, List.getElem_cons_zero, List.getElem_cons_succ, List.setIfInBounds_toArray, List.set_cons_zero, List.set_cons_succ]
      refine wpAnyH_done (by kernel_rfl) ?_ _
      clear hHeld HSof
      cases of
      case true =>
        skip
        have B_x := Lib.hid (BG.out.box (XB, [.string ⟨mm.toArray⟩, .string ⟨kk.toArray⟩, .int .i64 nn, .string ⟨tt.toArray⟩]) (by simp))
        have x0 := B_x.out.cell 0 (by simp)
        have x1 := B_x.out.cell 1 (by simp)
        have x2 := B_x.out.cell 2 (by simp)
        have x3 := B_x.out.cell 3 (by simp)
        simp only [List.getElem_cons_zero, List.getElem_cons_succ] at x0 x1 x2 x3
        have l_x := B_x.out.lt
        have B_r := Lib.hid (BG.out.box (w.heap.size + 1, [.string ⟨#[]⟩, .string ⟨#[]⟩, .int .i64 0, .string ⟨#[]⟩]) (by simp))
        have r0 := B_r.out.cell 0 (by simp)
        have r1 := B_r.out.cell 1 (by simp)
        have r2 := B_r.out.cell 2 (by simp)
        have r3 := B_r.out.cell 3 (by simp)
        simp only [List.getElem_cons_zero, List.getElem_cons_succ] at r0 r1 r2 r3
        have fr0 := B_r.out.froz 0 (by simp)
        have fr1 := B_r.out.froz 1 (by simp)
        have fr2 := B_r.out.froz 2 (by simp)
        have fr3 := B_r.out.froz 3 (by simp)
        have l_r := B_r.out.lt
        have nxr : ¬ XB = w.heap.size + 1 := by have := BG.out.dis; simp only [List.pairwise_cons, List.mem_cons, List.not_mem_nil, or_false, forall_eq_or_imp, forall_eq] at this; exact this.1.1
        have nrx : ¬ w.heap.size + 1 = XB := fun e => nxr e.symm
        go_wp2_with fail
        have BGf := Lib.hid (BG.out.put4 1 rfl (.string ⟨mm.toArray⟩) (.string ⟨kk.toArray⟩) (.int .i64 nn) (.string ⟨tt.toArray⟩))
        have BR := Lib.hid (BGf.out.box (w.heap.size + 1, [.string ⟨mm.toArray⟩, .string ⟨kk.toArray⟩, .int .i64 nn, .string ⟨tt.toArray⟩]) (by simp))
        clear B_x l_x x0 x1 x2 x3 
        clear B_r l_r r0 r1 r2 r3 fr0 fr1 fr2 fr3
        generalize ((((v2).setCell ⟨w.heap.size + 1, 0, none⟩ (.string ⟨mm.toArray⟩)).setCell ⟨w.heap.size + 1, 1, none⟩ (.string ⟨kk.toArray⟩)).setCell ⟨w.heap.size + 1, 2, none⟩ (.int .i64 nn)).setCell ⟨w.heap.size + 1, 3, none⟩ (.string ⟨tt.toArray⟩) = v9 at *
        have r0 := BR.out.cell 0 (by simp)
        have r1 := BR.out.cell 1 (by simp)
        have r2 := BR.out.cell 2 (by simp)
        have r3 := BR.out.cell 3 (by simp)
        simp only [List.getElem_cons_zero, List.getElem_cons_succ] at r0 r1 r2 r3
        refine bodyPost_ret (v := .agg #[.string ⟨mm.toArray⟩, .string ⟨kk.toArray⟩, .int .i64 nn, .string ⟨tt.toArray⟩]) (by simp [results, Tryz.results84, go_sem, r0, r1, r2, r3]) rfl ?_
        exact ⟨(⟨mm, kk, nn, tt⟩ : CallD), rfl, HOK.out, BGf.out.grown, BGf.out.cur⟩
      case false =>
        go_wp2_with fail
        refine (l3Call_any b v l _ BG.out.cur).mono ?_
        rintro e v3 ⟨⟨mm2, kk2, nn2, tt2⟩, rfl, hok, hg, hC⟩
        replace BG := Lib.hid (BG.out.draw hg hC)
        replace HOK := Lib.hid hok
        clear hg hC hok
        unfold vCall
        simp only
        have B_x := Lib.hid (BG.out.box (XB, [.string ⟨mm.toArray⟩, .string ⟨kk.toArray⟩, .int .i64 nn, .string ⟨tt.toArray⟩]) (by simp))
        have x0 := B_x.out.cell 0 (by simp)
        have x1 := B_x.out.cell 1 (by simp)
        have x2 := B_x.out.cell 2 (by simp)
        have x3 := B_x.out.cell 3 (by simp)
        simp only [List.getElem_cons_zero, List.getElem_cons_succ] at x0 x1 x2 x3
        have fx0 := B_x.out.froz 0 (by simp)
        have fx1 := B_x.out.froz 1 (by simp)
        have fx2 := B_x.out.froz 2 (by simp)
        have fx3 := B_x.out.froz 3 (by simp)
        have l_x := B_x.out.lt
        go_wp2_with fail
        have BGf := Lib.hid (BG.out.put4 0 rfl (.string ⟨mm2.toArray⟩) (.string ⟨kk2.toArray⟩) (.int .i64 nn2) (.string ⟨tt2.toArray⟩))
        exact ⟨⟨i + 1, mm2, kk2, nn2, tt2, by go_num, by omega, HOK.out, BGf.out⟩, by simp [intOf]; omega⟩
    · skip
      have hic : decide ((i : Int) < 4) = false := decide_eq_false (by omega)
      go_wp2_with fail
      have HSof := Lib.hid (fun W (h : Bx W (w.heap.size) [.string ⟨kd.toArray⟩, .bool on, .bool br, .slice ca y.length cc, .int .i64 cnt, .slice la z.length lc]) (h2 : Bx W XB [.string ⟨mm.toArray⟩, .string ⟨kk.toArray⟩, .int .i64 nn, .string ⟨tt.toArray⟩]) => (show (six W (w.heap.size) (.string ⟨kd.toArray⟩) (.bool on) (.bool br) (.slice ca y.length cc) (.int .i64 cnt) (.slice la z.length lc) ∧ W.cell? ⟨XB, 0, none⟩ = some (.string ⟨mm.toArray⟩)) from ⟨bx_six h, h2.cell 0 (by simp)⟩))
      refine wp_region_held_drew (S := fun w' => (six w' (w.heap.size) (.string ⟨kd.toArray⟩) (.bool on) (.bool br) (.slice ca y.length cc) (.int .i64 cnt) (.slice la z.length lc) ∧ w'.cell? ⟨XB, 0, none⟩ = some (.string ⟨mm.toArray⟩))) (by kernel_rfl) ?_ (fun hHeld => ?_)
      · exact HSof.out _ (BG.out.drew.box (w.heap.size, [.string ⟨kd.toArray⟩, .bool on, .bool br, .slice ca y.length cc, .int .i64 cnt, .slice la z.length lc]) (by simp)) (BG.out.drew.box (XB, [.string ⟨mm.toArray⟩, .string ⟨kk.toArray⟩, .int .i64 nn, .string ⟨tt.toArray⟩]) (by simp))
      replace BG := Lib.hid BG.out.drew
      generalize wr.drew = v0 at *
      refine wpAnyH_take (i := 0) (v := ?_) rfl (by kernel_rfl) (by kernel_rfl) (by kernel_rfl) (fun _ _ _ h => h) (Or.inl ⟨by rfl, ?_⟩) (by assumption) ?_
      rotate_left
      · intro w hSw; (try dsimp only at hSw); obtain ⟨⟨s0, s1, s2, s3, s4, s5⟩, s6⟩ := hSw; go_simp; with_reducible rfl
      try simp only [Act.put, List.getElem_toArray, List.getElem_cons_zero, List.getElem_cons_succ, List.setIfInBounds_toArray, List.set_cons_zero, List.set_cons_succ]
      refine wpAnyH_take (i := 1) (v := ?_) rfl (by kernel_rfl) (by kernel_rfl) (by kernel_rfl) (fun _ _ _ h => h) (Or.inl ⟨by rfl, ?_⟩) (by assumption) ?_
      rotate_left
      · intro w hSw; (try dsimp only at hSw); obtain ⟨⟨s0, s1, s2, s3, s4, s5⟩, s6⟩ := hSw; go_simp; with_reducible rfl
      try simp only [Act.put, List.getElem_toArray, List.getElem_cons_zero, List.getElem_cons_succ, List.setIfInBounds_toArray, List.set_cons_zero, List.set_cons_succ]
      refine wpAnyH_take (i := 2) (v := ?_) rfl (by kernel_rfl) (by kernel_rfl) (by kernel_rfl) (fun _ _ _ h => h) (Or.inl ⟨by rfl, ?_⟩) (by assumption) ?_
      rotate_left
      · intro w hSw; (try dsimp only at hSw); obtain ⟨⟨s0, s1, s2, s3, s4, s5⟩, s6⟩ := hSw; go_simp; with_reducible rfl
      try simp only [Act.put, List.getElem_toArray, List.getElem_cons_zero, List.getElem_cons_succ, List.setIfInBounds_toArray, List.set_cons_zero, List.set_cons_succ]
      refine wpAnyH_take (i := 3) (v := undef) rfl (by kernel_rfl) (by kernel_rfl) (by kernel_rfl) (fun _ _ _ h => h) (Or.inr ⟨by rfl, rfl⟩) (by assumption) ?_
      try simp only [Act.put, List.getElem_toArray, List.getElem_cons_zero, List.getElem_cons_succ, List.setIfInBounds_toArray, List.set_cons_zero, List.set_cons_succ]
      refine wpAnyH_take (i := 5) (v := undef) rfl (by kernel_rfl) (by kernel_rfl) (by kernel_rfl) (fun _ _ _ h => h) (Or.inr ⟨by rfl, rfl⟩) (by assumption) ?_
      try simp only [Act.put, List.getElem_toArray, List.getElem_cons_zero, List.getElem_cons_succ, List.setIfInBounds_toArray, List.set_cons_zero, List.set_cons_succ]
      refine wpAnyH_take (i := 6) (v := undef) rfl (by kernel_rfl) (by kernel_rfl) (by kernel_rfl) (fun _ _ _ h => h) (Or.inr ⟨by rfl, rfl⟩) (by assumption) ?_
      try simp only [Act.put, List.getElem_toArray, List.getElem_cons_zero, List.getElem_cons_succ, List.setIfInBounds_toArray, List.set_cons_zero, List.set_cons_succ]
      refine wpAnyH_take (i := 4) (v := undef) rfl (by kernel_rfl) (by kernel_rfl) (by kernel_rfl) (fun _ _ _ h => h) (Or.inr ⟨by rfl, rfl⟩) (by assumption) ?_
      try simp only [Act.put, List.getElem_toArray, List.getElem_cons_zero, List.getElem_cons_succ, List.setIfInBounds_toArray, List.set_cons_zero, List.set_cons_succ]
      refine wpAnyH_take (i := 7) (v := undef) rfl (by kernel_rfl) (by kernel_rfl) (by kernel_rfl) (fun _ _ _ h => h) (Or.inr ⟨by rfl, rfl⟩) (by assumption) ?_
      try simp only [Act.put, List.getElem_toArray, List.getElem_cons_zero, List.getElem_cons_succ, List.setIfInBounds_toArray, List.set_cons_zero, List.set_cons_succ]
      refine wpAnyH_take (i := 8) (v := undef) rfl (by kernel_rfl) (by kernel_rfl) (by kernel_rfl) (fun _ _ _ h => h) (Or.inr ⟨by rfl, rfl⟩) (by assumption) ?_
      try simp only [Act.put, List.getElem_toArray, List.getElem_cons_zero, List.getElem_cons_succ, List.setIfInBounds_toArray, List.set_cons_zero, List.set_cons_succ]
      refine wpAnyH_take (i := 9) (v := undef) rfl (by kernel_rfl) (by kernel_rfl) (by kernel_rfl) (fun _ _ _ h => h) (Or.inr ⟨by rfl, rfl⟩) (by assumption) ?_
      try simp only [Act.put, List.getElem_toArray, List.getElem_cons_zero, List.getElem_cons_succ, List.setIfInBounds_toArray, List.set_cons_zero, List.set_cons_succ]
      refine wpAnyH_take (i := 10) (v := ?_) rfl (by kernel_rfl) (by kernel_rfl) (by kernel_rfl) (fun _ _ _ h => h) (Or.inl ⟨by rfl, ?_⟩) (by assumption) ?_
      rotate_left
      · intro w hSw; (try dsimp only at hSw); obtain ⟨⟨s0, s1, s2, s3, s4, s5⟩, s6⟩ := hSw; go_simp; with_reducible rfl
      try simp only [Act.put, List.getElem_toArray, List.getElem_cons_zero, List.getElem_cons_succ, List.setIfInBounds_toArray, List.set_cons_zero, List.set_cons_succ]
      refine wpAnyH_done (by kernel_rfl) ?_ _
      clear hHeld HSof
      have B_x := Lib.hid (BG.out.box (XB, [.string ⟨mm.toArray⟩, .string ⟨kk.toArray⟩, .int .i64 nn, .string ⟨tt.toArray⟩]) (by simp))
      have x0 := B_x.out.cell 0 (by simp)
      have x1 := B_x.out.cell 1 (by simp)
      have x2 := B_x.out.cell 2 (by simp)
      have x3 := B_x.out.cell 3 (by simp)
      simp only [List.getElem_cons_zero, List.getElem_cons_succ] at x0 x1 x2 x3
      have l_x := B_x.out.lt
      have B_r := Lib.hid (BG.out.box (w.heap.size + 1, [.string ⟨#[]⟩, .string ⟨#[]⟩, .int .i64 0, .string ⟨#[]⟩]) (by simp))
      have r0 := B_r.out.cell 0 (by simp)
      have r1 := B_r.out.cell 1 (by simp)
      have r2 := B_r.out.cell 2 (by simp)
      have r3 := B_r.out.cell 3 (by simp)
      simp only [List.getElem_cons_zero, List.getElem_cons_succ] at r0 r1 r2 r3
      have fr0 := B_r.out.froz 0 (by simp)
      have fr1 := B_r.out.froz 1 (by simp)
      have fr2 := B_r.out.froz 2 (by simp)
      have fr3 := B_r.out.froz 3 (by simp)
      have l_r := B_r.out.lt
      have nxr : ¬ XB = w.heap.size + 1 := by have := BG.out.dis; simp only [List.pairwise_cons, List.mem_cons, List.not_mem_nil, or_false, forall_eq_or_imp, forall_eq] at this; exact this.1.1
      have nrx : ¬ w.heap.size + 1 = XB := fun e => nxr e.symm
      go_wp2_with fail
      have BGf := Lib.hid (BG.out.put4 1 rfl (.string ⟨mm.toArray⟩) (.string ⟨kk.toArray⟩) (.int .i64 nn) (.string ⟨tt.toArray⟩))
      have BR := Lib.hid (BGf.out.box (w.heap.size + 1, [.string ⟨mm.toArray⟩, .string ⟨kk.toArray⟩, .int .i64 nn, .string ⟨tt.toArray⟩]) (by simp))
      clear B_x l_x x0 x1 x2 x3 
      clear B_r l_r r0 r1 r2 r3 fr0 fr1 fr2 fr3
      generalize ((((v0).setCell ⟨w.heap.size + 1, 0, none⟩ (.string ⟨mm.toArray⟩)).setCell ⟨w.heap.size + 1, 1, none⟩ (.string ⟨kk.toArray⟩)).setCell ⟨w.heap.size + 1, 2, none⟩ (.int .i64 nn)).setCell ⟨w.heap.size + 1, 3, none⟩ (.string ⟨tt.toArray⟩) = v9 at *
      have r0 := BR.out.cell 0 (by simp)
      have r1 := BR.out.cell 1 (by simp)
      have r2 := BR.out.cell 2 (by simp)
      have r3 := BR.out.cell 3 (by simp)
      simp only [List.getElem_cons_zero, List.getElem_cons_succ] at r0 r1 r2 r3
      refine bodyPost_ret (v := .agg #[.string ⟨mm.toArray⟩, .string ⟨kk.toArray⟩, .int .i64 nn, .string ⟨tt.toArray⟩]) (by simp [results, Tryz.results84, go_sem, r0, r1, r2, r3]) rfl ?_
      exact ⟨(⟨mm, kk, nn, tt⟩ : CallD), rfl, HOK.out, BGf.out.grown, BGf.out.cur⟩
def GivesPK (w : World) (e : Ending) (w' : World) : Prop := ∃ (x : PartD) (cv lv : Value) (d : CallD), e = .returned (.tuple #[.agg (cPartV x.fCore.fKind x.fCore.fOn x.fCore.fBroken cv x.fCore.fCount lv).toArray, vCall d]) ∧ OwnsF cCell 139 2 w' w.heap.size cv x.fCore.fCells ∧ OwnsF cLayer 86 2 w' w.heap.size lv x.fLayers ∧ okPt 4 x ∧ okCl d ∧ Below w.heap.size w w'
set_option maxRecDepth 100000 in
set_option maxHeartbeats 6400000 in
theorem drawCallPart_any (v : Value) (l : List UInt8) (w : World) (hR : RowAt w v (Lib.byteCells l)) :
    Calls Tryz.prog 42 #[v] w fun e w' => GivesPK w e w' := by
  have hcode := Lib.hid (bag_code hR)
  obtain ⟨B1, B2, HB0⟩ := bx_start2 w [.string ⟨#[]⟩, .bool false, .bool false, .slice none 0 0, .int .i64 0, .slice none 0 0] [.string ⟨#[]⟩, .string ⟨#[]⟩, .int .i64 0, .string ⟨#[]⟩] 37 43
  have HR := Lib.hid (RowAt.below hR HB0 (Nat.le_refl _))
  have B1 := Lib.hid B1
  have HB0 := Lib.hid HB0
  have HN := Lib.hid (l1New_any v l _ HR.out)
  clear hR
  have B2 := Lib.hid B2
  go_enter Tryz.func42, Tryz.ntmps42
  go_wp2_with fail
  generalize (w.alloc (.cells #[.string ⟨#[]⟩, .bool false, .bool false, .slice none 0 0, .int .i64 0, .slice none 0 0] 37)).alloc (.cells #[.string ⟨#[]⟩, .string ⟨#[]⟩, .int .i64 0, .string ⟨#[]⟩] 43) = w0 at *
  refine HN.out.mono ?_
  rintro e w1 ⟨b, rfl, hb, hB, hC⟩
  have BG := Lib.hid (bag_new (bs := [(w.heap.size + 1, [.string ⟨#[]⟩, .string ⟨#[]⟩, .int .i64 0, .string ⟨#[]⟩]), (w.heap.size, [.string ⟨#[]⟩, .bool false, .bool false, .slice none 0 0, .int .i64 0, .slice none 0 0])]) HB0.out (by intro p hp; simp only [List.mem_cons, List.not_mem_nil, or_false] at hp; rcases hp with rfl | rfl; exact ⟨B2.out, Nat.le_succ _⟩; exact ⟨B1.out, Nat.le_refl _⟩) (by simp) hb hB hC hcode.out)
  have hbw : w.heap.size ≤ b := by have := B1.out.lt; omega
  clear hB hC hb HB0 HN HR B1 B2 hcode
  go_wp2_with fail
  refine (l4Any_any b v l _ BG.out.cur).mono ?_
  rintro e w2 ⟨⟨⟨kd, on, br, y, cnt⟩, z⟩, cv, lv, rfl, ho3, ho5, hok, hg, hC⟩
  simp only at ho3 ho5
  obtain ⟨ca, cc, rfl⟩ := slice_of ho3
  obtain ⟨la, lc, rfl⟩ := slice_of ho5
  have HOK := Lib.hid hok
  replace BG := Lib.hid (BG.out.drawn2 hg hC ho3 ho5)
  clear ho3 ho5 hok hg hC
  replace BG := Lib.hid (BG.out.var [.string ⟨kd.toArray⟩, .bool on, .bool br, .slice ca y.length cc, .int .i64 cnt, .slice la z.length lc] 37)
  go_wp2_with fail
  generalize w2.alloc (.cells #[.string ⟨kd.toArray⟩, .bool on, .bool br, .slice ca y.length cc, .int .i64 cnt, .slice la z.length lc] 37) = w3 at *
  generalize w2.heap.size = P at *
  have HSof := Lib.hid (fun W (h : Bx W P [.string ⟨kd.toArray⟩, .bool on, .bool br, .slice ca y.length cc, .int .i64 cnt, .slice la z.length lc]) => (show six W P (.string ⟨kd.toArray⟩) (.bool on) (.bool br) (.slice ca y.length cc) (.int .i64 cnt) (.slice la z.length lc) from bx_six h))
  refine wp_region_held_drew (S := fun w' => six w' P (.string ⟨kd.toArray⟩) (.bool on) (.bool br) (.slice ca y.length cc) (.int .i64 cnt) (.slice la z.length lc)) (by kernel_rfl) ?_ (fun hHeld => ?_)
  · exact HSof.out _ (BG.out.drew.box (P, [.string ⟨kd.toArray⟩, .bool on, .bool br, .slice ca y.length cc, .int .i64 cnt, .slice la z.length lc]) (by simp))
  replace BG := Lib.hid BG.out.drew
  generalize w3.drew = v0 at *
  refine wpAnyH_take (i := 0) (v := ?_) rfl (by kernel_rfl) (by kernel_rfl) (by kernel_rfl) (fun _ _ _ h => h) (Or.inl ⟨by rfl, ?_⟩) (by assumption) ?_
  rotate_left
  · intro w hSw; (try dsimp only at hSw); obtain ⟨s0, s1, s2, s3, s4, s5⟩ := hSw; go_simp; with_reducible rfl
  try simp only [Act.put, List.getElem_toArray, List.getElem_cons_zero, List.getElem_cons_succ, List.setIfInBounds_toArray, List.set_cons_zero, List.set_cons_succ]
  refine wpAnyH_take (i := 1) (v := ?_) rfl (by kernel_rfl) (by kernel_rfl) (by kernel_rfl) (fun _ _ _ h => h) (Or.inl ⟨by rfl, ?_⟩) (by assumption) ?_
  rotate_left
  · intro w hSw; (try dsimp only at hSw); obtain ⟨s0, s1, s2, s3, s4, s5⟩ := hSw; go_simp; with_reducible rfl
  try simp only [Act.put, List.getElem_toArray, List.getElem_cons_zero, List.getElem_cons_succ, List.setIfInBounds_toArray, List.set_cons_zero, List.set_cons_succ]
  refine wpAnyH_take (i := 2) (v := ?_) rfl (by kernel_rfl) (by kernel_rfl) (by kernel_rfl) (fun _ _ _ h => h) (Or.inl ⟨by rfl, ?_⟩) (by assumption) ?_
  rotate_left
  · intro w hSw; (try dsimp only at hSw); obtain ⟨s0, s1, s2, s3, s4, s5⟩ := hSw; go_simp; with_reducible rfl
  try simp only [Act.put, List.getElem_toArray, List.getElem_cons_zero, List.getElem_cons_succ, List.setIfInBounds_toArray, List.set_cons_zero, List.set_cons_succ]
  refine wpAnyH_ready (rs := [3]) (by kernel_rfl) (by simp) ?_
  refine AllReadyH.cons rfl (fun K hK => ?_) AllReadyH.nil
  go_simp
  go_at_call 84
  refine (l4Call_any b v l kd on br ca la cc lc y z cnt _ BG.out.cur (fun W hg => Bag.partAt (n := 4) (x := (⟨⟨kd, on, br, y, cnt⟩, z⟩ : PartD)) BG.out (by simp) (by simp) HOK.out (by decide) W hg)).mono ?_
  rintro e v1 ⟨⟨mm, kk, nn, tt⟩, rfl, hok, hg, hC⟩
  replace BG := Lib.hid (BG.out.draw hg hC)
  have HOX := Lib.hid hok
  clear hg hC hok
  unfold vCall
  simp only
  refine hK.out _ _ (HSof.out _ (BG.out.box (P, [.string ⟨kd.toArray⟩, .bool on, .bool br, .slice ca y.length cc, .int .i64 cnt, .slice la z.length lc]) (by simp))) (fun hHeld => ?_)
  clear hK K
  try simp only [Act.put, List.getElem_toArray, List.getElem_cons_zero, List.getElem_cons_succ, List.setIfInBounds_toArray, List.set_cons_zero, List.set_cons_succ]
  have B_p := Lib.hid (BG.out.box (w.heap.size, [.string ⟨#[]⟩, .bool false, .bool false, .slice none 0 0, .int .i64 0, .slice none 0 0]) (by simp))
  have p0 := B_p.out.cell 0 (by simp)
  have p1 := B_p.out.cell 1 (by simp)
  have p2 := B_p.out.cell 2 (by simp)
  have p3 := B_p.out.cell 3 (by simp)
  have p4 := B_p.out.cell 4 (by simp)
  have p5 := B_p.out.cell 5 (by simp)
  simp only [List.getElem_cons_zero, List.getElem_cons_succ] at p0 p1 p2 p3 p4 p5
  have fp0 := B_p.out.froz 0 (by simp)
  have fp1 := B_p.out.froz 1 (by simp)
  have fp2 := B_p.out.froz 2 (by simp)
  have fp3 := B_p.out.froz 3 (by simp)
  have fp4 := B_p.out.froz 4 (by simp)
  have fp5 := B_p.out.froz 5 (by simp)
  have l_p := B_p.out.lt
  refine wpAnyH_ready (rs := [4]) (by kernel_rfl) (by simp) ?_
  refine AllReadyH.cons rfl (fun K hK => ?_) AllReadyH.nil
  go_simp
  have BG2 := Lib.hid (BG.out.put6 2 rfl (.string ⟨kd.toArray⟩) (.bool on) (.bool br) (.slice ca y.length cc) (.int .i64 cnt) (.slice la z.length lc))
  simp only [List.set_cons_zero, List.set_cons_succ] at BG2
  refine hK.out _ _ (HSof.out _ (BG2.out.box (P, [.string ⟨kd.toArray⟩, .bool on, .bool br, .slice ca y.length cc, .int .i64 cnt, .slice la z.length lc]) (by simp))) (fun hHeld => ?_)
  clear hK K
  try simp only [Act.put, List.getElem_toArray, List.getElem_cons_zero, List.getElem_cons_succ, List.setIfInBounds_toArray, List.set_cons_zero, List.set_cons_succ]
  clear B_p l_p p0 p1 p2 p3 p4 p5 fp0 fp1 fp2 fp3 fp4 fp5
  generalize ((((((v1).setCell ⟨w.heap.size, 0, none⟩ (.string ⟨kd.toArray⟩)).setCell ⟨w.heap.size, 1, none⟩ (.bool on)).setCell ⟨w.heap.size, 2, none⟩ (.bool br)).setCell ⟨w.heap.size, 3, none⟩ (.slice ca y.length cc)).setCell ⟨w.heap.size, 4, none⟩ (.int .i64 cnt)).setCell ⟨w.heap.size, 5, none⟩ (.slice la z.length lc) = v2 at *
  replace BG := BG2
  clear BG2
  have B_r := Lib.hid (BG.out.box (w.heap.size + 1, [.string ⟨#[]⟩, .string ⟨#[]⟩, .int .i64 0, .string ⟨#[]⟩]) (by simp))
  have r0 := B_r.out.cell 0 (by simp)
  have r1 := B_r.out.cell 1 (by simp)
  have r2 := B_r.out.cell 2 (by simp)
  have r3 := B_r.out.cell 3 (by simp)
  simp only [List.getElem_cons_zero, List.getElem_cons_succ] at r0 r1 r2 r3
  have fr0 := B_r.out.froz 0 (by simp)
  have fr1 := B_r.out.froz 1 (by simp)
  have fr2 := B_r.out.froz 2 (by simp)
  have fr3 := B_r.out.froz 3 (by simp)
  have l_r := B_r.out.lt
  refine wpAnyH_ready (rs := [5]) (by kernel_rfl) (by simp) ?_
  refine AllReadyH.cons rfl (fun K hK => ?_) AllReadyH.nil
  go_simp
  have BG2 := Lib.hid (BG.out.put4 1 rfl (.string ⟨mm.toArray⟩) (.string ⟨kk.toArray⟩) (.int .i64 nn) (.string ⟨tt.toArray⟩))
  simp only [List.set_cons_zero, List.set_cons_succ] at BG2
  refine hK.out _ _ (HSof.out _ (BG2.out.box (P, [.string ⟨kd.toArray⟩, .bool on, .bool br, .slice ca y.length cc, .int .i64 cnt, .slice la z.length lc]) (by simp))) (fun hHeld => ?_)
  clear hK K
  try simp only [Act.put, List.getElem_toArray, List.getElem_cons_zero, List.getElem_cons_succ, List.setIfInBounds_toArray, List.set_cons_zero, List.set_cons_succ]
  clear B_r l_r r0 r1 r2 r3 fr0 fr1 fr2 fr3
  generalize ((((v2).setCell ⟨w.heap.size + 1, 0, none⟩ (.string ⟨mm.toArray⟩)).setCell ⟨w.heap.size + 1, 1, none⟩ (.string ⟨kk.toArray⟩)).setCell ⟨w.heap.size + 1, 2, none⟩ (.int .i64 nn)).setCell ⟨w.heap.size + 1, 3, none⟩ (.string ⟨tt.toArray⟩) = v3 at *
  replace BG := BG2
  clear BG2
  refine wpAnyH_done (by kernel_rfl) ?_ _
  clear hHeld HSof
  have B_p := Lib.hid (BG.out.box (w.heap.size, [.string ⟨kd.toArray⟩, .bool on, .bool br, .slice ca y.length cc, .int .i64 cnt, .slice la z.length lc]) (by simp))
  have p0 := B_p.out.cell 0 (by simp)
  have p1 := B_p.out.cell 1 (by simp)
  have p2 := B_p.out.cell 2 (by simp)
  have p3 := B_p.out.cell 3 (by simp)
  have p4 := B_p.out.cell 4 (by simp)
  have p5 := B_p.out.cell 5 (by simp)
  simp only [List.getElem_cons_zero, List.getElem_cons_succ] at p0 p1 p2 p3 p4 p5
  have B_r := Lib.hid (BG.out.box (w.heap.size + 1, [.string ⟨mm.toArray⟩, .string ⟨kk.toArray⟩, .int .i64 nn, .string ⟨tt.toArray⟩]) (by simp))
  have r0 := B_r.out.cell 0 (by simp)
  have r1 := B_r.out.cell 1 (by simp)
  have r2 := B_r.out.cell 2 (by simp)
  have r3 := B_r.out.cell 3 (by simp)
  simp only [List.getElem_cons_zero, List.getElem_cons_succ] at r0 r1 r2 r3
  go_wp2_with fail
  refine bodyPost_ret (v := .tuple #[.agg #[.string ⟨kd.toArray⟩, .bool on, .bool br, .slice ca y.length cc, .int .i64 cnt, .slice la z.length lc], .agg #[.string ⟨mm.toArray⟩, .string ⟨kk.toArray⟩, .int .i64 nn, .string ⟨tt.toArray⟩]]) (by simp [results, Tryz.results42, go_sem, p0, p1, p2, p3, p4, p5, r0, r1, r2, r3]) rfl ?_
  exact ⟨(⟨⟨kd, on, br, y, cnt⟩, z⟩ : PartD), .slice ca y.length cc, .slice la z.length lc, (⟨mm, kk, nn, tt⟩ : CallD), rfl, BG.out.row (hPC w (.slice ca y.length cc) y) (by simp), BG.out.row (hPL w (.slice la z.length lc) z) (by simp), HOK.out, HOX.out, BG.out.bel hbw⟩
end Go.Proofs.YtcpbikilgacdlaaGreat
namespace Go.Proofs.YtcpbikilgacdlaaGreat
set_option linter.unusedVariables false
open Go.RowKit
structure Kept2 (w w' : World) (r1 r2 : Option Nat) : Prop where
  os : w'.os = w.os
  tape : w'.tape = w.tape
  output : w'.output = w.output
  size : w.heap.size ≤ w'.heap.size
  block : ∀ k, k < w.heap.size → some k ≠ r1 → some k ≠ r2 → w'.heap[k]? = w.heap[k]?
  tail : ∀ k o, k < w.heap.size → r1 = some k → r2 ≠ some k → 5 ≤ o → w'.cell? ⟨k, o, none⟩ = w.cell? ⟨k, o, none⟩ ∧ w'.frozen? ⟨k, o, none⟩ = w.frozen? ⟨k, o, none⟩
theorem Kept2.refl (w : World) (r1 r2 : Option Nat) : Kept2 w w r1 r2 := ⟨rfl, rfl, rfl, Nat.le_refl _, fun _ _ _ _ => rfl, fun _ _ _ _ _ _ => ⟨rfl, rfl⟩⟩
theorem Kept2.below {w w' w1 : World} {r1 r2 : Option Nat} (h : Kept2 w w1 r1 r2) (hb : Below w1.heap.size w1 w') : Kept2 w w' r1 r2 :=
  ⟨hb.os.trans h.os, hb.tape.trans h.tape, hb.output.trans h.output, Nat.le_trans h.size hb.size, fun k hk h1 h2 => (hb.block k (Nat.lt_of_lt_of_le hk h.size)).trans (h.block k hk h1 h2),
    fun k o hk h1 h2 ho => ⟨(hb.cell (p := ⟨k, o, none⟩) (Nat.lt_of_lt_of_le hk h.size)).trans (h.tail k o hk h1 h2 ho).1, (hb.frozen (p := ⟨k, o, none⟩) (Nat.lt_of_lt_of_le hk h.size)).trans (h.tail k o hk h1 h2 ho).2⟩⟩
theorem Kept2.of_below {w w' : World} {r1 r2 : Option Nat} (hb : Below w.heap.size w w') : Kept2 w w' r1 r2 := (Kept2.refl w r1 r2).below hb
theorem Kept2.toBelow {w w' : World} {r1 r2 : Option Nat} {N : Nat} (h : Kept2 w w' r1 r2) (hN : N ≤ w.heap.size) (h1 : ∀ k, r1 = some k → N ≤ k) (h2 : ∀ k, r2 = some k → N ≤ k) : Below N w w' :=
  ⟨h.os, h.tape, h.output, h.size, fun k hk => h.block k (by omega) (fun e => by have := h1 k e.symm; omega) (fun e => by have := h2 k e.symm; omega)⟩
theorem Kept2.set {w w1 : World} {r1 r2 : Option Nat} (h : Kept2 w w1 r1 r2) {p : Addr} (u : Value) (hp : w.heap.size ≤ p.block ∨ (r1 = some p.block ∧ p.off < 5) ∨ r2 = some p.block) : Kept2 w (w1.setCell p u) r1 r2 :=
  ⟨h.os, h.tape, h.output, by simpa using h.size, fun k hk h1 h2 => by
    rw [Below.heap_setCell w1 p u k (fun e => by
      rcases hp with hp | hp | hp
      · omega
      · exact h1 (by rw [hp.1, e])
      · exact h2 (by rw [hp, e]))]
    exact h.block k hk h1 h2, fun k o hk h1 h2 ho => by
    have hne : p ≠ (⟨k, o, none⟩ : Addr) := fun e => by
      subst e
      rcases hp with hp | hp | hp
      · simp only at hp; omega
      · have := hp.2; simp only at this; omega
      · exact h2 hp
    exact ⟨(World.cell?_setCell_other _ _ _ _ hne).trans (h.tail k o hk h1 h2 ho).1, by simpa using (h.tail k o hk h1 h2 ho).2⟩⟩
theorem Kept2.alloc {w w1 : World} {r1 r2 : Option Nat} (h : Kept2 w w1 r1 r2) (o : Obj) : Kept2 w (w1.alloc o) r1 r2 := h.below ((Below.refl _ _).alloc (Nat.le_refl _) o)
theorem Kept2.drew {w w1 : World} {r1 r2 : Option Nat} (h : Kept2 w w1 r1 r2) : Kept2 w w1.drew r1 r2 := h.below ((Below.refl _ _).drew)
theorem Kept2.ahead {w w0 w1 : World} {r1 r2 : Option Nat} (hb : Below w.heap.size w w0) (h : Kept2 w0 w1 r1 r2) : Kept2 w w1 r1 r2 :=
  ⟨h.os.trans hb.os, h.tape.trans hb.tape, h.output.trans hb.output, Nat.le_trans hb.size h.size, fun k hk h1 h2 => (h.block k (Nat.lt_of_lt_of_le hk hb.size) h1 h2).trans (hb.block k hk),
    fun k o hk h1 h2 ho => ⟨(h.tail k o (Nat.lt_of_lt_of_le hk hb.size) h1 h2 ho).1.trans (hb.cell (p := ⟨k, o, none⟩) hk), (h.tail k o (Nat.lt_of_lt_of_le hk hb.size) h1 h2 ho).2.trans (hb.frozen (p := ⟨k, o, none⟩) hk)⟩⟩
theorem Kept2.cell {w w' : World} {r1 r2 : Option Nat} (h : Kept2 w w' r1 r2) {p : Addr} (hp : p.block < w.heap.size) (h1 : some p.block ≠ r1) (h2 : some p.block ≠ r2) : w'.cell? p = w.cell? p := World.cell?_of_block (h.block _ hp h1 h2)
theorem Kept2.frozen {w w' : World} {r1 r2 : Option Nat} (h : Kept2 w w' r1 r2) {p : Addr} (hp : p.block < w.heap.size) (h1 : some p.block ≠ r1) (h2 : some p.block ≠ r2) : w'.frozen? p = w.frozen? p := World.frozen?_of_block (h.block _ hp h1 h2)
structure CoreBox (w : World) (b : Nat) (cv : Value) (d : CoreD) : Prop where
  c0 : w.cell? ⟨b, 0, none⟩ = some (.string ⟨d.fKind.toArray⟩)
  c1 : w.cell? ⟨b, 1, none⟩ = some (.bool d.fOn)
  c2 : w.cell? ⟨b, 2, none⟩ = some (.bool d.fBroken)
  c3 : w.cell? ⟨b, 3, none⟩ = some cv
  c4 : w.cell? ⟨b, 4, none⟩ = some (.int .i64 d.fCount)
  z1 : w.frozen? ⟨b, 1, none⟩ = false
  z2 : w.frozen? ⟨b, 2, none⟩ = false
  z3 : w.frozen? ⟨b, 3, none⟩ = false
  z4 : w.frozen? ⟨b, 4, none⟩ = false
theorem CoreBox.lt {w : World} {b : Nat} {cv : Value} {d : CoreD} (h : CoreBox w b cv d) : b < w.heap.size := World.block_lt_of_cell? w _ h.c0
theorem CoreBox.keep {w w' : World} {b : Nat} {cv : Value} {d : CoreD} (h : CoreBox w b cv d) (hb : w'.heap[b]? = w.heap[b]?) : CoreBox w' b cv d := by
  have hc : ∀ o, w'.cell? ⟨b, o, none⟩ = w.cell? ⟨b, o, none⟩ := fun o => World.cell?_of_block hb
  have hf : ∀ o, w'.frozen? ⟨b, o, none⟩ = w.frozen? ⟨b, o, none⟩ := fun o => World.frozen?_of_block hb
  exact ⟨(hc 0).trans h.c0, (hc 1).trans h.c1, (hc 2).trans h.c2, (hc 3).trans h.c3, (hc 4).trans h.c4, (hf 1).trans h.z1, (hf 2).trans h.z2, (hf 3).trans h.z3, (hf 4).trans h.z4⟩
theorem frz_set (w : World) (p q : Addr) (u : Value) : (w.setCell p u).frozen? q = w.frozen? q := by simp
theorem CoreBox.s1 {w : World} {b : Nat} {cv : Value} {k : List UInt8} {on0 br : Bool} {l : List CellD} {n : Int} (h : CoreBox w b cv ⟨k, on0, br, l, n⟩) (on : Bool) : CoreBox (w.setCell ⟨b, 1, none⟩ (.bool on)) b cv ⟨k, on, br, l, n⟩ := by
  obtain ⟨c0, c1, c2, c3, c4, z1, z2, z3, z4⟩ := h
  exact ⟨(cell_set_ne (by decide)).trans c0, cell_set_at (by rw [c1]; rfl), (cell_set_ne (by decide)).trans c2, (cell_set_ne (by decide)).trans c3, (cell_set_ne (by decide)).trans c4, (frz_set _ _ _ _).trans z1, (frz_set _ _ _ _).trans z2, (frz_set _ _ _ _).trans z3, (frz_set _ _ _ _).trans z4⟩
theorem CoreBox.s2 {w : World} {b : Nat} {cv : Value} {k : List UInt8} {on br0 : Bool} {l : List CellD} {n : Int} (h : CoreBox w b cv ⟨k, on, br0, l, n⟩) (br : Bool) : CoreBox (w.setCell ⟨b, 2, none⟩ (.bool br)) b cv ⟨k, on, br, l, n⟩ := by
  obtain ⟨c0, c1, c2, c3, c4, z1, z2, z3, z4⟩ := h
  exact ⟨(cell_set_ne (by decide)).trans c0, (cell_set_ne (by decide)).trans c1, cell_set_at (by rw [c2]; rfl), (cell_set_ne (by decide)).trans c3, (cell_set_ne (by decide)).trans c4, (frz_set _ _ _ _).trans z1, (frz_set _ _ _ _).trans z2, (frz_set _ _ _ _).trans z3, (frz_set _ _ _ _).trans z4⟩
theorem CoreBox.s3 {w : World} {b : Nat} {cv0 : Value} {k : List UInt8} {on br : Bool} {l0 : List CellD} {n : Int} (h : CoreBox w b cv0 ⟨k, on, br, l0, n⟩) (cv : Value) (l : List CellD) : CoreBox (w.setCell ⟨b, 3, none⟩ cv) b cv ⟨k, on, br, l, n⟩ := by
  obtain ⟨c0, c1, c2, c3, c4, z1, z2, z3, z4⟩ := h
  exact ⟨(cell_set_ne (by decide)).trans c0, (cell_set_ne (by decide)).trans c1, (cell_set_ne (by decide)).trans c2, cell_set_at (by rw [c3]; rfl), (cell_set_ne (by decide)).trans c4, (frz_set _ _ _ _).trans z1, (frz_set _ _ _ _).trans z2, (frz_set _ _ _ _).trans z3, (frz_set _ _ _ _).trans z4⟩
theorem CoreBox.s4 {w : World} {b : Nat} {cv : Value} {k : List UInt8} {on br : Bool} {l : List CellD} {n0 : Int} (h : CoreBox w b cv ⟨k, on, br, l, n0⟩) (n : Int) : CoreBox (w.setCell ⟨b, 4, none⟩ (.int .i64 n)) b cv ⟨k, on, br, l, n⟩ := by
  obtain ⟨c0, c1, c2, c3, c4, z1, z2, z3, z4⟩ := h
  exact ⟨(cell_set_ne (by decide)).trans c0, (cell_set_ne (by decide)).trans c1, (cell_set_ne (by decide)).trans c2, (cell_set_ne (by decide)).trans c3, cell_set_at (by rw [c4]; rfl), (frz_set _ _ _ _).trans z1, (frz_set _ _ _ _).trans z2, (frz_set _ _ _ _).trans z3, (frz_set _ _ _ _).trans z4⟩
theorem CoreBox.al {w : World} {b : Nat} {cv : Value} {d : CoreD} (h : CoreBox w b cv d) (o : Obj) : CoreBox (w.alloc o) b cv d := h.keep (((Below.refl w.heap.size w).alloc (Nat.le_refl _) o).block b h.lt)
theorem CoreBox.dr {w : World} {b : Nat} {cv : Value} {d : CoreD} (h : CoreBox w b cv d) : CoreBox w.drew b cv d := h.keep rfl
theorem CoreBox.so {w : World} {b : Nat} {cv : Value} {d : CoreD} (h : CoreBox w b cv d) (p : Addr) (u : Value) (hp : b ≠ p.block) : CoreBox (w.setCell p u) b cv d := h.keep (Below.heap_setCell w p u b hp)
structure CoreSt (N b : Nat) (cv : Value) (d : CoreD) (w : World) : Prop where
  box : CoreBox w b cv d
  own : OwnsF cCell 139 2 w N cv d.fCells
  ne : cv.ownBlock ≠ some b
  ge : N ≤ b
theorem CoreSt.below {N b : Nat} {cv : Value} {d : CoreD} {w w' : World} (h : CoreSt N b cv d w) (hb : Below w.heap.size w w') : CoreSt N b cv d w' :=
  ⟨h.box.keep (hb.block b h.box.lt), ownsF_below h.own hb (Nat.le_refl _), h.ne, h.ge⟩
theorem CoreSt.base {N N' b : Nat} {cv : Value} {d : CoreD} {w : World} (h : CoreSt N b cv d w) (hN : N' ≤ N) : CoreSt N' b cv d w :=
  ⟨h.box, ownsF_base h.own hN, h.ne, Nat.le_trans hN h.ge⟩
def Does (N b : Nat) (cv : Value) (out : CoreD × ReplyD) (w : World) (e : Ending) (w' : World) : Prop :=
  e = .returned (vReply out.2) ∧ ∃ cv', CoreSt N b cv' out.1 w' ∧ Kept2 w w' (some b) cv.ownBlock
theorem st_turned {N b : Nat} {cv : Value} {d d' : CoreD} {w w' : World} (h : CoreSt N b cv d w) (hb : CoreBox w' b cv d') (hc : d'.fCells = d.fCells) (hk : Kept2 w w' (some b) none) :
    CoreSt N b cv d' w' ∧ Kept2 w w' (some b) cv.ownBlock := by
  refine ⟨⟨hb, ?_, h.ne, h.ge⟩, ⟨hk.os, hk.tape, hk.output, hk.size, fun k hk1 h1 _ => hk.block k hk1 h1 (by simp), fun k o hk1 h1 _ ho => hk.tail k o hk1 h1 (by simp) ho⟩⟩
  rw [hc]
  refine World.ownsRow.kept h.own (row := some b) ⟨hk.os, hk.tape, hk.output, hk.size, fun k hk1 h1 => hk.block k hk1 h1 (by simp)⟩ ?_
  exact Or.inr h.ne
end Go.Proofs.YtcpbikilgacdlaaGreat
namespace Go.Proofs.YtcpbikilgacdlaaGreat
set_option linter.unusedVariables false
set_option linter.unusedSimpArgs false
open Go.RowKit
theorem past_cell {b : Nat} (W : World) (o : Obj) (k : Nat) (h : b < W.heap.size) : (W.alloc o).cell? ⟨b, k, none⟩ = W.cell? ⟨b, k, none⟩ := ((Below.refl W.heap.size W).alloc (Nat.le_refl _) o).cell (p := ⟨b, k, none⟩) h
theorem past_frozen {b : Nat} (W : World) (o : Obj) (k : Nat) (h : b < W.heap.size) : (W.alloc o).frozen? ⟨b, k, none⟩ = W.frozen? ⟨b, k, none⟩ := ((Below.refl W.heap.size W).alloc (Nat.le_refl _) o).frozen (p := ⟨b, k, none⟩) h
theorem Kept2.trans1 {a w w' : World} {b : Nat} (h : Kept2 a w (some b) none) (k : Kept2 w w' (some b) none) : Kept2 a w' (some b) none :=
  ⟨k.os.trans h.os, k.tape.trans h.tape, k.output.trans h.output, Nat.le_trans h.size k.size, fun i hi h1 h2 => (k.block i (Nat.lt_of_lt_of_le hi h.size) h1 h2).trans (h.block i hi h1 h2),
    fun i o hi h1 h2 ho => ⟨(k.tail i o (Nat.lt_of_lt_of_le hi h.size) h1 h2 ho).1.trans (h.tail i o hi h1 h2 ho).1, (k.tail i o (Nat.lt_of_lt_of_le hi h.size) h1 h2 ho).2.trans (h.tail i o hi h1 h2 ho).2⟩⟩
theorem does_of {N b : Nat} {cv : Value} {d d' : CoreD} {r : ReplyD} {out : CoreD × ReplyD} {w w' : World} {e : Ending} (h : CoreSt N b cv d w) (hb : CoreBox w' b cv d') (hc : d'.fCells = d.fCells) (hk : Kept2 w w' (some b) none) (ho : out = (d', r)) (he : e = .returned (vReply r)) : Does N b cv out w e w' := by
  subst ho; exact ⟨he, cv, st_turned h hb hc hk⟩
set_option maxHeartbeats 800000 in
theorem countUp_c (b : Nat) (cv : Value) (d : CoreD) (w : World) (h : CoreBox w b cv d) (hr : -9223372036854775808 ≤ d.fCount) :
    Calls Tryz.prog 196 #[.pointer (some ⟨b, 0, none⟩)] w fun e w' => e = .returned (.tuple #[]) ∧ CoreBox w' b cv { d with fCount := upI d.fCount } ∧ Kept2 w w' (some b) none := by
  obtain ⟨c0, c1, c2, c3, c4, z1, z2, z3, z4⟩ := h
  obtain ⟨kd, on, br, l, cnt⟩ := d
  simp only at *
  by_cases hn : cnt < 999
  · have hu : upI cnt = cnt + 1 := if_pos hn
    have hw : wrap64 (cnt + 1) = cnt + 1 := by unfold wrap64; omega
    go_enter Tryz.func196, Tryz.ntmps196
    go_wp2
    go_end0
    refine ⟨rfl, ?_, (Kept2.refl _ _ _).set _ (Or.inr (Or.inl ⟨rfl, by simp⟩))⟩
    rw [hu]; exact CoreBox.s4 ⟨c0, c1, c2, c3, c4, z1, z2, z3, z4⟩ _
  · have hu : upI cnt = cnt := if_neg hn
    go_enter Tryz.func196, Tryz.ntmps196
    go_wp2
    go_end0
    exact ⟨rfl, ⟨c0, c1, c2, c3, c4, z1, z2, z3, z4⟩, Kept2.refl _ _ _⟩
set_option maxHeartbeats 1600000 in
theorem start_c (N b : Nat) (cv : Value) (d : CoreD) (w : World) (h : CoreSt N b cv d w) (hr : -9223372036854775808 ≤ d.fCount) :
    Calls Tryz.prog 194 #[.agg #[.pointer (some ⟨b, 0, none⟩)]] w fun e w' => Does N b cv (startD d) w e w' := by
  have HS := Lib.hid h
  have HB := Lib.hid h.box
  have hl0 := h.box.lt
  obtain ⟨c0, c1, c2, c3, c4, z1, z2, z3, z4⟩ := h.box
  clear h
  obtain ⟨kd, on, br, l, cnt⟩ := d
  simp only at *
  have hl1 : b < w.heap.size + 1 := by omega
  have hl2 : b < w.heap.size + 1 + 1 := by omega
  have hn0 : ¬ b = w.heap.size := by omega
  have hn1 : ¬ b = w.heap.size + 1 := by omega
  have hm0 : ¬ w.heap.size = b := by omega
  have hm1 : ¬ w.heap.size + 1 = b := by omega
  have hap := @past_cell b
  have haf := @past_frozen b
  cases br with
  | true =>
    go_enter Tryz.func194, Tryz.ntmps194
    go_wp2_with fail
    refine bodyPost_ret (v := vReply (rC 3)) (by simp [results, Tryz.results194, go_sem, vReply, rC, rV, rT]) rfl ?_
    refine does_of (d' := ⟨kd, on, true, l, cnt⟩) (r := rC 3) HS.out ?_ rfl ?_ (rfl) rfl
    · skip
      repeat (first | with_reducible exact HB.out | with_reducible refine CoreBox.al ?_ _ | with_reducible refine CoreBox.s1 (on0 := on) ?_ _ | with_reducible refine CoreBox.s2 (br0 := br) ?_ _ | with_reducible refine CoreBox.s4 (n0 := cnt) ?_ _ | with_reducible refine CoreBox.so ?_ _ _ ?_)
      all_goals (simp; try omega)
    · skip
      repeat (first | with_reducible exact Kept2.refl _ _ _ | with_reducible refine Kept2.alloc ?_ _ | with_reducible refine Kept2.set ?_ _ ?_ | with_reducible refine Kept2.drew ?_)
      all_goals (first | exact Or.inr (Or.inl ⟨rfl, by simp⟩) | (left; simp; try omega))
  | false =>
    cases on with
    | true =>
      go_enter Tryz.func194, Tryz.ntmps194
      go_wp2_with fail
      refine bodyPost_ret (v := vReply (rC 3)) (by simp [results, Tryz.results194, go_sem, vReply, rC, rV, rT]) rfl ?_
      refine does_of (d' := ⟨kd, false, true, l, cnt⟩) (r := rC 3) HS.out ?_ rfl ?_ (rfl) rfl
      · skip
        repeat (first | with_reducible exact HB.out | with_reducible refine CoreBox.al ?_ _ | with_reducible refine CoreBox.s1 (on0 := true) ?_ _ | with_reducible refine CoreBox.s2 (br0 := false) ?_ _ | with_reducible refine CoreBox.s4 (n0 := cnt) ?_ _ | with_reducible refine CoreBox.so ?_ _ _ ?_)
        all_goals (simp; try omega)
      · skip
        repeat (first | with_reducible exact Kept2.refl _ _ _ | with_reducible refine Kept2.alloc ?_ _ | with_reducible refine Kept2.set ?_ _ ?_ | with_reducible refine Kept2.drew ?_)
        all_goals (first | exact Or.inr (Or.inl ⟨rfl, by simp⟩) | (left; simp; try omega))
    | false =>
      go_enter Tryz.func194, Tryz.ntmps194
      go_wp2_with fail
      refine (countUp_c b cv ⟨kd, true, false, l, cnt⟩ _ ?_ hr).mono ?_
      · skip
        repeat (first | with_reducible exact HB.out | with_reducible refine CoreBox.al ?_ _ | with_reducible refine CoreBox.s1 (on0 := false) ?_ _ | with_reducible refine CoreBox.s2 (br0 := false) ?_ _ | with_reducible refine CoreBox.s4 (n0 := cnt) ?_ _ | with_reducible refine CoreBox.so ?_ _ _ ?_)
        all_goals (simp; try omega)
      rintro e w1 ⟨rfl, hbx, hk⟩
      simp only at hbx
      have HK := Lib.hid hk
      have HBX := Lib.hid hbx
      have g0 : w1.cell? ⟨w.heap.size, 0, none⟩ = some (.pointer (some ⟨b, 0, none⟩)) := (hk.cell (p := ⟨w.heap.size, 0, none⟩) (by simp; try omega) (by simpa using hm0) (by simp)).trans (by simp [go_sem, hm0, hm1])
      have r0 : w1.cell? ⟨w.heap.size + 1, 0, none⟩ = some (.int .i64 0) := (hk.cell (p := ⟨w.heap.size + 1, 0, none⟩) (by simp; try omega) (by simpa using hm1) (by simp)).trans (by simp [go_sem, hm0, hm1])
      have r1 : w1.cell? ⟨w.heap.size + 1, 1, none⟩ = some (.int .i64 0) := (hk.cell (p := ⟨w.heap.size + 1, 1, none⟩) (by simp; try omega) (by simpa using hm1) (by simp)).trans (by simp [go_sem, hm0, hm1])
      have r2 : w1.cell? ⟨w.heap.size + 1, 2, none⟩ = some (.string ⟨#[]⟩) := (hk.cell (p := ⟨w.heap.size + 1, 2, none⟩) (by simp; try omega) (by simpa using hm1) (by simp)).trans (by simp [go_sem, hm0, hm1])
      have r3 : w1.cell? ⟨w.heap.size + 1, 3, none⟩ = some (.int .i64 0) := (hk.cell (p := ⟨w.heap.size + 1, 3, none⟩) (by simp; try omega) (by simpa using hm1) (by simp)).trans (by simp [go_sem, hm0, hm1])
      have r4 : w1.cell? ⟨w.heap.size + 1, 4, none⟩ = some (.int .i64 0) := (hk.cell (p := ⟨w.heap.size + 1, 4, none⟩) (by simp; try omega) (by simpa using hm1) (by simp)).trans (by simp [go_sem, hm0, hm1])
      have q0 : ∀ o, w1.frozen? ⟨w.heap.size + 1, o, none⟩ = false := fun o => (hk.frozen (p := ⟨w.heap.size + 1, o, none⟩) (by simp; try omega) (by simpa using hm1) (by simp)).trans (by simp [go_sem])
      have hsz : w.heap.size + 1 + 1 ≤ w1.heap.size := by simpa using hk.size
      obtain ⟨d0, d1, d2, d3, d4, y1, y2, y3, y4⟩ := hbx
      clear hk
      simp only at d0 d1 d2 d3 d4
      clear c0 c1 c2 c3 c4 z1 z2 z3 z4
      go_wp2_with fail
      refine bodyPost_ret (v := vReply (rC 0)) (by simp [results, Tryz.results194, go_sem, vReply, rC, rV, rT, cell_set_at, cell_set_ne, r0, r1, r2, r3, r4]) rfl ?_
      refine does_of (d' := ⟨kd, true, false, l, upI cnt⟩) (r := rC 0) HS.out ?_ rfl ?_ (rfl) rfl
      · skip
        repeat (first | with_reducible exact HBX.out | with_reducible refine CoreBox.al ?_ _ | with_reducible refine CoreBox.s1 (on0 := true) ?_ _ | with_reducible refine CoreBox.s2 (br0 := false) ?_ _ | with_reducible refine CoreBox.s4 (n0 := cnt) ?_ _ | with_reducible refine CoreBox.so ?_ _ _ ?_)
        all_goals (simp; try omega)
      · skip
        repeat (first | with_reducible refine Kept2.set ?_ _ ?_ | with_reducible refine Kept2.alloc ?_ _)
        refine Kept2.trans1 ?_ HK.out
        repeat (first | with_reducible exact Kept2.refl _ _ _ | with_reducible refine Kept2.alloc ?_ _ | with_reducible refine Kept2.set ?_ _ ?_ | with_reducible refine Kept2.drew ?_)
        all_goals (first | exact Or.inr (Or.inl ⟨rfl, by simp⟩) | (left; simp; try omega))
set_option maxHeartbeats 1600000 in
theorem stop_c (N b : Nat) (cv : Value) (d : CoreD) (w : World) (h : CoreSt N b cv d w) (hr : -9223372036854775808 ≤ d.fCount) :
    Calls Tryz.prog 195 #[.agg #[.pointer (some ⟨b, 0, none⟩)]] w fun e w' => Does N b cv (stopD d) w e w' := by
  have HS := Lib.hid h
  have HB := Lib.hid h.box
  have hl0 := h.box.lt
  obtain ⟨c0, c1, c2, c3, c4, z1, z2, z3, z4⟩ := h.box
  clear h
  obtain ⟨kd, on, br, l, cnt⟩ := d
  simp only at *
  have hl1 : b < w.heap.size + 1 := by omega
  have hl2 : b < w.heap.size + 1 + 1 := by omega
  have hn0 : ¬ b = w.heap.size := by omega
  have hn1 : ¬ b = w.heap.size + 1 := by omega
  have hm0 : ¬ w.heap.size = b := by omega
  have hm1 : ¬ w.heap.size + 1 = b := by omega
  have hap := @past_cell b
  have haf := @past_frozen b
  cases br with
  | true =>
    go_enter Tryz.func195, Tryz.ntmps195
    go_wp2_with fail
    refine bodyPost_ret (v := vReply (rC 3)) (by simp [results, Tryz.results195, go_sem, vReply, rC, rV, rT]) rfl ?_
    refine does_of (d' := ⟨kd, on, true, l, cnt⟩) (r := rC 3) HS.out ?_ rfl ?_ (rfl) rfl
    · skip
      repeat (first | with_reducible exact HB.out | with_reducible refine CoreBox.al ?_ _ | with_reducible refine CoreBox.s1 (on0 := on) ?_ _ | with_reducible refine CoreBox.s2 (br0 := br) ?_ _ | with_reducible refine CoreBox.s4 (n0 := cnt) ?_ _ | with_reducible refine CoreBox.so ?_ _ _ ?_)
      all_goals (simp; try omega)
    · skip
      repeat (first | with_reducible exact Kept2.refl _ _ _ | with_reducible refine Kept2.alloc ?_ _ | with_reducible refine Kept2.set ?_ _ ?_ | with_reducible refine Kept2.drew ?_)
      all_goals (first | exact Or.inr (Or.inl ⟨rfl, by simp⟩) | (left; simp; try omega))
  | false =>
    cases on with
    | true =>
      go_enter Tryz.func195, Tryz.ntmps195
      go_wp2_with fail
      refine bodyPost_ret (v := vReply (rC 0)) (by simp [results, Tryz.results195, go_sem, vReply, rC, rV, rT]) rfl ?_
      refine does_of (d' := ⟨kd, false, false, l, cnt⟩) (r := rC 0) HS.out ?_ rfl ?_ (rfl) rfl
      · skip
        repeat (first | with_reducible exact HB.out | with_reducible refine CoreBox.al ?_ _ | with_reducible refine CoreBox.s1 (on0 := true) ?_ _ | with_reducible refine CoreBox.s2 (br0 := false) ?_ _ | with_reducible refine CoreBox.s4 (n0 := cnt) ?_ _ | with_reducible refine CoreBox.so ?_ _ _ ?_)
        all_goals (simp; try omega)
      · skip
        repeat (first | with_reducible exact Kept2.refl _ _ _ | with_reducible refine Kept2.alloc ?_ _ | with_reducible refine Kept2.set ?_ _ ?_ | with_reducible refine Kept2.drew ?_)
        all_goals (first | exact Or.inr (Or.inl ⟨rfl, by simp⟩) | (left; simp; try omega))
    | false =>
      go_enter Tryz.func195, Tryz.ntmps195
      go_wp2_with fail
      refine bodyPost_ret (v := vReply (rC 2)) (by simp [results, Tryz.results195, go_sem, vReply, rC, rV, rT]) rfl ?_
      refine does_of (d' := ⟨kd, false, false, l, cnt⟩) (r := rC 2) HS.out ?_ rfl ?_ (rfl) rfl
      · skip
        repeat (first | with_reducible exact HB.out | with_reducible refine CoreBox.al ?_ _ | with_reducible refine CoreBox.s1 (on0 := false) ?_ _ | with_reducible refine CoreBox.s2 (br0 := false) ?_ _ | with_reducible refine CoreBox.s4 (n0 := cnt) ?_ _ | with_reducible refine CoreBox.so ?_ _ _ ?_)
        all_goals (simp; try omega)
      · skip
        repeat (first | with_reducible exact Kept2.refl _ _ _ | with_reducible refine Kept2.alloc ?_ _ | with_reducible refine Kept2.set ?_ _ ?_ | with_reducible refine Kept2.drew ?_)
        all_goals (first | exact Or.inr (Or.inl ⟨rfl, by simp⟩) | (left; simp; try omega))
set_option maxHeartbeats 1600000 in
theorem tell_c (N b : Nat) (cv : Value) (d : CoreD) (w : World) (h : CoreSt N b cv d w) (hr : -9223372036854775808 ≤ d.fCount) :
    Calls Tryz.prog 206 #[.agg #[.pointer (some ⟨b, 0, none⟩)]] w fun e w' => Does N b cv (tellD d) w e w' := by
  have HS := Lib.hid h
  have HB := Lib.hid h.box
  have hl0 := h.box.lt
  obtain ⟨c0, c1, c2, c3, c4, z1, z2, z3, z4⟩ := h.box
  clear h
  obtain ⟨kd, on, br, l, cnt⟩ := d
  simp only at *
  have hl1 : b < w.heap.size + 1 := by omega
  have hl2 : b < w.heap.size + 1 + 1 := by omega
  have hn0 : ¬ b = w.heap.size := by omega
  have hn1 : ¬ b = w.heap.size + 1 := by omega
  have hm0 : ¬ w.heap.size = b := by omega
  have hm1 : ¬ w.heap.size + 1 = b := by omega
  have hap := @past_cell b
  have haf := @past_frozen b
  go_enter Tryz.func206, Tryz.ntmps206
  go_wp2_with fail
  refine bodyPost_ret (v := vReply (rV cnt)) (by simp [results, Tryz.results206, go_sem, vReply, rC, rV, rT]) rfl ?_
  refine does_of (d' := ⟨kd, on, br, l, cnt⟩) (r := rV cnt) HS.out ?_ rfl ?_ (rfl) rfl
  · skip
    repeat (first | with_reducible exact HB.out | with_reducible refine CoreBox.al ?_ _ | with_reducible refine CoreBox.s1 (on0 := on) ?_ _ | with_reducible refine CoreBox.s2 (br0 := br) ?_ _ | with_reducible refine CoreBox.s4 (n0 := cnt) ?_ _ | with_reducible refine CoreBox.so ?_ _ _ ?_)
    all_goals (simp; try omega)
  · skip
    repeat (first | with_reducible exact Kept2.refl _ _ _ | with_reducible refine Kept2.alloc ?_ _ | with_reducible refine Kept2.set ?_ _ ?_ | with_reducible refine Kept2.drew ?_)
    all_goals (first | exact Or.inr (Or.inl ⟨rfl, by simp⟩) | (left; simp; try omega))
set_option maxHeartbeats 1600000 in
theorem heal_c (N b : Nat) (cv : Value) (d : CoreD) (w : World) (h : CoreSt N b cv d w) (hr : -9223372036854775808 ≤ d.fCount) :
    Calls Tryz.prog 228 #[.agg #[.pointer (some ⟨b, 0, none⟩)]] w fun e w' => Does N b cv (healD d) w e w' := by
  have HS := Lib.hid h
  have HB := Lib.hid h.box
  have hl0 := h.box.lt
  obtain ⟨c0, c1, c2, c3, c4, z1, z2, z3, z4⟩ := h.box
  clear h
  obtain ⟨kd, on, br, l, cnt⟩ := d
  simp only at *
  have hl1 : b < w.heap.size + 1 := by omega
  have hl2 : b < w.heap.size + 1 + 1 := by omega
  have hn0 : ¬ b = w.heap.size := by omega
  have hn1 : ¬ b = w.heap.size + 1 := by omega
  have hm0 : ¬ w.heap.size = b := by omega
  have hm1 : ¬ w.heap.size + 1 = b := by omega
  have hap := @past_cell b
  have haf := @past_frozen b
  go_enter Tryz.func228, Tryz.ntmps228
  go_wp2_with fail
  refine bodyPost_ret (v := vReply (rC 0)) (by simp [results, Tryz.results228, go_sem, vReply, rC, rV, rT]) rfl ?_
  refine does_of (d' := ⟨kd, false, false, l, cnt⟩) (r := rC 0) HS.out ?_ rfl ?_ (rfl) rfl
  · skip
    repeat (first | with_reducible exact HB.out | with_reducible refine CoreBox.al ?_ _ | with_reducible refine CoreBox.s1 (on0 := on) ?_ _ | with_reducible refine CoreBox.s2 (br0 := br) ?_ _ | with_reducible refine CoreBox.s4 (n0 := cnt) ?_ _ | with_reducible refine CoreBox.so ?_ _ _ ?_)
    all_goals (simp; try omega)
  · skip
    repeat (first | with_reducible exact Kept2.refl _ _ _ | with_reducible refine Kept2.alloc ?_ _ | with_reducible refine Kept2.set ?_ _ ?_ | with_reducible refine Kept2.drew ?_)
    all_goals (first | exact Or.inr (Or.inl ⟨rfl, by simp⟩) | (left; simp; try omega))
set_option maxHeartbeats 1600000 in
theorem hear_c (N b : Nat) (cv : Value) (d : CoreD) (n : Int) (w : World) (h : CoreSt N b cv d w) (hr : -9223372036854775808 ≤ d.fCount) :
    Calls Tryz.prog 207 #[.agg #[.pointer (some ⟨b, 0, none⟩)], .int .i64 n] w fun e w' => Does N b cv (hearD d n) w e w' := by
  have HS := Lib.hid h
  have HB := Lib.hid h.box
  have hl0 := h.box.lt
  obtain ⟨c0, c1, c2, c3, c4, z1, z2, z3, z4⟩ := h.box
  clear h
  obtain ⟨kd, on, br, l, cnt⟩ := d
  simp only at *
  have hl1 : b < w.heap.size + 1 := by omega
  have hl2 : b < w.heap.size + 1 + 1 := by omega
  have hn0 : ¬ b = w.heap.size := by omega
  have hn1 : ¬ b = w.heap.size + 1 := by omega
  have hm0 : ¬ w.heap.size = b := by omega
  have hm1 : ¬ w.heap.size + 1 = b := by omega
  have hap := @past_cell b
  have haf := @past_frozen b
  cases br with
  | true =>
    go_enter Tryz.func207, Tryz.ntmps207
    go_wp2_with fail
    refine bodyPost_ret (v := vReply (rC 3)) (by simp [results, Tryz.results207, go_sem, vReply, rC, rV, rT]) rfl ?_
    refine does_of (d' := ⟨kd, on, true, l, cnt⟩) (r := rC 3) HS.out ?_ rfl ?_ (rfl) rfl
    · skip
      repeat (first | with_reducible exact HB.out | with_reducible refine CoreBox.al ?_ _ | with_reducible refine CoreBox.s1 (on0 := on) ?_ _ | with_reducible refine CoreBox.s2 (br0 := br) ?_ _ | with_reducible refine CoreBox.s4 (n0 := cnt) ?_ _ | with_reducible refine CoreBox.so ?_ _ _ ?_)
      all_goals (simp; try omega)
    · skip
      repeat (first | with_reducible exact Kept2.refl _ _ _ | with_reducible refine Kept2.alloc ?_ _ | with_reducible refine Kept2.set ?_ _ ?_ | with_reducible refine Kept2.drew ?_)
      all_goals (first | exact Or.inr (Or.inl ⟨rfl, by simp⟩) | (left; simp; try omega))
  | false =>
    by_cases hz0 : n = 0
    · subst hz0
      go_enter Tryz.func207, Tryz.ntmps207
      go_wp2_with fail
      refine (countUp_c b cv ⟨kd, on, false, l, cnt⟩ _ ?_ hr).mono ?_
      · skip
        repeat (first | with_reducible exact HB.out | with_reducible refine CoreBox.al ?_ _ | with_reducible refine CoreBox.s1 (on0 := on) ?_ _ | with_reducible refine CoreBox.s2 (br0 := false) ?_ _ | with_reducible refine CoreBox.s4 (n0 := cnt) ?_ _ | with_reducible refine CoreBox.so ?_ _ _ ?_)
        all_goals (simp; try omega)
      rintro e w1 ⟨rfl, hbx, hk⟩
      simp only at hbx
      have HK := Lib.hid hk
      have HBX := Lib.hid hbx
      have g0 : w1.cell? ⟨w.heap.size, 0, none⟩ = some (.pointer (some ⟨b, 0, none⟩)) := (hk.cell (p := ⟨w.heap.size, 0, none⟩) (by simp; try omega) (by simpa using hm0) (by simp)).trans (by simp [go_sem, hm0, hm1])
      have r0 : w1.cell? ⟨w.heap.size + 1, 0, none⟩ = some (.int .i64 0) := (hk.cell (p := ⟨w.heap.size + 1, 0, none⟩) (by simp; try omega) (by simpa using hm1) (by simp)).trans (by simp [go_sem, hm0, hm1])
      have r1 : w1.cell? ⟨w.heap.size + 1, 1, none⟩ = some (.int .i64 0) := (hk.cell (p := ⟨w.heap.size + 1, 1, none⟩) (by simp; try omega) (by simpa using hm1) (by simp)).trans (by simp [go_sem, hm0, hm1])
      have r2 : w1.cell? ⟨w.heap.size + 1, 2, none⟩ = some (.string ⟨#[]⟩) := (hk.cell (p := ⟨w.heap.size + 1, 2, none⟩) (by simp; try omega) (by simpa using hm1) (by simp)).trans (by simp [go_sem, hm0, hm1])
      have r3 : w1.cell? ⟨w.heap.size + 1, 3, none⟩ = some (.int .i64 0) := (hk.cell (p := ⟨w.heap.size + 1, 3, none⟩) (by simp; try omega) (by simpa using hm1) (by simp)).trans (by simp [go_sem, hm0, hm1])
      have r4 : w1.cell? ⟨w.heap.size + 1, 4, none⟩ = some (.int .i64 0) := (hk.cell (p := ⟨w.heap.size + 1, 4, none⟩) (by simp; try omega) (by simpa using hm1) (by simp)).trans (by simp [go_sem, hm0, hm1])
      have q0 : ∀ o, w1.frozen? ⟨w.heap.size + 1, o, none⟩ = false := fun o => (hk.frozen (p := ⟨w.heap.size + 1, o, none⟩) (by simp; try omega) (by simpa using hm1) (by simp)).trans (by simp [go_sem])
      have hsz : w.heap.size + 1 + 1 ≤ w1.heap.size := by simpa using hk.size
      obtain ⟨d0, d1, d2, d3, d4, y1, y2, y3, y4⟩ := hbx
      clear hk
      simp only at d0 d1 d2 d3 d4
      clear c0 c1 c2 c3 c4 z1 z2 z3 z4
      go_wp2_with fail
      refine bodyPost_ret (v := vReply (rV (upI cnt))) (by simp [results, Tryz.results207, go_sem, vReply, rC, rV, rT, cell_set_at, cell_set_ne, r0, r1, r2, r3, r4]) rfl ?_
      refine does_of (d' := ⟨kd, false, false, l, upI cnt⟩) (r := rV (upI cnt)) HS.out ?_ rfl ?_ (rfl) rfl
      · skip
        repeat (first | with_reducible exact HBX.out | with_reducible refine CoreBox.al ?_ _ | with_reducible refine CoreBox.s1 (on0 := on) ?_ _ | with_reducible refine CoreBox.s2 (br0 := false) ?_ _ | with_reducible refine CoreBox.s4 (n0 := cnt) ?_ _ | with_reducible refine CoreBox.so ?_ _ _ ?_)
        all_goals (simp; try omega)
      · skip
        repeat (first | with_reducible refine Kept2.set ?_ _ ?_ | with_reducible refine Kept2.alloc ?_ _)
        refine Kept2.trans1 ?_ HK.out
        repeat (first | with_reducible exact Kept2.refl _ _ _ | with_reducible refine Kept2.alloc ?_ _ | with_reducible refine Kept2.set ?_ _ ?_ | with_reducible refine Kept2.drew ?_)
        all_goals (first | exact Or.inr (Or.inl ⟨rfl, by simp⟩) | (left; simp; try omega))
    · by_cases hz1 : n = 1
      · subst hz1
        go_enter Tryz.func207, Tryz.ntmps207
        go_wp2_with fail
        refine (countUp_c b cv ⟨kd, on, false, l, cnt⟩ _ ?_ hr).mono ?_
        · skip
          repeat (first | with_reducible exact HB.out | with_reducible refine CoreBox.al ?_ _ | with_reducible refine CoreBox.s1 (on0 := on) ?_ _ | with_reducible refine CoreBox.s2 (br0 := false) ?_ _ | with_reducible refine CoreBox.s4 (n0 := cnt) ?_ _ | with_reducible refine CoreBox.so ?_ _ _ ?_)
          all_goals (simp; try omega)
        rintro e w1 ⟨rfl, hbx, hk⟩
        simp only at hbx
        have HK := Lib.hid hk
        have HBX := Lib.hid hbx
        have g0 : w1.cell? ⟨w.heap.size, 0, none⟩ = some (.pointer (some ⟨b, 0, none⟩)) := (hk.cell (p := ⟨w.heap.size, 0, none⟩) (by simp; try omega) (by simpa using hm0) (by simp)).trans (by simp [go_sem, hm0, hm1])
        have r0 : w1.cell? ⟨w.heap.size + 1, 0, none⟩ = some (.int .i64 0) := (hk.cell (p := ⟨w.heap.size + 1, 0, none⟩) (by simp; try omega) (by simpa using hm1) (by simp)).trans (by simp [go_sem, hm0, hm1])
        have r1 : w1.cell? ⟨w.heap.size + 1, 1, none⟩ = some (.int .i64 0) := (hk.cell (p := ⟨w.heap.size + 1, 1, none⟩) (by simp; try omega) (by simpa using hm1) (by simp)).trans (by simp [go_sem, hm0, hm1])
        have r2 : w1.cell? ⟨w.heap.size + 1, 2, none⟩ = some (.string ⟨#[]⟩) := (hk.cell (p := ⟨w.heap.size + 1, 2, none⟩) (by simp; try omega) (by simpa using hm1) (by simp)).trans (by simp [go_sem, hm0, hm1])
        have r3 : w1.cell? ⟨w.heap.size + 1, 3, none⟩ = some (.int .i64 0) := (hk.cell (p := ⟨w.heap.size + 1, 3, none⟩) (by simp; try omega) (by simpa using hm1) (by simp)).trans (by simp [go_sem, hm0, hm1])
        have r4 : w1.cell? ⟨w.heap.size + 1, 4, none⟩ = some (.int .i64 0) := (hk.cell (p := ⟨w.heap.size + 1, 4, none⟩) (by simp; try omega) (by simpa using hm1) (by simp)).trans (by simp [go_sem, hm0, hm1])
        have q0 : ∀ o, w1.frozen? ⟨w.heap.size + 1, o, none⟩ = false := fun o => (hk.frozen (p := ⟨w.heap.size + 1, o, none⟩) (by simp; try omega) (by simpa using hm1) (by simp)).trans (by simp [go_sem])
        have hsz : w.heap.size + 1 + 1 ≤ w1.heap.size := by simpa using hk.size
        obtain ⟨d0, d1, d2, d3, d4, y1, y2, y3, y4⟩ := hbx
        clear hk
        simp only at d0 d1 d2 d3 d4
        clear c0 c1 c2 c3 c4 z1 z2 z3 z4
        go_wp2_with fail
        refine bodyPost_ret (v := vReply (rV (upI cnt))) (by simp [results, Tryz.results207, go_sem, vReply, rC, rV, rT, cell_set_at, cell_set_ne, r0, r1, r2, r3, r4]) rfl ?_
        refine does_of (d' := ⟨kd, true, false, l, upI cnt⟩) (r := rV (upI cnt)) HS.out ?_ rfl ?_ (rfl) rfl
        · skip
          repeat (first | with_reducible exact HBX.out | with_reducible refine CoreBox.al ?_ _ | with_reducible refine CoreBox.s1 (on0 := on) ?_ _ | with_reducible refine CoreBox.s2 (br0 := false) ?_ _ | with_reducible refine CoreBox.s4 (n0 := cnt) ?_ _ | with_reducible refine CoreBox.so ?_ _ _ ?_)
          all_goals (simp; try omega)
        · skip
          repeat (first | with_reducible refine Kept2.set ?_ _ ?_ | with_reducible refine Kept2.alloc ?_ _)
          refine Kept2.trans1 ?_ HK.out
          repeat (first | with_reducible exact Kept2.refl _ _ _ | with_reducible refine Kept2.alloc ?_ _ | with_reducible refine Kept2.set ?_ _ ?_ | with_reducible refine Kept2.drew ?_)
          all_goals (first | exact Or.inr (Or.inl ⟨rfl, by simp⟩) | (left; simp; try omega))
      · have HE := Lib.hid (show hearD ⟨kd, on, false, l, cnt⟩ n = (⟨kd, on, false, l, upI cnt⟩, rV (upI cnt)) by unfold hearD; simp only [Bool.false_eq_true, if_false, if_neg hz0, if_neg hz1])
        go_enter Tryz.func207, Tryz.ntmps207
        go_wp2_with fail
        refine (countUp_c b cv ⟨kd, on, false, l, cnt⟩ _ ?_ hr).mono ?_
        · skip
          repeat (first | with_reducible exact HB.out | with_reducible refine CoreBox.al ?_ _ | with_reducible refine CoreBox.s1 (on0 := on) ?_ _ | with_reducible refine CoreBox.s2 (br0 := false) ?_ _ | with_reducible refine CoreBox.s4 (n0 := cnt) ?_ _ | with_reducible refine CoreBox.so ?_ _ _ ?_)
          all_goals (simp; try omega)
        rintro e w1 ⟨rfl, hbx, hk⟩
        simp only at hbx
        have HK := Lib.hid hk
        have HBX := Lib.hid hbx
        have g0 : w1.cell? ⟨w.heap.size, 0, none⟩ = some (.pointer (some ⟨b, 0, none⟩)) := (hk.cell (p := ⟨w.heap.size, 0, none⟩) (by simp; try omega) (by simpa using hm0) (by simp)).trans (by simp [go_sem, hm0, hm1])
        have r0 : w1.cell? ⟨w.heap.size + 1, 0, none⟩ = some (.int .i64 0) := (hk.cell (p := ⟨w.heap.size + 1, 0, none⟩) (by simp; try omega) (by simpa using hm1) (by simp)).trans (by simp [go_sem, hm0, hm1])
        have r1 : w1.cell? ⟨w.heap.size + 1, 1, none⟩ = some (.int .i64 0) := (hk.cell (p := ⟨w.heap.size + 1, 1, none⟩) (by simp; try omega) (by simpa using hm1) (by simp)).trans (by simp [go_sem, hm0, hm1])
        have r2 : w1.cell? ⟨w.heap.size + 1, 2, none⟩ = some (.string ⟨#[]⟩) := (hk.cell (p := ⟨w.heap.size + 1, 2, none⟩) (by simp; try omega) (by simpa using hm1) (by simp)).trans (by simp [go_sem, hm0, hm1])
        have r3 : w1.cell? ⟨w.heap.size + 1, 3, none⟩ = some (.int .i64 0) := (hk.cell (p := ⟨w.heap.size + 1, 3, none⟩) (by simp; try omega) (by simpa using hm1) (by simp)).trans (by simp [go_sem, hm0, hm1])
        have r4 : w1.cell? ⟨w.heap.size + 1, 4, none⟩ = some (.int .i64 0) := (hk.cell (p := ⟨w.heap.size + 1, 4, none⟩) (by simp; try omega) (by simpa using hm1) (by simp)).trans (by simp [go_sem, hm0, hm1])
        have q0 : ∀ o, w1.frozen? ⟨w.heap.size + 1, o, none⟩ = false := fun o => (hk.frozen (p := ⟨w.heap.size + 1, o, none⟩) (by simp; try omega) (by simpa using hm1) (by simp)).trans (by simp [go_sem])
        have hsz : w.heap.size + 1 + 1 ≤ w1.heap.size := by simpa using hk.size
        obtain ⟨d0, d1, d2, d3, d4, y1, y2, y3, y4⟩ := hbx
        clear hk
        simp only at d0 d1 d2 d3 d4
        clear c0 c1 c2 c3 c4 z1 z2 z3 z4
        go_wp2_with fail
        refine bodyPost_ret (v := vReply (rV (upI cnt))) (by simp [results, Tryz.results207, go_sem, vReply, rC, rV, rT, cell_set_at, cell_set_ne, r0, r1, r2, r3, r4]) rfl ?_
        refine does_of (d' := ⟨kd, on, false, l, upI cnt⟩) (r := rV (upI cnt)) HS.out ?_ rfl ?_ (HE.out) rfl
        · skip
          repeat (first | with_reducible exact HBX.out | with_reducible refine CoreBox.al ?_ _ | with_reducible refine CoreBox.s1 (on0 := on) ?_ _ | with_reducible refine CoreBox.s2 (br0 := false) ?_ _ | with_reducible refine CoreBox.s4 (n0 := cnt) ?_ _ | with_reducible refine CoreBox.so ?_ _ _ ?_)
          all_goals (simp; try omega)
        · skip
          repeat (first | with_reducible refine Kept2.set ?_ _ ?_ | with_reducible refine Kept2.alloc ?_ _)
          refine Kept2.trans1 ?_ HK.out
          repeat (first | with_reducible exact Kept2.refl _ _ _ | with_reducible refine Kept2.alloc ?_ _ | with_reducible refine Kept2.set ?_ _ ?_ | with_reducible refine Kept2.drew ?_)
          all_goals (first | exact Or.inr (Or.inl ⟨rfl, by simp⟩) | (left; simp; try omega))
end Go.Proofs.YtcpbikilgacdlaaGreat
namespace Go.Proofs.YtcpbikilgacdlaaGreat
set_option linter.unusedVariables false
set_option linter.unusedSimpArgs false
open Go.RowKit
theorem kindOff_any (l : List UInt8) (k : Nat) (hk : k < 6) : kindOff l (2 ^ k) = hasI (kfI (kindI l)) k := by
  cases h : decide (0 ≤ kindI l) with
  | true => exact kindOff_has l h k hk
  | false =>
    have h1 : kindI l < 0 := by simpa using h
    have h2 : kfI (kindI l) = 0 := by unfold kfI; rw [if_pos h1]
    unfold kindOff
    rw [h, Bool.false_and, h2]
    rcases (show k = 0 ∨ k = 1 ∨ k = 2 ∨ k = 3 ∨ k = 4 ∨ k = 5 by omega) with rfl | rfl | rfl | rfl | rfl | rfl <;> rfl
set_option maxHeartbeats 800000 in
theorem idle_c (b : Nat) (cv : Value) (d : CoreD) (w : World) (h : CoreBox w b cv d) :
    Calls Tryz.prog 199 #[.pointer (some ⟨b, 0, none⟩)] w fun e w' => e = .returned (.int .i64 (idleI d)) ∧ w = w' := by
  obtain ⟨c0, c1, c2, c3, c4, z1, z2, z3, z4⟩ := h
  obtain ⟨kd, on, br, l, cnt⟩ := d
  simp only at *
  have HK := Lib.hid (fun w => kindOffers_b kd 1 _ (kindOff_any kd 0 (by decide)) w)
  have HI := Lib.hid (show ∀ x, hasI (kfI (kindI kd)) 0 = x → idleI ⟨kd, on, br, l, cnt⟩ = if br = true then 3 else if (!on && x) = true then 2 else 0 from fun x hx => by unfold idleI coreF; rw [hx])
  generalize idleI ⟨kd, on, br, l, cnt⟩ = r at *
  generalize hx : hasI (kfI (kindI kd)) 0 = x at *
  have HR := Lib.hid (HI.out x rfl)
  clear HI hx
  cases br with
  | true =>
    go_enter Tryz.func199, Tryz.ntmps199
    go_wp2_with fail
    go_ret
    exact ⟨ret_int HR.out.symm, rfl⟩
  | false =>
    cases on with
    | true =>
      go_enter Tryz.func199, Tryz.ntmps199
      go_wp2_with fail
      go_ret
      exact ⟨ret_int (HR.out.trans (by simp)).symm, rfl⟩
    | false =>
      cases x <;>
        (go_enter Tryz.func199, Tryz.ntmps199
         go_wp2_with (first | (go_at_call 131; (with_reducible refine (HK.out _).mono ?_); rintro e w' ⟨rfl, rfl⟩))
         go_ret
         exact ⟨ret_int (HR.out.trans (by simp)).symm, rfl⟩)
set_option maxHeartbeats 1600000 in
theorem find_c (v : Value) (l : List CellD) (key : List UInt8) (w : World) (hx : FlatAt cCell 2 w v l) :
    Calls Tryz.prog 200 #[v, .string ⟨key.toArray⟩] w fun e w' => e = .returned (.tuple #[.int .i64 (plc l key), .bool (fnd l key)]) ∧ Below w.heap.size w w' := by
  obtain ⟨a, c, rfl, hl⟩ := flatAt_len hx
  have HX := Lib.hid hx
  clear hx
  unfold maxLen at hl
  go_enter Tryz.func200, Tryz.ntmps200
  go_wp2_with fail
  go_loopw [6, 7, 10] (fun _ _ i wr => ∃ k : Nat, k ≤ l.length ∧ i = .int .i64 k ∧ (∀ j (h : j < l.length), j < k → (l[j]).fKey < key) ∧ Below w.heap.size w wr) (fun _ _ i _ => l.length - (intOf i).toNat)
  case atStart => exact ⟨0, Nat.zero_le _, rfl, by intro j h hj; omega, Below.refl _ _⟩
  case round =>
    obtain ⟨k, hk, rfl, hok, hb⟩ := hrel
    have HO := Lib.hid hok
    have HB := Lib.hid hb
    have HXr := Lib.hid (FlatAt.below HX.out hb (Nat.le_refl _))
    clear hok hb
    by_cases hlt : k < l.length
    · obtain ⟨b, o, rfl, hbl, hd⟩ := flatAt_cell cCell_len HXr.out k hlt (by decide)
      have d0 := hd 0 (by decide)
      have d1 := hd 1 (by decide)
      clear hd
      have HBB := Lib.hid (show ∀ o1, Below w.heap.size w (wr.alloc o1) from fun o1 => HB.out.alloc HB.out.size _)
      cases hx : Op.bytesLess (l[k]).fKey key with
      | true =>
        have HN := Lib.hid (show ∀ j (h : j < l.length), j < k + 1 → (l[j]).fKey < key from fun j h hj => by
          rcases Nat.lt_or_ge j k with h1 | h1
          · exact HO.out j h h1
          · have : j = k := by omega
            subst this; rw [bytes_lt2] at hx; simpa using hx)
        generalize l[k] = p at *
        obtain ⟨a0, a1⟩ := p
        simp only [cCell, List.getElem?_cons_zero, List.getElem?_cons_succ, Nat.add_zero] at d0 d1
        go_wp2_with fail
        exact ⟨⟨k + 1, by omega, by go_num, HN.out, HBB.out _⟩, by simp [intOf]; omega⟩
      | false =>
        have hp : plc l key = k := plc_eq l key k hk HO.out fun h => by rw [bytes_lt2] at hx; simpa using hx
        have HF := Lib.hid (show fnd l key = (decide ((l[k]).fKey = key)) from by have := (fnd_at l key (by omega)).1; simpa only [hp] using this)
        have HP := Lib.hid hp
        clear hp
        cases heq : ((l[k]).fKey == key) with
        | true =>
          have HR := Lib.hid (show fnd l key = true by rw [HF.out]; simpa using heq)
          clear HF
          generalize l[k] = p at *
          obtain ⟨a0, a1⟩ := p
          simp only [cCell, List.getElem?_cons_zero, List.getElem?_cons_succ, Nat.add_zero] at d0 d1
          go_wp2_with fail
          go_quiet (fail)
          go_wp2_with fail
          go_ret2
          rw [HP.out, HR.out]
          exact ⟨rfl, below_drewN (HBB.out _) _⟩
        | false =>
          have HR := Lib.hid (show fnd l key = false by rw [HF.out]; simpa using heq)
          clear HF
          generalize l[k] = p at *
          obtain ⟨a0, a1⟩ := p
          simp only [cCell, List.getElem?_cons_zero, List.getElem?_cons_succ, Nat.add_zero] at d0 d1
          go_wp2_with fail
          go_quiet (fail)
          go_wp2_with fail
          go_ret2
          rw [HP.out, HR.out]
          exact ⟨rfl, below_drewN (HBB.out _) _⟩
    · have hp : plc l key = l.length := plc_eq l key l.length (Nat.le_refl _) (fun j h hj => HO.out j h (by omega)) (fun h => absurd h (by omega))
      have HF := Lib.hid (fnd_end l key hp)
      have HP := Lib.hid hp
      clear hp
      go_wp2_with fail
      go_ret2
      rw [HP.out, HF.out]
      exact ⟨rfl, HB.out⟩
theorem idleI_cases (d : CoreD) : idleI d = 0 ∨ idleI d = 2 ∨ idleI d = 3 := by
  unfold idleI; split
  · exact Or.inr (Or.inr rfl)
  · split
    · exact Or.inr (Or.inl rfl)
    · exact Or.inl rfl
set_option maxHeartbeats 1600000 in
theorem get_c (N b : Nat) (cv : Value) (d : CoreD) (key : List UInt8) (w : World) (h : CoreSt N b cv d w) (hm : d.fCells.length ≤ 4194304) :
    Calls Tryz.prog 197 #[.agg #[.pointer (some ⟨b, 0, none⟩)], .string ⟨key.toArray⟩] w fun e w' => Does N b cv (getD1 d key) w e w' := by
  have HS := Lib.hid h
  have HB := Lib.hid h.box
  have hl0 := h.box.lt
  have HX := Lib.hid (ownsF_at h.own hm)
  obtain ⟨c0, c1, c2, c3, c4, z1, z2, z3, z4⟩ := h.box
  clear h
  have HD := Lib.hid (fun w' (hw : Below w.heap.size w w') => show CoreBox w' b cv d ∧ Kept2 w w' (some b) none from ⟨HB.out.keep (hw.block b hl0), Kept2.of_below hw⟩)
  have HI := Lib.hid (fun w' (hw : Below w.heap.size w w') => idle_c b cv d w' (HD.out w' hw).1)
  have HF := Lib.hid (fun w' (hw : Below w.heap.size w w') => find_c cv d.fCells key w' (HX.out.below hw (Nat.le_refl _)))
  have HG := Lib.hid (show getD1 d key = if idleI d = 0 then (if fnd d.fCells key = true then (d, rV (valAt d.fCells key)) else (d, rC 4)) else (d, rC (idleI d)) from rfl)
  have hic := idleI_cases d
  have HA := Lib.hid (show fnd d.fCells key = true → ∃ (h : plc d.fCells key < d.fCells.length), valAt d.fCells key = (d.fCells[plc d.fCells key]).fValue from fun h => ⟨fnd_lt h, (fnd_at _ _ (fnd_lt h)).2⟩)
  generalize getD1 d key = out at *
  generalize idleI d = code at *
  generalize fnd d.fCells key = f at *
  generalize plc d.fCells key = p at *
  generalize valAt d.fCells key = vl at *
  obtain ⟨kd, on, br, l, cnt⟩ := d
  simp only at *
  have hl1 : b < w.heap.size + 1 := by omega
  have hl2 : b < w.heap.size + 1 + 1 := by omega
  have hn0 : ¬ b = w.heap.size := by omega
  have hn1 : ¬ b = w.heap.size + 1 := by omega
  have hap := @past_cell b
  have HB2 := Lib.hid (show ∀ o1 o2, Below w.heap.size w ((w.alloc o1).alloc o2) from fun o1 o2 => ((Below.refl _ _).alloc (Nat.le_refl _) _).alloc (by simp) _)
  by_cases hc : code = 0
  · subst hc
    go_enter Tryz.func197, Tryz.ntmps197
    go_wp2_with fail
    refine (HI.out _ (HB2.out _ _)).mono ?_
    rintro e w1 ⟨rfl, rfl⟩
    go_wp2_with fail
    refine (HF.out _ (HB2.out _ _)).mono ?_
    rintro e w1 ⟨rfl, hb⟩
    have HB3 := Lib.hid ((HB2.out _ _).trans (hb.mono (HB2.out _ _).size))
    have HX1 := Lib.hid (HX.out.below HB3.out (Nat.le_refl _))
    obtain ⟨hcc, hff⟩ := bcell hb
    simp at hcc hff
    have hsz := hb.size
    simp at hsz
    clear hb
    cases f with
    | true =>
      obtain ⟨hp, hv⟩ := HA.out rfl
      obtain ⟨va, vc, rfl, _⟩ := flatAt_len HX1.out
      obtain ⟨g, o, rfl, hgl, hd⟩ := flatAt_cell cCell_len HX1.out p hp (by decide)
      have e1 := hd 1 (by decide)
      have HV := Lib.hid hv
      clear hd hv
      generalize l[p] = q at *
      obtain ⟨q0, q1⟩ := q
      simp only [cCell, List.getElem?_cons_zero, List.getElem?_cons_succ, Nat.add_zero] at e1
      have hp0 : (0 : Int) ≤ (p : Int) := by omega
      have hp1 : (p : Int) < (l.length : Int) := by omega
      go_wp2_with fail
      refine bodyPost_ret (v := vReply (rV q1)) (by simp [results, Tryz.results197, go_sem, vReply, rC, rV, rT, cell_set_at, cell_set_ne, hcc]) rfl ?_
      refine does_of (d' := ⟨kd, on, br, l, cnt⟩) (r := rV q1) HS.out ?_ rfl ?_ (by rw [HG.out, HV.out]; rfl) rfl
      · exact (HD.out _ (by repeat (first | with_reducible exact HB3.out | with_reducible refine Below.setCell ?_ (by simp; try omega) _)) ).1
      · exact (HD.out _ (by repeat (first | with_reducible exact HB3.out | with_reducible refine Below.setCell ?_ (by simp; try omega) _)) ).2
    | false =>
      go_wp2_with fail
      refine bodyPost_ret (v := vReply (rC 4)) (by simp [results, Tryz.results197, go_sem, vReply, rC, rV, rT, cell_set_at, cell_set_ne, hcc]) rfl ?_
      refine does_of (d' := ⟨kd, on, br, l, cnt⟩) (r := rC 4) HS.out ?_ rfl ?_ (by rw [HG.out]; rfl) rfl
      · exact (HD.out _ (by repeat (first | with_reducible exact HB3.out | with_reducible refine Below.setCell ?_ (by simp; try omega) _)) ).1
      · exact (HD.out _ (by repeat (first | with_reducible exact HB3.out | with_reducible refine Below.setCell ?_ (by simp; try omega) _)) ).2
  · have hcn : (code != 0) = true := by simpa using hc
    go_enter Tryz.func197, Tryz.ntmps197
    go_wp2_with fail
    refine (HI.out _ (HB2.out _ _)).mono ?_
    rintro e w1 ⟨rfl, rfl⟩
    go_wp2_with fail
    refine bodyPost_ret (v := vReply (rC code)) (by simp [results, Tryz.results197, go_sem, vReply, rC, rV, rT]) rfl ?_
    refine does_of (d' := ⟨kd, on, br, l, cnt⟩) (r := rC code) HS.out ?_ rfl ?_ (by rw [HG.out, if_neg hc]) rfl
    · exact (HD.out _ (HB2.out _ _)).1
    · exact (HD.out _ (HB2.out _ _)).2
end Go.Proofs.YtcpbikilgacdlaaGreat
namespace Go.Proofs.YtcpbikilgacdlaaGreat
set_option linter.unusedVariables false
open Go.RowKit
theorem method_1_Start (b : Nat) : ∀ (fuel : Nat) (w : World), (method (fuel + 1) 174 (.agg #[.pointer (some ⟨b, 0, none⟩), .pointer (some ⟨b, 0, none⟩)]) "Start").run Tryz.prog w = .ok (194, .agg #[.pointer (some ⟨b, 0, none⟩)]) w := by intro fuel w; kernel_rfl
theorem nilAhead_1_Start (b : Nat) : ∀ (fuel : Nat) (w : World), (nilAhead (fuel + 1) 174 (.agg #[.pointer (some ⟨b, 0, none⟩), .pointer (some ⟨b, 0, none⟩)]) "Start").run Tryz.prog w = .ok (some false) w := by intro fuel w; kernel_rfl
theorem method_1_Stop (b : Nat) : ∀ (fuel : Nat) (w : World), (method (fuel + 1) 174 (.agg #[.pointer (some ⟨b, 0, none⟩), .pointer (some ⟨b, 0, none⟩)]) "Stop").run Tryz.prog w = .ok (195, .agg #[.pointer (some ⟨b, 0, none⟩)]) w := by intro fuel w; kernel_rfl
theorem nilAhead_1_Stop (b : Nat) : ∀ (fuel : Nat) (w : World), (nilAhead (fuel + 1) 174 (.agg #[.pointer (some ⟨b, 0, none⟩), .pointer (some ⟨b, 0, none⟩)]) "Stop").run Tryz.prog w = .ok (some false) w := by intro fuel w; kernel_rfl
theorem method_2_Get (b : Nat) : ∀ (fuel : Nat) (w : World), (method (fuel + 1) 177 (.agg #[.pointer (some ⟨b, 0, none⟩), .pointer (some ⟨b, 0, none⟩)]) "Get").run Tryz.prog w = .ok (197, .agg #[.pointer (some ⟨b, 0, none⟩)]) w := by intro fuel w; kernel_rfl
theorem nilAhead_2_Get (b : Nat) : ∀ (fuel : Nat) (w : World), (nilAhead (fuel + 1) 177 (.agg #[.pointer (some ⟨b, 0, none⟩), .pointer (some ⟨b, 0, none⟩)]) "Get").run Tryz.prog w = .ok (some false) w := by intro fuel w; kernel_rfl
theorem method_2_Put (b : Nat) : ∀ (fuel : Nat) (w : World), (method (fuel + 1) 177 (.agg #[.pointer (some ⟨b, 0, none⟩), .pointer (some ⟨b, 0, none⟩)]) "Put").run Tryz.prog w = .ok (198, .agg #[.pointer (some ⟨b, 0, none⟩)]) w := by intro fuel w; kernel_rfl
theorem nilAhead_2_Put (b : Nat) : ∀ (fuel : Nat) (w : World), (nilAhead (fuel + 1) 177 (.agg #[.pointer (some ⟨b, 0, none⟩), .pointer (some ⟨b, 0, none⟩)]) "Put").run Tryz.prog w = .ok (some false) w := by intro fuel w; kernel_rfl
theorem method_3_Start (b : Nat) : ∀ (fuel : Nat) (w : World), (method (fuel + 1) 180 (.agg #[.pointer (some ⟨b, 0, none⟩), .pointer (some ⟨b, 0, none⟩), .pointer (some ⟨b, 0, none⟩)]) "Start").run Tryz.prog w = .ok (194, .agg #[.pointer (some ⟨b, 0, none⟩)]) w := by intro fuel w; kernel_rfl
theorem nilAhead_3_Start (b : Nat) : ∀ (fuel : Nat) (w : World), (nilAhead (fuel + 1) 180 (.agg #[.pointer (some ⟨b, 0, none⟩), .pointer (some ⟨b, 0, none⟩), .pointer (some ⟨b, 0, none⟩)]) "Start").run Tryz.prog w = .ok (some false) w := by intro fuel w; kernel_rfl
theorem method_3_Stop (b : Nat) : ∀ (fuel : Nat) (w : World), (method (fuel + 1) 180 (.agg #[.pointer (some ⟨b, 0, none⟩), .pointer (some ⟨b, 0, none⟩), .pointer (some ⟨b, 0, none⟩)]) "Stop").run Tryz.prog w = .ok (195, .agg #[.pointer (some ⟨b, 0, none⟩)]) w := by intro fuel w; kernel_rfl
theorem nilAhead_3_Stop (b : Nat) : ∀ (fuel : Nat) (w : World), (nilAhead (fuel + 1) 180 (.agg #[.pointer (some ⟨b, 0, none⟩), .pointer (some ⟨b, 0, none⟩), .pointer (some ⟨b, 0, none⟩)]) "Stop").run Tryz.prog w = .ok (some false) w := by intro fuel w; kernel_rfl
theorem method_3_Tell (b : Nat) : ∀ (fuel : Nat) (w : World), (method (fuel + 1) 180 (.agg #[.pointer (some ⟨b, 0, none⟩), .pointer (some ⟨b, 0, none⟩), .pointer (some ⟨b, 0, none⟩)]) "Tell").run Tryz.prog w = .ok (206, .agg #[.pointer (some ⟨b, 0, none⟩)]) w := by intro fuel w; kernel_rfl
theorem nilAhead_3_Tell (b : Nat) : ∀ (fuel : Nat) (w : World), (nilAhead (fuel + 1) 180 (.agg #[.pointer (some ⟨b, 0, none⟩), .pointer (some ⟨b, 0, none⟩), .pointer (some ⟨b, 0, none⟩)]) "Tell").run Tryz.prog w = .ok (some false) w := by intro fuel w; kernel_rfl
theorem method_4_Start (b : Nat) : ∀ (fuel : Nat) (w : World), (method (fuel + 1) 182 (.agg #[.pointer (some ⟨b, 0, none⟩), .pointer (some ⟨b, 0, none⟩), .pointer (some ⟨b, 0, none⟩)]) "Start").run Tryz.prog w = .ok (194, .agg #[.pointer (some ⟨b, 0, none⟩)]) w := by intro fuel w; kernel_rfl
theorem nilAhead_4_Start (b : Nat) : ∀ (fuel : Nat) (w : World), (nilAhead (fuel + 1) 182 (.agg #[.pointer (some ⟨b, 0, none⟩), .pointer (some ⟨b, 0, none⟩), .pointer (some ⟨b, 0, none⟩)]) "Start").run Tryz.prog w = .ok (some false) w := by intro fuel w; kernel_rfl
theorem method_4_Stop (b : Nat) : ∀ (fuel : Nat) (w : World), (method (fuel + 1) 182 (.agg #[.pointer (some ⟨b, 0, none⟩), .pointer (some ⟨b, 0, none⟩), .pointer (some ⟨b, 0, none⟩)]) "Stop").run Tryz.prog w = .ok (195, .agg #[.pointer (some ⟨b, 0, none⟩)]) w := by intro fuel w; kernel_rfl
theorem nilAhead_4_Stop (b : Nat) : ∀ (fuel : Nat) (w : World), (nilAhead (fuel + 1) 182 (.agg #[.pointer (some ⟨b, 0, none⟩), .pointer (some ⟨b, 0, none⟩), .pointer (some ⟨b, 0, none⟩)]) "Stop").run Tryz.prog w = .ok (some false) w := by intro fuel w; kernel_rfl
theorem method_4_Get (b : Nat) : ∀ (fuel : Nat) (w : World), (method (fuel + 1) 182 (.agg #[.pointer (some ⟨b, 0, none⟩), .pointer (some ⟨b, 0, none⟩), .pointer (some ⟨b, 0, none⟩)]) "Get").run Tryz.prog w = .ok (197, .agg #[.pointer (some ⟨b, 0, none⟩)]) w := by intro fuel w; kernel_rfl
theorem nilAhead_4_Get (b : Nat) : ∀ (fuel : Nat) (w : World), (nilAhead (fuel + 1) 182 (.agg #[.pointer (some ⟨b, 0, none⟩), .pointer (some ⟨b, 0, none⟩), .pointer (some ⟨b, 0, none⟩)]) "Get").run Tryz.prog w = .ok (some false) w := by intro fuel w; kernel_rfl
theorem method_4_Put (b : Nat) : ∀ (fuel : Nat) (w : World), (method (fuel + 1) 182 (.agg #[.pointer (some ⟨b, 0, none⟩), .pointer (some ⟨b, 0, none⟩), .pointer (some ⟨b, 0, none⟩)]) "Put").run Tryz.prog w = .ok (198, .agg #[.pointer (some ⟨b, 0, none⟩)]) w := by intro fuel w; kernel_rfl
theorem nilAhead_4_Put (b : Nat) : ∀ (fuel : Nat) (w : World), (nilAhead (fuel + 1) 182 (.agg #[.pointer (some ⟨b, 0, none⟩), .pointer (some ⟨b, 0, none⟩), .pointer (some ⟨b, 0, none⟩)]) "Put").run Tryz.prog w = .ok (some false) w := by intro fuel w; kernel_rfl
theorem method_5_Start (b : Nat) : ∀ (fuel : Nat) (w : World), (method (fuel + 1) 185 (.agg #[.pointer (some ⟨b, 0, none⟩), .pointer (some ⟨b, 0, none⟩), .pointer (some ⟨b, 0, none⟩)]) "Start").run Tryz.prog w = .ok (194, .agg #[.pointer (some ⟨b, 0, none⟩)]) w := by intro fuel w; kernel_rfl
theorem nilAhead_5_Start (b : Nat) : ∀ (fuel : Nat) (w : World), (nilAhead (fuel + 1) 185 (.agg #[.pointer (some ⟨b, 0, none⟩), .pointer (some ⟨b, 0, none⟩), .pointer (some ⟨b, 0, none⟩)]) "Start").run Tryz.prog w = .ok (some false) w := by intro fuel w; kernel_rfl
theorem method_5_Stop (b : Nat) : ∀ (fuel : Nat) (w : World), (method (fuel + 1) 185 (.agg #[.pointer (some ⟨b, 0, none⟩), .pointer (some ⟨b, 0, none⟩), .pointer (some ⟨b, 0, none⟩)]) "Stop").run Tryz.prog w = .ok (195, .agg #[.pointer (some ⟨b, 0, none⟩)]) w := by intro fuel w; kernel_rfl
theorem nilAhead_5_Stop (b : Nat) : ∀ (fuel : Nat) (w : World), (nilAhead (fuel + 1) 185 (.agg #[.pointer (some ⟨b, 0, none⟩), .pointer (some ⟨b, 0, none⟩), .pointer (some ⟨b, 0, none⟩)]) "Stop").run Tryz.prog w = .ok (some false) w := by intro fuel w; kernel_rfl
theorem method_5_Hear (b : Nat) : ∀ (fuel : Nat) (w : World), (method (fuel + 1) 185 (.agg #[.pointer (some ⟨b, 0, none⟩), .pointer (some ⟨b, 0, none⟩), .pointer (some ⟨b, 0, none⟩)]) "Hear").run Tryz.prog w = .ok (207, .agg #[.pointer (some ⟨b, 0, none⟩)]) w := by intro fuel w; kernel_rfl
theorem nilAhead_5_Hear (b : Nat) : ∀ (fuel : Nat) (w : World), (nilAhead (fuel + 1) 185 (.agg #[.pointer (some ⟨b, 0, none⟩), .pointer (some ⟨b, 0, none⟩), .pointer (some ⟨b, 0, none⟩)]) "Hear").run Tryz.prog w = .ok (some false) w := by intro fuel w; kernel_rfl
theorem method_6_Start (b : Nat) : ∀ (fuel : Nat) (w : World), (method (fuel + 1) 188 (.agg #[.pointer (some ⟨b, 0, none⟩), .pointer (some ⟨b, 0, none⟩), .pointer (some ⟨b, 0, none⟩), .pointer (some ⟨b, 0, none⟩)]) "Start").run Tryz.prog w = .ok (194, .agg #[.pointer (some ⟨b, 0, none⟩)]) w := by intro fuel w; kernel_rfl
theorem nilAhead_6_Start (b : Nat) : ∀ (fuel : Nat) (w : World), (nilAhead (fuel + 1) 188 (.agg #[.pointer (some ⟨b, 0, none⟩), .pointer (some ⟨b, 0, none⟩), .pointer (some ⟨b, 0, none⟩), .pointer (some ⟨b, 0, none⟩)]) "Start").run Tryz.prog w = .ok (some false) w := by intro fuel w; kernel_rfl
theorem method_6_Stop (b : Nat) : ∀ (fuel : Nat) (w : World), (method (fuel + 1) 188 (.agg #[.pointer (some ⟨b, 0, none⟩), .pointer (some ⟨b, 0, none⟩), .pointer (some ⟨b, 0, none⟩), .pointer (some ⟨b, 0, none⟩)]) "Stop").run Tryz.prog w = .ok (195, .agg #[.pointer (some ⟨b, 0, none⟩)]) w := by intro fuel w; kernel_rfl
theorem nilAhead_6_Stop (b : Nat) : ∀ (fuel : Nat) (w : World), (nilAhead (fuel + 1) 188 (.agg #[.pointer (some ⟨b, 0, none⟩), .pointer (some ⟨b, 0, none⟩), .pointer (some ⟨b, 0, none⟩), .pointer (some ⟨b, 0, none⟩)]) "Stop").run Tryz.prog w = .ok (some false) w := by intro fuel w; kernel_rfl
theorem method_6_Get (b : Nat) : ∀ (fuel : Nat) (w : World), (method (fuel + 1) 188 (.agg #[.pointer (some ⟨b, 0, none⟩), .pointer (some ⟨b, 0, none⟩), .pointer (some ⟨b, 0, none⟩), .pointer (some ⟨b, 0, none⟩)]) "Get").run Tryz.prog w = .ok (197, .agg #[.pointer (some ⟨b, 0, none⟩)]) w := by intro fuel w; kernel_rfl
theorem nilAhead_6_Get (b : Nat) : ∀ (fuel : Nat) (w : World), (nilAhead (fuel + 1) 188 (.agg #[.pointer (some ⟨b, 0, none⟩), .pointer (some ⟨b, 0, none⟩), .pointer (some ⟨b, 0, none⟩), .pointer (some ⟨b, 0, none⟩)]) "Get").run Tryz.prog w = .ok (some false) w := by intro fuel w; kernel_rfl
theorem method_6_Put (b : Nat) : ∀ (fuel : Nat) (w : World), (method (fuel + 1) 188 (.agg #[.pointer (some ⟨b, 0, none⟩), .pointer (some ⟨b, 0, none⟩), .pointer (some ⟨b, 0, none⟩), .pointer (some ⟨b, 0, none⟩)]) "Put").run Tryz.prog w = .ok (198, .agg #[.pointer (some ⟨b, 0, none⟩)]) w := by intro fuel w; kernel_rfl
theorem nilAhead_6_Put (b : Nat) : ∀ (fuel : Nat) (w : World), (nilAhead (fuel + 1) 188 (.agg #[.pointer (some ⟨b, 0, none⟩), .pointer (some ⟨b, 0, none⟩), .pointer (some ⟨b, 0, none⟩), .pointer (some ⟨b, 0, none⟩)]) "Put").run Tryz.prog w = .ok (some false) w := by intro fuel w; kernel_rfl
theorem method_6_Load (b : Nat) : ∀ (fuel : Nat) (w : World), (method (fuel + 1) 188 (.agg #[.pointer (some ⟨b, 0, none⟩), .pointer (some ⟨b, 0, none⟩), .pointer (some ⟨b, 0, none⟩), .pointer (some ⟨b, 0, none⟩)]) "Load").run Tryz.prog w = .ok (208, .agg #[.pointer (some ⟨b, 0, none⟩)]) w := by intro fuel w; kernel_rfl
theorem nilAhead_6_Load (b : Nat) : ∀ (fuel : Nat) (w : World), (nilAhead (fuel + 1) 188 (.agg #[.pointer (some ⟨b, 0, none⟩), .pointer (some ⟨b, 0, none⟩), .pointer (some ⟨b, 0, none⟩), .pointer (some ⟨b, 0, none⟩)]) "Load").run Tryz.prog w = .ok (some false) w := by intro fuel w; kernel_rfl
theorem method_6_Save (b : Nat) : ∀ (fuel : Nat) (w : World), (method (fuel + 1) 188 (.agg #[.pointer (some ⟨b, 0, none⟩), .pointer (some ⟨b, 0, none⟩), .pointer (some ⟨b, 0, none⟩), .pointer (some ⟨b, 0, none⟩)]) "Save").run Tryz.prog w = .ok (209, .agg #[.pointer (some ⟨b, 0, none⟩)]) w := by intro fuel w; kernel_rfl
theorem nilAhead_6_Save (b : Nat) : ∀ (fuel : Nat) (w : World), (nilAhead (fuel + 1) 188 (.agg #[.pointer (some ⟨b, 0, none⟩), .pointer (some ⟨b, 0, none⟩), .pointer (some ⟨b, 0, none⟩), .pointer (some ⟨b, 0, none⟩)]) "Save").run Tryz.prog w = .ok (some false) w := by intro fuel w; kernel_rfl
theorem method_7_Start (b : Nat) : ∀ (fuel : Nat) (w : World), (method (fuel + 1) 191 (.agg #[.pointer (some ⟨b, 0, none⟩), .pointer (some ⟨b, 0, none⟩), .pointer (some ⟨b, 0, none⟩), .pointer (some ⟨b, 0, none⟩), .pointer (some ⟨b, 0, none⟩), .pointer (some ⟨b, 0, none⟩), .pointer (some ⟨b, 0, none⟩)]) "Start").run Tryz.prog w = .ok (194, .agg #[.pointer (some ⟨b, 0, none⟩)]) w := by intro fuel w; kernel_rfl
theorem nilAhead_7_Start (b : Nat) : ∀ (fuel : Nat) (w : World), (nilAhead (fuel + 1) 191 (.agg #[.pointer (some ⟨b, 0, none⟩), .pointer (some ⟨b, 0, none⟩), .pointer (some ⟨b, 0, none⟩), .pointer (some ⟨b, 0, none⟩), .pointer (some ⟨b, 0, none⟩), .pointer (some ⟨b, 0, none⟩), .pointer (some ⟨b, 0, none⟩)]) "Start").run Tryz.prog w = .ok (some false) w := by intro fuel w; kernel_rfl
theorem method_7_Stop (b : Nat) : ∀ (fuel : Nat) (w : World), (method (fuel + 1) 191 (.agg #[.pointer (some ⟨b, 0, none⟩), .pointer (some ⟨b, 0, none⟩), .pointer (some ⟨b, 0, none⟩), .pointer (some ⟨b, 0, none⟩), .pointer (some ⟨b, 0, none⟩), .pointer (some ⟨b, 0, none⟩), .pointer (some ⟨b, 0, none⟩)]) "Stop").run Tryz.prog w = .ok (195, .agg #[.pointer (some ⟨b, 0, none⟩)]) w := by intro fuel w; kernel_rfl
theorem nilAhead_7_Stop (b : Nat) : ∀ (fuel : Nat) (w : World), (nilAhead (fuel + 1) 191 (.agg #[.pointer (some ⟨b, 0, none⟩), .pointer (some ⟨b, 0, none⟩), .pointer (some ⟨b, 0, none⟩), .pointer (some ⟨b, 0, none⟩), .pointer (some ⟨b, 0, none⟩), .pointer (some ⟨b, 0, none⟩), .pointer (some ⟨b, 0, none⟩)]) "Stop").run Tryz.prog w = .ok (some false) w := by intro fuel w; kernel_rfl
theorem method_7_Get (b : Nat) : ∀ (fuel : Nat) (w : World), (method (fuel + 1) 191 (.agg #[.pointer (some ⟨b, 0, none⟩), .pointer (some ⟨b, 0, none⟩), .pointer (some ⟨b, 0, none⟩), .pointer (some ⟨b, 0, none⟩), .pointer (some ⟨b, 0, none⟩), .pointer (some ⟨b, 0, none⟩), .pointer (some ⟨b, 0, none⟩)]) "Get").run Tryz.prog w = .ok (197, .agg #[.pointer (some ⟨b, 0, none⟩)]) w := by intro fuel w; kernel_rfl
theorem nilAhead_7_Get (b : Nat) : ∀ (fuel : Nat) (w : World), (nilAhead (fuel + 1) 191 (.agg #[.pointer (some ⟨b, 0, none⟩), .pointer (some ⟨b, 0, none⟩), .pointer (some ⟨b, 0, none⟩), .pointer (some ⟨b, 0, none⟩), .pointer (some ⟨b, 0, none⟩), .pointer (some ⟨b, 0, none⟩), .pointer (some ⟨b, 0, none⟩)]) "Get").run Tryz.prog w = .ok (some false) w := by intro fuel w; kernel_rfl
theorem method_7_Put (b : Nat) : ∀ (fuel : Nat) (w : World), (method (fuel + 1) 191 (.agg #[.pointer (some ⟨b, 0, none⟩), .pointer (some ⟨b, 0, none⟩), .pointer (some ⟨b, 0, none⟩), .pointer (some ⟨b, 0, none⟩), .pointer (some ⟨b, 0, none⟩), .pointer (some ⟨b, 0, none⟩), .pointer (some ⟨b, 0, none⟩)]) "Put").run Tryz.prog w = .ok (198, .agg #[.pointer (some ⟨b, 0, none⟩)]) w := by intro fuel w; kernel_rfl
theorem nilAhead_7_Put (b : Nat) : ∀ (fuel : Nat) (w : World), (nilAhead (fuel + 1) 191 (.agg #[.pointer (some ⟨b, 0, none⟩), .pointer (some ⟨b, 0, none⟩), .pointer (some ⟨b, 0, none⟩), .pointer (some ⟨b, 0, none⟩), .pointer (some ⟨b, 0, none⟩), .pointer (some ⟨b, 0, none⟩), .pointer (some ⟨b, 0, none⟩)]) "Put").run Tryz.prog w = .ok (some false) w := by intro fuel w; kernel_rfl
theorem method_7_Tell (b : Nat) : ∀ (fuel : Nat) (w : World), (method (fuel + 1) 191 (.agg #[.pointer (some ⟨b, 0, none⟩), .pointer (some ⟨b, 0, none⟩), .pointer (some ⟨b, 0, none⟩), .pointer (some ⟨b, 0, none⟩), .pointer (some ⟨b, 0, none⟩), .pointer (some ⟨b, 0, none⟩), .pointer (some ⟨b, 0, none⟩)]) "Tell").run Tryz.prog w = .ok (206, .agg #[.pointer (some ⟨b, 0, none⟩)]) w := by intro fuel w; kernel_rfl
theorem nilAhead_7_Tell (b : Nat) : ∀ (fuel : Nat) (w : World), (nilAhead (fuel + 1) 191 (.agg #[.pointer (some ⟨b, 0, none⟩), .pointer (some ⟨b, 0, none⟩), .pointer (some ⟨b, 0, none⟩), .pointer (some ⟨b, 0, none⟩), .pointer (some ⟨b, 0, none⟩), .pointer (some ⟨b, 0, none⟩), .pointer (some ⟨b, 0, none⟩)]) "Tell").run Tryz.prog w = .ok (some false) w := by intro fuel w; kernel_rfl
theorem method_7_Hear (b : Nat) : ∀ (fuel : Nat) (w : World), (method (fuel + 1) 191 (.agg #[.pointer (some ⟨b, 0, none⟩), .pointer (some ⟨b, 0, none⟩), .pointer (some ⟨b, 0, none⟩), .pointer (some ⟨b, 0, none⟩), .pointer (some ⟨b, 0, none⟩), .pointer (some ⟨b, 0, none⟩), .pointer (some ⟨b, 0, none⟩)]) "Hear").run Tryz.prog w = .ok (207, .agg #[.pointer (some ⟨b, 0, none⟩)]) w := by intro fuel w; kernel_rfl
theorem nilAhead_7_Hear (b : Nat) : ∀ (fuel : Nat) (w : World), (nilAhead (fuel + 1) 191 (.agg #[.pointer (some ⟨b, 0, none⟩), .pointer (some ⟨b, 0, none⟩), .pointer (some ⟨b, 0, none⟩), .pointer (some ⟨b, 0, none⟩), .pointer (some ⟨b, 0, none⟩), .pointer (some ⟨b, 0, none⟩), .pointer (some ⟨b, 0, none⟩)]) "Hear").run Tryz.prog w = .ok (some false) w := by intro fuel w; kernel_rfl
theorem method_7_Load (b : Nat) : ∀ (fuel : Nat) (w : World), (method (fuel + 1) 191 (.agg #[.pointer (some ⟨b, 0, none⟩), .pointer (some ⟨b, 0, none⟩), .pointer (some ⟨b, 0, none⟩), .pointer (some ⟨b, 0, none⟩), .pointer (some ⟨b, 0, none⟩), .pointer (some ⟨b, 0, none⟩), .pointer (some ⟨b, 0, none⟩)]) "Load").run Tryz.prog w = .ok (208, .agg #[.pointer (some ⟨b, 0, none⟩)]) w := by intro fuel w; kernel_rfl
theorem nilAhead_7_Load (b : Nat) : ∀ (fuel : Nat) (w : World), (nilAhead (fuel + 1) 191 (.agg #[.pointer (some ⟨b, 0, none⟩), .pointer (some ⟨b, 0, none⟩), .pointer (some ⟨b, 0, none⟩), .pointer (some ⟨b, 0, none⟩), .pointer (some ⟨b, 0, none⟩), .pointer (some ⟨b, 0, none⟩), .pointer (some ⟨b, 0, none⟩)]) "Load").run Tryz.prog w = .ok (some false) w := by intro fuel w; kernel_rfl
theorem method_7_Save (b : Nat) : ∀ (fuel : Nat) (w : World), (method (fuel + 1) 191 (.agg #[.pointer (some ⟨b, 0, none⟩), .pointer (some ⟨b, 0, none⟩), .pointer (some ⟨b, 0, none⟩), .pointer (some ⟨b, 0, none⟩), .pointer (some ⟨b, 0, none⟩), .pointer (some ⟨b, 0, none⟩), .pointer (some ⟨b, 0, none⟩)]) "Save").run Tryz.prog w = .ok (209, .agg #[.pointer (some ⟨b, 0, none⟩)]) w := by intro fuel w; kernel_rfl
theorem nilAhead_7_Save (b : Nat) : ∀ (fuel : Nat) (w : World), (nilAhead (fuel + 1) 191 (.agg #[.pointer (some ⟨b, 0, none⟩), .pointer (some ⟨b, 0, none⟩), .pointer (some ⟨b, 0, none⟩), .pointer (some ⟨b, 0, none⟩), .pointer (some ⟨b, 0, none⟩), .pointer (some ⟨b, 0, none⟩), .pointer (some ⟨b, 0, none⟩)]) "Save").run Tryz.prog w = .ok (some false) w := by intro fuel w; kernel_rfl
theorem method_7_Heal (b : Nat) : ∀ (fuel : Nat) (w : World), (method (fuel + 1) 191 (.agg #[.pointer (some ⟨b, 0, none⟩), .pointer (some ⟨b, 0, none⟩), .pointer (some ⟨b, 0, none⟩), .pointer (some ⟨b, 0, none⟩), .pointer (some ⟨b, 0, none⟩), .pointer (some ⟨b, 0, none⟩), .pointer (some ⟨b, 0, none⟩)]) "Heal").run Tryz.prog w = .ok (228, .agg #[.pointer (some ⟨b, 0, none⟩)]) w := by intro fuel w; kernel_rfl
theorem nilAhead_7_Heal (b : Nat) : ∀ (fuel : Nat) (w : World), (nilAhead (fuel + 1) 191 (.agg #[.pointer (some ⟨b, 0, none⟩), .pointer (some ⟨b, 0, none⟩), .pointer (some ⟨b, 0, none⟩), .pointer (some ⟨b, 0, none⟩), .pointer (some ⟨b, 0, none⟩), .pointer (some ⟨b, 0, none⟩), .pointer (some ⟨b, 0, none⟩)]) "Heal").run Tryz.prog w = .ok (some false) w := by intro fuel w; kernel_rfl
structure Pre (N b : Nat) (cv : Value) (d : CoreD) (x : CallD) (mx : Int) (w : World) : Prop where
  st : CoreSt N b cv d w
  hN : N ≤ w.heap.size
  hr : -9223372036854775808 ≤ d.fCount
  hm : d.fCells.length ≤ 4194304
  hs : ∀ c ∈ d.fCells, c.fKey.length ≤ maxLen
  hk : x.fKey.length ≤ maxLen
  ht : x.fText.length ≤ 1048576
  hM : w.cell? ⟨0, 0, none⟩ = some (.int .i64 mx)
theorem Pre.below {N b : Nat} {cv : Value} {d : CoreD} {x : CallD} {mx : Int} {w w' : World} (h : Pre N b cv d x mx w) (hb : Below w.heap.size w w') : Pre N b cv d x mx w' :=
  ⟨h.st.below hb, Nat.le_trans h.hN hb.size, h.hr, h.hm, h.hs, h.hk, h.ht, (hb.cell (p := ⟨0, 0, none⟩) (World.block_lt_of_cell? w _ h.hM)).trans h.hM⟩
theorem row_ne {w : World} {N n : Nat} {t : TypeId} {c : Array Value} {k : Nat × Nat} {cv : Value} {l : List CellD} (ho : OwnsF cCell 139 2 w N cv l) (hg : w.heap[n]? = some (.cells c t k)) (ht : t ≠ 139) : cv.ownBlock ≠ some n := by
  intro e
  rcases ho.2 with ⟨rfl, _⟩ | ⟨g, cap, cur, rfl, _, hg2, _⟩
  · simp [Value.ownBlock] at e
  · simp [Value.ownBlock] at e
    subst e
    rw [hg] at hg2
    injection hg2 with hg2
    injection hg2 with _ h2 _
    exact ht h2
def Fin (N b : Nat) (cv : Value) (d : CoreD) (n : Nat) (w w1 : World) : Prop := (∃ cv', CoreSt N b cv' d w1 ∧ cv'.ownBlock ≠ some n) ∧ b ≠ n ∧ w.heap.size ≤ n ∧ Kept2 w w1 (some b) cv.ownBlock
theorem fin_set {N b : Nat} {cv : Value} {d : CoreD} {n : Nat} {w w1 : World} (h : Fin N b cv d n w w1) (o : Nat) (u : Value) : Fin N b cv d n w (w1.setCell ⟨n, o, none⟩ u) := by
  obtain ⟨⟨cv', hs, hn⟩, hb, hl, hk⟩ := h
  refine ⟨⟨cv', ⟨hs.box.so _ _ hb, ?_, hs.ne, hs.ge⟩, hn⟩, hb, hl, hk.set _ (Or.inl hl)⟩
  refine World.ownsRow.kept hs.own (row := some n) ⟨rfl, rfl, rfl, by simp, fun i hi hne => Below.heap_setCell w1 _ u i (fun e => hne (by rw [e]))⟩ (Or.inr hn)
theorem fin_does {N b : Nat} {cv : Value} {out : CoreD × ReplyD} {n : Nat} {w w1 : World} (h : Fin N b cv out.1 n w w1) : Does N b cv out w (.returned (vReply out.2)) w1 := by
  obtain ⟨⟨cv', hs, _⟩, _, _, hk⟩ := h
  exact ⟨rfl, cv', hs, hk⟩
end Go.Proofs.YtcpbikilgacdlaaGreat
