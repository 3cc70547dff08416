/- FnPartWants: a call of a part fails its assertion exactly if the part does not offer what it wants, and changes nothing then, at every code that is drawn from. No condition. -/
import Derived.Test.YtcpbikilgacdlaaGreatPartWantsFnM4
import Derived.Deep.CutRange
import Derived.Test.YtcpbikilgacdlaaGreatPartWantsFnM1
import Derived.Test.YtcpbikilgacdlaaGreatPartWantsFnM0
import Derived.Lib.SlicesCompact
import Derived.Test.YtcpbikilgacdlaaGreatPartWantsFnM3
import Derived.HandedShaped
import Derived.Deep.QuietTactic
import Derived.BigQuiet
namespace Go.Proofs.YtcpbikilgacdlaaGreat
set_option linter.unusedVariables false
set_option linter.unusedSimpArgs false
open Go.RowKit
set_option maxRecDepth 100000 in
set_option maxHeartbeats 3200000 in
theorem counts_Get (mx : Int) (N b g m cap n : Nat) (k0 : List UInt8) (nms : List (List UInt8)) (T : TypeId) (V : Value) (x : CallD) (key : List UInt8) (hx : keptB x.fMethod = true) (ht : x.fMethod ≠ mTell) (hn : n < nms.length) (hn3 : n < 3) (hnm : nms.getD n [] = nCounts) (HI : MthOk mx N b (.slice (some ⟨g, 0, none⟩) m cap) k0 nms n FsGet T V "Get" #[.string ⟨key.toArray⟩] x)
    (p : PartD) (cv : Value) (w : World) (hR : Ready mx N b (.slice (some ⟨g, 0, none⟩) m cap) cv k0 nms p w) :
    Calls Tryz.prog 232 #[.agg #[.pointer (some ⟨g, n * 2, none⟩), .iface T V], .string ⟨key.toArray⟩] w fun e w' => Does4 N b (.slice (some ⟨g, 0, none⟩) m cap) (lyDo (n + 1) p x) w e w' := by
  have hpl := hR.len
  have hi : n < p.fLayers.length := by omega
  have hnmp : nmL p n = nCounts := (hR.nm n).trans hnm
  have hbl := hR.st.core.box.lt
  have HL := Lib.hid (show lyDo (n + 1) p x = lyDo n (updL p n) x from by rw [lyDo_upd n p x n (Nat.le_refl _)]; show (if _ then _ else if _ then _ else _) = _; rw [if_neg (fun h => ht h.2), if_pos ⟨hnmp, hx⟩])
  rw [HL.out]
  clear HL
  obtain ⟨IF, Ir, If, Im, In, Ic⟩ := HI
  have Im4 : ∀ (fuel : Nat) (w : World), (method (fuel + 4) T V _).run Tryz.prog w = .ok (IF, Ir) w := fun fuel w => by have h := Im (fuel + 3 - n) w; rwa [show fuel + 3 - n + n + 1 = fuel + 4 by omega] at h
  have In4 : ∀ (fuel : Nat) (w : World), (nilAhead (fuel + 4) T V _).run Tryz.prog w = .ok (some false) w := fun fuel w => by have h := In (fuel + 3 - n) w; rwa [show fuel + 3 - n + n + 1 = fuel + 4 by omega] at h
  have IC := Lib.hid Ic
  clear Im In Ic
  have L1 := Lib.hid ((Loc.new w [.pointer (some ⟨g, n * 2, none⟩), .iface T V] 213).past (.cells #[.int .i64 0, .int .i64 0, .string ⟨#[]⟩, .int .i64 0, .int .i64 0] 39))
  have L2 := Lib.hid (Loc.new (w.alloc (.cells #[.pointer (some ⟨g, n * 2, none⟩), .iface T V] 213)) [.int .i64 0, .int .i64 0, .string ⟨#[]⟩, .int .i64 0, .int .i64 0] 39)
  have HB := Lib.hid (belS (bx_box w (.cells #[.pointer (some ⟨g, n * 2, none⟩), .iface T V] 213)) (bx_box (w.alloc (.cells #[.pointer (some ⟨g, n * 2, none⟩), .iface T V] 213)) (.cells #[.int .i64 0, .int .i64 0, .string ⟨#[]⟩, .int .i64 0, .int .i64 0] 39)))
  rw [show (w.alloc (.cells #[.pointer (some ⟨g, n * 2, none⟩), .iface T V] 213)).heap.size = w.heap.size + 1 by simp] at L2
  have n1b : w.heap.size ≠ b := by omega
  have n2b : w.heap.size + 1 ≠ b := by omega
  have HR := Lib.hid (hR.below HB.out)
  have HN := Lib.hid hR.hN
  have hcr := cnt_range hR.ok n hi
  have HU := Lib.hid (upd_part hR.ok n hi (by rw [hnmp]; exact counts_counted))
  clear hR
  have HO := Lib.hid (fun cv w h => IC.out (updL p n) cv w h)
  generalize lyDo n (updL p n) x = out at *
  obtain ⟨q, t0, t1, t2, t3, t4⟩ := out
  simp only [List.mem_cons, List.not_mem_nil, or_false] at If
  rcases If with rfl | rfl | rfl
  all_goals
    go_enter Tryz.func232, Tryz.ntmps232
    have B_a := Lib.hid L1.out.bx
    have a0 := B_a.out.cell 0 (by simp)
    have a1 := B_a.out.cell 1 (by simp)
    simp only [List.getElem_cons_zero, List.getElem_cons_succ] at a0 a1
    have fa0 := B_a.out.froz 0 (by simp)
    have fa1 := B_a.out.froz 1 (by simp)
    have l_a := B_a.out.lt
    go_wp2_with fail
    clear B_a l_a a0 a1 fa0 fa1
    generalize (w.alloc (.cells #[.pointer (some ⟨g, n * 2, none⟩), .iface T V] 213)).alloc (.cells #[.int .i64 0, .int .i64 0, .string ⟨#[]⟩, .int .i64 0, .int .i64 0] 39) = w0 at *
    refine (countCall_c N b g m cap n cv p _ HR.out.st HR.out.hN hi hcr).mono ?_
    rintro e w1 ⟨rfl, hs1, hk1⟩
    replace HR := Lib.hid (HR.out.next hs1 hk1 HU.out rfl (names_upd p n))
    replace L1 := Lib.hid (L1.out.stays hk1 n1b (by decide) (by decide))
    replace L2 := Lib.hid (L2.out.stays hk1 n2b (by decide) (by decide))
    have HK := Lib.hid ((KeptT.of_below (N := N) (b := b) HB.out HN.out).trans hk1)
    clear hs1 hk1
    have B_a := Lib.hid L1.out.bx
    have a0 := B_a.out.cell 0 (by simp)
    have a1 := B_a.out.cell 1 (by simp)
    simp only [List.getElem_cons_zero, List.getElem_cons_succ] at a0 a1
    have fa0 := B_a.out.froz 0 (by simp)
    have fa1 := B_a.out.froz 1 (by simp)
    have l_a := B_a.out.lt
    go_wp2_with fail
    clear B_a l_a a0 a1 fa0 fa1
    refine (HO.out _ _ HR.out).mono ?_
    rintro e w2 ⟨rfl, cv2, hs2, hk2⟩
    replace L2 := Lib.hid (L2.out.stays hk2 n2b (by decide) (by decide))
    have HK2 := Lib.hid (HK.out.trans hk2)
    have HS := Lib.hid hs2
    clear hs2 hk2
    unfold vReply
    simp only
    have B_r := Lib.hid L2.out.bx
    have r0 := B_r.out.cell 0 (by simp)
    have r1 := B_r.out.cell 1 (by simp)
    have r2 := B_r.out.cell 2 (by simp)
    have r3 := B_r.out.cell 3 (by simp)
    have r4 := B_r.out.cell 4 (by simp)
    simp only [List.getElem_cons_zero, List.getElem_cons_succ] at r0 r1 r2 r3 r4
    have fr0 := B_r.out.froz 0 (by simp)
    have fr1 := B_r.out.froz 1 (by simp)
    have fr2 := B_r.out.froz 2 (by simp)
    have fr3 := B_r.out.froz 3 (by simp)
    have fr4 := B_r.out.froz 4 (by simp)
    have l_r := B_r.out.lt
    go_wp2_with fail
    refine bodyPost_ret (v := .agg #[.int .i64 t0, .int .i64 t1, .string ⟨t2.toArray⟩, .int .i64 t3, .int .i64 t4]) (by simp [results, Tryz.results232, go_sem, cell_set_at, cell_set_ne, r0, r1, r2, r3, r4]) rfl ?_
    exact done5 ⟨t0, t1, t2, t3, t4⟩ HS.out HK2.out L2.out n2b (by omega) HN.out _ _ _ _ _
set_option maxRecDepth 100000 in
set_option maxHeartbeats 3200000 in
theorem counts_Put (mx : Int) (N b g m cap n : Nat) (k0 : List UInt8) (nms : List (List UInt8)) (T : TypeId) (V : Value) (x : CallD) (key : List UInt8) (val : Int) (hx : keptB x.fMethod = true) (ht : x.fMethod ≠ mTell) (hn : n < nms.length) (hn3 : n < 3) (hnm : nms.getD n [] = nCounts) (HI : MthOk mx N b (.slice (some ⟨g, 0, none⟩) m cap) k0 nms n FsPut T V "Put" #[.string ⟨key.toArray⟩, .int .i64 val] x)
    (p : PartD) (cv : Value) (w : World) (hR : Ready mx N b (.slice (some ⟨g, 0, none⟩) m cap) cv k0 nms p w) :
    Calls Tryz.prog 233 #[.agg #[.pointer (some ⟨g, n * 2, none⟩), .iface T V], .string ⟨key.toArray⟩, .int .i64 val] w fun e w' => Does4 N b (.slice (some ⟨g, 0, none⟩) m cap) (lyDo (n + 1) p x) w e w' := by
  have hpl := hR.len
  have hi : n < p.fLayers.length := by omega
  have hnmp : nmL p n = nCounts := (hR.nm n).trans hnm
  have hbl := hR.st.core.box.lt
  have HL := Lib.hid (show lyDo (n + 1) p x = lyDo n (updL p n) x from by rw [lyDo_upd n p x n (Nat.le_refl _)]; show (if _ then _ else if _ then _ else _) = _; rw [if_neg (fun h => ht h.2), if_pos ⟨hnmp, hx⟩])
  rw [HL.out]
  clear HL
  obtain ⟨IF, Ir, If, Im, In, Ic⟩ := HI
  have Im4 : ∀ (fuel : Nat) (w : World), (method (fuel + 4) T V _).run Tryz.prog w = .ok (IF, Ir) w := fun fuel w => by have h := Im (fuel + 3 - n) w; rwa [show fuel + 3 - n + n + 1 = fuel + 4 by omega] at h
  have In4 : ∀ (fuel : Nat) (w : World), (nilAhead (fuel + 4) T V _).run Tryz.prog w = .ok (some false) w := fun fuel w => by have h := In (fuel + 3 - n) w; rwa [show fuel + 3 - n + n + 1 = fuel + 4 by omega] at h
  have IC := Lib.hid Ic
  clear Im In Ic
  have L1 := Lib.hid ((Loc.new w [.pointer (some ⟨g, n * 2, none⟩), .iface T V] 213).past (.cells #[.int .i64 0, .int .i64 0, .string ⟨#[]⟩, .int .i64 0, .int .i64 0] 39))
  have L2 := Lib.hid (Loc.new (w.alloc (.cells #[.pointer (some ⟨g, n * 2, none⟩), .iface T V] 213)) [.int .i64 0, .int .i64 0, .string ⟨#[]⟩, .int .i64 0, .int .i64 0] 39)
  have HB := Lib.hid (belS (bx_box w (.cells #[.pointer (some ⟨g, n * 2, none⟩), .iface T V] 213)) (bx_box (w.alloc (.cells #[.pointer (some ⟨g, n * 2, none⟩), .iface T V] 213)) (.cells #[.int .i64 0, .int .i64 0, .string ⟨#[]⟩, .int .i64 0, .int .i64 0] 39)))
  rw [show (w.alloc (.cells #[.pointer (some ⟨g, n * 2, none⟩), .iface T V] 213)).heap.size = w.heap.size + 1 by simp] at L2
  have n1b : w.heap.size ≠ b := by omega
  have n2b : w.heap.size + 1 ≠ b := by omega
  have HR := Lib.hid (hR.below HB.out)
  have HN := Lib.hid hR.hN
  have hcr := cnt_range hR.ok n hi
  have HU := Lib.hid (upd_part hR.ok n hi (by rw [hnmp]; exact counts_counted))
  clear hR
  have HO := Lib.hid (fun cv w h => IC.out (updL p n) cv w h)
  generalize lyDo n (updL p n) x = out at *
  obtain ⟨q, t0, t1, t2, t3, t4⟩ := out
  simp only [List.mem_cons, List.not_mem_nil, or_false] at If
  rcases If with rfl | rfl | rfl | rfl
  all_goals
    go_enter Tryz.func233, Tryz.ntmps233
    have B_a := Lib.hid L1.out.bx
    have a0 := B_a.out.cell 0 (by simp)
    have a1 := B_a.out.cell 1 (by simp)
    simp only [List.getElem_cons_zero, List.getElem_cons_succ] at a0 a1
    have fa0 := B_a.out.froz 0 (by simp)
    have fa1 := B_a.out.froz 1 (by simp)
    have l_a := B_a.out.lt
    go_wp2_with fail
    clear B_a l_a a0 a1 fa0 fa1
    generalize (w.alloc (.cells #[.pointer (some ⟨g, n * 2, none⟩), .iface T V] 213)).alloc (.cells #[.int .i64 0, .int .i64 0, .string ⟨#[]⟩, .int .i64 0, .int .i64 0] 39) = w0 at *
    refine (countCall_c N b g m cap n cv p _ HR.out.st HR.out.hN hi hcr).mono ?_
    rintro e w1 ⟨rfl, hs1, hk1⟩
    replace HR := Lib.hid (HR.out.next hs1 hk1 HU.out rfl (names_upd p n))
    replace L1 := Lib.hid (L1.out.stays hk1 n1b (by decide) (by decide))
    replace L2 := Lib.hid (L2.out.stays hk1 n2b (by decide) (by decide))
    have HK := Lib.hid ((KeptT.of_below (N := N) (b := b) HB.out HN.out).trans hk1)
    clear hs1 hk1
    have B_a := Lib.hid L1.out.bx
    have a0 := B_a.out.cell 0 (by simp)
    have a1 := B_a.out.cell 1 (by simp)
    simp only [List.getElem_cons_zero, List.getElem_cons_succ] at a0 a1
    have fa0 := B_a.out.froz 0 (by simp)
    have fa1 := B_a.out.froz 1 (by simp)
    have l_a := B_a.out.lt
    go_wp2_with fail
    clear B_a l_a a0 a1 fa0 fa1
    refine (HO.out _ _ HR.out).mono ?_
    rintro e w2 ⟨rfl, cv2, hs2, hk2⟩
    replace L2 := Lib.hid (L2.out.stays hk2 n2b (by decide) (by decide))
    have HK2 := Lib.hid (HK.out.trans hk2)
    have HS := Lib.hid hs2
    clear hs2 hk2
    unfold vReply
    simp only
    have B_r := Lib.hid L2.out.bx
    have r0 := B_r.out.cell 0 (by simp)
    have r1 := B_r.out.cell 1 (by simp)
    have r2 := B_r.out.cell 2 (by simp)
    have r3 := B_r.out.cell 3 (by simp)
    have r4 := B_r.out.cell 4 (by simp)
    simp only [List.getElem_cons_zero, List.getElem_cons_succ] at r0 r1 r2 r3 r4
    have fr0 := B_r.out.froz 0 (by simp)
    have fr1 := B_r.out.froz 1 (by simp)
    have fr2 := B_r.out.froz 2 (by simp)
    have fr3 := B_r.out.froz 3 (by simp)
    have fr4 := B_r.out.froz 4 (by simp)
    have l_r := B_r.out.lt
    go_wp2_with fail
    refine bodyPost_ret (v := .agg #[.int .i64 t0, .int .i64 t1, .string ⟨t2.toArray⟩, .int .i64 t3, .int .i64 t4]) (by simp [results, Tryz.results233, go_sem, cell_set_at, cell_set_ne, r0, r1, r2, r3, r4]) rfl ?_
    exact done5 ⟨t0, t1, t2, t3, t4⟩ HS.out HK2.out L2.out n2b (by omega) HN.out _ _ _ _ _
set_option maxRecDepth 100000 in
set_option maxHeartbeats 3200000 in
theorem counts_Tell (mx : Int) (N b g m cap n : Nat) (k0 : List UInt8) (nms : List (List UInt8)) (T : TypeId) (V : Value) (x : CallD) (hx : x.fMethod = mTell) (hn : n < nms.length) (hn3 : n < 3) (hnm : nms.getD n [] = nCounts)
    (p : PartD) (cv : Value) (w : World) (hR : Ready mx N b (.slice (some ⟨g, 0, none⟩) m cap) cv k0 nms p w) :
    Calls Tryz.prog 234 #[.agg #[.pointer (some ⟨g, n * 2, none⟩), .iface T V]] w fun e w' => Does4 N b (.slice (some ⟨g, 0, none⟩) m cap) (lyDo (n + 1) p x) w e w' := by
  have hpl := hR.len
  have hi : n < p.fLayers.length := by omega
  have hnmp : nmL p n = nCounts := (hR.nm n).trans hnm
  have hbl := hR.st.core.box.lt
  have HL := Lib.hid (show lyDo (n + 1) p x = (p, ⟨0, cntL p n, [], 0, 0⟩) from by show (if _ then _ else _) = _; rw [if_pos ⟨hnmp, hx⟩])
  rw [HL.out]
  clear HL
  have L1 := Lib.hid ((Loc.new w [.pointer (some ⟨g, n * 2, none⟩), .iface T V] 213).past (.cells #[.int .i64 0, .int .i64 0, .string ⟨#[]⟩, .int .i64 0, .int .i64 0] 39))
  have L2 := Lib.hid (Loc.new (w.alloc (.cells #[.pointer (some ⟨g, n * 2, none⟩), .iface T V] 213)) [.int .i64 0, .int .i64 0, .string ⟨#[]⟩, .int .i64 0, .int .i64 0] 39)
  have HB := Lib.hid (belS (bx_box w (.cells #[.pointer (some ⟨g, n * 2, none⟩), .iface T V] 213)) (bx_box (w.alloc (.cells #[.pointer (some ⟨g, n * 2, none⟩), .iface T V] 213)) (.cells #[.int .i64 0, .int .i64 0, .string ⟨#[]⟩, .int .i64 0, .int .i64 0] 39)))
  rw [show (w.alloc (.cells #[.pointer (some ⟨g, n * 2, none⟩), .iface T V] 213)).heap.size = w.heap.size + 1 by simp] at L2
  have n1b : w.heap.size ≠ b := by omega
  have n2b : w.heap.size + 1 ≠ b := by omega
  have HR := Lib.hid (hR.below HB.out)
  have HN := Lib.hid hR.hN
  clear hR
  have HLY := Lib.hid (HR.out.st.lay n hi)
  obtain ⟨_, d1, _, hgl, _, hm0, _⟩ := HLY.out
  clear hm0 HLY
  generalize cntL p n = ct at *
  go_enter Tryz.func234, Tryz.ntmps234
  go_upto_region 1 with fail
  generalize (w.alloc (.cells #[.pointer (some ⟨g, n * 2, none⟩), .iface T V] 213)).alloc (.cells #[.int .i64 0, .int .i64 0, .string ⟨#[]⟩, .int .i64 0, .int .i64 0] 39) = w0 at *
  have B_a := Lib.hid L1.out.bx
  have a0 := B_a.out.cell 0 (by simp)
  have a1 := B_a.out.cell 1 (by simp)
  simp only [List.getElem_cons_zero, List.getElem_cons_succ] at a0 a1
  have fa0 := B_a.out.froz 0 (by simp)
  have fa1 := B_a.out.froz 1 (by simp)
  have l_a := B_a.out.lt
  have B_r := Lib.hid L2.out.bx
  have r0 := B_r.out.cell 0 (by simp)
  have r1 := B_r.out.cell 1 (by simp)
  have r2 := B_r.out.cell 2 (by simp)
  have r3 := B_r.out.cell 3 (by simp)
  have r4 := B_r.out.cell 4 (by simp)
  simp only [List.getElem_cons_zero, List.getElem_cons_succ] at r0 r1 r2 r3 r4
  have fr0 := B_r.out.froz 0 (by simp)
  have fr1 := B_r.out.froz 1 (by simp)
  have fr2 := B_r.out.froz 2 (by simp)
  have fr3 := B_r.out.froz 3 (by simp)
  have fr4 := B_r.out.froz 4 (by simp)
  have l_r := B_r.out.lt
  go_wp2_with fail
  refine bodyPost_ret (v := .agg #[.int .i64 0, .int .i64 ct, .string ⟨#[]⟩, .int .i64 0, .int .i64 0]) (by simp [results, Tryz.results234, go_sem, cell_set_at, cell_set_ne, r0, r1, r2, r3, r4]) rfl ?_
  exact done5 ⟨0, ct, [], 0, 0⟩ HR.out.st (KeptT.of_below HB.out HN.out) L2.out n2b (by omega) HN.out _ _ _ _ _
set_option maxRecDepth 100000 in
set_option maxHeartbeats 3200000 in
theorem reads_Put (mx : Int) (N b g m cap n : Nat) (k0 : List UInt8) (nms : List (List UInt8)) (T : TypeId) (V : Value) (x : CallD) (key : List UInt8) (val : Int) (hx : x.fMethod = mPut) (hn : n < nms.length) (hn3 : n < 3) (hnm : nms.getD n [] = nReads)
    (p : PartD) (cv : Value) (w : World) (hR : Ready mx N b (.slice (some ⟨g, 0, none⟩) m cap) cv k0 nms p w) :
    Calls Tryz.prog 237 #[.agg #[.pointer (some ⟨g, n * 2, none⟩), .iface T V], .string ⟨key.toArray⟩, .int .i64 val] w fun e w' => Does4 N b (.slice (some ⟨g, 0, none⟩) m cap) (lyDo (n + 1) p x) w e w' := by
  have hpl := hR.len
  have hi : n < p.fLayers.length := by omega
  have hnmp : nmL p n = nReads := (hR.nm n).trans hnm
  have hbl := hR.st.core.box.lt
  have HL := Lib.hid (show lyDo (n + 1) p x = (p, rC 6) from by show (if _ then _ else if _ then _ else if _ then _ else if _ then _ else _) = _; rw [if_neg (fun h => by rw [hnmp] at h; exact absurd h.1 (by decide)), if_neg (fun h => by rw [hnmp] at h; exact absurd h.1 (by decide)), if_neg (fun h => by rw [hnmp] at h; exact absurd h.1 (by decide)), if_pos ⟨hnmp, hx⟩])
  rw [HL.out]
  clear HL
  have L1 := Lib.hid ((Loc.new w [.pointer (some ⟨g, n * 2, none⟩), .iface T V] 218).past (.cells #[.int .i64 0, .int .i64 0, .string ⟨#[]⟩, .int .i64 0, .int .i64 0] 39))
  have L2 := Lib.hid (Loc.new (w.alloc (.cells #[.pointer (some ⟨g, n * 2, none⟩), .iface T V] 218)) [.int .i64 0, .int .i64 0, .string ⟨#[]⟩, .int .i64 0, .int .i64 0] 39)
  have HB := Lib.hid (belS (bx_box w (.cells #[.pointer (some ⟨g, n * 2, none⟩), .iface T V] 218)) (bx_box (w.alloc (.cells #[.pointer (some ⟨g, n * 2, none⟩), .iface T V] 218)) (.cells #[.int .i64 0, .int .i64 0, .string ⟨#[]⟩, .int .i64 0, .int .i64 0] 39)))
  rw [show (w.alloc (.cells #[.pointer (some ⟨g, n * 2, none⟩), .iface T V] 218)).heap.size = w.heap.size + 1 by simp] at L2
  have n1b : w.heap.size ≠ b := by omega
  have n2b : w.heap.size + 1 ≠ b := by omega
  have HR := Lib.hid (hR.below HB.out)
  have HN := Lib.hid hR.hN
  clear hR
  go_enter Tryz.func237, Tryz.ntmps237
  go_upto_region 1 with fail
  generalize (w.alloc (.cells #[.pointer (some ⟨g, n * 2, none⟩), .iface T V] 218)).alloc (.cells #[.int .i64 0, .int .i64 0, .string ⟨#[]⟩, .int .i64 0, .int .i64 0] 39) = w0 at *
  have B_r := Lib.hid L2.out.bx
  have r0 := B_r.out.cell 0 (by simp)
  have r1 := B_r.out.cell 1 (by simp)
  have r2 := B_r.out.cell 2 (by simp)
  have r3 := B_r.out.cell 3 (by simp)
  have r4 := B_r.out.cell 4 (by simp)
  simp only [List.getElem_cons_zero, List.getElem_cons_succ] at r0 r1 r2 r3 r4
  have fr0 := B_r.out.froz 0 (by simp)
  have fr1 := B_r.out.froz 1 (by simp)
  have fr2 := B_r.out.froz 2 (by simp)
  have fr3 := B_r.out.froz 3 (by simp)
  have fr4 := B_r.out.froz 4 (by simp)
  have l_r := B_r.out.lt
  go_wp2_with fail
  refine bodyPost_ret (v := .agg #[.int .i64 6, .int .i64 0, .string ⟨#[]⟩, .int .i64 0, .int .i64 0]) (by simp [results, Tryz.results237, go_sem, cell_set_at, cell_set_ne, r0, r1, r2, r3, r4]) rfl ?_
  exact done5 (rC 6) HR.out.st (KeptT.of_below HB.out HN.out) L2.out n2b (by omega) HN.out _ _ _ _ _
set_option maxRecDepth 100000 in
set_option maxHeartbeats 3200000 in
theorem lazy_Get (mx : Int) (N b g m cap n : Nat) (k0 : List UInt8) (nms : List (List UInt8)) (T : TypeId) (V : Value) (x : CallD) (key : List UInt8) (hx : keptB x.fMethod = true) (hn : n < nms.length) (hn3 : n < 3) (hnm : nms.getD n [] = nLazy) (HI : MthOk mx N b (.slice (some ⟨g, 0, none⟩) m cap) k0 nms n FsGet T V "Get" #[.string ⟨key.toArray⟩] x) (HS : MthOk mx N b (.slice (some ⟨g, 0, none⟩) m cap) k0 nms n FsStart T V "Start" #[] (cX mStart))
    (p : PartD) (cv : Value) (w : World) (hR : Ready mx N b (.slice (some ⟨g, 0, none⟩) m cap) cv k0 nms p w) :
    Calls Tryz.prog 235 #[.agg #[.pointer (some ⟨g, n * 2, none⟩), .iface T V], .string ⟨key.toArray⟩] w fun e w' => Does4 N b (.slice (some ⟨g, 0, none⟩) m cap) (lyDo (n + 1) p x) w e w' := by
  have hpl := hR.len
  have hi : n < p.fLayers.length := by omega
  have hnmp : nmL p n = nLazy := (hR.nm n).trans hnm
  have hbl := hR.st.core.box.lt
  have HL := Lib.hid (show lyDo (n + 1) p x = if (lyDo n p x).2.fCode = 2 then lyDo n (lyDo n (lyDo n p x).1 (cX mStart)).1 x else lyDo n p x from by show (if _ then _ else if _ then _ else if _ then _ else _) = _; rw [if_neg (fun h => by rw [hnmp] at h; exact absurd h.1 (by decide)), if_neg (fun h => by rw [hnmp] at h; exact absurd h.1 (by decide)), if_pos ⟨hnmp, hx⟩])
  rw [HL.out]
  clear HL
  obtain ⟨IF, Ir, If, Im, In, Ic⟩ := HI
  have Im4 : ∀ (fuel : Nat) (w : World), (method (fuel + 4) T V _).run Tryz.prog w = .ok (IF, Ir) w := fun fuel w => by have h := Im (fuel + 3 - n) w; rwa [show fuel + 3 - n + n + 1 = fuel + 4 by omega] at h
  have In4 : ∀ (fuel : Nat) (w : World), (nilAhead (fuel + 4) T V _).run Tryz.prog w = .ok (some false) w := fun fuel w => by have h := In (fuel + 3 - n) w; rwa [show fuel + 3 - n + n + 1 = fuel + 4 by omega] at h
  have IC := Lib.hid Ic
  clear Im In Ic
  obtain ⟨SF, Sr, Sf, Sm, Sn, Sc⟩ := HS
  have Sm4 : ∀ (fuel : Nat) (w : World), (method (fuel + 4) T V _).run Tryz.prog w = .ok (SF, Sr) w := fun fuel w => by have h := Sm (fuel + 3 - n) w; rwa [show fuel + 3 - n + n + 1 = fuel + 4 by omega] at h
  have Sn4 : ∀ (fuel : Nat) (w : World), (nilAhead (fuel + 4) T V _).run Tryz.prog w = .ok (some false) w := fun fuel w => by have h := Sn (fuel + 3 - n) w; rwa [show fuel + 3 - n + n + 1 = fuel + 4 by omega] at h
  have SC := Lib.hid Sc
  clear Sm Sn Sc
  have L1 := Lib.hid ((Loc.new w [.pointer (some ⟨g, n * 2, none⟩), .iface T V] 217).past (.cells #[.int .i64 0, .int .i64 0, .string ⟨#[]⟩, .int .i64 0, .int .i64 0] 39))
  have L2 := Lib.hid (Loc.new (w.alloc (.cells #[.pointer (some ⟨g, n * 2, none⟩), .iface T V] 217)) [.int .i64 0, .int .i64 0, .string ⟨#[]⟩, .int .i64 0, .int .i64 0] 39)
  have HB := Lib.hid (belS (bx_box w (.cells #[.pointer (some ⟨g, n * 2, none⟩), .iface T V] 217)) (bx_box (w.alloc (.cells #[.pointer (some ⟨g, n * 2, none⟩), .iface T V] 217)) (.cells #[.int .i64 0, .int .i64 0, .string ⟨#[]⟩, .int .i64 0, .int .i64 0] 39)))
  rw [show (w.alloc (.cells #[.pointer (some ⟨g, n * 2, none⟩), .iface T V] 217)).heap.size = w.heap.size + 1 by simp] at L2
  have n1b : w.heap.size ≠ b := by omega
  have n2b : w.heap.size + 1 ≠ b := by omega
  have HR := Lib.hid (hR.below HB.out)
  have HN := Lib.hid hR.hN
  have HP1 := Lib.hid (lyDo_part n p x (by omega) hR.ok)
  have HN1 := Lib.hid (lyDo_names n p x)
  have HLn := Lib.hid (lyDo_len n p x)
  clear hR
  have HO := Lib.hid (IC.out p)
  generalize lyDo n p x = out at *
  obtain ⟨q, t0, t1, t2, t3, t4⟩ := out
  simp only at HP1 HN1 HLn
  simp only [List.mem_cons, List.not_mem_nil, or_false] at If Sf
  subst Sf
  by_cases h2 : t0 = 2
  · subst h2
    rw [if_pos rfl]
    have HP2 := Lib.hid (lyDo_part n q (cX mStart) (by have := HLn.out; omega) HP1.out)
    have HN2 := Lib.hid (lyDo_names n q (cX mStart))
    have HO2 := Lib.hid (SC.out q)
    have HO3 := Lib.hid (IC.out (lyDo n q (cX mStart)).1)
    generalize lyDo n q (cX mStart) = out2 at *
    obtain ⟨q2, s0, s1, s2, s3, s4⟩ := out2
    simp only at HP2 HN2 HO3 ⊢
    generalize lyDo n q2 x = out3 at *
    obtain ⟨q3, v0, v1, v2, v3, v4⟩ := out3
    rcases If with rfl | rfl | rfl
    all_goals
      go_enter Tryz.func235, Tryz.ntmps235
      have B_a := Lib.hid L1.out.bx
      have a0 := B_a.out.cell 0 (by simp)
      have a1 := B_a.out.cell 1 (by simp)
      simp only [List.getElem_cons_zero, List.getElem_cons_succ] at a0 a1
      have fa0 := B_a.out.froz 0 (by simp)
      have fa1 := B_a.out.froz 1 (by simp)
      have l_a := B_a.out.lt
      go_wp2_with fail
      clear B_a l_a a0 a1 fa0 fa1
      generalize (w.alloc (.cells #[.pointer (some ⟨g, n * 2, none⟩), .iface T V] 217)).alloc (.cells #[.int .i64 0, .int .i64 0, .string ⟨#[]⟩, .int .i64 0, .int .i64 0] 39) = w0 at *
      refine (HO.out _ _ HR.out).mono ?_
      rintro e w1 ⟨rfl, cv1, hs1, hk1⟩
      simp only at hs1 ⊢
      replace HR := Lib.hid (HR.out.next hs1 hk1 HP1.out HN1.out.2 HN1.out.1)
      replace L1 := Lib.hid (L1.out.stays hk1 n1b (by decide) (by decide))
      replace L2 := Lib.hid (L2.out.stays hk1 n2b (by decide) (by decide))
      have HK := Lib.hid ((KeptT.of_below (N := N) (b := b) HB.out HN.out).trans hk1)
      clear hs1 hk1
      unfold vReply
      simp only
      have h1l := L2.out.bx.lt
      have L3 := Lib.hid (Loc.new w1 [.int .i64 2, .int .i64 t1, .string ⟨t2.toArray⟩, .int .i64 t3, .int .i64 t4] 39)
      have hbz := bx_box w1 (.cells #[.int .i64 2, .int .i64 t1, .string ⟨t2.toArray⟩, .int .i64 t3, .int .i64 t4] 39)
      have n3b : w1.heap.size ≠ b := by have := HR.out.st.core.box.lt; omega
      replace HR := Lib.hid (HR.out.below hbz)
      replace L1 := Lib.hid (L1.out.below hbz)
      replace L2 := Lib.hid (L2.out.below hbz)
      replace HK := Lib.hid (HK.out.below hbz HN.out)
      clear hbz
      go_upto_region 2 with fail
      generalize w1.alloc (.cells #[.int .i64 2, .int .i64 t1, .string ⟨t2.toArray⟩, .int .i64 t3, .int .i64 t4] 39) = w2 at *
      generalize w1.heap.size = n3 at *
      have B_e := Lib.hid L3.out.bx
      have e0 := B_e.out.cell 0 (by simp)
      have e1 := B_e.out.cell 1 (by simp)
      have e2 := B_e.out.cell 2 (by simp)
      have e3 := B_e.out.cell 3 (by simp)
      have e4 := B_e.out.cell 4 (by simp)
      simp only [List.getElem_cons_zero, List.getElem_cons_succ] at e0 e1 e2 e3 e4
      have fe0 := B_e.out.froz 0 (by simp)
      have fe1 := B_e.out.froz 1 (by simp)
      have fe2 := B_e.out.froz 2 (by simp)
      have fe3 := B_e.out.froz 3 (by simp)
      have fe4 := B_e.out.froz 4 (by simp)
      have l_e := B_e.out.lt
      have B_a := Lib.hid L1.out.bx
      have a0 := B_a.out.cell 0 (by simp)
      have a1 := B_a.out.cell 1 (by simp)
      simp only [List.getElem_cons_zero, List.getElem_cons_succ] at a0 a1
      have fa0 := B_a.out.froz 0 (by simp)
      have fa1 := B_a.out.froz 1 (by simp)
      have l_a := B_a.out.lt
      go_wp2_with fail
      clear B_a l_a a0 a1 fa0 fa1
      clear e0 e1 e2 e3 e4 fe0 fe1 fe2 fe3 fe4 B_e l_e L3
      refine (HO2.out _ _ HR.out).mono ?_
      rintro e w3 ⟨rfl, cv3, hs3, hk3⟩
      simp only at hs3 ⊢
      replace HR := Lib.hid (HR.out.next hs3 hk3 HP2.out HN2.out.2 HN2.out.1)
      replace L1 := Lib.hid (L1.out.stays hk3 n1b (by decide) (by decide))
      replace L2 := Lib.hid (L2.out.stays hk3 n2b (by decide) (by decide))
      replace HK := Lib.hid (HK.out.trans hk3)
      clear hs3 hk3
      unfold vReply
      simp only
      have B_a := Lib.hid L1.out.bx
      have a0 := B_a.out.cell 0 (by simp)
      have a1 := B_a.out.cell 1 (by simp)
      simp only [List.getElem_cons_zero, List.getElem_cons_succ] at a0 a1
      have fa0 := B_a.out.froz 0 (by simp)
      have fa1 := B_a.out.froz 1 (by simp)
      have l_a := B_a.out.lt
      go_wp2_with fail
      clear B_a l_a a0 a1 fa0 fa1
      refine (HO3.out _ _ HR.out).mono ?_
      rintro e w4 ⟨rfl, cv4, hs4, hk4⟩
      simp only at hs4 ⊢
      replace L2 := Lib.hid (L2.out.stays hk4 n2b (by decide) (by decide))
      replace HK := Lib.hid (HK.out.trans hk4)
      have HS := Lib.hid hs4
      clear hs4 hk4
      unfold vReply
      simp only
      have B_r := Lib.hid L2.out.bx
      have r0 := B_r.out.cell 0 (by simp)
      have r1 := B_r.out.cell 1 (by simp)
      have r2 := B_r.out.cell 2 (by simp)
      have r3 := B_r.out.cell 3 (by simp)
      have r4 := B_r.out.cell 4 (by simp)
      simp only [List.getElem_cons_zero, List.getElem_cons_succ] at r0 r1 r2 r3 r4
      have fr0 := B_r.out.froz 0 (by simp)
      have fr1 := B_r.out.froz 1 (by simp)
      have fr2 := B_r.out.froz 2 (by simp)
      have fr3 := B_r.out.froz 3 (by simp)
      have fr4 := B_r.out.froz 4 (by simp)
      have l_r := B_r.out.lt
      go_wp2_with fail
      refine bodyPost_ret (v := .agg #[.int .i64 v0, .int .i64 v1, .string ⟨v2.toArray⟩, .int .i64 v3, .int .i64 v4]) (by simp [results, Tryz.results235, go_sem, cell_set_at, cell_set_ne, r0, r1, r2, r3, r4]) rfl ?_
      exact done5 ⟨v0, v1, v2, v3, v4⟩ HS.out HK.out L2.out n2b (by omega) HN.out _ _ _ _ _
  · have h2b : (t0 != 2) = true := by simpa using h2
    rw [if_neg h2]
    rcases If with rfl | rfl | rfl
    all_goals
      go_enter Tryz.func235, Tryz.ntmps235
      have B_a := Lib.hid L1.out.bx
      have a0 := B_a.out.cell 0 (by simp)
      have a1 := B_a.out.cell 1 (by simp)
      simp only [List.getElem_cons_zero, List.getElem_cons_succ] at a0 a1
      have fa0 := B_a.out.froz 0 (by simp)
      have fa1 := B_a.out.froz 1 (by simp)
      have l_a := B_a.out.lt
      go_wp2_with fail
      clear B_a l_a a0 a1 fa0 fa1
      generalize (w.alloc (.cells #[.pointer (some ⟨g, n * 2, none⟩), .iface T V] 217)).alloc (.cells #[.int .i64 0, .int .i64 0, .string ⟨#[]⟩, .int .i64 0, .int .i64 0] 39) = w0 at *
      refine (HO.out _ _ HR.out).mono ?_
      rintro e w1 ⟨rfl, cv1, hs1, hk1⟩
      simp only at hs1 ⊢
      replace HR := Lib.hid (HR.out.next hs1 hk1 HP1.out HN1.out.2 HN1.out.1)
      replace L1 := Lib.hid (L1.out.stays hk1 n1b (by decide) (by decide))
      replace L2 := Lib.hid (L2.out.stays hk1 n2b (by decide) (by decide))
      have HK := Lib.hid ((KeptT.of_below (N := N) (b := b) HB.out HN.out).trans hk1)
      clear hs1 hk1
      unfold vReply
      simp only
      have h1l := L2.out.bx.lt
      have L3 := Lib.hid (Loc.new w1 [.int .i64 t0, .int .i64 t1, .string ⟨t2.toArray⟩, .int .i64 t3, .int .i64 t4] 39)
      have hbz := bx_box w1 (.cells #[.int .i64 t0, .int .i64 t1, .string ⟨t2.toArray⟩, .int .i64 t3, .int .i64 t4] 39)
      have n3b : w1.heap.size ≠ b := by have := HR.out.st.core.box.lt; omega
      replace HR := Lib.hid (HR.out.below hbz)
      replace L1 := Lib.hid (L1.out.below hbz)
      replace L2 := Lib.hid (L2.out.below hbz)
      replace HK := Lib.hid (HK.out.below hbz HN.out)
      clear hbz
      go_upto_region 2 with fail
      generalize w1.alloc (.cells #[.int .i64 t0, .int .i64 t1, .string ⟨t2.toArray⟩, .int .i64 t3, .int .i64 t4] 39) = w2 at *
      generalize w1.heap.size = n3 at *
      have B_e := Lib.hid L3.out.bx
      have e0 := B_e.out.cell 0 (by simp)
      have e1 := B_e.out.cell 1 (by simp)
      have e2 := B_e.out.cell 2 (by simp)
      have e3 := B_e.out.cell 3 (by simp)
      have e4 := B_e.out.cell 4 (by simp)
      simp only [List.getElem_cons_zero, List.getElem_cons_succ] at e0 e1 e2 e3 e4
      have fe0 := B_e.out.froz 0 (by simp)
      have fe1 := B_e.out.froz 1 (by simp)
      have fe2 := B_e.out.froz 2 (by simp)
      have fe3 := B_e.out.froz 3 (by simp)
      have fe4 := B_e.out.froz 4 (by simp)
      have l_e := B_e.out.lt
      have B_r := Lib.hid L2.out.bx
      have r0 := B_r.out.cell 0 (by simp)
      have r1 := B_r.out.cell 1 (by simp)
      have r2 := B_r.out.cell 2 (by simp)
      have r3 := B_r.out.cell 3 (by simp)
      have r4 := B_r.out.cell 4 (by simp)
      simp only [List.getElem_cons_zero, List.getElem_cons_succ] at r0 r1 r2 r3 r4
      have fr0 := B_r.out.froz 0 (by simp)
      have fr1 := B_r.out.froz 1 (by simp)
      have fr2 := B_r.out.froz 2 (by simp)
      have fr3 := B_r.out.froz 3 (by simp)
      have fr4 := B_r.out.froz 4 (by simp)
      have l_r := B_r.out.lt
      go_wp2_with fail
      refine bodyPost_ret (v := .agg #[.int .i64 t0, .int .i64 t1, .string ⟨t2.toArray⟩, .int .i64 t3, .int .i64 t4]) (by simp [results, Tryz.results235, go_sem, cell_set_at, cell_set_ne, r0, r1, r2, r3, r4]) rfl ?_
      exact done5 ⟨t0, t1, t2, t3, t4⟩ HR.out.st HK.out L2.out n2b (by omega) HN.out _ _ _ _ _
set_option maxRecDepth 100000 in
set_option maxHeartbeats 3200000 in
theorem lazy_Put (mx : Int) (N b g m cap n : Nat) (k0 : List UInt8) (nms : List (List UInt8)) (T : TypeId) (V : Value) (x : CallD) (key : List UInt8) (val : Int) (hx : keptB x.fMethod = true) (hn : n < nms.length) (hn3 : n < 3) (hnm : nms.getD n [] = nLazy) (HI : MthOk mx N b (.slice (some ⟨g, 0, none⟩) m cap) k0 nms n FsPut T V "Put" #[.string ⟨key.toArray⟩, .int .i64 val] x) (HS : MthOk mx N b (.slice (some ⟨g, 0, none⟩) m cap) k0 nms n FsStart T V "Start" #[] (cX mStart))
    (p : PartD) (cv : Value) (w : World) (hR : Ready mx N b (.slice (some ⟨g, 0, none⟩) m cap) cv k0 nms p w) :
    Calls Tryz.prog 236 #[.agg #[.pointer (some ⟨g, n * 2, none⟩), .iface T V], .string ⟨key.toArray⟩, .int .i64 val] w fun e w' => Does4 N b (.slice (some ⟨g, 0, none⟩) m cap) (lyDo (n + 1) p x) w e w' := by
  have hpl := hR.len
  have hi : n < p.fLayers.length := by omega
  have hnmp : nmL p n = nLazy := (hR.nm n).trans hnm
  have hbl := hR.st.core.box.lt
  have HL := Lib.hid (show lyDo (n + 1) p x = if (lyDo n p x).2.fCode = 2 then lyDo n (lyDo n (lyDo n p x).1 (cX mStart)).1 x else lyDo n p x from by show (if _ then _ else if _ then _ else if _ then _ else _) = _; rw [if_neg (fun h => by rw [hnmp] at h; exact absurd h.1 (by decide)), if_neg (fun h => by rw [hnmp] at h; exact absurd h.1 (by decide)), if_pos ⟨hnmp, hx⟩])
  rw [HL.out]
  clear HL
  obtain ⟨IF, Ir, If, Im, In, Ic⟩ := HI
  have Im4 : ∀ (fuel : Nat) (w : World), (method (fuel + 4) T V _).run Tryz.prog w = .ok (IF, Ir) w := fun fuel w => by have h := Im (fuel + 3 - n) w; rwa [show fuel + 3 - n + n + 1 = fuel + 4 by omega] at h
  have In4 : ∀ (fuel : Nat) (w : World), (nilAhead (fuel + 4) T V _).run Tryz.prog w = .ok (some false) w := fun fuel w => by have h := In (fuel + 3 - n) w; rwa [show fuel + 3 - n + n + 1 = fuel + 4 by omega] at h
  have IC := Lib.hid Ic
  clear Im In Ic
  obtain ⟨SF, Sr, Sf, Sm, Sn, Sc⟩ := HS
  have Sm4 : ∀ (fuel : Nat) (w : World), (method (fuel + 4) T V _).run Tryz.prog w = .ok (SF, Sr) w := fun fuel w => by have h := Sm (fuel + 3 - n) w; rwa [show fuel + 3 - n + n + 1 = fuel + 4 by omega] at h
  have Sn4 : ∀ (fuel : Nat) (w : World), (nilAhead (fuel + 4) T V _).run Tryz.prog w = .ok (some false) w := fun fuel w => by have h := Sn (fuel + 3 - n) w; rwa [show fuel + 3 - n + n + 1 = fuel + 4 by omega] at h
  have SC := Lib.hid Sc
  clear Sm Sn Sc
  have L1 := Lib.hid ((Loc.new w [.pointer (some ⟨g, n * 2, none⟩), .iface T V] 217).past (.cells #[.int .i64 0, .int .i64 0, .string ⟨#[]⟩, .int .i64 0, .int .i64 0] 39))
  have L2 := Lib.hid (Loc.new (w.alloc (.cells #[.pointer (some ⟨g, n * 2, none⟩), .iface T V] 217)) [.int .i64 0, .int .i64 0, .string ⟨#[]⟩, .int .i64 0, .int .i64 0] 39)
  have HB := Lib.hid (belS (bx_box w (.cells #[.pointer (some ⟨g, n * 2, none⟩), .iface T V] 217)) (bx_box (w.alloc (.cells #[.pointer (some ⟨g, n * 2, none⟩), .iface T V] 217)) (.cells #[.int .i64 0, .int .i64 0, .string ⟨#[]⟩, .int .i64 0, .int .i64 0] 39)))
  rw [show (w.alloc (.cells #[.pointer (some ⟨g, n * 2, none⟩), .iface T V] 217)).heap.size = w.heap.size + 1 by simp] at L2
  have n1b : w.heap.size ≠ b := by omega
  have n2b : w.heap.size + 1 ≠ b := by omega
  have HR := Lib.hid (hR.below HB.out)
  have HN := Lib.hid hR.hN
  have HP1 := Lib.hid (lyDo_part n p x (by omega) hR.ok)
  have HN1 := Lib.hid (lyDo_names n p x)
  have HLn := Lib.hid (lyDo_len n p x)
  clear hR
  have HO := Lib.hid (IC.out p)
  generalize lyDo n p x = out at *
  obtain ⟨q, t0, t1, t2, t3, t4⟩ := out
  simp only at HP1 HN1 HLn
  simp only [List.mem_cons, List.not_mem_nil, or_false] at If Sf
  subst Sf
  by_cases h2 : t0 = 2
  · subst h2
    rw [if_pos rfl]
    have HP2 := Lib.hid (lyDo_part n q (cX mStart) (by have := HLn.out; omega) HP1.out)
    have HN2 := Lib.hid (lyDo_names n q (cX mStart))
    have HO2 := Lib.hid (SC.out q)
    have HO3 := Lib.hid (IC.out (lyDo n q (cX mStart)).1)
    generalize lyDo n q (cX mStart) = out2 at *
    obtain ⟨q2, s0, s1, s2, s3, s4⟩ := out2
    simp only at HP2 HN2 HO3 ⊢
    generalize lyDo n q2 x = out3 at *
    obtain ⟨q3, v0, v1, v2, v3, v4⟩ := out3
    rcases If with rfl | rfl | rfl | rfl
    all_goals
      go_enter Tryz.func236, Tryz.ntmps236
      have B_a := Lib.hid L1.out.bx
      have a0 := B_a.out.cell 0 (by simp)
      have a1 := B_a.out.cell 1 (by simp)
      simp only [List.getElem_cons_zero, List.getElem_cons_succ] at a0 a1
      have fa0 := B_a.out.froz 0 (by simp)
      have fa1 := B_a.out.froz 1 (by simp)
      have l_a := B_a.out.lt
      go_wp2_with fail
      clear B_a l_a a0 a1 fa0 fa1
      generalize (w.alloc (.cells #[.pointer (some ⟨g, n * 2, none⟩), .iface T V] 217)).alloc (.cells #[.int .i64 0, .int .i64 0, .string ⟨#[]⟩, .int .i64 0, .int .i64 0] 39) = w0 at *
      refine (HO.out _ _ HR.out).mono ?_
      rintro e w1 ⟨rfl, cv1, hs1, hk1⟩
      simp only at hs1 ⊢
      replace HR := Lib.hid (HR.out.next hs1 hk1 HP1.out HN1.out.2 HN1.out.1)
      replace L1 := Lib.hid (L1.out.stays hk1 n1b (by decide) (by decide))
      replace L2 := Lib.hid (L2.out.stays hk1 n2b (by decide) (by decide))
      have HK := Lib.hid ((KeptT.of_below (N := N) (b := b) HB.out HN.out).trans hk1)
      clear hs1 hk1
      unfold vReply
      simp only
      have h1l := L2.out.bx.lt
      have L3 := Lib.hid (Loc.new w1 [.int .i64 2, .int .i64 t1, .string ⟨t2.toArray⟩, .int .i64 t3, .int .i64 t4] 39)
      have hbz := bx_box w1 (.cells #[.int .i64 2, .int .i64 t1, .string ⟨t2.toArray⟩, .int .i64 t3, .int .i64 t4] 39)
      have n3b : w1.heap.size ≠ b := by have := HR.out.st.core.box.lt; omega
      replace HR := Lib.hid (HR.out.below hbz)
      replace L1 := Lib.hid (L1.out.below hbz)
      replace L2 := Lib.hid (L2.out.below hbz)
      replace HK := Lib.hid (HK.out.below hbz HN.out)
      clear hbz
      go_upto_region 2 with fail
      generalize w1.alloc (.cells #[.int .i64 2, .int .i64 t1, .string ⟨t2.toArray⟩, .int .i64 t3, .int .i64 t4] 39) = w2 at *
      generalize w1.heap.size = n3 at *
      have B_e := Lib.hid L3.out.bx
      have e0 := B_e.out.cell 0 (by simp)
      have e1 := B_e.out.cell 1 (by simp)
      have e2 := B_e.out.cell 2 (by simp)
      have e3 := B_e.out.cell 3 (by simp)
      have e4 := B_e.out.cell 4 (by simp)
      simp only [List.getElem_cons_zero, List.getElem_cons_succ] at e0 e1 e2 e3 e4
      have fe0 := B_e.out.froz 0 (by simp)
      have fe1 := B_e.out.froz 1 (by simp)
      have fe2 := B_e.out.froz 2 (by simp)
      have fe3 := B_e.out.froz 3 (by simp)
      have fe4 := B_e.out.froz 4 (by simp)
      have l_e := B_e.out.lt
      have B_a := Lib.hid L1.out.bx
      have a0 := B_a.out.cell 0 (by simp)
      have a1 := B_a.out.cell 1 (by simp)
      simp only [List.getElem_cons_zero, List.getElem_cons_succ] at a0 a1
      have fa0 := B_a.out.froz 0 (by simp)
      have fa1 := B_a.out.froz 1 (by simp)
      have l_a := B_a.out.lt
      go_wp2_with fail
      clear B_a l_a a0 a1 fa0 fa1
      clear e0 e1 e2 e3 e4 fe0 fe1 fe2 fe3 fe4 B_e l_e L3
      refine (HO2.out _ _ HR.out).mono ?_
      rintro e w3 ⟨rfl, cv3, hs3, hk3⟩
      simp only at hs3 ⊢
      replace HR := Lib.hid (HR.out.next hs3 hk3 HP2.out HN2.out.2 HN2.out.1)
      replace L1 := Lib.hid (L1.out.stays hk3 n1b (by decide) (by decide))
      replace L2 := Lib.hid (L2.out.stays hk3 n2b (by decide) (by decide))
      replace HK := Lib.hid (HK.out.trans hk3)
      clear hs3 hk3
      unfold vReply
      simp only
      have B_a := Lib.hid L1.out.bx
      have a0 := B_a.out.cell 0 (by simp)
      have a1 := B_a.out.cell 1 (by simp)
      simp only [List.getElem_cons_zero, List.getElem_cons_succ] at a0 a1
      have fa0 := B_a.out.froz 0 (by simp)
      have fa1 := B_a.out.froz 1 (by simp)
      have l_a := B_a.out.lt
      go_wp2_with fail
      clear B_a l_a a0 a1 fa0 fa1
      refine (HO3.out _ _ HR.out).mono ?_
      rintro e w4 ⟨rfl, cv4, hs4, hk4⟩
      simp only at hs4 ⊢
      replace L2 := Lib.hid (L2.out.stays hk4 n2b (by decide) (by decide))
      replace HK := Lib.hid (HK.out.trans hk4)
      have HS := Lib.hid hs4
      clear hs4 hk4
      unfold vReply
      simp only
      have B_r := Lib.hid L2.out.bx
      have r0 := B_r.out.cell 0 (by simp)
      have r1 := B_r.out.cell 1 (by simp)
      have r2 := B_r.out.cell 2 (by simp)
      have r3 := B_r.out.cell 3 (by simp)
      have r4 := B_r.out.cell 4 (by simp)
      simp only [List.getElem_cons_zero, List.getElem_cons_succ] at r0 r1 r2 r3 r4
      have fr0 := B_r.out.froz 0 (by simp)
      have fr1 := B_r.out.froz 1 (by simp)
      have fr2 := B_r.out.froz 2 (by simp)
      have fr3 := B_r.out.froz 3 (by simp)
      have fr4 := B_r.out.froz 4 (by simp)
      have l_r := B_r.out.lt
      go_wp2_with fail
      refine bodyPost_ret (v := .agg #[.int .i64 v0, .int .i64 v1, .string ⟨v2.toArray⟩, .int .i64 v3, .int .i64 v4]) (by simp [results, Tryz.results236, go_sem, cell_set_at, cell_set_ne, r0, r1, r2, r3, r4]) rfl ?_
      exact done5 ⟨v0, v1, v2, v3, v4⟩ HS.out HK.out L2.out n2b (by omega) HN.out _ _ _ _ _
  · have h2b : (t0 != 2) = true := by simpa using h2
    rw [if_neg h2]
    rcases If with rfl | rfl | rfl | rfl
    all_goals
      go_enter Tryz.func236, Tryz.ntmps236
      have B_a := Lib.hid L1.out.bx
      have a0 := B_a.out.cell 0 (by simp)
      have a1 := B_a.out.cell 1 (by simp)
      simp only [List.getElem_cons_zero, List.getElem_cons_succ] at a0 a1
      have fa0 := B_a.out.froz 0 (by simp)
      have fa1 := B_a.out.froz 1 (by simp)
      have l_a := B_a.out.lt
      go_wp2_with fail
      clear B_a l_a a0 a1 fa0 fa1
      generalize (w.alloc (.cells #[.pointer (some ⟨g, n * 2, none⟩), .iface T V] 217)).alloc (.cells #[.int .i64 0, .int .i64 0, .string ⟨#[]⟩, .int .i64 0, .int .i64 0] 39) = w0 at *
      refine (HO.out _ _ HR.out).mono ?_
      rintro e w1 ⟨rfl, cv1, hs1, hk1⟩
      simp only at hs1 ⊢
      replace HR := Lib.hid (HR.out.next hs1 hk1 HP1.out HN1.out.2 HN1.out.1)
      replace L1 := Lib.hid (L1.out.stays hk1 n1b (by decide) (by decide))
      replace L2 := Lib.hid (L2.out.stays hk1 n2b (by decide) (by decide))
      have HK := Lib.hid ((KeptT.of_below (N := N) (b := b) HB.out HN.out).trans hk1)
      clear hs1 hk1
      unfold vReply
      simp only
      have h1l := L2.out.bx.lt
      have L3 := Lib.hid (Loc.new w1 [.int .i64 t0, .int .i64 t1, .string ⟨t2.toArray⟩, .int .i64 t3, .int .i64 t4] 39)
      have hbz := bx_box w1 (.cells #[.int .i64 t0, .int .i64 t1, .string ⟨t2.toArray⟩, .int .i64 t3, .int .i64 t4] 39)
      have n3b : w1.heap.size ≠ b := by have := HR.out.st.core.box.lt; omega
      replace HR := Lib.hid (HR.out.below hbz)
      replace L1 := Lib.hid (L1.out.below hbz)
      replace L2 := Lib.hid (L2.out.below hbz)
      replace HK := Lib.hid (HK.out.below hbz HN.out)
      clear hbz
      go_upto_region 2 with fail
      generalize w1.alloc (.cells #[.int .i64 t0, .int .i64 t1, .string ⟨t2.toArray⟩, .int .i64 t3, .int .i64 t4] 39) = w2 at *
      generalize w1.heap.size = n3 at *
      have B_e := Lib.hid L3.out.bx
      have e0 := B_e.out.cell 0 (by simp)
      have e1 := B_e.out.cell 1 (by simp)
      have e2 := B_e.out.cell 2 (by simp)
      have e3 := B_e.out.cell 3 (by simp)
      have e4 := B_e.out.cell 4 (by simp)
      simp only [List.getElem_cons_zero, List.getElem_cons_succ] at e0 e1 e2 e3 e4
      have fe0 := B_e.out.froz 0 (by simp)
      have fe1 := B_e.out.froz 1 (by simp)
      have fe2 := B_e.out.froz 2 (by simp)
      have fe3 := B_e.out.froz 3 (by simp)
      have fe4 := B_e.out.froz 4 (by simp)
      have l_e := B_e.out.lt
      have B_r := Lib.hid L2.out.bx
      have r0 := B_r.out.cell 0 (by simp)
      have r1 := B_r.out.cell 1 (by simp)
      have r2 := B_r.out.cell 2 (by simp)
      have r3 := B_r.out.cell 3 (by simp)
      have r4 := B_r.out.cell 4 (by simp)
      simp only [List.getElem_cons_zero, List.getElem_cons_succ] at r0 r1 r2 r3 r4
      have fr0 := B_r.out.froz 0 (by simp)
      have fr1 := B_r.out.froz 1 (by simp)
      have fr2 := B_r.out.froz 2 (by simp)
      have fr3 := B_r.out.froz 3 (by simp)
      have fr4 := B_r.out.froz 4 (by simp)
      have l_r := B_r.out.lt
      go_wp2_with fail
      refine bodyPost_ret (v := .agg #[.int .i64 t0, .int .i64 t1, .string ⟨t2.toArray⟩, .int .i64 t3, .int .i64 t4]) (by simp [results, Tryz.results236, go_sem, cell_set_at, cell_set_ne, r0, r1, r2, r3, r4]) rfl ?_
      exact done5 ⟨t0, t1, t2, t3, t4⟩ HR.out.st HK.out L2.out n2b (by omega) HN.out _ _ _ _ _
set_option maxRecDepth 100000 in
set_option maxHeartbeats 3200000 in
theorem hears_Hear (mx : Int) (N b g m cap n : Nat) (k0 : List UInt8) (nms : List (List UInt8)) (T : TypeId) (V : Value) (x : CallD) (val : Int) (hx : x.fMethod = mHear) (hxv : x.fValue = val) (hv0 : 0 ≤ val) (hn : n < nms.length) (hn3 : n < 3) (hnm : nms.getD n [] = nHears) (HS : MthOk mx N b (.slice (some ⟨g, 0, none⟩) m cap) k0 nms n FsStart T V "Start" #[] (cX mStart)) (HP : MthOk mx N b (.slice (some ⟨g, 0, none⟩) m cap) k0 nms n FsStop T V "Stop" #[] (cX mStop))
    (p : PartD) (cv : Value) (w : World) (hR : Ready mx N b (.slice (some ⟨g, 0, none⟩) m cap) cv k0 nms p w) :
    Calls Tryz.prog 238 #[.agg #[.pointer (some ⟨g, n * 2, none⟩), .iface T V], .int .i64 val] w fun e w' => Does4 N b (.slice (some ⟨g, 0, none⟩) m cap) (lyDo (n + 1) p x) w e w' := by
  have hpl := hR.len
  have hi : n < p.fLayers.length := by omega
  have hnmp : nmL p n = nHears := (hR.nm n).trans hnm
  have hbl := hR.st.core.box.lt
  have HL := Lib.hid (show lyDo (n + 1) p x = if 1 < val then (updL p n, ⟨0, cntL (updL p n) n, [], 0, 0⟩) else lyDo n (updL p n) (cX (if val = 0 then mStop else mStart)) from by subst hxv; show (if _ then _ else if _ then _ else if _ then _ else if _ then _ else if _ then _ else _) = _; rw [if_neg (fun h => by rw [hnmp] at h; exact absurd h.1 (by decide)), if_neg (fun h => by rw [hnmp] at h; exact absurd h.1 (by decide)), if_neg (fun h => by rw [hnmp] at h; exact absurd h.1 (by decide)), if_neg (fun h => by rw [hnmp] at h; exact absurd h.1 (by decide)), if_pos ⟨hnmp, hx⟩])
  rw [HL.out]
  clear HL
  obtain ⟨SF, Sr, Sf, Sm, Sn, Sc⟩ := HS
  have Sm4 : ∀ (fuel : Nat) (w : World), (method (fuel + 4) T V _).run Tryz.prog w = .ok (SF, Sr) w := fun fuel w => by have h := Sm (fuel + 3 - n) w; rwa [show fuel + 3 - n + n + 1 = fuel + 4 by omega] at h
  have Sn4 : ∀ (fuel : Nat) (w : World), (nilAhead (fuel + 4) T V _).run Tryz.prog w = .ok (some false) w := fun fuel w => by have h := Sn (fuel + 3 - n) w; rwa [show fuel + 3 - n + n + 1 = fuel + 4 by omega] at h
  have SC := Lib.hid Sc
  clear Sm Sn Sc
  obtain ⟨PF, Pr, Pf, Pm, Pn, Pc⟩ := HP
  have Pm4 : ∀ (fuel : Nat) (w : World), (method (fuel + 4) T V _).run Tryz.prog w = .ok (PF, Pr) w := fun fuel w => by have h := Pm (fuel + 3 - n) w; rwa [show fuel + 3 - n + n + 1 = fuel + 4 by omega] at h
  have Pn4 : ∀ (fuel : Nat) (w : World), (nilAhead (fuel + 4) T V _).run Tryz.prog w = .ok (some false) w := fun fuel w => by have h := Pn (fuel + 3 - n) w; rwa [show fuel + 3 - n + n + 1 = fuel + 4 by omega] at h
  have PC := Lib.hid Pc
  clear Pm Pn Pc
  have L1 := Lib.hid ((Loc.new w [.pointer (some ⟨g, n * 2, none⟩), .iface T V] 219).past (.cells #[.int .i64 0, .int .i64 0, .string ⟨#[]⟩, .int .i64 0, .int .i64 0] 39))
  have L2 := Lib.hid (Loc.new (w.alloc (.cells #[.pointer (some ⟨g, n * 2, none⟩), .iface T V] 219)) [.int .i64 0, .int .i64 0, .string ⟨#[]⟩, .int .i64 0, .int .i64 0] 39)
  have HB := Lib.hid (belS (bx_box w (.cells #[.pointer (some ⟨g, n * 2, none⟩), .iface T V] 219)) (bx_box (w.alloc (.cells #[.pointer (some ⟨g, n * 2, none⟩), .iface T V] 219)) (.cells #[.int .i64 0, .int .i64 0, .string ⟨#[]⟩, .int .i64 0, .int .i64 0] 39)))
  rw [show (w.alloc (.cells #[.pointer (some ⟨g, n * 2, none⟩), .iface T V] 219)).heap.size = w.heap.size + 1 by simp] at L2
  have n1b : w.heap.size ≠ b := by omega
  have n2b : w.heap.size + 1 ≠ b := by omega
  have HR := Lib.hid (hR.below HB.out)
  have HN := Lib.hid hR.hN
  have hcr := cnt_range hR.ok n hi
  have HU := Lib.hid (upd_part hR.ok n hi (by rw [hnmp]; exact hears_counted))
  clear hR
  simp only [List.mem_cons, List.not_mem_nil, or_false] at Sf Pf
  subst Sf
  subst Pf
  by_cases h0 : val = 0
  · subst h0
    rw [if_neg (by decide)]
    have HO := Lib.hid (PC.out (updL p n))
    have HE := Lib.hid (show cX (if (0 : Int) = 0 then mStop else mStart) = (cX mStop) from rfl)
    rw [HE.out]
    clear HE
    generalize lyDo n (updL p n) (cX mStop) = out at *
    obtain ⟨q, t0, t1, t2, t3, t4⟩ := out
    go_enter Tryz.func238, Tryz.ntmps238
    have B_a := Lib.hid L1.out.bx
    have a0 := B_a.out.cell 0 (by simp)
    have a1 := B_a.out.cell 1 (by simp)
    simp only [List.getElem_cons_zero, List.getElem_cons_succ] at a0 a1
    have fa0 := B_a.out.froz 0 (by simp)
    have fa1 := B_a.out.froz 1 (by simp)
    have l_a := B_a.out.lt
    go_wp2_with fail
    clear B_a l_a a0 a1 fa0 fa1
    generalize (w.alloc (.cells #[.pointer (some ⟨g, n * 2, none⟩), .iface T V] 219)).alloc (.cells #[.int .i64 0, .int .i64 0, .string ⟨#[]⟩, .int .i64 0, .int .i64 0] 39) = w0 at *
    refine (countCall_c N b g m cap n cv p _ HR.out.st HR.out.hN hi hcr).mono ?_
    rintro e w1 ⟨rfl, hs1, hk1⟩
    replace HR := Lib.hid (HR.out.next hs1 hk1 HU.out rfl (names_upd p n))
    replace L1 := Lib.hid (L1.out.stays hk1 n1b (by decide) (by decide))
    replace L2 := Lib.hid (L2.out.stays hk1 n2b (by decide) (by decide))
    have HK := Lib.hid ((KeptT.of_below (N := N) (b := b) HB.out HN.out).trans hk1)
    clear hs1 hk1
    have B_a := Lib.hid L1.out.bx
    have a0 := B_a.out.cell 0 (by simp)
    have a1 := B_a.out.cell 1 (by simp)
    simp only [List.getElem_cons_zero, List.getElem_cons_succ] at a0 a1
    have fa0 := B_a.out.froz 0 (by simp)
    have fa1 := B_a.out.froz 1 (by simp)
    have l_a := B_a.out.lt
    go_wp2_with fail
    clear B_a l_a a0 a1 fa0 fa1
    refine (HO.out _ _ HR.out).mono ?_
    rintro e w2 ⟨rfl, cv2, hs2, hk2⟩
    simp only at hs2 ⊢
    replace L2 := Lib.hid (L2.out.stays hk2 n2b (by decide) (by decide))
    replace HK := Lib.hid (HK.out.trans hk2)
    have HS := Lib.hid hs2
    clear hs2 hk2
    unfold vReply
    simp only
    have B_r := Lib.hid L2.out.bx
    have r0 := B_r.out.cell 0 (by simp)
    have r1 := B_r.out.cell 1 (by simp)
    have r2 := B_r.out.cell 2 (by simp)
    have r3 := B_r.out.cell 3 (by simp)
    have r4 := B_r.out.cell 4 (by simp)
    simp only [List.getElem_cons_zero, List.getElem_cons_succ] at r0 r1 r2 r3 r4
    have fr0 := B_r.out.froz 0 (by simp)
    have fr1 := B_r.out.froz 1 (by simp)
    have fr2 := B_r.out.froz 2 (by simp)
    have fr3 := B_r.out.froz 3 (by simp)
    have fr4 := B_r.out.froz 4 (by simp)
    have l_r := B_r.out.lt
    go_wp2_with fail
    refine bodyPost_ret (v := .agg #[.int .i64 t0, .int .i64 t1, .string ⟨t2.toArray⟩, .int .i64 t3, .int .i64 t4]) (by simp [results, Tryz.results238, go_sem, cell_set_at, cell_set_ne, r0, r1, r2, r3, r4]) rfl ?_
    exact done5 ⟨t0, t1, t2, t3, t4⟩ HS.out HK.out L2.out n2b (by omega) HN.out _ _ _ _ _
  have h0b : (val == 0) = false := by simpa using h0
  by_cases h1 : val = 1
  · subst h1
    rw [if_neg (by decide)]
    have HO := Lib.hid (SC.out (updL p n))
    have HE := Lib.hid (show cX (if (1 : Int) = 0 then mStop else mStart) = (cX mStart) from rfl)
    rw [HE.out]
    clear HE
    generalize lyDo n (updL p n) (cX mStart) = out at *
    obtain ⟨q, t0, t1, t2, t3, t4⟩ := out
    go_enter Tryz.func238, Tryz.ntmps238
    have B_a := Lib.hid L1.out.bx
    have a0 := B_a.out.cell 0 (by simp)
    have a1 := B_a.out.cell 1 (by simp)
    simp only [List.getElem_cons_zero, List.getElem_cons_succ] at a0 a1
    have fa0 := B_a.out.froz 0 (by simp)
    have fa1 := B_a.out.froz 1 (by simp)
    have l_a := B_a.out.lt
    go_wp2_with fail
    clear B_a l_a a0 a1 fa0 fa1
    generalize (w.alloc (.cells #[.pointer (some ⟨g, n * 2, none⟩), .iface T V] 219)).alloc (.cells #[.int .i64 0, .int .i64 0, .string ⟨#[]⟩, .int .i64 0, .int .i64 0] 39) = w0 at *
    refine (countCall_c N b g m cap n cv p _ HR.out.st HR.out.hN hi hcr).mono ?_
    rintro e w1 ⟨rfl, hs1, hk1⟩
    replace HR := Lib.hid (HR.out.next hs1 hk1 HU.out rfl (names_upd p n))
    replace L1 := Lib.hid (L1.out.stays hk1 n1b (by decide) (by decide))
    replace L2 := Lib.hid (L2.out.stays hk1 n2b (by decide) (by decide))
    have HK := Lib.hid ((KeptT.of_below (N := N) (b := b) HB.out HN.out).trans hk1)
    clear hs1 hk1
    have B_a := Lib.hid L1.out.bx
    have a0 := B_a.out.cell 0 (by simp)
    have a1 := B_a.out.cell 1 (by simp)
    simp only [List.getElem_cons_zero, List.getElem_cons_succ] at a0 a1
    have fa0 := B_a.out.froz 0 (by simp)
    have fa1 := B_a.out.froz 1 (by simp)
    have l_a := B_a.out.lt
    go_wp2_with fail
    clear B_a l_a a0 a1 fa0 fa1
    refine (HO.out _ _ HR.out).mono ?_
    rintro e w2 ⟨rfl, cv2, hs2, hk2⟩
    simp only at hs2 ⊢
    replace L2 := Lib.hid (L2.out.stays hk2 n2b (by decide) (by decide))
    replace HK := Lib.hid (HK.out.trans hk2)
    have HS := Lib.hid hs2
    clear hs2 hk2
    unfold vReply
    simp only
    have B_r := Lib.hid L2.out.bx
    have r0 := B_r.out.cell 0 (by simp)
    have r1 := B_r.out.cell 1 (by simp)
    have r2 := B_r.out.cell 2 (by simp)
    have r3 := B_r.out.cell 3 (by simp)
    have r4 := B_r.out.cell 4 (by simp)
    simp only [List.getElem_cons_zero, List.getElem_cons_succ] at r0 r1 r2 r3 r4
    have fr0 := B_r.out.froz 0 (by simp)
    have fr1 := B_r.out.froz 1 (by simp)
    have fr2 := B_r.out.froz 2 (by simp)
    have fr3 := B_r.out.froz 3 (by simp)
    have fr4 := B_r.out.froz 4 (by simp)
    have l_r := B_r.out.lt
    go_wp2_with fail
    refine bodyPost_ret (v := .agg #[.int .i64 t0, .int .i64 t1, .string ⟨t2.toArray⟩, .int .i64 t3, .int .i64 t4]) (by simp [results, Tryz.results238, go_sem, cell_set_at, cell_set_ne, r0, r1, r2, r3, r4]) rfl ?_
    exact done5 ⟨t0, t1, t2, t3, t4⟩ HS.out HK.out L2.out n2b (by omega) HN.out _ _ _ _ _
  have h1b : (val == 1) = false := by simpa using h1
  rw [if_pos (by omega)]
  have hiu : n < (updL p n).fLayers.length := by have := congrArg List.length (names_upd p n); simp at this; omega
  have HLY := Lib.hid (fun cv w (h : PSt N b (.slice (some ⟨g, 0, none⟩) m cap) cv (updL p n) w) => h.lay n hiu)
  generalize cntL (updL p n) n = ct at *
  go_enter Tryz.func238, Tryz.ntmps238
  have B_a := Lib.hid L1.out.bx
  have a0 := B_a.out.cell 0 (by simp)
  have a1 := B_a.out.cell 1 (by simp)
  simp only [List.getElem_cons_zero, List.getElem_cons_succ] at a0 a1
  have fa0 := B_a.out.froz 0 (by simp)
  have fa1 := B_a.out.froz 1 (by simp)
  have l_a := B_a.out.lt
  go_wp2_with fail
  clear B_a l_a a0 a1 fa0 fa1
  generalize (w.alloc (.cells #[.pointer (some ⟨g, n * 2, none⟩), .iface T V] 219)).alloc (.cells #[.int .i64 0, .int .i64 0, .string ⟨#[]⟩, .int .i64 0, .int .i64 0] 39) = w0 at *
  refine (countCall_c N b g m cap n cv p _ HR.out.st HR.out.hN hi hcr).mono ?_
  rintro e w1 ⟨rfl, hs1, hk1⟩
  replace HR := Lib.hid (HR.out.next hs1 hk1 HU.out rfl (names_upd p n))
  replace L1 := Lib.hid (L1.out.stays hk1 n1b (by decide) (by decide))
  replace L2 := Lib.hid (L2.out.stays hk1 n2b (by decide) (by decide))
  have HK := Lib.hid ((KeptT.of_below (N := N) (b := b) HB.out HN.out).trans hk1)
  clear hs1 hk1
  obtain ⟨_, d1, _, hgl, _, hm0, _⟩ := HLY.out _ _ HR.out.st
  clear hm0
  have B_a := Lib.hid L1.out.bx
  have a0 := B_a.out.cell 0 (by simp)
  have a1 := B_a.out.cell 1 (by simp)
  simp only [List.getElem_cons_zero, List.getElem_cons_succ] at a0 a1
  have fa0 := B_a.out.froz 0 (by simp)
  have fa1 := B_a.out.froz 1 (by simp)
  have l_a := B_a.out.lt
  have B_r := Lib.hid L2.out.bx
  have r0 := B_r.out.cell 0 (by simp)
  have r1 := B_r.out.cell 1 (by simp)
  have r2 := B_r.out.cell 2 (by simp)
  have r3 := B_r.out.cell 3 (by simp)
  have r4 := B_r.out.cell 4 (by simp)
  simp only [List.getElem_cons_zero, List.getElem_cons_succ] at r0 r1 r2 r3 r4
  have fr0 := B_r.out.froz 0 (by simp)
  have fr1 := B_r.out.froz 1 (by simp)
  have fr2 := B_r.out.froz 2 (by simp)
  have fr3 := B_r.out.froz 3 (by simp)
  have fr4 := B_r.out.froz 4 (by simp)
  have l_r := B_r.out.lt
  go_wp2_with fail
  refine bodyPost_ret (v := .agg #[.int .i64 0, .int .i64 ct, .string ⟨#[]⟩, .int .i64 0, .int .i64 0]) (by simp [results, Tryz.results238, go_sem, cell_set_at, cell_set_ne, r0, r1, r2, r3, r4]) rfl ?_
  exact done5 ⟨0, ct, [], 0, 0⟩ HR.out.st HK.out L2.out n2b (by omega) HN.out _ _ _ _ _
set_option maxRecDepth 100000 in
set_option maxHeartbeats 3200000 in
theorem heals_Heal (mx : Int) (N b g m cap n : Nat) (k0 : List UInt8) (nms : List (List UInt8)) (T : TypeId) (V : Value) (x : CallD) (hx : x.fMethod = mHeal) (hn : n < nms.length) (hn3 : n < 3) (hnm : nms.getD n [] = nHeals) (HS : MthOk mx N b (.slice (some ⟨g, 0, none⟩) m cap) k0 nms n FsStart T V "Start" #[] (cX mStart)) (HP : MthOk mx N b (.slice (some ⟨g, 0, none⟩) m cap) k0 nms n FsStop T V "Stop" #[] (cX mStop))
    (p : PartD) (cv : Value) (w : World) (hR : Ready mx N b (.slice (some ⟨g, 0, none⟩) m cap) cv k0 nms p w) :
    Calls Tryz.prog 239 #[.agg #[.pointer (some ⟨g, n * 2, none⟩), .iface T V]] w fun e w' => Does4 N b (.slice (some ⟨g, 0, none⟩) m cap) (lyDo (n + 1) p x) w e w' := by
  have hpl := hR.len
  have hi : n < p.fLayers.length := by omega
  have hnmp : nmL p n = nHeals := (hR.nm n).trans hnm
  have hbl := hR.st.core.box.lt
  have HL := Lib.hid (show lyDo (n + 1) p x = lyDo n (lyDo n p (cX mStop)).1 (cX mStart) from by show (if _ then _ else if _ then _ else if _ then _ else if _ then _ else if _ then _ else if _ then _ else _) = _; rw [if_neg (fun h => by rw [hnmp] at h; exact absurd h.1 (by decide)), if_neg (fun h => by rw [hnmp] at h; exact absurd h.1 (by decide)), if_neg (fun h => by rw [hnmp] at h; exact absurd h.1 (by decide)), if_neg (fun h => by rw [hnmp] at h; exact absurd h.1 (by decide)), if_neg (fun h => by rw [hnmp] at h; exact absurd h.1 (by decide)), if_pos ⟨hnmp, hx⟩])
  rw [HL.out]
  clear HL
  obtain ⟨SF, Sr, Sf, Sm, Sn, Sc⟩ := HS
  have Sm4 : ∀ (fuel : Nat) (w : World), (method (fuel + 4) T V _).run Tryz.prog w = .ok (SF, Sr) w := fun fuel w => by have h := Sm (fuel + 3 - n) w; rwa [show fuel + 3 - n + n + 1 = fuel + 4 by omega] at h
  have Sn4 : ∀ (fuel : Nat) (w : World), (nilAhead (fuel + 4) T V _).run Tryz.prog w = .ok (some false) w := fun fuel w => by have h := Sn (fuel + 3 - n) w; rwa [show fuel + 3 - n + n + 1 = fuel + 4 by omega] at h
  have SC := Lib.hid Sc
  clear Sm Sn Sc
  obtain ⟨PF, Pr, Pf, Pm, Pn, Pc⟩ := HP
  have Pm4 : ∀ (fuel : Nat) (w : World), (method (fuel + 4) T V _).run Tryz.prog w = .ok (PF, Pr) w := fun fuel w => by have h := Pm (fuel + 3 - n) w; rwa [show fuel + 3 - n + n + 1 = fuel + 4 by omega] at h
  have Pn4 : ∀ (fuel : Nat) (w : World), (nilAhead (fuel + 4) T V _).run Tryz.prog w = .ok (some false) w := fun fuel w => by have h := Pn (fuel + 3 - n) w; rwa [show fuel + 3 - n + n + 1 = fuel + 4 by omega] at h
  have PC := Lib.hid Pc
  clear Pm Pn Pc
  have L1 := Lib.hid ((Loc.new w [.pointer (some ⟨g, n * 2, none⟩), .iface T V] 220).past (.cells #[.int .i64 0, .int .i64 0, .string ⟨#[]⟩, .int .i64 0, .int .i64 0] 39))
  have L2 := Lib.hid (Loc.new (w.alloc (.cells #[.pointer (some ⟨g, n * 2, none⟩), .iface T V] 220)) [.int .i64 0, .int .i64 0, .string ⟨#[]⟩, .int .i64 0, .int .i64 0] 39)
  have HB := Lib.hid (belS (bx_box w (.cells #[.pointer (some ⟨g, n * 2, none⟩), .iface T V] 220)) (bx_box (w.alloc (.cells #[.pointer (some ⟨g, n * 2, none⟩), .iface T V] 220)) (.cells #[.int .i64 0, .int .i64 0, .string ⟨#[]⟩, .int .i64 0, .int .i64 0] 39)))
  rw [show (w.alloc (.cells #[.pointer (some ⟨g, n * 2, none⟩), .iface T V] 220)).heap.size = w.heap.size + 1 by simp] at L2
  have n1b : w.heap.size ≠ b := by omega
  have n2b : w.heap.size + 1 ≠ b := by omega
  have HR := Lib.hid (hR.below HB.out)
  have HN := Lib.hid hR.hN
  have HP1 := Lib.hid (lyDo_part n p (cX mStop) (by omega) hR.ok)
  have HN1 := Lib.hid (lyDo_names n p (cX mStop))
  clear hR
  simp only [List.mem_cons, List.not_mem_nil, or_false] at Sf Pf
  subst Sf
  subst Pf
  have HO := Lib.hid (PC.out p)
  have HO3 := Lib.hid (SC.out (lyDo n p (cX mStop)).1)
  generalize lyDo n p (cX mStop) = out at *
  obtain ⟨q, t0, t1, t2, t3, t4⟩ := out
  simp only at HP1 HN1 HO3 ⊢
  generalize lyDo n q (cX mStart) = out3 at *
  obtain ⟨q3, v0, v1, v2, v3, v4⟩ := out3
  go_enter Tryz.func239, Tryz.ntmps239
  have B_a := Lib.hid L1.out.bx
  have a0 := B_a.out.cell 0 (by simp)
  have a1 := B_a.out.cell 1 (by simp)
  simp only [List.getElem_cons_zero, List.getElem_cons_succ] at a0 a1
  have fa0 := B_a.out.froz 0 (by simp)
  have fa1 := B_a.out.froz 1 (by simp)
  have l_a := B_a.out.lt
  go_wp2_with fail
  clear B_a l_a a0 a1 fa0 fa1
  generalize (w.alloc (.cells #[.pointer (some ⟨g, n * 2, none⟩), .iface T V] 220)).alloc (.cells #[.int .i64 0, .int .i64 0, .string ⟨#[]⟩, .int .i64 0, .int .i64 0] 39) = w0 at *
  refine (HO.out _ _ HR.out).mono ?_
  rintro e w1 ⟨rfl, cv1, hs1, hk1⟩
  simp only at hs1 ⊢
  replace HR := Lib.hid (HR.out.next hs1 hk1 HP1.out HN1.out.2 HN1.out.1)
  replace L1 := Lib.hid (L1.out.stays hk1 n1b (by decide) (by decide))
  replace L2 := Lib.hid (L2.out.stays hk1 n2b (by decide) (by decide))
  have HK := Lib.hid ((KeptT.of_below (N := N) (b := b) HB.out HN.out).trans hk1)
  clear hs1 hk1
  unfold vReply
  simp only
  have B_a := Lib.hid L1.out.bx
  have a0 := B_a.out.cell 0 (by simp)
  have a1 := B_a.out.cell 1 (by simp)
  simp only [List.getElem_cons_zero, List.getElem_cons_succ] at a0 a1
  have fa0 := B_a.out.froz 0 (by simp)
  have fa1 := B_a.out.froz 1 (by simp)
  have l_a := B_a.out.lt
  go_wp2_with fail
  clear B_a l_a a0 a1 fa0 fa1
  refine (HO3.out _ _ HR.out).mono ?_
  rintro e w4 ⟨rfl, cv4, hs4, hk4⟩
  simp only at hs4 ⊢
  replace L2 := Lib.hid (L2.out.stays hk4 n2b (by decide) (by decide))
  replace HK := Lib.hid (HK.out.trans hk4)
  have HS := Lib.hid hs4
  clear hs4 hk4
  unfold vReply
  simp only
  have B_r := Lib.hid L2.out.bx
  have r0 := B_r.out.cell 0 (by simp)
  have r1 := B_r.out.cell 1 (by simp)
  have r2 := B_r.out.cell 2 (by simp)
  have r3 := B_r.out.cell 3 (by simp)
  have r4 := B_r.out.cell 4 (by simp)
  simp only [List.getElem_cons_zero, List.getElem_cons_succ] at r0 r1 r2 r3 r4
  have fr0 := B_r.out.froz 0 (by simp)
  have fr1 := B_r.out.froz 1 (by simp)
  have fr2 := B_r.out.froz 2 (by simp)
  have fr3 := B_r.out.froz 3 (by simp)
  have fr4 := B_r.out.froz 4 (by simp)
  have l_r := B_r.out.lt
  go_wp2_with fail
  refine bodyPost_ret (v := .agg #[.int .i64 v0, .int .i64 v1, .string ⟨v2.toArray⟩, .int .i64 v3, .int .i64 v4]) (by simp [results, Tryz.results239, go_sem, cell_set_at, cell_set_ne, r0, r1, r2, r3, r4]) rfl ?_
  exact done5 ⟨v0, v1, v2, v3, v4⟩ HS.out HK.out L2.out n2b (by omega) HN.out _ _ _ _ _
set_option maxRecDepth 100000 in
set_option maxHeartbeats 3200000 in
theorem twice_Tell (mx : Int) (N b g m cap n : Nat) (k0 : List UInt8) (nms : List (List UInt8)) (T : TypeId) (V : Value) (x : CallD) (hx : x.fMethod = mTell) (hn : n < nms.length) (hn3 : n < 3) (hnm : nms.getD n [] = nTwice) (HI : MthOk mx N b (.slice (some ⟨g, 0, none⟩) m cap) k0 nms n FsTell T V "Tell" #[] x)
    (p : PartD) (cv : Value) (w : World) (hR : Ready mx N b (.slice (some ⟨g, 0, none⟩) m cap) cv k0 nms p w) :
    Calls Tryz.prog 240 #[.agg #[.pointer (some ⟨g, n * 2, none⟩), .iface T V]] w fun e w' => Does4 N b (.slice (some ⟨g, 0, none⟩) m cap) (lyDo (n + 1) p x) w e w' := by
  have hpl := hR.len
  have hi : n < p.fLayers.length := by omega
  have hnmp : nmL p n = nTwice := (hR.nm n).trans hnm
  have hbl := hR.st.core.box.lt
  have HL := Lib.hid (show lyDo (n + 1) p x = ((lyDo n p x).1, twR (lyDo n p x).2) from by show (if _ then _ else if _ then _ else if _ then _ else if _ then _ else if _ then _ else if _ then _ else if _ then _ else _) = _; rw [if_neg (fun h => by rw [hnmp] at h; exact absurd h.1 (by decide)), if_neg (fun h => by rw [hnmp] at h; exact absurd h.1 (by decide)), if_neg (fun h => by rw [hnmp] at h; exact absurd h.1 (by decide)), if_neg (fun h => by rw [hnmp] at h; exact absurd h.1 (by decide)), if_neg (fun h => by rw [hnmp] at h; exact absurd h.1 (by decide)), if_neg (fun h => by rw [hnmp] at h; exact absurd h.1 (by decide)), if_pos ⟨hnmp, hx⟩])
  rw [HL.out]
  clear HL
  obtain ⟨IF, Ir, If, Im, In, Ic⟩ := HI
  have Im4 : ∀ (fuel : Nat) (w : World), (method (fuel + 4) T V _).run Tryz.prog w = .ok (IF, Ir) w := fun fuel w => by have h := Im (fuel + 3 - n) w; rwa [show fuel + 3 - n + n + 1 = fuel + 4 by omega] at h
  have In4 : ∀ (fuel : Nat) (w : World), (nilAhead (fuel + 4) T V _).run Tryz.prog w = .ok (some false) w := fun fuel w => by have h := In (fuel + 3 - n) w; rwa [show fuel + 3 - n + n + 1 = fuel + 4 by omega] at h
  have IC := Lib.hid Ic
  clear Im In Ic
  have L1 := Lib.hid ((Loc.new w [.pointer (some ⟨g, n * 2, none⟩), .iface T V] 224).past (.cells #[.int .i64 0, .int .i64 0, .string ⟨#[]⟩, .int .i64 0, .int .i64 0] 39))
  have L2 := Lib.hid (Loc.new (w.alloc (.cells #[.pointer (some ⟨g, n * 2, none⟩), .iface T V] 224)) [.int .i64 0, .int .i64 0, .string ⟨#[]⟩, .int .i64 0, .int .i64 0] 39)
  have HB := Lib.hid (belS (bx_box w (.cells #[.pointer (some ⟨g, n * 2, none⟩), .iface T V] 224)) (bx_box (w.alloc (.cells #[.pointer (some ⟨g, n * 2, none⟩), .iface T V] 224)) (.cells #[.int .i64 0, .int .i64 0, .string ⟨#[]⟩, .int .i64 0, .int .i64 0] 39)))
  rw [show (w.alloc (.cells #[.pointer (some ⟨g, n * 2, none⟩), .iface T V] 224)).heap.size = w.heap.size + 1 by simp] at L2
  have n1b : w.heap.size ≠ b := by omega
  have n2b : w.heap.size + 1 ≠ b := by omega
  have HR := Lib.hid (hR.below HB.out)
  have HN := Lib.hid hR.hN
  have hrg := lyDo_tell n p x hx (by omega) hR.ok
  have HP1 := Lib.hid (lyDo_part n p x (by omega) hR.ok)
  have HN1 := Lib.hid (lyDo_names n p x)
  clear hR
  have HO := Lib.hid (IC.out p)
  generalize lyDo n p x = out at *
  obtain ⟨q, t0, t1, t2, t3, t4⟩ := out
  simp only at hrg
  obtain ⟨g0, g1⟩ := hrg
  simp only [List.mem_cons, List.not_mem_nil, or_false] at If
  by_cases h0 : t0 = 0
  · subst h0
    have hw : IntKind.i64.wrap (2 * t1) = 2 * t1 := by rw [IntKind.wrap_i64]; omega
    · skip
      have HT := Lib.hid (show twR ⟨0, t1, t2, t3, t4⟩ = ⟨0, min (2 * t1) 999, t2, t3, t4⟩ from by unfold twR; rw [if_pos rfl]; congr 1; simp only; split <;> omega)
      rw [HT.out]
      clear HT
      rcases If with rfl | rfl | rfl
      all_goals
        go_enter Tryz.func240, Tryz.ntmps240
        have B_a := Lib.hid L1.out.bx
        have a0 := B_a.out.cell 0 (by simp)
        have a1 := B_a.out.cell 1 (by simp)
        simp only [List.getElem_cons_zero, List.getElem_cons_succ] at a0 a1
        have fa0 := B_a.out.froz 0 (by simp)
        have fa1 := B_a.out.froz 1 (by simp)
        have l_a := B_a.out.lt
        go_wp2_with fail
        clear B_a l_a a0 a1 fa0 fa1
        generalize (w.alloc (.cells #[.pointer (some ⟨g, n * 2, none⟩), .iface T V] 224)).alloc (.cells #[.int .i64 0, .int .i64 0, .string ⟨#[]⟩, .int .i64 0, .int .i64 0] 39) = w0 at *
        refine (HO.out _ _ HR.out).mono ?_
        rintro e w1 ⟨rfl, cv1, hs1, hk1⟩
        simp only at hs1 HP1 HN1 ⊢
        replace HR := Lib.hid (HR.out.next hs1 hk1 HP1.out HN1.out.2 HN1.out.1)
        replace L2 := Lib.hid (L2.out.stays hk1 n2b (by decide) (by decide))
        have HK := Lib.hid ((KeptT.of_below (N := N) (b := b) HB.out HN.out).trans hk1)
        clear hs1 hk1
        unfold vReply
        simp only
        have h1l := L2.out.bx.lt
        have L3 := Lib.hid (Loc.new w1 [.int .i64 0, .int .i64 t1, .string ⟨t2.toArray⟩, .int .i64 t3, .int .i64 t4] 39)
        have hbz := bx_box w1 (.cells #[.int .i64 0, .int .i64 t1, .string ⟨t2.toArray⟩, .int .i64 t3, .int .i64 t4] 39)
        have n3b : w1.heap.size ≠ b := by have := HR.out.st.core.box.lt; omega
        have h3l : w.heap.size ≤ w1.heap.size := HK.out.size
        have h23 : ¬ w.heap.size + 1 = w1.heap.size := by omega
        have h32 : ¬ w1.heap.size = w.heap.size + 1 := by omega
        replace HR := Lib.hid (HR.out.below hbz)
        replace L2 := Lib.hid (L2.out.below hbz)
        replace HK := Lib.hid (HK.out.below hbz HN.out)
        clear hbz
        go_upto_region 2 with fail
        generalize w1.alloc (.cells #[.int .i64 0, .int .i64 t1, .string ⟨t2.toArray⟩, .int .i64 t3, .int .i64 t4] 39) = w2 at *
        generalize w1.heap.size = n3 at *
        have B_e := Lib.hid L3.out.bx
        have e0 := B_e.out.cell 0 (by simp)
        have e1 := B_e.out.cell 1 (by simp)
        have e2 := B_e.out.cell 2 (by simp)
        have e3 := B_e.out.cell 3 (by simp)
        have e4 := B_e.out.cell 4 (by simp)
        simp only [List.getElem_cons_zero, List.getElem_cons_succ] at e0 e1 e2 e3 e4
        have fe0 := B_e.out.froz 0 (by simp)
        have fe1 := B_e.out.froz 1 (by simp)
        have fe2 := B_e.out.froz 2 (by simp)
        have fe3 := B_e.out.froz 3 (by simp)
        have fe4 := B_e.out.froz 4 (by simp)
        have l_e := B_e.out.lt
        have B_r := Lib.hid L2.out.bx
        have r0 := B_r.out.cell 0 (by simp)
        have r1 := B_r.out.cell 1 (by simp)
        have r2 := B_r.out.cell 2 (by simp)
        have r3 := B_r.out.cell 3 (by simp)
        have r4 := B_r.out.cell 4 (by simp)
        simp only [List.getElem_cons_zero, List.getElem_cons_succ] at r0 r1 r2 r3 r4
        have fr0 := B_r.out.froz 0 (by simp)
        have fr1 := B_r.out.froz 1 (by simp)
        have fr2 := B_r.out.froz 2 (by simp)
        have fr3 := B_r.out.froz 3 (by simp)
        have fr4 := B_r.out.froz 4 (by simp)
        have l_r := B_r.out.lt
        have HS9 := Lib.hid (HR.out.st.setL L3.out n3b (by decide) (by decide) 1 (.int .i64 (min (2 * t1) 999)))
        have HK9 := Lib.hid (HK.out.setNew HN.out n3 1 (.int .i64 (min (2 * t1) 999)) h3l)
        have L29 := Lib.hid (L2.out.other h23 1 (.int .i64 (min (2 * t1) 999)))
        replace L2 := L29
        go_wp2_with fail
        have HD := Lib.hid (done5 ⟨0, min (2 * t1) 999, t2, t3, t4⟩ HS9.out HK9.out L2.out n2b (by omega) HN.out (.int .i64 0) (.int .i64 (min (2 * t1) 999)) (.string ⟨t2.toArray⟩) (.int .i64 t3) (.int .i64 t4))
        have LE := Lib.hid (((((L2.out.bx.set 0 (by simp) (.int .i64 0)).set 1 (by simp) (.int .i64 (min (2 * t1) 999))).set 2 (by simp) (.string ⟨t2.toArray⟩)).set 3 (by simp) (.int .i64 t3)).set 4 (by simp) (.int .i64 t4))
        simp only [List.set_cons_zero, List.set_cons_succ] at LE
        generalize (((((w2.setCell ⟨n3, 1, none⟩ (.int .i64 (min (2 * t1) 999))).setCell ⟨w.heap.size + 1, 0, none⟩ (.int .i64 0)).setCell ⟨w.heap.size + 1, 1, none⟩ (.int .i64 (min (2 * t1) 999))).setCell ⟨w.heap.size + 1, 2, none⟩ (.string ⟨t2.toArray⟩)).setCell ⟨w.heap.size + 1, 3, none⟩ (.int .i64 t3)).setCell ⟨w.heap.size + 1, 4, none⟩ (.int .i64 t4) = wE at *
        clear r0 r1 r2 r3 r4 fr0 fr1 fr2 fr3 fr4 B_r l_r e0 e1 e2 e3 e4 fe0 fe1 fe2 fe3 fe4 B_e l_e
        have r0 := LE.out.cell 0 (by simp)
        have r1 := LE.out.cell 1 (by simp)
        have r2 := LE.out.cell 2 (by simp)
        have r3 := LE.out.cell 3 (by simp)
        have r4 := LE.out.cell 4 (by simp)
        simp only [List.getElem_cons_zero, List.getElem_cons_succ] at r0 r1 r2 r3 r4
        refine bodyPost_ret (v := .agg #[.int .i64 0, .int .i64 (min (2 * t1) 999), .string ⟨t2.toArray⟩, .int .i64 t3, .int .i64 t4]) (by simp [results, Tryz.results240, go_sem, r0, r1, r2, r3, r4]) rfl ?_
        exact HD.out
  · have h0b : (t0 == 0) = false := by simpa using h0
    have HT := Lib.hid (show twR ⟨t0, t1, t2, t3, t4⟩ = ⟨t0, t1, t2, t3, t4⟩ from if_neg h0)
    rw [HT.out]
    clear HT
    rcases If with rfl | rfl | rfl
    all_goals
      go_enter Tryz.func240, Tryz.ntmps240
      have B_a := Lib.hid L1.out.bx
      have a0 := B_a.out.cell 0 (by simp)
      have a1 := B_a.out.cell 1 (by simp)
      simp only [List.getElem_cons_zero, List.getElem_cons_succ] at a0 a1
      have fa0 := B_a.out.froz 0 (by simp)
      have fa1 := B_a.out.froz 1 (by simp)
      have l_a := B_a.out.lt
      go_wp2_with fail
      clear B_a l_a a0 a1 fa0 fa1
      generalize (w.alloc (.cells #[.pointer (some ⟨g, n * 2, none⟩), .iface T V] 224)).alloc (.cells #[.int .i64 0, .int .i64 0, .string ⟨#[]⟩, .int .i64 0, .int .i64 0] 39) = w0 at *
      refine (HO.out _ _ HR.out).mono ?_
      rintro e w1 ⟨rfl, cv1, hs1, hk1⟩
      simp only at hs1 HP1 HN1 ⊢
      replace HR := Lib.hid (HR.out.next hs1 hk1 HP1.out HN1.out.2 HN1.out.1)
      replace L2 := Lib.hid (L2.out.stays hk1 n2b (by decide) (by decide))
      have HK := Lib.hid ((KeptT.of_below (N := N) (b := b) HB.out HN.out).trans hk1)
      clear hs1 hk1
      unfold vReply
      simp only
      have h1l := L2.out.bx.lt
      have L3 := Lib.hid (Loc.new w1 [.int .i64 t0, .int .i64 t1, .string ⟨t2.toArray⟩, .int .i64 t3, .int .i64 t4] 39)
      have hbz := bx_box w1 (.cells #[.int .i64 t0, .int .i64 t1, .string ⟨t2.toArray⟩, .int .i64 t3, .int .i64 t4] 39)
      have n3b : w1.heap.size ≠ b := by have := HR.out.st.core.box.lt; omega
      have h3l : w.heap.size ≤ w1.heap.size := HK.out.size
      have h23 : ¬ w.heap.size + 1 = w1.heap.size := by omega
      have h32 : ¬ w1.heap.size = w.heap.size + 1 := by omega
      replace HR := Lib.hid (HR.out.below hbz)
      replace L2 := Lib.hid (L2.out.below hbz)
      replace HK := Lib.hid (HK.out.below hbz HN.out)
      clear hbz
      go_upto_region 2 with fail
      generalize w1.alloc (.cells #[.int .i64 t0, .int .i64 t1, .string ⟨t2.toArray⟩, .int .i64 t3, .int .i64 t4] 39) = w2 at *
      generalize w1.heap.size = n3 at *
      have B_e := Lib.hid L3.out.bx
      have e0 := B_e.out.cell 0 (by simp)
      have e1 := B_e.out.cell 1 (by simp)
      have e2 := B_e.out.cell 2 (by simp)
      have e3 := B_e.out.cell 3 (by simp)
      have e4 := B_e.out.cell 4 (by simp)
      simp only [List.getElem_cons_zero, List.getElem_cons_succ] at e0 e1 e2 e3 e4
      have fe0 := B_e.out.froz 0 (by simp)
      have fe1 := B_e.out.froz 1 (by simp)
      have fe2 := B_e.out.froz 2 (by simp)
      have fe3 := B_e.out.froz 3 (by simp)
      have fe4 := B_e.out.froz 4 (by simp)
      have l_e := B_e.out.lt
      have B_r := Lib.hid L2.out.bx
      have r0 := B_r.out.cell 0 (by simp)
      have r1 := B_r.out.cell 1 (by simp)
      have r2 := B_r.out.cell 2 (by simp)
      have r3 := B_r.out.cell 3 (by simp)
      have r4 := B_r.out.cell 4 (by simp)
      simp only [List.getElem_cons_zero, List.getElem_cons_succ] at r0 r1 r2 r3 r4
      have fr0 := B_r.out.froz 0 (by simp)
      have fr1 := B_r.out.froz 1 (by simp)
      have fr2 := B_r.out.froz 2 (by simp)
      have fr3 := B_r.out.froz 3 (by simp)
      have fr4 := B_r.out.froz 4 (by simp)
      have l_r := B_r.out.lt
      go_wp2_with fail
      refine bodyPost_ret (v := .agg #[.int .i64 t0, .int .i64 t1, .string ⟨t2.toArray⟩, .int .i64 t3, .int .i64 t4]) (by simp [results, Tryz.results240, go_sem, cell_set_at, cell_set_ne, r0, r1, r2, r3, r4]) rfl ?_
      exact done5 ⟨t0, t1, t2, t3, t4⟩ HR.out.st HK.out L2.out n2b (by omega) HN.out _ _ _ _ _
def ownB (nm m : List UInt8) : Bool := (nm == nCounts && (m == mTell || keptB m)) || (nm == nLazy && keptB m) || (nm == nReads && m == mPut) || (nm == nHears && m == mHear) || (nm == nHeals && m == mHeal) || (nm == nTwice && m == mTell)
theorem lyDo_skip (n : Nat) (p : PartD) (x : CallD) (h : ownB (nmL p n) x.fMethod = false) : lyDo (n + 1) p x = lyDo n p x := by
  unfold ownB at h
  simp only [Bool.or_eq_false_iff, Bool.and_eq_false_iff, beq_eq_false_iff_ne] at h
  obtain ⟨⟨⟨⟨⟨h1, h2⟩, h3⟩, h4⟩, h5⟩, h6⟩ := h
  have key : ∀ {P Q : Prop}, ¬ P ∨ ¬ Q → ¬ (P ∧ Q) := fun h ⟨a, b⟩ => h.elim (fun n => n a) (fun n => n b)
  show (if _ then _ else if _ then _ else if _ then _ else if _ then _ else if _ then _ else if _ then _ else if _ then _ else _) = _
  rw [if_neg, if_neg, if_neg, if_neg, if_neg, if_neg, if_neg]
  · exact key h6
  · exact key h5
  · exact key h4
  · exact key h3
  · rintro ⟨a, c⟩; rcases h2 with h2 | h2
    · exact h2 a
    · rw [c] at h2; cases h2
  · rintro ⟨a, c⟩; rcases h1 with h1 | h1
    · exact h1 a
    · rw [c] at h1; exact absurd h1.2 (by simp)
  · rintro ⟨a, c⟩; rcases h1 with h1 | h1
    · exact h1 a
    · exact h1.1 c
theorem MthOk.inherit {mx : Int} {N b : Nat} {lv : Value} {k0 : List UInt8} {nms : List (List UInt8)} {n : Nat} {Fs : List FuncId} {T T' : TypeId} {V V' : Value} {nm : String} {args : Array Value} {x : CallD} (H : MthOk mx N b lv k0 nms n Fs T V nm args x)
    (h1 : ∀ (fuel : Nat) (w : World), (method (fuel + 1) T' V' nm).run Tryz.prog w = (method fuel T V nm).run Tryz.prog w) (h2 : ∀ (fuel : Nat) (w : World), (nilAhead (fuel + 1) T' V' nm).run Tryz.prog w = (nilAhead fuel T V nm).run Tryz.prog w)
    (ho : ownB (nms.getD n []) x.fMethod = false) : MthOk mx N b lv k0 nms (n + 1) Fs T' V' nm args x := by
  obtain ⟨F, rcv, hF, hm, hn, hc⟩ := H
  refine ⟨F, rcv, hF, fun fuel w => ?_, fun fuel w => ?_, fun p cv w hR => ?_⟩
  · rw [show fuel + (n + 1) + 1 = fuel + n + 1 + 1 by omega, h1]; exact hm fuel w
  · rw [show fuel + (n + 1) + 1 = fuel + n + 1 + 1 by omega, h2]; exact hn fuel w
  · rw [lyDo_skip n p x (by rw [hR.nm n]; exact ho)]; exact hc p cv w hR
theorem offers_3 {f : Int} (hf : isF f = true) (h : offersF f 3 = true) : offersF f 1 = true ∧ offersF f 2 = true := by
  have h2 : 0 ≤ f ∧ f ≤ 63 := by unfold isF at hf; simpa using hf
  obtain ⟨_, e1, e2, _, e3⟩ := off_bits ⟨f.toNat, by omega⟩
  rw [show ((f.toNat : Nat) : Int) = f by omega] at e1 e2 e3
  rw [e3, Bool.and_eq_true] at h
  rw [e1, e2]; exact h
theorem good_cX {m : List UInt8} (h : callB (cX m) = true) : GoodX (cX m) m := ⟨h, by simp [cX], by simp [cX], rfl⟩
theorem hear_lo {x : CallD} (y : GoodX x mHear) : 0 ≤ x.fValue := by
  have h := y.ok
  unfold callB at h
  rw [y.hm] at h
  simp only [Bool.and_eq_true] at h
  have h2 := h.1.2
  rw [if_pos (by decide)] at h2
  unfold numB at h2
  simp only [Bool.and_eq_true, decide_eq_true_iff] at h2
  exact h2.1
theorem stack_l0 (mx : Int) (N b g m cap n : Nat) (k0 : List UInt8) (nms : List (List UInt8)) (T : TypeId) (V : Value) (f : Int) (hn : n < nms.length) (hn3 : n < 3) (hnm : nms.getD n [] = layN 0)  (S : Stack mx N b (.slice (some ⟨g, 0, none⟩) m cap) k0 nms n T V f) : Stack mx N b (.slice (some ⟨g, 0, none⟩) m cap) k0 nms (n + 1) 226 (.agg #[.pointer (some ⟨g, n * 2, none⟩)]) 0 where
  start := fun h => absurd h (by decide +kernel)
  stop := fun h => absurd h (by decide +kernel)
  get := fun h => absurd h (by decide +kernel)
  put := fun h => absurd h (by decide +kernel)
  tell := fun h => absurd h (by decide +kernel)
  hear := fun h => absurd h (by decide +kernel)
  load := fun h => absurd h (by decide +kernel)
  save := fun h => absurd h (by decide +kernel)
  heal := fun h => absurd h (by decide +kernel)
theorem stack_l1 (mx : Int) (N b g m cap n : Nat) (k0 : List UInt8) (nms : List (List UInt8)) (T : TypeId) (V : Value) (f : Int) (hn : n < nms.length) (hn3 : n < 3) (hnm : nms.getD n [] = layN 1) (hf1 : offersF f 1 = true) (S : Stack mx N b (.slice (some ⟨g, 0, none⟩) m cap) k0 nms n T V f) : Stack mx N b (.slice (some ⟨g, 0, none⟩) m cap) k0 nms (n + 1) 208 (.agg #[.pointer (some ⟨g, n * 2, none⟩), .iface T V]) 1 where
  start := fun _ x y => (S.start hf1 x y).inherit (by intro fuel w; kernel_rfl) (by intro fuel w; kernel_rfl) (by rw [hnm, y.hm]; decide)
  stop := fun _ x y => (S.stop hf1 x y).inherit (by intro fuel w; kernel_rfl) (by intro fuel w; kernel_rfl) (by rw [hnm, y.hm]; decide)
  get := fun h => absurd h (by decide +kernel)
  put := fun h => absurd h (by decide +kernel)
  tell := fun h => absurd h (by decide +kernel)
  hear := fun h => absurd h (by decide +kernel)
  load := fun h => absurd h (by decide +kernel)
  save := fun h => absurd h (by decide +kernel)
  heal := fun h => absurd h (by decide +kernel)
theorem stack_l2 (mx : Int) (N b g m cap n : Nat) (k0 : List UInt8) (nms : List (List UInt8)) (T : TypeId) (V : Value) (f : Int) (hn : n < nms.length) (hn3 : n < 3) (hnm : nms.getD n [] = layN 2) (hf2 : offersF f 2 = true) (S : Stack mx N b (.slice (some ⟨g, 0, none⟩) m cap) k0 nms n T V f) : Stack mx N b (.slice (some ⟨g, 0, none⟩) m cap) k0 nms (n + 1) 212 (.agg #[.pointer (some ⟨g, n * 2, none⟩), .iface T V]) 2 where
  start := fun h => absurd h (by decide +kernel)
  stop := fun h => absurd h (by decide +kernel)
  get := fun _ x y => (S.get hf2 x y).inherit (by intro fuel w; kernel_rfl) (by intro fuel w; kernel_rfl) (by rw [hnm, y.hm]; decide)
  put := fun _ x y => (S.put hf2 x y).inherit (by intro fuel w; kernel_rfl) (by intro fuel w; kernel_rfl) (by rw [hnm, y.hm]; decide)
  tell := fun h => absurd h (by decide +kernel)
  hear := fun h => absurd h (by decide +kernel)
  load := fun h => absurd h (by decide +kernel)
  save := fun h => absurd h (by decide +kernel)
  heal := fun h => absurd h (by decide +kernel)
theorem stack_l3 (mx : Int) (N b g m cap n : Nat) (k0 : List UInt8) (nms : List (List UInt8)) (T : TypeId) (V : Value) (f : Int) (hn : n < nms.length) (hn3 : n < 3) (hnm : nms.getD n [] = layN 3) (hf2 : offersF f 2 = true) (S : Stack mx N b (.slice (some ⟨g, 0, none⟩) m cap) k0 nms n T V f) : Stack mx N b (.slice (some ⟨g, 0, none⟩) m cap) k0 nms (n + 1) 213 (.agg #[.pointer (some ⟨g, n * 2, none⟩), .iface T V]) 6 where
  start := fun h => absurd h (by decide +kernel)
  stop := fun h => absurd h (by decide +kernel)
  get := fun _ x y => ⟨232, _, by simp, by intro fuel w; kernel_rfl, by intro fuel w; kernel_rfl, fun p cv w hR => counts_Get mx N b g m cap n k0 nms T V x x.fKey (by rw [y.hm]; decide) (by rw [y.hm]; decide) hn hn3 hnm (S.get hf2 x y) p cv w hR⟩
  put := fun _ x y => ⟨233, _, by simp, by intro fuel w; kernel_rfl, by intro fuel w; kernel_rfl, fun p cv w hR => counts_Put mx N b g m cap n k0 nms T V x x.fKey x.fValue (by rw [y.hm]; decide) (by rw [y.hm]; decide) hn hn3 hnm (S.put hf2 x y) p cv w hR⟩
  tell := fun _ x y => ⟨234, _, by simp, by intro fuel w; kernel_rfl, by intro fuel w; kernel_rfl, fun p cv w hR => counts_Tell mx N b g m cap n k0 nms T V x y.hm hn hn3 hnm p cv w hR⟩
  hear := fun h => absurd h (by decide +kernel)
  load := fun h => absurd h (by decide +kernel)
  save := fun h => absurd h (by decide +kernel)
  heal := fun h => absurd h (by decide +kernel)
theorem stack_l4 (mx : Int) (N b g m cap n : Nat) (k0 : List UInt8) (nms : List (List UInt8)) (T : TypeId) (V : Value) (f : Int) (hn : n < nms.length) (hn3 : n < 3) (hnm : nms.getD n [] = layN 4) (hf1 : offersF f 1 = true) (hf2 : offersF f 2 = true) (S : Stack mx N b (.slice (some ⟨g, 0, none⟩) m cap) k0 nms n T V f) : Stack mx N b (.slice (some ⟨g, 0, none⟩) m cap) k0 nms (n + 1) 217 (.agg #[.pointer (some ⟨g, n * 2, none⟩), .iface T V]) 3 where
  start := fun _ x y => (S.start hf1 x y).inherit (by intro fuel w; kernel_rfl) (by intro fuel w; kernel_rfl) (by rw [hnm, y.hm]; decide)
  stop := fun _ x y => (S.stop hf1 x y).inherit (by intro fuel w; kernel_rfl) (by intro fuel w; kernel_rfl) (by rw [hnm, y.hm]; decide)
  get := fun _ x y => ⟨235, _, by simp, by intro fuel w; kernel_rfl, by intro fuel w; kernel_rfl, fun p cv w hR => lazy_Get mx N b g m cap n k0 nms T V x x.fKey (by rw [y.hm]; decide) hn hn3 hnm (S.get hf2 x y) (S.start hf1 _ (good_cX (by decide))) p cv w hR⟩
  put := fun _ x y => ⟨236, _, by simp, by intro fuel w; kernel_rfl, by intro fuel w; kernel_rfl, fun p cv w hR => lazy_Put mx N b g m cap n k0 nms T V x x.fKey x.fValue (by rw [y.hm]; decide) hn hn3 hnm (S.put hf2 x y) (S.start hf1 _ (good_cX (by decide))) p cv w hR⟩
  tell := fun h => absurd h (by decide +kernel)
  hear := fun h => absurd h (by decide +kernel)
  load := fun h => absurd h (by decide +kernel)
  save := fun h => absurd h (by decide +kernel)
  heal := fun h => absurd h (by decide +kernel)
theorem stack_l5 (mx : Int) (N b g m cap n : Nat) (k0 : List UInt8) (nms : List (List UInt8)) (T : TypeId) (V : Value) (f : Int) (hn : n < nms.length) (hn3 : n < 3) (hnm : nms.getD n [] = layN 5) (hf2 : offersF f 2 = true) (S : Stack mx N b (.slice (some ⟨g, 0, none⟩) m cap) k0 nms n T V f) : Stack mx N b (.slice (some ⟨g, 0, none⟩) m cap) k0 nms (n + 1) 218 (.agg #[.pointer (some ⟨g, n * 2, none⟩), .iface T V]) 2 where
  start := fun h => absurd h (by decide +kernel)
  stop := fun h => absurd h (by decide +kernel)
  get := fun _ x y => (S.get hf2 x y).inherit (by intro fuel w; kernel_rfl) (by intro fuel w; kernel_rfl) (by rw [hnm, y.hm]; decide)
  put := fun _ x y => ⟨237, _, by simp, by intro fuel w; kernel_rfl, by intro fuel w; kernel_rfl, fun p cv w hR => reads_Put mx N b g m cap n k0 nms T V x x.fKey x.fValue y.hm hn hn3 hnm p cv w hR⟩
  tell := fun h => absurd h (by decide +kernel)
  hear := fun h => absurd h (by decide +kernel)
  load := fun h => absurd h (by decide +kernel)
  save := fun h => absurd h (by decide +kernel)
  heal := fun h => absurd h (by decide +kernel)
theorem stack_l6 (mx : Int) (N b g m cap n : Nat) (k0 : List UInt8) (nms : List (List UInt8)) (T : TypeId) (V : Value) (f : Int) (hn : n < nms.length) (hn3 : n < 3) (hnm : nms.getD n [] = layN 6) (hf1 : offersF f 1 = true) (S : Stack mx N b (.slice (some ⟨g, 0, none⟩) m cap) k0 nms n T V f) : Stack mx N b (.slice (some ⟨g, 0, none⟩) m cap) k0 nms (n + 1) 219 (.agg #[.pointer (some ⟨g, n * 2, none⟩), .iface T V]) 9 where
  start := fun _ x y => (S.start hf1 x y).inherit (by intro fuel w; kernel_rfl) (by intro fuel w; kernel_rfl) (by rw [hnm, y.hm]; decide)
  stop := fun _ x y => (S.stop hf1 x y).inherit (by intro fuel w; kernel_rfl) (by intro fuel w; kernel_rfl) (by rw [hnm, y.hm]; decide)
  get := fun h => absurd h (by decide +kernel)
  put := fun h => absurd h (by decide +kernel)
  tell := fun h => absurd h (by decide +kernel)
  hear := fun _ x y => ⟨238, _, by simp, by intro fuel w; kernel_rfl, by intro fuel w; kernel_rfl, fun p cv w hR => hears_Hear mx N b g m cap n k0 nms T V x x.fValue y.hm rfl (hear_lo y) hn hn3 hnm (S.start hf1 _ (good_cX (by decide))) (S.stop hf1 _ (good_cX (by decide))) p cv w hR⟩
  load := fun h => absurd h (by decide +kernel)
  save := fun h => absurd h (by decide +kernel)
  heal := fun h => absurd h (by decide +kernel)
theorem stack_l7 (mx : Int) (N b g m cap n : Nat) (k0 : List UInt8) (nms : List (List UInt8)) (T : TypeId) (V : Value) (f : Int) (hn : n < nms.length) (hn3 : n < 3) (hnm : nms.getD n [] = layN 7) (hf1 : offersF f 1 = true) (S : Stack mx N b (.slice (some ⟨g, 0, none⟩) m cap) k0 nms n T V f) : Stack mx N b (.slice (some ⟨g, 0, none⟩) m cap) k0 nms (n + 1) 220 (.agg #[.pointer (some ⟨g, n * 2, none⟩), .iface T V]) 33 where
  start := fun _ x y => (S.start hf1 x y).inherit (by intro fuel w; kernel_rfl) (by intro fuel w; kernel_rfl) (by rw [hnm, y.hm]; decide)
  stop := fun _ x y => (S.stop hf1 x y).inherit (by intro fuel w; kernel_rfl) (by intro fuel w; kernel_rfl) (by rw [hnm, y.hm]; decide)
  get := fun h => absurd h (by decide +kernel)
  put := fun h => absurd h (by decide +kernel)
  tell := fun h => absurd h (by decide +kernel)
  hear := fun h => absurd h (by decide +kernel)
  load := fun h => absurd h (by decide +kernel)
  save := fun h => absurd h (by decide +kernel)
  heal := fun _ x y => ⟨239, _, by simp, by intro fuel w; kernel_rfl, by intro fuel w; kernel_rfl, fun p cv w hR => heals_Heal mx N b g m cap n k0 nms T V x y.hm hn hn3 hnm (S.start hf1 _ (good_cX (by decide))) (S.stop hf1 _ (good_cX (by decide))) p cv w hR⟩
theorem stack_l8 (mx : Int) (N b g m cap n : Nat) (k0 : List UInt8) (nms : List (List UInt8)) (T : TypeId) (V : Value) (f : Int) (hn : n < nms.length) (hn3 : n < 3) (hnm : nms.getD n [] = layN 8) (hf4 : offersF f 4 = true) (S : Stack mx N b (.slice (some ⟨g, 0, none⟩) m cap) k0 nms n T V f) : Stack mx N b (.slice (some ⟨g, 0, none⟩) m cap) k0 nms (n + 1) 224 (.agg #[.pointer (some ⟨g, n * 2, none⟩), .iface T V]) 4 where
  start := fun h => absurd h (by decide +kernel)
  stop := fun h => absurd h (by decide +kernel)
  get := fun h => absurd h (by decide +kernel)
  put := fun h => absurd h (by decide +kernel)
  tell := fun _ x y => ⟨240, _, by simp, by intro fuel w; kernel_rfl, by intro fuel w; kernel_rfl, fun p cv w hR => twice_Tell mx N b g m cap n k0 nms T V x y.hm hn hn3 hnm (S.tell hf4 x y) p cv w hR⟩
  hear := fun h => absurd h (by decide +kernel)
  load := fun h => absurd h (by decide +kernel)
  save := fun h => absurd h (by decide +kernel)
  heal := fun h => absurd h (by decide +kernel)
theorem stack_wrap (mx : Int) (N b g m cap n : Nat) (k0 : List UInt8) (nms : List (List UInt8)) (T : TypeId) (V : Value) (f : Int) (hfo : isF f = true) (i : Nat) (hi : i < 9) (hn : n < nms.length) (hn3 : n < 3) (hnm : nms.getD n [] = layN i) (hne : offersF f (needN i) = true) (S : Stack mx N b (.slice (some ⟨g, 0, none⟩) m cap) k0 nms n T V f) :
    ∃ T' V', wrapV g (n * 2) (.iface T V) i = .iface T' V' ∧ Stack mx N b (.slice (some ⟨g, 0, none⟩) m cap) k0 nms (n + 1) T' V' (giveN i) ∧ Ass6 T' (giveN i) := by
  rcases (show i = 0 ∨ i = 1 ∨ i = 2 ∨ i = 3 ∨ i = 4 ∨ i = 5 ∨ i = 6 ∨ i = 7 ∨ i = 8 by omega) with rfl | rfl | rfl | rfl | rfl | rfl | rfl | rfl | rfl
  · exact ⟨_, _, rfl, stack_l0 mx N b g m cap n k0 nms T V f hn hn3 hnm  S, ass6_l0⟩
  · exact ⟨_, _, rfl, stack_l1 mx N b g m cap n k0 nms T V f hn hn3 hnm hne S, ass6_l1⟩
  · exact ⟨_, _, rfl, stack_l2 mx N b g m cap n k0 nms T V f hn hn3 hnm hne S, ass6_l2⟩
  · exact ⟨_, _, rfl, stack_l3 mx N b g m cap n k0 nms T V f hn hn3 hnm hne S, ass6_l3⟩
  · exact ⟨_, _, rfl, stack_l4 mx N b g m cap n k0 nms T V f hn hn3 hnm (offers_3 hfo hne).1 (offers_3 hfo hne).2 S, ass6_l4⟩
  · exact ⟨_, _, rfl, stack_l5 mx N b g m cap n k0 nms T V f hn hn3 hnm hne S, ass6_l5⟩
  · exact ⟨_, _, rfl, stack_l6 mx N b g m cap n k0 nms T V f hn hn3 hnm hne S, ass6_l6⟩
  · exact ⟨_, _, rfl, stack_l7 mx N b g m cap n k0 nms T V f hn hn3 hnm hne S, ass6_l7⟩
  · exact ⟨_, _, rfl, stack_l8 mx N b g m cap n k0 nms T V f hn hn3 hnm hne S, ass6_l8⟩
theorem own_zero {α : Type} {f : α → List Value} {E k : Nat} {w : World} {B g o m cap : Nat} {l : List α} (h : OwnsF f E k w B (.slice (some ⟨g, o, none⟩) m cap) l) : o = 0 := by
  rcases h.2 with ⟨e, _⟩ | ⟨g2, cap2, cur, e, _⟩
  · injection e with e1; cases e1
  · injection e with e1 _ _; injection e1 with e1; injection e1
def Whole4 (mx : Int) (N b : Nat) (lv : Value) (x : PartD) (k : Nat) (w : World) (v : Value) : Prop :=
  IfaceAt w v (faceN x k) ∧ ∃ T V, v = .iface T V ∧ Stack mx N b lv x.fCore.fKind (x.fLayers.map (·.fName)) k T V (faceN x k) ∧ Ass6 T (faceN x k)
theorem whole4_next {mx : Int} {N b g o m cap k q : Nat} {x : PartD} {w w2 : World} {v : Value} (ho : o = 0) (h : Whole4 mx N b (.slice (some ⟨g, o, none⟩) m cap) x k w v) (hk : k < x.fLayers.length) (h3 : x.fLayers.length ≤ 3) (hq : q < 9) (hnm : (x.fLayers[k]).fName = layN q)
    (hof : offersF (faceN x k) (needN q) = true) (hc : w2.cell? ⟨g, o + k * 2, none⟩ = some (.string ⟨(layN q).toArray⟩)) : Whole4 mx N b (.slice (some ⟨g, o, none⟩) m cap) x (k + 1) w2 (wrapV g (o + k * 2) v q) := by
  subst ho
  simp only [Nat.zero_add] at hc ⊢
  obtain ⟨⟨T0, V0, hv0, hf0, ha0⟩, T, V, rfl, hs, ha⟩ := h
  have hf : faceN x (k + 1) = giveN q := by
    rw [faceN_succ x k hk, hnm]
    rcases (show q = 0 ∨ q = 1 ∨ q = 2 ∨ q = 3 ∨ q = 4 ∨ q = 5 ∨ q = 6 ∨ q = 7 ∨ q = 8 by omega) with rfl | rfl | rfl | rfl | rfl | rfl | rfl | rfl | rfl <;> decide +kernel
  have hn2 : (x.fLayers.map (·.fName)).getD k [] = layN q := by
    rw [List.getD_eq_getElem?_getD, List.getElem?_map, List.getElem?_eq_getElem hk]; simpa using hnm
  unfold Whole4
  rw [hf]
  refine ⟨iface_wrap q hq hc, ?_⟩
  exact stack_wrap mx N b g m cap k _ _ T V _ ha0.face q hq (by simpa using hk) (by omega) hn2 hof hs
set_option maxRecDepth 100000 in
set_option maxHeartbeats 3200000 in
theorem wholePart4_c (mx : Int) (N b0 : Nat) (lv cv : Value) (x : PartD) (w : World) (hR : Ready mx N b0 lv cv x.fCore.fKind (x.fLayers.map (·.fName)) x w) :
    Calls Tryz.prog 108 #[.pointer (some ⟨b0, 0, none⟩)] w fun e w' => (∃ v, e = .returned v ∧ Whole4 mx N b0 lv x x.fLayers.length w' v) ∧ Below w.heap.size w w' := by
  have hp := hR.ok
  have h3l := partB_len hp
  have hbl := hR.st.core.box.lt
  have HLK := Lib.hid (fun k hk => partB_lay hp k hk)
  have HOK := Lib.hid (fun i h y hy => layOk_of x i h y hy)
  obtain ⟨j, hj1, hj2, hj3⟩ := coreB_kindP (partB_core hp)
  have H0 := Lib.hid (show faceN x 0 = kfN j by unfold faceN kfI; rw [hj1, if_neg (by omega)]; rfl)
  have HK := Lib.hid (show w.cell? ⟨b0, 0, none⟩ = some (.string ⟨(kindN j).toArray⟩) by rw [hj3]; exact hR.st.core.box.c0)
  have HPO := Lib.hid (partOf_k j hj2 b0 w HK.out)
  have HOW := Lib.hid hR.st.own
  have H5 := Lib.hid (sliceAt_of_owns cLayer_len hR.st.own (Nat.le_trans h3l (by decide)))
  have H50 := Lib.hid (hR.st.c5)
  have HS0 := Lib.hid (show ∃ T V, partV b0 j = .iface T V ∧ Stack mx N b0 lv x.fCore.fKind (x.fLayers.map (·.fName)) 0 T V (kfN j) ∧ Ass6 T (kfN j) by rw [← hj3]; exact stack_kind mx N b0 lv _ j hj2)
  obtain ⟨sa, sc, rfl⟩ := slice_of hR.st.own
  have HN := Lib.hid (fun (w w2 : World) (v : Value) (g o k q : Nat) ho h hk hq h1 h2 h4 => @whole4_next mx N b0 g o x.fLayers.length sc k q x w w2 v ho h hk h3l hq h1 h2 h4)
  have HW0 := Lib.hid (show ∀ w', Below w.heap.size w w' → Whole4 mx N b0 (.slice sa x.fLayers.length sc) x 0 w' (partV b0 j) from fun w' hb => by
    unfold Whole4
    rw [H0.out]
    exact ⟨iface_kind j hj2 ((hb.cell (p := ⟨b0, 0, none⟩) hbl).trans HK.out), HS0.out⟩)
  have HIF := Lib.hid (show ∀ k w' v, Whole4 mx N b0 (.slice sa x.fLayers.length sc) x k w' v → ∀ w2, Below w'.heap.size w' w2 → Whole4 mx N b0 (.slice sa x.fLayers.length sc) x k w2 v from fun k w' v h w2 hb => ⟨h.1.below hb, h.2⟩)
  generalize hls : x.fLayers = ls at *
  have HL := Lib.hid hls
  generalize partV b0 j = pv at *
  clear hR hp hj1 hj3 HS0 H0 HK hls
  go_enter Tryz.func108, Tryz.ntmps108
  go_wp2_with fail
  refine HPO.out.mono ?_
  rintro e w1 ⟨rfl, hb⟩
  have HB1 := Lib.hid hb
  have HI := Lib.hid (HW0.out w1 hb)
  clear hb HW0
  have e5 := (HB1.out.cell (p := ⟨b0, 5, none⟩) hbl).trans H50.out
  go_wp2_with fail
  clear e5
  go_loopw [3, 4, 14] (fun u3 _ i wr => ∃ k : Nat, k ≤ ls.length ∧ i = .int .i64 k ∧ Whole4 mx N b0 (.slice sa ls.length sc) x k wr u3 ∧ Below w.heap.size w wr) (fun _ _ i _ => ls.length - (intOf i).toNat)
  case atStart => exact ⟨0, Nat.zero_le _, rfl, HI.out, HB1.out⟩
  case round =>
    obtain ⟨k, hk, rfl, ht, hbr⟩ := hrel
    have HT := Lib.hid ht
    have HBr := Lib.hid hbr
    have HXr := Lib.hid (SliceAt.below H5.out (good_flat cLayer_len) hbr (Nat.le_refl _))
    clear ht hbr
    by_cases hlt : k < ls.length
    · obtain ⟨b, o, cs, rfl, hbw, hat, hd⟩ := sliceAt_cell HXr.out k hlt
      have HZ := Lib.hid (own_zero HOW.out)
      have HO1 := Lib.hid (HLK.out k hlt)
      have HO2 := Lib.hid (HOK.out k hlt _ rfl)
      have d0 := hd 0 (by decide)
      have HNK := Lib.hid (fun w2 q => HN.out wr w2 u3 b o k q HZ.out HT.out hlt)
      generalize ls[k] = z at *
      obtain ⟨z0, z1⟩ := z
      simp only [rFlat, cLayer] at hat
      subst hat
      simp only [List.getElem?_cons_zero, Nat.add_zero] at d0
      have hh := HO1.out
      rw [HO2.out] at hh
      simp only [Bool.and_eq_true, decide_eq_true_iff] at hh
      obtain ⟨⟨hh1, hh2⟩, _⟩ := hh
      obtain ⟨q, hq1, hq2, hq3⟩ : ∃ q : Nat, layI z0 = q ∧ q < 9 ∧ layN q = z0 := by
        rcases layI_bd z0 with h1 | h1
        · omega
        · exact h1
      subst hq3
      have hn : needI (layI (layN q)) = needN q := by rw [hq1]; unfold needI; rw [if_neg (by omega)]; rfl
      have HOF := Lib.hid (show offersF (faceN x k) (needN q) = true by rw [← hn]; exact hh2)
      have HW := Lib.hid (wrapIn_c b (o + k * 2) q hq2 u3 (faceN x k) wr d0 HT.out.1)
      have D0 := Lib.hid d0
      have hkc : (k : Int) < (ls.length : Int) := by omega
      have e5 := (HBr.out.cell (p := ⟨b0, 5, none⟩) hbl).trans H50.out
      have HNX := Lib.hid (fun w2 (hb2 : Below wr.heap.size wr w2) => HNK.out w2 q hq2 rfl HOF.out ((hb2.cell (p := ⟨b, o + k * 2, none⟩) hbw).trans D0.out))
      clear hd HXr hh1 hh2 hq1 hn d0 HO1 HO2 HLK HOK HN HNK
      go_wp2_with fail
      refine HW.out.mono ?_
      rintro e w2 ⟨hb2, hres⟩
      obtain rfl : e = .returned (.tuple #[wrapV b (o + k * 2) u3 q, vReply ⟨0, giveN q, [], 0, 0⟩]) := by
        rcases hres with ⟨_, h⟩ | ⟨h, _⟩
        · exact h
        · rw [HOF.out] at h; cases h
      have HB2 := Lib.hid (belS HBr.out hb2)
      have HWW := Lib.hid (HNX.out w2 hb2)
      generalize wrapV b (o + k * 2) u3 q = nv at *
      unfold vReply
      clear hb2 hres e5
      go_wp2_with fail
      exact ⟨⟨k + 1, by omega, by go_num, HWW.out, HB2.out⟩, by simp [intOf]; omega⟩
    · have hk2 : k = ls.length := by omega
      subst hk2
      go_wp2
      go_ret
      exact ⟨⟨u3, rfl, HT.out⟩, HBr.out⟩
def chgP (p : PartD) (x : CallD) : PartD × ReplyD := if (partB p && callB x) = true then dlv p.fLayers.length (faceP p) p x else (p, rC 7)
structure Pre4 (mx : Int) (N b : Nat) (lv cv : Value) (p : PartD) (w : World) : Prop where
  st : PSt N b lv cv p w
  hN : N ≤ w.heap.size
  hm : p.fCore.fCells.length ≤ 2097152
  hl : p.fLayers.length ≤ 2097152
  hk : ∀ c ∈ p.fCore.fCells, c.fKey.length ≤ maxLen
  gN : 0 < N
  hM : w.cell? ⟨0, 0, none⟩ = some (.int .i64 mx)
theorem Pre4.below {mx : Int} {N b : Nat} {lv cv : Value} {p : PartD} {w w' : World} (h : Pre4 mx N b lv cv p w) (hb : Below w.heap.size w w') : Pre4 mx N b lv cv p w' :=
  ⟨h.st.below hb, Nat.le_trans h.hN hb.size, h.hm, h.hl, h.hk, h.gN, (hb.cell (p := ⟨0, 0, none⟩) (Nat.lt_of_lt_of_le h.gN h.hN)).trans h.hM⟩
theorem Pre4.ready {mx : Int} {N b : Nat} {lv cv : Value} {p : PartD} {w : World} (h : Pre4 mx N b lv cv p w) (hp : partB p = true) : Ready mx N b lv cv p.fCore.fKind (p.fLayers.map (·.fName)) p w :=
  ⟨h.st, h.hN, hp, rfl, rfl, h.gN, h.hM⟩
theorem Pre4.part {mx : Int} {N b : Nat} {lv cv : Value} {p : PartD} {w : World} (h : Pre4 mx N b lv cv p w) :
    ValAt rPart 0 w (.agg #[.string ⟨p.fCore.fKind.toArray⟩, .bool p.fCore.fOn, .bool p.fCore.fBroken, cv, .int .i64 p.fCore.fCount, lv]) p :=
  ⟨[.string ⟨p.fCore.fKind.toArray⟩, .bool p.fCore.fOn, .bool p.fCore.fBroken, cv, .int .i64 p.fCore.fCount, lv], rfl, cv, lv, rfl, (sliceAt_of_owns cCell_len h.st.core.own (Nat.le_trans h.hm (by decide))).mono (good_flat cCell_len) (Nat.zero_le _), (sliceAt_of_owns cLayer_len h.st.own (Nat.le_trans h.hl (by decide))).mono (good_flat cLayer_len) (Nat.zero_le _)⟩
theorem wholePart4_t (mx : Int) (N b : Nat) (lv cv : Value) (p : PartD) (x : CallD) (w : World) (hR : Ready mx N b lv cv p.fCore.fKind (p.fLayers.map (·.fName)) p w) (hc : callB x = true) (hk : x.fKey.length ≤ 1048576) (ht : x.fText.length ≤ 1048576) :
    Calls Tryz.prog 108 #[.pointer (some ⟨b, 0, none⟩)] w fun e w' => ∃ T V, e = .returned (.iface T V) ∧ (∀ W, Below w'.heap.size w' W → Calls Tryz.prog 117 #[.iface T V, vCall x] W fun e w'' => Does4 N b lv (dlv p.fLayers.length (faceP p) p x) W e w'') ∧ Below w.heap.size w w' := by
  refine (wholePart4_c mx N b lv cv p w hR).mono ?_
  rintro e w' ⟨⟨v, rfl, ⟨T0, V0, hv, hf, _⟩, T, V, rfl, hs, ha⟩, hb⟩
  injection hv with h1 h2
  subst h1; subst h2
  exact ⟨T, V, rfl, fun W hW => dlv_c mx N b p.fLayers.length lv cv _ _ T V (faceP p) x p W (hR.below (belS hb hW)) (partB_len hR.ok) hs ha (hf.below hW) hc hk ht, hb⟩
set_option maxRecDepth 100000 in
set_option maxHeartbeats 3200000 in
theorem changeP_bad1 (mx : Int) (N b : Nat) (lv cv : Value) (p : PartD) (x : CallD) (w : World) (P : Pre4 mx N b lv cv p w) (hv : partB p = false) :
    Calls Tryz.prog 67 #[.pointer (some ⟨b, 0, none⟩), vCall x] w fun e w' => Does4 N b lv (p, rC 7) w e w' := by
  have HP := Lib.hid P
  have HN := Lib.hid P.hN
  have hbl := P.st.core.box.lt
  obtain ⟨xm, xk, xn, xt⟩ := x
  unfold vCall
  have HB := Lib.hid (belS (bx_box w (.cells #[.string ⟨xm.toArray⟩, .string ⟨xk.toArray⟩, .int .i64 xn, .string ⟨xt.toArray⟩] 43)) (bx_box (w.alloc (.cells #[.string ⟨xm.toArray⟩, .string ⟨xk.toArray⟩, .int .i64 xn, .string ⟨xt.toArray⟩] 43)) (.cells #[.int .i64 0, .int .i64 0, .string ⟨#[]⟩, .int .i64 0, .int .i64 0] 39)))
  have L2 := Lib.hid (Loc.new (w.alloc (.cells #[.string ⟨xm.toArray⟩, .string ⟨xk.toArray⟩, .int .i64 xn, .string ⟨xt.toArray⟩] 43)) [.int .i64 0, .int .i64 0, .string ⟨#[]⟩, .int .i64 0, .int .i64 0] 39)
  rw [show (w.alloc (.cells #[.string ⟨xm.toArray⟩, .string ⟨xk.toArray⟩, .int .i64 xn, .string ⟨xt.toArray⟩] 43)).heap.size = w.heap.size + 1 by simp] at L2
  have n2b : w.heap.size + 1 ≠ b := by omega
  have HIP := Lib.hid (fun W (hw : Below w.heap.size w W) => implIsPart_any _ p W (P.below hw).part P.hk)
  rw [hv] at HIP
  have PW := Lib.hid (P.below HB.out)
  go_enter Tryz.func67, Tryz.ntmps67
  obtain ⟨c0, c1, c2, c3, c4, _, _, _, _⟩ := PW.out.st.core.box
  have c5 := PW.out.st.c5
  clear P
  go_wp2_with fail
  clear c0 c1 c2 c3 c4 c5
  generalize (w.alloc (.cells #[.string ⟨xm.toArray⟩, .string ⟨xk.toArray⟩, .int .i64 xn, .string ⟨xt.toArray⟩] 43)).alloc (.cells #[.int .i64 0, .int .i64 0, .string ⟨#[]⟩, .int .i64 0, .int .i64 0] 39) = w0 at *
  refine (HIP.out _ HB.out).mono ?_
  rintro e w1 ⟨rfl, hb⟩
  have HB1 := Lib.hid (belS HB.out hb)
  replace L2 := Lib.hid (L2.out.below hb)
  clear hb
  have B_r := Lib.hid L2.out.bx
  have r0 := B_r.out.cell 0 (by simp)
  have r1 := B_r.out.cell 1 (by simp)
  have r2 := B_r.out.cell 2 (by simp)
  have r3 := B_r.out.cell 3 (by simp)
  have r4 := B_r.out.cell 4 (by simp)
  simp only [List.getElem_cons_zero, List.getElem_cons_succ] at r0 r1 r2 r3 r4
  have fr0 := B_r.out.froz 0 (by simp)
  have fr1 := B_r.out.froz 1 (by simp)
  have fr2 := B_r.out.froz 2 (by simp)
  have fr3 := B_r.out.froz 3 (by simp)
  have fr4 := B_r.out.froz 4 (by simp)
  have l_r := B_r.out.lt
  go_wp2_with fail
  refine bodyPost_ret (v := vReply (rC 7)) (by simp [results, Tryz.results67, go_sem, vReply, rC, rV, rT, cell_set_at, cell_set_ne, r0, r1, r2, r3, r4]) rfl ?_
  exact done5 (rC 7) (HP.out.st.below HB1.out) (KeptT.of_below HB1.out HN.out) L2.out n2b (by omega) HN.out _ _ _ _ _
set_option maxRecDepth 100000 in
set_option maxHeartbeats 3200000 in
theorem changeP_bad2 (mx : Int) (N b : Nat) (lv cv : Value) (p : PartD) (x : CallD) (w : World) (P : Pre4 mx N b lv cv p w) (hv : partB p = true) (hc : callB x = false) (hk : x.fKey.length ≤ 1048576) :
    Calls Tryz.prog 67 #[.pointer (some ⟨b, 0, none⟩), vCall x] w fun e w' => Does4 N b lv (p, rC 7) w e w' := by
  have HP := Lib.hid P
  have HN := Lib.hid P.hN
  have hbl := P.st.core.box.lt
  have HJ := Lib.hid (fun w' => implIsCall_b x false hc w' (Nat.le_trans hk (by decide)))
  obtain ⟨xm, xk, xn, xt⟩ := x
  unfold vCall at HJ ⊢
  have HB := Lib.hid (belS (bx_box w (.cells #[.string ⟨xm.toArray⟩, .string ⟨xk.toArray⟩, .int .i64 xn, .string ⟨xt.toArray⟩] 43)) (bx_box (w.alloc (.cells #[.string ⟨xm.toArray⟩, .string ⟨xk.toArray⟩, .int .i64 xn, .string ⟨xt.toArray⟩] 43)) (.cells #[.int .i64 0, .int .i64 0, .string ⟨#[]⟩, .int .i64 0, .int .i64 0] 39)))
  have L2 := Lib.hid (Loc.new (w.alloc (.cells #[.string ⟨xm.toArray⟩, .string ⟨xk.toArray⟩, .int .i64 xn, .string ⟨xt.toArray⟩] 43)) [.int .i64 0, .int .i64 0, .string ⟨#[]⟩, .int .i64 0, .int .i64 0] 39)
  have L1 := Lib.hid ((Loc.new w [.string ⟨xm.toArray⟩, .string ⟨xk.toArray⟩, .int .i64 xn, .string ⟨xt.toArray⟩] 43).past (.cells #[.int .i64 0, .int .i64 0, .string ⟨#[]⟩, .int .i64 0, .int .i64 0] 39))
  rw [show (w.alloc (.cells #[.string ⟨xm.toArray⟩, .string ⟨xk.toArray⟩, .int .i64 xn, .string ⟨xt.toArray⟩] 43)).heap.size = w.heap.size + 1 by simp] at L2
  have n2b : w.heap.size + 1 ≠ b := by omega
  have HIP := Lib.hid (fun W (hw : Below w.heap.size w W) => implIsPart_any _ p W (P.below hw).part P.hk)
  rw [hv] at HIP
  have PW := Lib.hid (P.below HB.out)
  go_enter Tryz.func67, Tryz.ntmps67
  obtain ⟨c0, c1, c2, c3, c4, _, _, _, _⟩ := PW.out.st.core.box
  have c5 := PW.out.st.c5
  clear P hc
  go_wp2_with fail
  clear c0 c1 c2 c3 c4 c5
  generalize (w.alloc (.cells #[.string ⟨xm.toArray⟩, .string ⟨xk.toArray⟩, .int .i64 xn, .string ⟨xt.toArray⟩] 43)).alloc (.cells #[.int .i64 0, .int .i64 0, .string ⟨#[]⟩, .int .i64 0, .int .i64 0] 39) = w0 at *
  refine (HIP.out _ HB.out).mono ?_
  rintro e w1 ⟨rfl, hb⟩
  have HB1 := Lib.hid (belS HB.out hb)
  replace L2 := Lib.hid (L2.out.below hb)
  replace L1 := Lib.hid (L1.out.below hb)
  clear hb
  have B_a := Lib.hid L1.out.bx
  have a0 := B_a.out.cell 0 (by simp)
  have a1 := B_a.out.cell 1 (by simp)
  have a2 := B_a.out.cell 2 (by simp)
  have a3 := B_a.out.cell 3 (by simp)
  simp only [List.getElem_cons_zero, List.getElem_cons_succ] at a0 a1 a2 a3
  have l_a := B_a.out.lt
  go_wp2_with fail
  refine (HJ.out _).mono ?_
  rintro e w2 ⟨rfl, hb⟩
  clear B_a l_a a0 a1 a2 a3
  have HB2 := Lib.hid (belS HB1.out hb)
  replace L2 := Lib.hid (L2.out.below hb)
  clear hb
  have B_r := Lib.hid L2.out.bx
  have r0 := B_r.out.cell 0 (by simp)
  have r1 := B_r.out.cell 1 (by simp)
  have r2 := B_r.out.cell 2 (by simp)
  have r3 := B_r.out.cell 3 (by simp)
  have r4 := B_r.out.cell 4 (by simp)
  simp only [List.getElem_cons_zero, List.getElem_cons_succ] at r0 r1 r2 r3 r4
  have fr0 := B_r.out.froz 0 (by simp)
  have fr1 := B_r.out.froz 1 (by simp)
  have fr2 := B_r.out.froz 2 (by simp)
  have fr3 := B_r.out.froz 3 (by simp)
  have fr4 := B_r.out.froz 4 (by simp)
  have l_r := B_r.out.lt
  go_wp2_with fail
  refine bodyPost_ret (v := vReply (rC 7)) (by simp [results, Tryz.results67, go_sem, vReply, rC, rV, rT, cell_set_at, cell_set_ne, r0, r1, r2, r3, r4]) rfl ?_
  exact done5 (rC 7) (HP.out.st.below HB2.out) (KeptT.of_below HB2.out HN.out) L2.out n2b (by omega) HN.out _ _ _ _ _
set_option maxRecDepth 100000 in
set_option maxHeartbeats 3200000 in
theorem changeP_good (mx : Int) (N b : Nat) (lv cv : Value) (p : PartD) (x : CallD) (w : World) (P : Pre4 mx N b lv cv p w) (hv : partB p = true) (hc : callB x = true) (hk : x.fKey.length ≤ 1048576) (ht : x.fText.length ≤ 1048576) :
    Calls Tryz.prog 67 #[.pointer (some ⟨b, 0, none⟩), vCall x] w fun e w' => Does4 N b lv (dlv p.fLayers.length (faceP p) p x) w e w' := by
  have HP := Lib.hid P
  have HN := Lib.hid P.hN
  have hbl := P.st.core.box.lt
  have HWP := Lib.hid (fun W (hw : Below w.heap.size w W) => wholePart4_t mx N b lv cv p x W ((P.below hw).ready hv) hc hk ht)
  have HJ := Lib.hid (fun w' => implIsCall_b x true hc w' (Nat.le_trans hk (by decide)))
  generalize dlv p.fLayers.length (faceP p) p x = out at *
  obtain ⟨q, t0, t1, t2, t3, t4⟩ := out
  obtain ⟨xm, xk, xn, xt⟩ := x
  unfold vCall at HJ HWP ⊢
  have HB := Lib.hid (belS (bx_box w (.cells #[.string ⟨xm.toArray⟩, .string ⟨xk.toArray⟩, .int .i64 xn, .string ⟨xt.toArray⟩] 43)) (bx_box (w.alloc (.cells #[.string ⟨xm.toArray⟩, .string ⟨xk.toArray⟩, .int .i64 xn, .string ⟨xt.toArray⟩] 43)) (.cells #[.int .i64 0, .int .i64 0, .string ⟨#[]⟩, .int .i64 0, .int .i64 0] 39)))
  have L2 := Lib.hid (Loc.new (w.alloc (.cells #[.string ⟨xm.toArray⟩, .string ⟨xk.toArray⟩, .int .i64 xn, .string ⟨xt.toArray⟩] 43)) [.int .i64 0, .int .i64 0, .string ⟨#[]⟩, .int .i64 0, .int .i64 0] 39)
  have L1 := Lib.hid ((Loc.new w [.string ⟨xm.toArray⟩, .string ⟨xk.toArray⟩, .int .i64 xn, .string ⟨xt.toArray⟩] 43).past (.cells #[.int .i64 0, .int .i64 0, .string ⟨#[]⟩, .int .i64 0, .int .i64 0] 39))
  rw [show (w.alloc (.cells #[.string ⟨xm.toArray⟩, .string ⟨xk.toArray⟩, .int .i64 xn, .string ⟨xt.toArray⟩] 43)).heap.size = w.heap.size + 1 by simp] at L2
  have n2b : w.heap.size + 1 ≠ b := by omega
  have HIP := Lib.hid (fun W (hw : Below w.heap.size w W) => implIsPart_any _ p W (P.below hw).part P.hk)
  rw [hv] at HIP
  have PW := Lib.hid (P.below HB.out)
  go_enter Tryz.func67, Tryz.ntmps67
  obtain ⟨c0, c1, c2, c3, c4, _, _, _, _⟩ := PW.out.st.core.box
  have c5 := PW.out.st.c5
  clear P hc
  go_wp2_with fail
  clear c0 c1 c2 c3 c4 c5
  generalize (w.alloc (.cells #[.string ⟨xm.toArray⟩, .string ⟨xk.toArray⟩, .int .i64 xn, .string ⟨xt.toArray⟩] 43)).alloc (.cells #[.int .i64 0, .int .i64 0, .string ⟨#[]⟩, .int .i64 0, .int .i64 0] 39) = w0 at *
  refine (HIP.out _ HB.out).mono ?_
  rintro e w1 ⟨rfl, hb⟩
  have HB1 := Lib.hid (belS HB.out hb)
  replace L2 := Lib.hid (L2.out.below hb)
  replace L1 := Lib.hid (L1.out.below hb)
  clear hb
  have B_a := Lib.hid L1.out.bx
  have a0 := B_a.out.cell 0 (by simp)
  have a1 := B_a.out.cell 1 (by simp)
  have a2 := B_a.out.cell 2 (by simp)
  have a3 := B_a.out.cell 3 (by simp)
  simp only [List.getElem_cons_zero, List.getElem_cons_succ] at a0 a1 a2 a3
  have l_a := B_a.out.lt
  go_wp2_with fail
  refine (HJ.out _).mono ?_
  rintro e w2 ⟨rfl, hb⟩
  clear B_a l_a a0 a1 a2 a3
  have HB2 := Lib.hid (belS HB1.out hb)
  replace L2 := Lib.hid (L2.out.below hb)
  replace L1 := Lib.hid (L1.out.below hb)
  clear hb
  have B_a := Lib.hid L1.out.bx
  have a0 := B_a.out.cell 0 (by simp)
  have a1 := B_a.out.cell 1 (by simp)
  have a2 := B_a.out.cell 2 (by simp)
  have a3 := B_a.out.cell 3 (by simp)
  simp only [List.getElem_cons_zero, List.getElem_cons_succ] at a0 a1 a2 a3
  have l_a := B_a.out.lt
  go_wp2_with fail
  go_region_with (first
    | (go_at_call 108; refine (HWP.out w2.drew HB2.out.drew).mono ?_; rintro e w3 ⟨T, V, rfl, hq3, hb3⟩; have HB3 := Lib.hid (show Below w2.heap.size w2 w3 from ⟨hb3.os, hb3.tape, hb3.output, hb3.size, hb3.block⟩); have HQ3 := Lib.hid hq3; have L13 := Lib.hid (L1.out.below HB3.out); have L23 := Lib.hid (L2.out.below HB3.out); clear hb3 hq3; have u0 := L13.out.bx.cell 0 (by simp); have u1 := L13.out.bx.cell 1 (by simp); have u2 := L13.out.bx.cell 2 (by simp); have u3 := L13.out.bx.cell 3 (by simp); simp only [List.getElem_cons_zero, List.getElem_cons_succ] at u0 u1 u2 u3)
    | (go_at_call 117; refine (HQ3.out w3 (Below.refl _ _)).mono ?_; rintro e w4 ⟨rfl, cv4, hs4, hk4⟩; have L24 := Lib.hid (L23.out.stays hk4 n2b (by decide) (by decide)); have HK4 := Lib.hid (KeptT.ahead (belS HB2.out HB3.out) HN.out hk4); have HS4 := Lib.hid hs4; clear hs4 hk4; unfold vReply; simp only; have r0 := L24.out.bx.cell 0 (by simp); have r1 := L24.out.bx.cell 1 (by simp); have r2 := L24.out.bx.cell 2 (by simp); have r3 := L24.out.bx.cell 3 (by simp); have r4 := L24.out.bx.cell 4 (by simp); simp only [List.getElem_cons_zero, List.getElem_cons_succ] at r0 r1 r2 r3 r4; have f0 := L24.out.bx.froz 0 (by simp); have f1 := L24.out.bx.froz 1 (by simp); have f2 := L24.out.bx.froz 2 (by simp); have f3 := L24.out.bx.froz 3 (by simp); have f4 := L24.out.bx.froz 4 (by simp)))
  all_goals
    go_wp2_with fail
    refine bodyPost_ret (v := .agg #[.int .i64 t0, .int .i64 t1, .string ⟨t2.toArray⟩, .int .i64 t3, .int .i64 t4]) (by simp [results, Tryz.results67, go_sem, cell_set_at, cell_set_ne, r0, r1, r2, r3, r4]) rfl ?_
    exact done5 ⟨t0, t1, t2, t3, t4⟩ HS4.out HK4.out L24.out n2b (by omega) HN.out _ _ _ _ _
theorem changePart_c (mx : Int) (N b : Nat) (lv cv : Value) (p : PartD) (x : CallD) (w : World) (P : Pre4 mx N b lv cv p w) (hk : x.fKey.length ≤ 1048576) (ht : x.fText.length ≤ 1048576) :
    Calls Tryz.prog 67 #[.pointer (some ⟨b, 0, none⟩), vCall x] w fun e w' => Does4 N b lv (chgP p x) w e w' := by
  unfold chgP
  cases hv : partB p with
  | false => simp only [Bool.false_and, Bool.false_eq_true, if_false]; exact changeP_bad1 mx N b lv cv p x w P hv
  | true =>
    cases hc : callB x with
    | false => simp only [Bool.and_false, Bool.false_eq_true, if_false]; exact changeP_bad2 mx N b lv cv p x w P hv hc hk
    | true => simp only [Bool.and_self, if_true]; exact changeP_good mx N b lv cv p x w P hv hc hk ht
theorem offers_iff {f w : Int} (hf : isF f = true) (hw : isF w = true) : offersF f w = true ↔ ∀ j, j < 6 → hasI w j = true → hasI f j = true := by
  unfold offersF lackF
  rw [if_pos ⟨hf, hw⟩, hf, hw]
  simp only [Bool.and_self, Bool.true_and, beq_iff_eq]
  rw [madeK_zero]
  refine ⟨fun h j hj hj2 => ?_, fun h j hj => ?_⟩
  · have := h j hj
    unfold lackP at this
    rw [hj2] at this
    simpa using this
  · unfold lackP
    cases hx : hasI w j with
    | false => rfl
    | true => rw [h j hj hx]; rfl
theorem offers_trans {a b c : Int} (ha : isF a = true) (hb : isF b = true) (hc : isF c = true) (h1 : offersF a b = true) (h2 : offersF b c = true) : offersF a c = true :=
  (offers_iff ha hc).2 fun j hj h => (offers_iff ha hb).1 h1 j hj ((offers_iff hb hc).1 h2 j hj h)
theorem faceN_face (p : PartD) (n : Nat) : isF (faceN p n) = true := by
  cases n with
  | zero => exact kfI_face _
  | succ n => show isF (giveI _) = true; unfold giveI; split; rfl; exact giveN_face _
theorem lay_of {p : PartD} (hp : partB p = true) (n : Nat) (hn : n < p.fLayers.length) : ∃ q : Nat, q < 9 ∧ nmL p n = layN q ∧ faceN p (n + 1) = giveN q ∧ offersF (faceN p n) (needN q) = true := by
  have h := partB_lay hp n hn
  unfold layOk at h
  simp only [Bool.and_eq_true, decide_eq_true_iff] at h
  obtain ⟨⟨h1, h2⟩, _⟩ := h
  have e : (p.fLayers.getD n default).fName = nmL p n := rfl
  rw [e] at h1 h2
  rcases layI_bd (nmL p n) with h3 | ⟨q, h3, h4, h5⟩
  · omega
  · refine ⟨q, h4, h5.symm, ?_, ?_⟩
    · rw [faceN_succ p n hn]
      have e2 : (p.fLayers[n]).fName = nmL p n := by unfold nmL; rw [List.getD_eq_getElem?_getD, List.getElem?_eq_getElem hn]; rfl
      rw [e2, h3]; unfold giveI; rw [if_neg (by omega)]; rfl
    · rw [h3] at h2; unfold needI at h2; rw [if_neg (by omega)] at h2; exact h2
def mtN4 : Nat → List UInt8
  | 0 => mStart | 1 => mStop | 2 => mGet | 3 => mPut | 4 => mTell | 5 => mHear | 6 => mLoad | 7 => mSave | _ => mHeal
theorem pass_of : ∀ (q : _root_.Fin 9) (j : _root_.Fin 9), offersF (giveN q) (wantF (mtN4 j)) = true → ownB (layN q) (mtN4 j) = true ∨ offersF (needN q) (wantF (mtN4 j)) = true := by decide +kernel
theorem mth_of {x : CallD} (h : callB x = true) : ∃ j : _root_.Fin 9, x.fMethod = mtN4 j := by
  rcases callB_meth h with ⟨h, _⟩ | ⟨h, _⟩ | ⟨h, _⟩ | ⟨h, _⟩ | ⟨h, _⟩ | ⟨h, _⟩ | ⟨h, _⟩ | ⟨h, _⟩ | ⟨h, _⟩
  · exact ⟨0, h⟩
  · exact ⟨1, h⟩
  · exact ⟨2, h⟩
  · exact ⟨3, h⟩
  · exact ⟨4, h⟩
  · exact ⟨5, h⟩
  · exact ⟨6, h⟩
  · exact ⟨7, h⟩
  · exact ⟨8, h⟩
theorem want_face : ∀ j : _root_.Fin 9, isF (wantF (mtN4 j)) = true := by decide +kernel
theorem pass_x {p : PartD} (hp : partB p = true) (n : Nat) (hn : n < p.fLayers.length) {x : CallD} (hx : callB x = true) (ho : offersF (faceN p (n + 1)) (wantF x.fMethod) = true) (hb : ownB (nmL p n) x.fMethod = false) : offersF (faceN p n) (wantF x.fMethod) = true := by
  obtain ⟨q, hq, h1, h2, h3⟩ := lay_of hp n hn
  obtain ⟨j, hj⟩ := mth_of hx
  rw [h2, hj] at ho
  rw [h1, hj] at hb
  rcases pass_of ⟨q, hq⟩ j ho with h4 | h4
  · rw [hb] at h4; cases h4
  · rw [hj]; exact offers_trans (faceN_face _ _) (needN_face _) (want_face j) h3 h4
theorem layN_inj : ∀ q : _root_.Fin 9, (layN q = nCounts → (q : Nat) = 3) ∧ (layN q = nLazy → (q : Nat) = 4) ∧ (layN q = nReads → (q : Nat) = 5) ∧ (layN q = nHears → (q : Nat) = 6) ∧ (layN q = nHeals → (q : Nat) = 7) ∧ (layN q = nTwice → (q : Nat) = 8) := by decide +kernel
theorem below_off {p : PartD} (hp : partB p = true) (n : Nat) (hn : n < p.fLayers.length) :
    (nmL p n = nCounts → offersF (faceN p n) 2 = true) ∧ (nmL p n = nLazy → offersF (faceN p n) 1 = true ∧ offersF (faceN p n) 2 = true ∧ offersF (faceN p n) 3 = true) ∧ (nmL p n = nHears → offersF (faceN p n) 1 = true) ∧ (nmL p n = nHeals → offersF (faceN p n) 1 = true) ∧ (nmL p n = nTwice → offersF (faceN p n) 4 = true) := by
  obtain ⟨q, hq, h1, h2, h3⟩ := lay_of hp n hn
  obtain ⟨i1, i2, i3, i4, i5, i6⟩ := layN_inj ⟨q, hq⟩
  have T : ∀ W, isF W = true → offersF (needN q) W = true → offersF (faceN p n) W = true := fun W hW h => offers_trans (faceN_face _ _) (needN_face _) hW h3 h
  rw [h1]
  refine ⟨fun h => ?_, fun h => ?_, fun h => ?_, fun h => ?_, fun h => ?_⟩
  · have := i1 h; simp only at this; subst this; exact T 2 (by decide) (by decide +kernel)
  · have := i2 h; simp only at this; subst this; exact ⟨T 1 (by decide) (by decide +kernel), T 2 (by decide) (by decide +kernel), T 3 (by decide) (by decide +kernel)⟩
  · have := i4 h; simp only at this; subst this; exact T 1 (by decide) (by decide +kernel)
  · have := i5 h; simp only at this; subst this; exact T 1 (by decide) (by decide +kernel)
  · have := i6 h; simp only at this; subst this; exact T 4 (by decide) (by decide +kernel)
theorem start_ok : callB (cX mStart) = true := by decide
theorem stop_ok : callB (cX mStop) = true := by decide
theorem want_kept {m : List UInt8} (h : keptB m = true) : wantF m = 2 := by
  unfold keptB at h
  rw [Bool.or_eq_true, beq_iff_eq, beq_iff_eq] at h
  rcases h with rfl | rfl <;> decide +kernel
theorem ownB_no {nm m : List UInt8} (h1 : ¬ (nm = nCounts ∧ m = mTell)) (h2 : ¬ (nm = nCounts ∧ keptB m = true)) (h3 : ¬ (nm = nLazy ∧ keptB m = true)) (h4 : ¬ (nm = nReads ∧ m = mPut)) (h5 : ¬ (nm = nHears ∧ m = mHear)) (h6 : ¬ (nm = nHeals ∧ m = mHeal)) (h7 : ¬ (nm = nTwice ∧ m = mTell)) : ownB nm m = false := by
  cases h : ownB nm m with
  | false => rfl
  | true =>
    unfold ownB at h
    simp only [Bool.or_eq_true, Bool.and_eq_true, beq_iff_eq] at h
    rcases h with ((((⟨a, b | b⟩ | ⟨a, b⟩) | ⟨a, b⟩) | ⟨a, b⟩) | ⟨a, b⟩) | ⟨a, b⟩
    · exact absurd ⟨a, b⟩ h1
    · exact absurd ⟨a, b⟩ h2
    · exact absurd ⟨a, b⟩ h3
    · exact absurd ⟨a, b⟩ h4
    · exact absurd ⟨a, b⟩ h5
    · exact absurd ⟨a, b⟩ h6
    · exact absurd ⟨a, b⟩ h7
theorem lyDo_face (n : Nat) (p : PartD) (x : CallD) (m : Nat) : faceN (lyDo n p x).1 m = faceN p m := faceN_map (lyDo_names n p x).1 (lyDo_names n p x).2 m
theorem updL_face (p : PartD) (n m : Nat) : faceN (updL p n) m = faceN p m := faceN_map (names_upd p n) rfl m
theorem updL_len (p : PartD) (n : Nat) : (updL p n).fLayers.length = p.fLayers.length := by unfold updL; simp
theorem lyDo_code : ∀ (n : Nat) (p : PartD) (x : CallD), n ≤ p.fLayers.length → partB p = true → callB x = true → offersF (faceN p n) (wantF x.fMethod) = true → (lyDo n p x).2.fCode ≠ 1 ∧ (lyDo n p x).2.fCode ≠ 7 ∧ (x.fMethod = mTell → (lyDo n p x).2.fCode = 0) := by
  intro n
  induction n with
  | zero =>
    intro p x _ hp hx ho
    show (doD p.fCore x).2.fCode ≠ 1 ∧ (doD p.fCore x).2.fCode ≠ 7 ∧ (x.fMethod = mTell → (doD p.fCore x).2.fCode = 0)
    rw [doD_good (partB_core hp) hx ho]
    exact ⟨(mthD_code _ _).1, (mthD_code _ _).2, fun h => by rw [mthD_Tell h]; rfl⟩
  | succ n ih =>
    intro p x hn hp hx ho
    have hn' : n < p.fLayers.length := by omega
    obtain ⟨o1, o2, o3, o4, o5⟩ := below_off hp n hn'
    have hL : ∀ q y, (lyDo n q y).1.fLayers.length = q.fLayers.length := fun q y => lyDo_len n q y
    have hP : ∀ q y, q.fLayers.length = p.fLayers.length → partB q = true → partB (lyDo n q y).1 = true := fun q y e h => lyDo_part n q y (by omega) h
    unfold lyDo
    split
    · exact ⟨show (0 : Int) ≠ 1 by decide, show (0 : Int) ≠ 7 by decide, fun _ => rfl⟩
    split
    · rename_i h; exact ih p x (by omega) hp hx (by rw [want_kept h.2]; exact o1 h.1)
    split
    · rename_i h
      have ho2 : offersF (faceN p n) (wantF x.fMethod) = true := by rw [want_kept h.2]; exact (o2 h.1).2.1
      split
      · exact ih _ x (by rw [hL, hL]; omega) (hP _ _ (hL _ _) (hP _ _ rfl hp)) hx (by rw [lyDo_face, lyDo_face]; exact ho2)
      · exact ih p x (by omega) hp hx ho2
    split
    · rename_i h; exact ⟨show (6 : Int) ≠ 1 by decide, show (6 : Int) ≠ 7 by decide, fun e => absurd (h.2.symm.trans e) (by decide)⟩
    split
    · rename_i h
      have hu : partB (updL p n) = true := upd_part hp n hn' (by rw [h.1]; exact hears_counted)
      have hm : ¬ x.fMethod = mTell := fun e => absurd (h.2.symm.trans e) (by decide)
      split
      · exact ⟨show (0 : Int) ≠ 1 by decide, show (0 : Int) ≠ 7 by decide, fun e => absurd e hm⟩
      · split
        · have h2 := ih (updL p n) (cX mStop) (by rw [updL_len]; omega) hu stop_ok (by rw [updL_face]; exact o3 h.1)
          exact ⟨h2.1, h2.2.1, fun e => absurd e hm⟩
        · have h2 := ih (updL p n) (cX mStart) (by rw [updL_len]; omega) hu start_ok (by rw [updL_face]; exact o3 h.1)
          exact ⟨h2.1, h2.2.1, fun e => absurd e hm⟩
    split
    · rename_i h
      have hm : ¬ x.fMethod = mTell := fun e => absurd (h.2.symm.trans e) (by decide)
      have h2 := ih (lyDo n p (cX mStop)).1 (cX mStart) (by rw [hL]; omega) (hP _ _ rfl hp) start_ok (by rw [lyDo_face]; exact o4 h.1)
      exact ⟨h2.1, h2.2.1, fun e => absurd e hm⟩
    split
    · rename_i h
      have h2 := ih p x (by omega) hp hx (by rw [h.2]; exact o5 h.1)
      have e : ∀ r : ReplyD, (twR r).fCode = r.fCode := fun r => by unfold twR; split <;> rfl
      simp only [e]; exact h2
    · rename_i h1 h2 h3 h4 h5 h6 h7
      exact ih p x (by omega) hp hx (pass_x hp n hn' hx ho (ownB_no h1 h2 h3 h4 h5 h6 h7))
theorem chg_bad {p : PartD} {x : CallD} (h : ¬ (partB p = true ∧ callB x = true)) : chgP p x = (p, rC 7) := if_neg (by rw [Bool.and_eq_true]; exact h)
theorem chg_no {p : PartD} {x : CallD} (h1 : partB p = true) (h2 : callB x = true) (h3 : offersF (faceP p) (wantF x.fMethod) = false) : chgP p x = (p, ⟨1, 0, [], wantF x.fMethod, faceP p⟩) := by
  unfold chgP; rw [if_pos (by rw [h1, h2]; rfl)]; unfold dlv; rw [if_neg (by rw [h3]; decide)]
theorem chg_yes {p : PartD} {x : CallD} (h1 : partB p = true) (h2 : callB x = true) (h3 : offersF (faceP p) (wantF x.fMethod) = true) : chgP p x = lyDo p.fLayers.length p x := by
  unfold chgP; rw [if_pos (by rw [h1, h2]; rfl)]; unfold dlv; rw [if_pos h3]
theorem chg_code {p : PartD} {x : CallD} (h1 : partB p = true) (h2 : callB x = true) : (chgP p x).2.fCode ≠ 7 ∧ (((chgP p x).2.fCode == 1) = !offersF (faceP p) (wantF x.fMethod)) ∧ ((chgP p x).2.fCode = 1 → chgP p x = (p, ⟨1, 0, [], wantF x.fMethod, faceP p⟩)) := by
  cases h3 : offersF (faceP p) (wantF x.fMethod) with
  | false => rw [chg_no h1 h2 h3]; exact ⟨show (1 : Int) ≠ 7 by decide, rfl, fun _ => rfl⟩
  | true =>
    rw [chg_yes h1 h2 h3]
    have h4 := lyDo_code p.fLayers.length p x (Nat.le_refl _) h1 h2 h3
    exact ⟨h4.2.1, by simpa using h4.1, fun e => absurd e h4.1⟩
theorem bx_start4 (w : World) (c1 c2 c3 c4 : List Value) (t1 t2 t3 t4 : TypeId) : Bx ((((w.alloc (.cells c1.toArray t1)).alloc (.cells c2.toArray t2)).alloc (.cells c3.toArray t3)).alloc (.cells c4.toArray t4)) w.heap.size c1 ∧ Bx ((((w.alloc (.cells c1.toArray t1)).alloc (.cells c2.toArray t2)).alloc (.cells c3.toArray t3)).alloc (.cells c4.toArray t4)) (w.heap.size + 1) c2 ∧ Bx ((((w.alloc (.cells c1.toArray t1)).alloc (.cells c2.toArray t2)).alloc (.cells c3.toArray t3)).alloc (.cells c4.toArray t4)) (w.heap.size + 1 + 1) c3 ∧ Bx ((((w.alloc (.cells c1.toArray t1)).alloc (.cells c2.toArray t2)).alloc (.cells c3.toArray t3)).alloc (.cells c4.toArray t4)) (w.heap.size + 1 + 1 + 1) c4 ∧ Below w.heap.size w ((((w.alloc (.cells c1.toArray t1)).alloc (.cells c2.toArray t2)).alloc (.cells c3.toArray t3)).alloc (.cells c4.toArray t4)) := by
  obtain ⟨h1, h2, h3, h4⟩ := bx_start3 w c1 c2 c3 t1 t2 t3
  have h := Bx.new (((w.alloc (.cells c1.toArray t1)).alloc (.cells c2.toArray t2)).alloc (.cells c3.toArray t3)) c4 t4
  rw [show (((w.alloc (.cells c1.toArray t1)).alloc (.cells c2.toArray t2)).alloc (.cells c3.toArray t3)).heap.size = w.heap.size + 1 + 1 + 1 by simp] at h
  exact ⟨h1.alloc _, h2.alloc _, h3.alloc _, h, belS h4 (bx_box _ _)⟩
theorem pst_new {N : Nat} {w : World} {v3 v5 : Value} {p : PartD} (h3 : OwnsF cCell 139 2 w N v3 p.fCore.fCells) (h5 : OwnsF cLayer 86 2 w N v5 p.fLayers) (hN : N ≤ w.heap.size) :
    PSt N w.heap.size v5 v3 p (w.alloc (.cells #[.string ⟨p.fCore.fKind.toArray⟩, .bool p.fCore.fOn, .bool p.fCore.fBroken, v3, .int .i64 p.fCore.fCount, v5] 37)) := by
  have hb := Bx.new w [.string ⟨p.fCore.fKind.toArray⟩, .bool p.fCore.fOn, .bool p.fCore.fBroken, v3, .int .i64 p.fCore.fCount, v5] 37
  have c0 := hb.cell 0 (by simp)
  have c1 := hb.cell 1 (by simp)
  have c2 := hb.cell 2 (by simp)
  have c3 := hb.cell 3 (by simp)
  have c4 := hb.cell 4 (by simp)
  have c5 := hb.cell 5 (by simp)
  simp only [List.getElem_cons_zero, List.getElem_cons_succ] at c0 c1 c2 c3 c4 c5
  exact ⟨⟨⟨c0, c1, c2, c3, c4, hb.froz 1 (by simp), hb.froz 2 (by simp), hb.froz 3 (by simp), hb.froz 4 (by simp)⟩, ownsF_alloc h3 _, fun e => by have := (World.ownsRow.lt h3 _ e).2; omega, hN⟩, c5, ownsF_alloc h5 _, fun e => by have := (World.ownsRow.lt h5 _ e).2; omega⟩
set_option maxRecDepth 100000 in
set_option maxHeartbeats 3200000 in
theorem implCallPart_c (v : Value) (p : PartD) (x : CallD) (mx : Int) (w : World) (hx : ValAt rPart 0 w v p) (hs : SmallP p) (hk : x.fKey.length ≤ 1048576) (ht : x.fText.length ≤ 1048576) (hM : w.cell? ⟨0, 0, none⟩ = some (.int .i64 mx)) :
    Calls Tryz.prog 20 #[v, vCall x] w fun e w' => GivesOPR (chgP p x).1 (chgP p x).2 w e w' := by
  obtain ⟨_, rfl, hx⟩ := hx
  have HX := Lib.hid (fun W (hb : Below w.heap.size w W) => goodPart.keep hx (kept_below hb (Nat.le_refl _)))
  have HCP := Lib.hid (fun cs W (h : rPart 0 W cs p) => copyPart_c (.agg cs.toArray) p W ⟨cs, rfl, h⟩ hs)
  have hGl := World.block_lt_of_cell? w _ hM
  simp only at hGl
  have HMX := Lib.hid (fun W (hw : Below w.heap.size w W) => (hw.cell (p := ⟨0, 0, none⟩) hGl).trans hM)
  have HCH := Lib.hid (fun N b lv cv W (st : PSt N b lv cv p W) (hN : N ≤ W.heap.size) (hw : Below w.heap.size w W) (hg : w.heap.size ≤ N) =>
    changePart_c mx N b lv cv p x W ⟨st, hN, hs.cells, hs.lays, fun c hc => Nat.le_trans (hs.keys c hc) (by decide), Nat.lt_of_lt_of_le hGl hg, HMX.out W hw⟩ hk ht)
  clear hM
  unfold GivesOPR
  unfold GivesOP at HCP
  have HNW := Lib.hid (fun W (v3 v5 : Value) (h3 : OwnsF cCell 139 2 W (w.heap.size + 1 + 1 + 1 + 1) v3 p.fCore.fCells) (h5 : OwnsF cLayer 86 2 W (w.heap.size + 1 + 1 + 1 + 1) v5 p.fLayers) (hN : w.heap.size + 1 + 1 + 1 + 1 ≤ W.heap.size) => pst_new h3 h5 hN)
  generalize chgP p x = out at *
  obtain ⟨q, t0, t1, t2, t3, t4⟩ := out
  obtain ⟨xm, xk, xn, xt⟩ := x
  obtain ⟨⟨a0, a1, a2, a3, a4⟩, l⟩ := p
  obtain ⟨v3, v5, rfl, h3, h5⟩ := hx
  unfold vCall vReply
  unfold vCall at HCH
  simp only at h3 h5 HCH HNW
  obtain ⟨ra, rc, rfl, _⟩ := sliceAt_len h3
  obtain ⟨sa, sc, rfl, hl, hcap⟩ := sliceAt_cap h5
  clear h3 h5 hs hcap hl hk ht
  have BS := Lib.hid (bx_start4 w [.string ⟨a0.toArray⟩, .bool a1, .bool a2, .slice ra a3.length rc, .int .i64 a4, .slice sa l.length sc] [.string ⟨xm.toArray⟩, .string ⟨xk.toArray⟩, .int .i64 xn, .string ⟨xt.toArray⟩] [.string ⟨#[]⟩, .bool false, .bool false, .slice none 0 0, .int .i64 0, .slice none 0 0] [.int .i64 0, .int .i64 0, .string ⟨#[]⟩, .int .i64 0, .int .i64 0] 37 43 37 39)
  have HR0 := Lib.hid (HX.out _ BS.out.2.2.2.2)
  clear HX
  go_enter Tryz.func20, Tryz.ntmps20
  go_wp2_with fail
  refine (HCP.out _ _ HR0.out).mono ?_
  rintro e w1 ⟨_, rfl, ⟨u3, u5, rfl, ho3, ho5⟩, hb⟩
  simp only at ho3 ho5
  obtain ⟨ga, gc, rfl⟩ := slice_of ho3
  obtain ⟨ua, uc, rfl⟩ := slice_of ho5
  have B1 := Lib.hid ((BS.out.2.1.below hb).alloc (.cells #[.string ⟨a0.toArray⟩, .bool a1, .bool a2, .slice ga a3.length gc, .int .i64 a4, .slice ua l.length uc] 37))
  have B2 := Lib.hid ((BS.out.2.2.1.below hb).alloc (.cells #[.string ⟨a0.toArray⟩, .bool a1, .bool a2, .slice ga a3.length gc, .int .i64 a4, .slice ua l.length uc] 37))
  have B3 := Lib.hid ((BS.out.2.2.2.1.below hb).alloc (.cells #[.string ⟨a0.toArray⟩, .bool a1, .bool a2, .slice ga a3.length gc, .int .i64 a4, .slice ua l.length uc] 37))
  have h3s := hb.size
  simp at h3s
  have HB1 := Lib.hid ((belS BS.out.2.2.2.2 hb).alloc (belS BS.out.2.2.2.2 hb).size (.cells #[.string ⟨a0.toArray⟩, .bool a1, .bool a2, .slice ga a3.length gc, .int .i64 a4, .slice ua l.length uc] 37))
  have HP1 := Lib.hid (HNW.out w1 _ _ (ownsF_base (B' := w.heap.size + 1 + 1 + 1 + 1) ho3 (by simp)) (ownsF_base (B' := w.heap.size + 1 + 1 + 1 + 1) ho5 (by simp)) (by omega))
  clear hb ho3 ho5 BS HNW HCP HR0
  have b0 := B1.out.cell 0 (by simp)
  have b1 := B1.out.cell 1 (by simp)
  have b2 := B1.out.cell 2 (by simp)
  have b3 := B1.out.cell 3 (by simp)
  simp only [List.getElem_cons_zero, List.getElem_cons_succ] at b0 b1 b2 b3
  have hb1l : w.heap.size + 1 < w1.heap.size := by omega
  go_wp2_with fail
  refine (HCH.out _ _ _ _ _ HP1.out (by simp; omega) HB1.out (by omega)).mono ?_
  rintro e w3 ⟨rfl, cv, hp3, hk3⟩
  have KB := Lib.hid hk3.toBelow
  replace B2 := Lib.hid (B2.out.belowK KB.out (by omega))
  replace B3 := Lib.hid (B3.out.belowK KB.out (by omega))
  have HB3 := Lib.hid (show Below w.heap.size w w3 from HB1.out.trans (hk3.toBelow.mono (by omega)))
  have O3 := Lib.hid hp3.core.own
  have O5 := Lib.hid hp3.own
  obtain ⟨ca, cc, rfl⟩ := slice_of hp3.core.own
  obtain ⟨p0, p1, p2, p3, p4, _, _, _, _⟩ := hp3.core.box
  have p5 := hp3.c5
  have hpl := hp3.core.box.lt
  clear hk3 hp3 HCH HP1 b0 b1 b2 b3 B1
  obtain ⟨⟨q0, q1, q2, q3, q4⟩, ql⟩ := q
  simp only at *
  have c0 := B2.out.cell 0 (by simp)
  have c1 := B2.out.cell 1 (by simp)
  have c2 := B2.out.cell 2 (by simp)
  have c3 := B2.out.cell 3 (by simp)
  have c4 := B2.out.cell 4 (by simp)
  have c5 := B2.out.cell 5 (by simp)
  simp only [List.getElem_cons_zero, List.getElem_cons_succ] at c0 c1 c2 c3 c4 c5
  have fc0 := B2.out.froz 0 (by simp)
  have fc1 := B2.out.froz 1 (by simp)
  have fc2 := B2.out.froz 2 (by simp)
  have fc3 := B2.out.froz 3 (by simp)
  have fc4 := B2.out.froz 4 (by simp)
  have fc5 := B2.out.froz 5 (by simp)
  have d0 := B3.out.cell 0 (by simp)
  have d1 := B3.out.cell 1 (by simp)
  have d2 := B3.out.cell 2 (by simp)
  have d3 := B3.out.cell 3 (by simp)
  have d4 := B3.out.cell 4 (by simp)
  simp only [List.getElem_cons_zero, List.getElem_cons_succ] at d0 d1 d2 d3 d4
  have fd0 := B3.out.froz 0 (by simp)
  have fd1 := B3.out.froz 1 (by simp)
  have fd2 := B3.out.froz 2 (by simp)
  have fd3 := B3.out.froz 3 (by simp)
  have fd4 := B3.out.froz 4 (by simp)
  have hB2l := B2.out.lt
  have hB3l := B3.out.lt
  have hd1 : ¬ w1.heap.size = w.heap.size + 1 + 1 := by omega
  have hd2 : ¬ w1.heap.size = w.heap.size + 1 + 1 + 1 := by omega
  have hd3 : ¬ w.heap.size + 1 + 1 = w1.heap.size := by omega
  have hd4 : ¬ w.heap.size + 1 + 1 + 1 = w1.heap.size := by omega
  have hp2 := @past_cell (w.heap.size + 1 + 1)
  have hp3 := @past_cell (w.heap.size + 1 + 1 + 1)
  have hpc := @past_cell w1.heap.size
  have hf2 := @past_frozen (w.heap.size + 1 + 1)
  have hf3 := @past_frozen (w.heap.size + 1 + 1 + 1)
  have hd5 : ¬ w3.heap.size = w.heap.size + 1 + 1 := by omega
  have hd6 : ¬ w3.heap.size = w.heap.size + 1 + 1 + 1 := by omega
  have hd7 : ¬ w.heap.size + 1 + 1 = w3.heap.size := by omega
  have hd8 : ¬ w.heap.size + 1 + 1 + 1 = w3.heap.size := by omega
  have hd9 : ¬ w1.heap.size = w3.heap.size := by omega
  unfold vReply
  simp only
  go_wp2_with fail
  go_region
  all_goals (try go_wp2_with fail)
  all_goals
    clear c0 c1 c2 c3 c4 c5 fc0 fc1 fc2 fc3 fc4 fc5 d0 d1 d2 d3 d4 fd0 fd1 fd2 fd3 fd4 p0 p1 p2 p3 p4 p5
    have E4 := Lib.hid ((((B2.out.put6 (.string ⟨q0.toArray⟩) (.bool q1) (.bool q2) (.slice ca q3.length cc) (.int .i64 q4) (.slice ua l.length uc)).put5o (c := w.heap.size + 1 + 1 + 1) (by omega) (.int .i64 t0) (.int .i64 t1) (.string ⟨t2.toArray⟩) (.int .i64 t3) (.int .i64 t4)).alloc (.cells #[.int .i64 t0, .int .i64 t1, .string ⟨t2.toArray⟩, .int .i64 t3, .int .i64 t4] 39)).dr)
    have E5 := Lib.hid ((((B3.out.put6o (c := w.heap.size + 1 + 1) (by omega) (.string ⟨q0.toArray⟩) (.bool q1) (.bool q2) (.slice ca q3.length cc) (.int .i64 q4) (.slice ua l.length uc)).put5 (.int .i64 t0) (.int .i64 t1) (.string ⟨t2.toArray⟩) (.int .i64 t3) (.int .i64 t4)).alloc (.cells #[.int .i64 t0, .int .i64 t1, .string ⟨t2.toArray⟩, .int .i64 t3, .int .i64 t4] 39)).dr)
    have EB0 := Lib.hid (below_put5 (below_put6 HB3.out (w.heap.size + 1 + 1) (by omega) (.string ⟨q0.toArray⟩) (.bool q1) (.bool q2) (.slice ca q3.length cc) (.int .i64 q4) (.slice ua l.length uc)) (w.heap.size + 1 + 1 + 1) (by omega) (.int .i64 t0) (.int .i64 t1) (.string ⟨t2.toArray⟩) (.int .i64 t3) (.int .i64 t4))
    have EB := Lib.hid (bel_dr (EB0.out.alloc EB0.out.size (.cells #[.int .i64 t0, .int .i64 t1, .string ⟨t2.toArray⟩, .int .i64 t3, .int .i64 t4] 39)))
    have OC := Lib.hid (ownsF_drew (ownsF_alloc (ownsF_put5 (ownsF_put6 O3.out (w.heap.size + 1 + 1) (by omega) (.string ⟨q0.toArray⟩) (.bool q1) (.bool q2) (.slice ca q3.length cc) (.int .i64 q4) (.slice ua l.length uc)) (w.heap.size + 1 + 1 + 1) (by omega) (.int .i64 t0) (.int .i64 t1) (.string ⟨t2.toArray⟩) (.int .i64 t3) (.int .i64 t4)) (.cells #[.int .i64 t0, .int .i64 t1, .string ⟨t2.toArray⟩, .int .i64 t3, .int .i64 t4] 39)))
    have OL := Lib.hid (ownsF_drew (ownsF_alloc (ownsF_put5 (ownsF_put6 O5.out (w.heap.size + 1 + 1) (by omega) (.string ⟨q0.toArray⟩) (.bool q1) (.bool q2) (.slice ca q3.length cc) (.int .i64 q4) (.slice ua l.length uc)) (w.heap.size + 1 + 1 + 1) (by omega) (.int .i64 t0) (.int .i64 t1) (.string ⟨t2.toArray⟩) (.int .i64 t3) (.int .i64 t4)) (.cells #[.int .i64 t0, .int .i64 t1, .string ⟨t2.toArray⟩, .int .i64 t3, .int .i64 t4] 39)))
    clear EB0
    generalize (((((((((((((w3).setCell ⟨w.heap.size + 1 + 1, 0, none⟩ (.string ⟨q0.toArray⟩)).setCell ⟨w.heap.size + 1 + 1, 1, none⟩ (.bool q1)).setCell ⟨w.heap.size + 1 + 1, 2, none⟩ (.bool q2)).setCell ⟨w.heap.size + 1 + 1, 3, none⟩ (.slice ca q3.length cc)).setCell ⟨w.heap.size + 1 + 1, 4, none⟩ (.int .i64 q4)).setCell ⟨w.heap.size + 1 + 1, 5, none⟩ (.slice ua l.length uc)).setCell ⟨w.heap.size + 1 + 1 + 1, 0, none⟩ (.int .i64 t0)).setCell ⟨w.heap.size + 1 + 1 + 1, 1, none⟩ (.int .i64 t1)).setCell ⟨w.heap.size + 1 + 1 + 1, 2, none⟩ (.string ⟨t2.toArray⟩)).setCell ⟨w.heap.size + 1 + 1 + 1, 3, none⟩ (.int .i64 t3)).setCell ⟨w.heap.size + 1 + 1 + 1, 4, none⟩ (.int .i64 t4)).alloc (.cells #[.int .i64 t0, .int .i64 t1, .string ⟨t2.toArray⟩, .int .i64 t3, .int .i64 t4] 39)).drew = WE at *
    have r0 := E4.out.cell 0 (by simp)
    have r1 := E4.out.cell 1 (by simp)
    have r2 := E4.out.cell 2 (by simp)
    have r3 := E4.out.cell 3 (by simp)
    have r4 := E4.out.cell 4 (by simp)
    have r5 := E4.out.cell 5 (by simp)
    simp only [List.getElem_cons_zero, List.getElem_cons_succ] at r0 r1 r2 r3 r4 r5
    have s0 := E5.out.cell 0 (by simp)
    have s1 := E5.out.cell 1 (by simp)
    have s2 := E5.out.cell 2 (by simp)
    have s3 := E5.out.cell 3 (by simp)
    have s4 := E5.out.cell 4 (by simp)
    simp only [List.getElem_cons_zero, List.getElem_cons_succ] at s0 s1 s2 s3 s4
    exact bodyPost_ret (v := .tuple #[.agg #[.string ⟨q0.toArray⟩, .bool q1, .bool q2, .slice ca q3.length cc, .int .i64 q4, .slice ua l.length uc], .agg #[.int .i64 t0, .int .i64 t1, .string ⟨t2.toArray⟩, .int .i64 t3, .int .i64 t4]]) (by simp [results, Tryz.results20, go_sem, r0, r1, r2, r3, r4, r5, s0, s1, s2, s3, s4]) rfl ⟨[.string ⟨q0.toArray⟩, .bool q1, .bool q2, .slice ca q3.length cc, .int .i64 q4, .slice ua l.length uc], rfl, ⟨_, _, rfl, ownsF_base OC.out (by omega), ownsF_base OL.out (by omega)⟩, EB.out⟩
theorem belE {B : Nat} {a w : World} (h : Below B a w) (n : Nat) : Below B a (w.drewN n) := ⟨h.os, h.tape, h.output, h.size, h.block⟩
set_option maxRecDepth 100000 in
set_option maxHeartbeats 1600000 in
theorem equalCells_any (v u : Value) (x y : List CellD) (w : World) (hx : FlatAt cCell 2 w v x) (hy : FlatAt cCell 2 w u y) :
    Calls Tryz.prog 134 #[v, u] w fun e w' => e = .returned (.bool (decide (x = y))) ∧ Below w.heap.size w w' := by
  obtain ⟨a, c, rfl, hl⟩ := flatAt_len hx
  obtain ⟨a2, c2, rfl, hl2⟩ := flatAt_len hy
  have HX := Lib.hid hx
  have HY := Lib.hid hy
  clear hx hy
  unfold maxLen at hl hl2
  by_cases he : x.length = y.length
  · have hb : ((x.length : Int) == y.length) = true := beq_iff_eq.2 (by omega)
    have hbn : ((x.length : Int) != y.length) = false := by rw [bne_eq_false_iff_eq]; omega
    have HE := Lib.hid he
    clear he
    go_enter Tryz.func134, Tryz.ntmps134
    go_wp2
    go_loopw [5, 13] (fun _ i wr => ∃ k : Nat, k ≤ x.length ∧ i = .int .i64 k ∧ x.take k = y.take k ∧ Below w.heap.size w wr) (fun _ i _ => x.length - (intOf i).toNat)
    case atStart => exact ⟨0, Nat.zero_le _, rfl, rfl, Below.refl _ _⟩
    case round =>
      obtain ⟨k, hk, rfl, ht, hbr⟩ := hrel
      have HT := Lib.hid ht
      have HB := Lib.hid hbr
      have HXr := Lib.hid (FlatAt.below HX.out hbr (Nat.le_refl _))
      have HYr := Lib.hid (FlatAt.below HY.out hbr (Nat.le_refl _))
      clear ht hbr
      by_cases hlt : k < x.length
      · have hky : k < y.length := by have := HE.out; omega
        obtain ⟨b, o, rfl, _, hd⟩ := flatAt_cell cCell_len HXr.out k hlt (by decide)
        obtain ⟨b2, o2, rfl, _, hd2⟩ := flatAt_cell cCell_len HYr.out k hky (by decide)
        have d0 := hd 0 (by decide)
        have d1 := hd 1 (by decide)
        have q0 := hd2 0 (by decide)
        have q1 := hd2 1 (by decide)
        clear hd hd2
        have HS := Lib.hid (take_eq_step x y HE.out k hlt HT.out)
        have HD := Lib.hid (show x[k] ≠ y[k] → ¬ x = y from fun h e => h (by subst e; rfl))
        generalize x[k] = p at *
        generalize y[k] = q at *
        obtain ⟨a0, a1⟩ := p
        obtain ⟨b0, b1⟩ := q
        simp only [cCell, List.getElem?_cons_zero, List.getElem?_cons_succ, Nat.add_zero] at d0 d1 q0 q1
        have hk0 : (0 : Int) ≤ (k : Int) := by omega
        have hk1 : (k : Int) < (x.length : Int) := by omega
        have hk2 : (k : Int) < (y.length : Int) := by omega
        by_cases heq : (⟨a0, a1⟩ : CellD) = ⟨b0, b1⟩
        · have HN := Lib.hid (HS.out heq)
          injection heq with e0 e1
          subst e0 e1
          clear HS HD
          go_wp2
          go_quiet (fail)
          go_wp2_with fail
          exact ⟨⟨k + 1, by omega, by go_num, HN.out, belE HB.out _⟩, by simp [intOf]; omega⟩
        · have HN := Lib.hid (HD.out heq)
          by_cases e0 : a0 = b0
          · have e1 : ¬ a1 = b1 := fun e => heq (by rw [e0, e])
            have hn1 : (a1 == b1) = false := by simpa using e1
            subst e0
            clear HS HD heq e1
            go_wp2
            go_quiet (fail)
            go_wp2_with fail
            go_ret
            exact ⟨ret_bool (by simp [HN.out]), belE HB.out _⟩
          · have hn0 : (a0 == b0) = false := by simpa using e0
            clear HS HD heq e0
            go_wp2
            go_quiet (fail)
            go_wp2_with fail
            go_ret
            exact ⟨ret_bool (by simp [HN.out]), belE HB.out _⟩
      · have HN := Lib.hid (show x = y from by
          have h := HT.out
          rw [List.take_of_length_le (by omega), List.take_of_length_le (by have := HE.out; omega)] at h
          exact h)
        go_wp2
        go_ret
        exact ⟨ret_bool (by simp [HN.out]), HB.out⟩
  · have hb : ((x.length : Int) == y.length) = false := beq_eq_false_iff_ne.2 (by omega)
    have hbn : ((x.length : Int) != y.length) = true := by rw [bne_iff_ne]; omega
    have HN := Lib.hid (show ¬ x = y from fun e => he (by rw [e]))
    clear he
    go_enter Tryz.func134, Tryz.ntmps134
    go_wp2
    go_ret
    exact ⟨ret_bool (by simp [HN.out]), Below.refl _ _⟩
set_option maxRecDepth 100000 in
set_option maxHeartbeats 3200000 in
theorem implSame_b (v u : Value) (x y : CoreD) (q : Bool) (hq : decide (x = y) = q) (w : World) (hx : CoreAt w v x) (hy : CoreAt w u y) :
    Calls Tryz.prog 94 #[v, u] w fun e w' => e = .returned (.bool q) ∧ Below w.heap.size w w' := by
  obtain ⟨cv, rfl, hx⟩ := hx
  obtain ⟨cu, rfl, hy⟩ := hy
  have hex := coreD_ext x y
  obtain ⟨a0, a1, a2, a3, a4⟩ := x
  obtain ⟨b0, b1, b2, b3, b4⟩ := y
  unfold vCore
  simp only at *
  have B2 := Lib.hid (show ∀ o1 o2, Below w.heap.size w ((w.alloc o1).alloc o2) from fun o1 o2 => ((Below.refl _ _).alloc (Nat.le_refl _) _).alloc (by simp) _)
  have HX := Lib.hid hx
  have HY := Lib.hid hy
  have HN := Lib.hid (show ¬ (a0 = b0 ∧ a1 = b1 ∧ a2 = b2 ∧ a3 = b3 ∧ a4 = b4) → false = q from fun h => by rw [← hq]; symm; rw [decide_eq_false_iff_not, hex]; exact h)
  have HQ := Lib.hid (show a0 = b0 → a1 = b1 → a2 = b2 → a4 = b4 → decide (a3 = b3) = q from fun h0 h1 h2 h4 => by
    rw [← hq]
    by_cases h3 : a3 = b3
    · rw [decide_eq_true h3, decide_eq_true (hex.2 ⟨h0, h1, h2, h3, h4⟩)]
    · rw [decide_eq_false h3, decide_eq_false (fun e => h3 (hex.1 e).2.2.2.1)])
  have HC := Lib.hid (fun o1 o2 => equalCells_any cv cu a3 b3 ((w.alloc o1).alloc o2) (HX.out.below (B2.out o1 o2) (Nat.le_refl _)) (HY.out.below (B2.out o1 o2) (Nat.le_refl _)))
  clear hx hy hq hex
  by_cases h0 : a0 = b0
  case neg =>
    have HF := Lib.hid (HN.out fun e => h0 e.1)
    have hne : (a0 == b0) = false := by simpa using h0
    have hnf : (a0 != b0) = true := by simpa using h0
    clear h0
    go_enter Tryz.func94, Tryz.ntmps94
    go_wp2_with fail
    go_ret
    exact ⟨ret_bool HF.out, B2.out _ _⟩
  case pos =>
    by_cases h1 : a1 = b1
    case neg =>
      have HF := Lib.hid (HN.out fun e => h1 e.2.1)
      subst h0
      cases a1 <;> cases b1
      all_goals first
        | exact absurd rfl h1
        | (clear h1
           go_enter Tryz.func94, Tryz.ntmps94
           go_wp2_with fail
           go_ret
           exact ⟨ret_bool HF.out, B2.out _ _⟩)
    case pos =>
      by_cases h2 : a2 = b2
      case neg =>
        have HF := Lib.hid (HN.out fun e => h2 e.2.2.1)
        subst h0 h1
        cases a1 <;> cases a2 <;> cases b2
        all_goals first
          | exact absurd rfl h2
          | (clear h2
             go_enter Tryz.func94, Tryz.ntmps94
             go_wp2_with fail
             go_ret
             exact ⟨ret_bool HF.out, B2.out _ _⟩)
      case pos =>
        by_cases h4 : a4 = b4
        case neg =>
          have HF := Lib.hid (HN.out fun e => h4 e.2.2.2.2)
          have hne : (a4 == b4) = false := by simpa using h4
          have hnf : (a4 != b4) = true := by simpa using h4
          subst h0 h1 h2
          clear h4
          cases a1 <;> cases a2
          all_goals
            go_enter Tryz.func94, Tryz.ntmps94
            go_wp2_with fail
            go_ret
            exact ⟨ret_bool HF.out, B2.out _ _⟩
        case pos =>
          have HF := Lib.hid (HQ.out h0 h1 h2 h4)
          subst h0 h1 h2 h4
          obtain ⟨pa, pc, rfl, _⟩ := flatAt_len HX.out
          obtain ⟨qa, qc, rfl, _⟩ := flatAt_len HY.out
          generalize decide (a3 = b3) = eq at *
          cases a1 <;> cases a2
          all_goals
            go_enter Tryz.func94, Tryz.ntmps94
            go_wp2_with fail
            refine (HC.out _ _).mono ?_
            rintro e w1 ⟨rfl, hb⟩
            have HB := Lib.hid ((B2.out _ _).trans (hb.mono (B2.out _ _).size))
            clear hb
            go_wp2_with fail
            go_ret
            exact ⟨ret_bool HF.out, HB.out⟩
theorem implSame_any (v u : Value) (x y : CoreD) (w : World) (hx : CoreAt w v x) (hy : CoreAt w u y) :
    Calls Tryz.prog 94 #[v, u] w fun e w' => e = .returned (.bool (decide (x = y))) ∧ Below w.heap.size w w' := implSame_b v u x y _ rfl w hx hy
set_option maxRecDepth 100000 in
set_option maxHeartbeats 1600000 in
theorem equalLayers_any (v u : Value) (x y : List LayerD) (w : World) (hx : FlatAt cLayer 2 w v x) (hy : FlatAt cLayer 2 w u y) :
    Calls Tryz.prog 95 #[v, u] w fun e w' => e = .returned (.bool (decide (x = y))) ∧ Below w.heap.size w w' := by
  obtain ⟨a, c, rfl, hl⟩ := flatAt_len hx
  obtain ⟨a2, c2, rfl, hl2⟩ := flatAt_len hy
  have HX := Lib.hid hx
  have HY := Lib.hid hy
  clear hx hy
  unfold maxLen at hl hl2
  by_cases he : x.length = y.length
  · have hb : ((x.length : Int) == y.length) = true := beq_iff_eq.2 (by omega)
    have hbn : ((x.length : Int) != y.length) = false := by rw [bne_eq_false_iff_eq]; omega
    have HE := Lib.hid he
    clear he
    go_enter Tryz.func95, Tryz.ntmps95
    go_wp2
    go_loopw [5, 13] (fun _ i wr => ∃ k : Nat, k ≤ x.length ∧ i = .int .i64 k ∧ x.take k = y.take k ∧ Below w.heap.size w wr) (fun _ i _ => x.length - (intOf i).toNat)
    case atStart => exact ⟨0, Nat.zero_le _, rfl, rfl, Below.refl _ _⟩
    case round =>
      obtain ⟨k, hk, rfl, ht, hbr⟩ := hrel
      have HT := Lib.hid ht
      have HB := Lib.hid hbr
      have HXr := Lib.hid (FlatAt.below HX.out hbr (Nat.le_refl _))
      have HYr := Lib.hid (FlatAt.below HY.out hbr (Nat.le_refl _))
      clear ht hbr
      by_cases hlt : k < x.length
      · have hky : k < y.length := by have := HE.out; omega
        obtain ⟨b, o, rfl, _, hd⟩ := flatAt_cell cLayer_len HXr.out k hlt (by decide)
        obtain ⟨b2, o2, rfl, _, hd2⟩ := flatAt_cell cLayer_len HYr.out k hky (by decide)
        have d0 := hd 0 (by decide)
        have d1 := hd 1 (by decide)
        have q0 := hd2 0 (by decide)
        have q1 := hd2 1 (by decide)
        clear hd hd2
        have HS := Lib.hid (take_eq_step x y HE.out k hlt HT.out)
        have HD := Lib.hid (show x[k] ≠ y[k] → ¬ x = y from fun h e => h (by subst e; rfl))
        generalize x[k] = p at *
        generalize y[k] = q at *
        obtain ⟨a0, a1⟩ := p
        obtain ⟨b0, b1⟩ := q
        simp only [cLayer, List.getElem?_cons_zero, List.getElem?_cons_succ, Nat.add_zero] at d0 d1 q0 q1
        have hk0 : (0 : Int) ≤ (k : Int) := by omega
        have hk1 : (k : Int) < (x.length : Int) := by omega
        have hk2 : (k : Int) < (y.length : Int) := by omega
        by_cases heq : (⟨a0, a1⟩ : LayerD) = ⟨b0, b1⟩
        · have HN := Lib.hid (HS.out heq)
          injection heq with e0 e1
          subst e0 e1
          clear HS HD
          go_wp2
          go_quiet (fail)
          go_wp2_with fail
          exact ⟨⟨k + 1, by omega, by go_num, HN.out, belE HB.out _⟩, by simp [intOf]; omega⟩
        · have HN := Lib.hid (HD.out heq)
          by_cases e0 : a0 = b0
          · have e1 : ¬ a1 = b1 := fun e => heq (by rw [e0, e])
            have hn1 : (a1 == b1) = false := by simpa using e1
            subst e0
            clear HS HD heq e1
            go_wp2
            go_quiet (fail)
            go_wp2_with fail
            go_ret
            exact ⟨ret_bool (by simp [HN.out]), belE HB.out _⟩
          · have hn0 : (a0 == b0) = false := by simpa using e0
            clear HS HD heq e0
            go_wp2
            go_quiet (fail)
            go_wp2_with fail
            go_ret
            exact ⟨ret_bool (by simp [HN.out]), belE HB.out _⟩
      · have HN := Lib.hid (show x = y from by
          have h := HT.out
          rw [List.take_of_length_le (by omega), List.take_of_length_le (by have := HE.out; omega)] at h
          exact h)
        go_wp2
        go_ret
        exact ⟨ret_bool (by simp [HN.out]), HB.out⟩
  · have hb : ((x.length : Int) == y.length) = false := beq_eq_false_iff_ne.2 (by omega)
    have hbn : ((x.length : Int) != y.length) = true := by rw [bne_iff_ne]; omega
    have HN := Lib.hid (show ¬ x = y from fun e => he (by rw [e]))
    clear he
    go_enter Tryz.func95, Tryz.ntmps95
    go_wp2
    go_ret
    exact ⟨ret_bool (by simp [HN.out]), Below.refl _ _⟩
theorem part_eq (x y : PartD) : decide (x = y) = (decide (x.fCore = y.fCore) && decide (x.fLayers = y.fLayers)) := by rw [Bool.eq_iff_iff]; cases x; cases y; simp
set_option maxRecDepth 100000 in
set_option maxHeartbeats 1600000 in
theorem implSamePart_any (v u : Value) (x y : PartD) (w : World) (hx : ValAt rPart 0 w v x) (hy : ValAt rPart 0 w u y) :
    Calls Tryz.prog 45 #[v, u] w fun e w' => e = .returned (.bool (decide (x = y))) ∧ Below w.heap.size w w' := by
  rw [part_eq]
  obtain ⟨_, rfl, hx⟩ := hx
  obtain ⟨_, rfl, hy⟩ := hy
  obtain ⟨⟨a0, a1, a2, a3, a4⟩, ls⟩ := x
  obtain ⟨⟨b0, b1, b2, b3, b4⟩, ms⟩ := y
  obtain ⟨v3, v5, rfl, h3, h5⟩ := hx
  obtain ⟨u3, u5, rfl, k3, k5⟩ := hy
  simp only at h3 h5 k3 k5 ⊢
  have HC := Lib.hid (fun w1 (hw : Below w.heap.size w w1) => implSame_any (.agg #[.string ⟨a0.toArray⟩, .bool a1, .bool a2, v3, .int .i64 a4]) (.agg #[.string ⟨b0.toArray⟩, .bool b1, .bool b2, u3, .int .i64 b4]) ⟨a0, a1, a2, a3, a4⟩ ⟨b0, b1, b2, b3, b4⟩ w1 ⟨v3, rfl, (flatAt_of_slice cCell_len (by decide) h3).below hw (Nat.le_refl _)⟩ ⟨u3, rfl, (flatAt_of_slice cCell_len (by decide) k3).below hw (Nat.le_refl _)⟩)
  have HL := Lib.hid (fun w1 (hw : Below w.heap.size w w1) => equalLayers_any v5 u5 ls ms w1 ((flatAt_of_slice cLayer_len (by decide) h5).below hw (Nat.le_refl _)) ((flatAt_of_slice cLayer_len (by decide) k5).below hw (Nat.le_refl _)))
  obtain ⟨ra, rc, rfl, _⟩ := sliceAt_len h3
  obtain ⟨sa, sc, rfl, _⟩ := sliceAt_len h5
  obtain ⟨pa, pc, rfl, _⟩ := sliceAt_len k3
  obtain ⟨qa, qc, rfl, _⟩ := sliceAt_len k5
  have HS := Lib.hid (bx_start2 w [.string ⟨a0.toArray⟩, .bool a1, .bool a2, .slice ra a3.length rc, .int .i64 a4, .slice sa ls.length sc] [.string ⟨b0.toArray⟩, .bool b1, .bool b2, .slice pa b3.length pc, .int .i64 b4, .slice qa ms.length qc] 37 37)
  generalize decide ((⟨a0, a1, a2, a3, a4⟩ : CoreD) = ⟨b0, b1, b2, b3, b4⟩) = p at *
  generalize decide (ls = ms) = q at *
  clear h3 h5 k3 k5
  cases p with
  | false =>
    go_enter Tryz.func45, Tryz.ntmps45
    go_wp2_with fail
    refine (HC.out _ HS.out.2.2).mono ?_
    rintro e w1 ⟨rfl, hb⟩
    have HB := Lib.hid (belS (w := w) HS.out.2.2 hb)
    clear hb
    go_wp2_with fail
    go_ret
    exact ⟨rfl, HB.out⟩
  | true =>
    go_enter Tryz.func45, Tryz.ntmps45
    go_wp2_with fail
    refine (HC.out _ HS.out.2.2).mono ?_
    rintro e w1 ⟨rfl, hb⟩
    have HB := Lib.hid (belS (w := w) HS.out.2.2 hb)
    have BA := Lib.hid (HS.out.1.below hb)
    have BB := Lib.hid (HS.out.2.1.below hb)
    clear hb
    have eA := BA.out.cell 5 (by simp)
    have eB := BB.out.cell 5 (by simp)
    simp only [List.getElem_cons_zero, List.getElem_cons_succ] at eA eB
    go_wp2_with fail
    refine (HL.out _ HB.out).mono ?_
    rintro e w2 ⟨rfl, hb⟩
    have HB := Lib.hid (belS (w := w) HB.out hb)
    clear hb eA eB
    go_wp2_with fail
    go_ret
    exact ⟨ret_bool (by simp), HB.out⟩
end Go.Proofs.YtcpbikilgacdlaaGreat
namespace Go.Proofs.YtcpbikilgacdlaaGreat
set_option linter.unusedVariables false
set_option linter.unusedSimpArgs false
open Go.ChangeShapes Go.WideShapes Go.ChangeAt Go.RowKit Go.WideMaps Go.WideElems
open Go.ChangeMaps (open_string shut_string)
theorem rpB {w w' : World} {B : Nat} {cs : List Value} {x : PartD} (h : rPart 0 w cs x) (hb : Below B w w') (hB : w.heap.size ≤ B) : rPart 0 w' cs x := goodPart.keep h (kept_below hb hB)
set_option maxRecDepth 100000 in
set_option maxHeartbeats 6400000 in
theorem fnPartWants_any (v : Value) (l : List UInt8) (w : World) (hR : RowAt w v (Lib.byteCells l)) (mx : Int) (hM : w.cell? ⟨0, 0, none⟩ = some (.int .i64 mx)) :
    Calls Tryz.prog 6 #[v] w fun e w' => e = .returned (.bool true) ∧ Below w.heap.size w w' := by
  have HR := Lib.hid hR
  have HBG := Lib.hid (big_any v l w hR)
  have hMl := World.block_lt_of_cell? w _ hM
  simp only at hMl
  have HMX := Lib.hid (fun W (hw : Below w.heap.size w W) => (hw.cell (p := ⟨0, 0, none⟩) hMl).trans hM)
  clear hR hM hMl
  go_enter Tryz.func6, Tryz.ntmps6
  go_wp2_with fail
  refine HBG.out.mono ?_
  rintro e w' ⟨rfl, rfl⟩
  by_cases hbig : 4096 < l.length
  · go_wp2_with fail
    go_ret
    exact ⟨rfl, Below.refl _ _⟩
  have hd : decide (4096 < l.length) = false := by simpa using hbig
  clear hbig
  rw [hd]
  clear hd HBG
  go_wp2_with fail
  refine (drawCallPart_any v l w HR.out).mono ?_
  rintro e w1 ⟨⟨⟨kd, on, br, y, cnt⟩, z⟩, cv, lv, ⟨m, k, n, t⟩, rfl, ho3, ho5, hok, hox, hb⟩
  simp only at ho3 ho5
  obtain ⟨ca, cc, rfl⟩ := slice_of ho3
  obtain ⟨la, lc, rfl⟩ := slice_of ho5
  have HB := Lib.hid hb
  have HOX := Lib.hid hox
  have HSM := Lib.hid (okPt_small hok (by decide))
  have HKY := Lib.hid (okPt_keys hok)
  have HPP := Lib.hid (show rPart 0 _ [.string ⟨kd.toArray⟩, .bool on, .bool br, .slice ca y.length cc, .int .i64 cnt, .slice la z.length lc] (⟨⟨kd, on, br, y, cnt⟩, z⟩ : PartD) from goodPart.mono (oPart_r ⟨_, _, rfl, ho3, ho5⟩ (okPt_small hok (by decide))) (Nat.zero_le _))
  clear ho3 ho5 hok hox hb HR
  unfold vCall
  simp only
  go_upto_region 4 with fail
  have hbn := Bx.new (w1) [.string ⟨kd.toArray⟩, .bool on, .bool br, .slice ca y.length cc, .int .i64 cnt, .slice la z.length lc] 37
  have hbb := bx_box (w1) (.cells #[.string ⟨kd.toArray⟩, .bool on, .bool br, .slice ca y.length cc, .int .i64 cnt, .slice la z.length lc] 37)
  have Vb_p := Lib.hid hbn
  clear hbn
  replace HPP := Lib.hid (rpB HPP.out hbb (Nat.le_refl _))
  replace HB := Lib.hid (belS HB.out hbb)
  clear hbb
  have hbn := Bx.new ((w1).alloc (.cells #[.string ⟨kd.toArray⟩, .bool on, .bool br, .slice ca y.length cc, .int .i64 cnt, .slice la z.length lc] 37)) [.string ⟨m.toArray⟩, .string ⟨k.toArray⟩, .int .i64 n, .string ⟨t.toArray⟩] 43
  have hbb := bx_box ((w1).alloc (.cells #[.string ⟨kd.toArray⟩, .bool on, .bool br, .slice ca y.length cc, .int .i64 cnt, .slice la z.length lc] 37)) (.cells #[.string ⟨m.toArray⟩, .string ⟨k.toArray⟩, .int .i64 n, .string ⟨t.toArray⟩] 43)
  rw [show ((w1).alloc (.cells #[.string ⟨kd.toArray⟩, .bool on, .bool br, .slice ca y.length cc, .int .i64 cnt, .slice la z.length lc] 37)).heap.size = w1.heap.size + 1 by simp] at hbn
  have Vb_x := Lib.hid hbn
  clear hbn
  replace Vb_p := Lib.hid (Vb_p.out.below hbb)
  replace HPP := Lib.hid (rpB HPP.out hbb (Nat.le_refl _))
  replace HB := Lib.hid (belS HB.out hbb)
  clear hbb
  generalize ((w1).alloc (.cells #[.string ⟨kd.toArray⟩, .bool on, .bool br, .slice ca y.length cc, .int .i64 cnt, .slice la z.length lc] 37)).alloc (.cells #[.string ⟨m.toArray⟩, .string ⟨k.toArray⟩, .int .i64 n, .string ⟨t.toArray⟩] 43) = w4 at *
  have HCC := Lib.hid (fun W (h : rPart 0 W [.string ⟨kd.toArray⟩, .bool on, .bool br, .slice ca y.length cc, .int .i64 cnt, .slice la z.length lc] (⟨⟨kd, on, br, y, cnt⟩, z⟩ : PartD)) (hM : W.cell? ⟨0, 0, none⟩ = some (.int .i64 mx)) => implCallPart_c (.agg #[.string ⟨kd.toArray⟩, .bool on, .bool br, .slice ca y.length cc, .int .i64 cnt, .slice la z.length lc]) (⟨⟨kd, on, br, y, cnt⟩, z⟩ : PartD) (⟨m, k, n, t⟩ : CallD) mx W (⟨_, rfl, h⟩ : ValAt rPart 0 W (.agg #[.string ⟨kd.toArray⟩, .bool on, .bool br, .slice ca y.length cc, .int .i64 cnt, .slice la z.length lc]) (⟨⟨kd, on, br, y, cnt⟩, z⟩ : PartD)) HSM.out (Nat.le_trans HOX.out.2.1 (by decide)) (Nat.le_trans HOX.out.2.2.2 (by decide)) hM)
  have HIP := Lib.hid (fun W (h : rPart 0 W [.string ⟨kd.toArray⟩, .bool on, .bool br, .slice ca y.length cc, .int .i64 cnt, .slice la z.length lc] (⟨⟨kd, on, br, y, cnt⟩, z⟩ : PartD)) => implIsPart_any (.agg #[.string ⟨kd.toArray⟩, .bool on, .bool br, .slice ca y.length cc, .int .i64 cnt, .slice la z.length lc]) (⟨⟨kd, on, br, y, cnt⟩, z⟩ : PartD) W (⟨_, rfl, h⟩ : ValAt rPart 0 W (.agg #[.string ⟨kd.toArray⟩, .bool on, .bool br, .slice ca y.length cc, .int .i64 cnt, .slice la z.length lc]) (⟨⟨kd, on, br, y, cnt⟩, z⟩ : PartD)) HKY.out)
  have HIX := Lib.hid (fun W => implIsCall_any (⟨m, k, n, t⟩ : CallD) W (Nat.le_trans HOX.out.2.1 (by decide)))
  have HFO := Lib.hid (fun W (h : rPart 0 W [.string ⟨kd.toArray⟩, .bool on, .bool br, .slice ca y.length cc, .int .i64 cnt, .slice la z.length lc] (⟨⟨kd, on, br, y, cnt⟩, z⟩ : PartD)) => implFaceOf_any (.agg #[.string ⟨kd.toArray⟩, .bool on, .bool br, .slice ca y.length cc, .int .i64 cnt, .slice la z.length lc]) (⟨⟨kd, on, br, y, cnt⟩, z⟩ : PartD) W (⟨_, rfl, h⟩ : ValAt rPart 0 W (.agg #[.string ⟨kd.toArray⟩, .bool on, .bool br, .slice ca y.length cc, .int .i64 cnt, .slice la z.length lc]) (⟨⟨kd, on, br, y, cnt⟩, z⟩ : PartD)))
  have HWO := Lib.hid (fun W => implWant_b m _ rfl W)
  have HOF := Lib.hid (fun W => implOffers_any (faceP (⟨⟨kd, on, br, y, cnt⟩, z⟩ : PartD)) (wantF m) W)
  have HBAD := Lib.hid (@chg_bad (⟨⟨kd, on, br, y, cnt⟩, z⟩ : PartD) (⟨m, k, n, t⟩ : CallD))
  have HNO := Lib.hid (fun h1 h2 h3 => @chg_no (⟨⟨kd, on, br, y, cnt⟩, z⟩ : PartD) (⟨m, k, n, t⟩ : CallD) h1 h2 h3)
  have HCO := Lib.hid (fun h1 h2 => @chg_code (⟨⟨kd, on, br, y, cnt⟩, z⟩ : PartD) (⟨m, k, n, t⟩ : CallD) h1 h2)
  generalize chgP (⟨⟨kd, on, br, y, cnt⟩, z⟩ : PartD) (⟨m, k, n, t⟩ : CallD) = out at *
  generalize faceP (⟨⟨kd, on, br, y, cnt⟩, z⟩ : PartD) = fp at *
  generalize hof : offersF fp (wantF m) = of at *
  clear hof
  generalize wantF m = wt at *
  generalize callB (⟨m, k, n, t⟩ : CallD) = cb at *
  generalize partB (⟨⟨kd, on, br, y, cnt⟩, z⟩ : PartD) = pb at *
  unfold GivesOPR vReply at HCC
  unfold vCall at HIX HCC
  simp only at HCC HIX HNO HCO HBAD
  cases pb
  case false =>
    have HE := Lib.hid (HBAD.out (by rintro ⟨h1, h2⟩; first | (cases h1; done) | (cases h2; done)))
    rw [HE.out] at HCC
    clear HBAD HNO HCO HE
    simp only [rC] at HCC
    have B_p := Vb_p.out
    have p_0 := Vb_p.out.cell 0 (by simp)
    have p_1 := Vb_p.out.cell 1 (by simp)
    have p_2 := Vb_p.out.cell 2 (by simp)
    have p_3 := Vb_p.out.cell 3 (by simp)
    have p_4 := Vb_p.out.cell 4 (by simp)
    have p_5 := Vb_p.out.cell 5 (by simp)
    simp only [List.getElem_cons_zero, List.getElem_cons_succ] at p_0 p_1 p_2 p_3 p_4 p_5
    have p_l := Vb_p.out.lt
    clear B_p
    have B_x := Vb_x.out
    have x_0 := Vb_x.out.cell 0 (by simp)
    have x_1 := Vb_x.out.cell 1 (by simp)
    have x_2 := Vb_x.out.cell 2 (by simp)
    have x_3 := Vb_x.out.cell 3 (by simp)
    simp only [List.getElem_cons_zero, List.getElem_cons_succ] at x_0 x_1 x_2 x_3
    have x_l := Vb_x.out.lt
    clear B_x
    go_wp2_with fail
    clear p_0 p_1 p_2 p_3 p_4 p_5 p_l x_0 x_1 x_2 x_3 x_l
    refine (HCC.out _ HPP.out (HMX.out _ HB.out)).mono ?_
    rintro e w5 ⟨_, rfl, ⟨u3, u5, rfl, ho3, ho5⟩, hb⟩
    replace Vb_p := Lib.hid (Vb_p.out.below hb)
    replace Vb_x := Lib.hid (Vb_x.out.below hb)
    replace HPP := Lib.hid (rpB HPP.out hb (Nat.le_refl _))
    replace HB := Lib.hid (belS HB.out hb)
    clear hb
    simp only at ho3 ho5
    obtain ⟨cb2, cd, rfl⟩ := slice_of ho3
    obtain ⟨lb, ld, rfl⟩ := slice_of ho5
    have HQQ := Lib.hid (show rPart 0 _ [.string ⟨kd.toArray⟩, .bool on, .bool br, .slice cb2 y.length cd, .int .i64 cnt, .slice lb z.length ld] (⟨⟨kd, on, br, y, cnt⟩, z⟩ : PartD) from goodPart.mono (oPart_r ⟨_, _, rfl, ho3, ho5⟩ HSM.out) (Nat.zero_le _))
    clear ho3 ho5
    have HSP := Lib.hid (fun W (h : rPart 0 W [.string ⟨kd.toArray⟩, .bool on, .bool br, .slice ca y.length cc, .int .i64 cnt, .slice la z.length lc] (⟨⟨kd, on, br, y, cnt⟩, z⟩ : PartD)) (h2 : rPart 0 W [.string ⟨kd.toArray⟩, .bool on, .bool br, .slice cb2 y.length cd, .int .i64 cnt, .slice lb z.length ld] (⟨⟨kd, on, br, y, cnt⟩, z⟩ : PartD)) => implSamePart_any (.agg #[.string ⟨kd.toArray⟩, .bool on, .bool br, .slice ca y.length cc, .int .i64 cnt, .slice la z.length lc]) (.agg #[.string ⟨kd.toArray⟩, .bool on, .bool br, .slice cb2 y.length cd, .int .i64 cnt, .slice lb z.length ld]) (⟨⟨kd, on, br, y, cnt⟩, z⟩ : PartD) (⟨⟨kd, on, br, y, cnt⟩, z⟩ : PartD) W (⟨_, rfl, h⟩ : ValAt rPart 0 W (.agg #[.string ⟨kd.toArray⟩, .bool on, .bool br, .slice ca y.length cc, .int .i64 cnt, .slice la z.length lc]) (⟨⟨kd, on, br, y, cnt⟩, z⟩ : PartD)) (⟨_, rfl, h2⟩ : ValAt rPart 0 W (.agg #[.string ⟨kd.toArray⟩, .bool on, .bool br, .slice cb2 y.length cd, .int .i64 cnt, .slice lb z.length ld]) (⟨⟨kd, on, br, y, cnt⟩, z⟩ : PartD)))
    rw [show decide ((⟨⟨kd, on, br, y, cnt⟩, z⟩ : PartD) = (⟨⟨kd, on, br, y, cnt⟩, z⟩ : PartD)) = true from decide_eq_true rfl] at HSP
    go_upto_region 5 with fail
    have hbn := Bx.new (w5) [.string ⟨kd.toArray⟩, .bool on, .bool br, .slice cb2 y.length cd, .int .i64 cnt, .slice lb z.length ld] 37
    have hbb := bx_box (w5) (.cells #[.string ⟨kd.toArray⟩, .bool on, .bool br, .slice cb2 y.length cd, .int .i64 cnt, .slice lb z.length ld] 37)
    have Vb_q := Lib.hid hbn
    clear hbn
    replace Vb_p := Lib.hid (Vb_p.out.below hbb)
    replace Vb_x := Lib.hid (Vb_x.out.below hbb)
    replace HPP := Lib.hid (rpB HPP.out hbb (Nat.le_refl _))
    replace HQQ := Lib.hid (rpB HQQ.out hbb (Nat.le_refl _))
    replace HB := Lib.hid (belS HB.out hbb)
    clear hbb
    have hbn := Bx.new ((w5).alloc (.cells #[.string ⟨kd.toArray⟩, .bool on, .bool br, .slice cb2 y.length cd, .int .i64 cnt, .slice lb z.length ld] 37)) [.int .i64 7, .int .i64 0, .string ⟨#[]⟩, .int .i64 0, .int .i64 0] 39
    have hbb := bx_box ((w5).alloc (.cells #[.string ⟨kd.toArray⟩, .bool on, .bool br, .slice cb2 y.length cd, .int .i64 cnt, .slice lb z.length ld] 37)) (.cells #[.int .i64 7, .int .i64 0, .string ⟨#[]⟩, .int .i64 0, .int .i64 0] 39)
    rw [show ((w5).alloc (.cells #[.string ⟨kd.toArray⟩, .bool on, .bool br, .slice cb2 y.length cd, .int .i64 cnt, .slice lb z.length ld] 37)).heap.size = w5.heap.size + 1 by simp] at hbn
    have Vb_r := Lib.hid hbn
    clear hbn
    replace Vb_p := Lib.hid (Vb_p.out.below hbb)
    replace Vb_x := Lib.hid (Vb_x.out.below hbb)
    replace Vb_q := Lib.hid (Vb_q.out.below hbb)
    replace HPP := Lib.hid (rpB HPP.out hbb (Nat.le_refl _))
    replace HQQ := Lib.hid (rpB HQQ.out hbb (Nat.le_refl _))
    replace HB := Lib.hid (belS HB.out hbb)
    clear hbb
    generalize ((w5).alloc (.cells #[.string ⟨kd.toArray⟩, .bool on, .bool br, .slice cb2 y.length cd, .int .i64 cnt, .slice lb z.length ld] 37)).alloc (.cells #[.int .i64 7, .int .i64 0, .string ⟨#[]⟩, .int .i64 0, .int .i64 0] 39) = w8 at *
    have B_p := Vb_p.out
    have p_0 := Vb_p.out.cell 0 (by simp)
    have p_1 := Vb_p.out.cell 1 (by simp)
    have p_2 := Vb_p.out.cell 2 (by simp)
    have p_3 := Vb_p.out.cell 3 (by simp)
    have p_4 := Vb_p.out.cell 4 (by simp)
    have p_5 := Vb_p.out.cell 5 (by simp)
    simp only [List.getElem_cons_zero, List.getElem_cons_succ] at p_0 p_1 p_2 p_3 p_4 p_5
    have p_l := Vb_p.out.lt
    clear B_p
    go_wp2_with fail
    clear p_0 p_1 p_2 p_3 p_4 p_5 p_l
    refine (HIP.out _ HPP.out).mono ?_
    rintro e w9 ⟨rfl, hb⟩
    replace Vb_p := Lib.hid (Vb_p.out.below hb)
    replace Vb_x := Lib.hid (Vb_x.out.below hb)
    replace Vb_q := Lib.hid (Vb_q.out.below hb)
    replace Vb_r := Lib.hid (Vb_r.out.below hb)
    replace HPP := Lib.hid (rpB HPP.out hb (Nat.le_refl _))
    replace HQQ := Lib.hid (rpB HQQ.out hb (Nat.le_refl _))
    replace HB := Lib.hid (belS HB.out hb)
    clear hb
    have B_p := Vb_p.out
    have p_0 := Vb_p.out.cell 0 (by simp)
    have p_1 := Vb_p.out.cell 1 (by simp)
    have p_2 := Vb_p.out.cell 2 (by simp)
    have p_3 := Vb_p.out.cell 3 (by simp)
    have p_4 := Vb_p.out.cell 4 (by simp)
    have p_5 := Vb_p.out.cell 5 (by simp)
    simp only [List.getElem_cons_zero, List.getElem_cons_succ] at p_0 p_1 p_2 p_3 p_4 p_5
    have p_l := Vb_p.out.lt
    clear B_p
    have B_q := Vb_q.out
    have q_0 := Vb_q.out.cell 0 (by simp)
    have q_1 := Vb_q.out.cell 1 (by simp)
    have q_2 := Vb_q.out.cell 2 (by simp)
    have q_3 := Vb_q.out.cell 3 (by simp)
    have q_4 := Vb_q.out.cell 4 (by simp)
    have q_5 := Vb_q.out.cell 5 (by simp)
    simp only [List.getElem_cons_zero, List.getElem_cons_succ] at q_0 q_1 q_2 q_3 q_4 q_5
    have q_l := Vb_q.out.lt
    clear B_q
    have B_r := Vb_r.out
    have r_0 := Vb_r.out.cell 0 (by simp)
    have r_1 := Vb_r.out.cell 1 (by simp)
    have r_2 := Vb_r.out.cell 2 (by simp)
    have r_3 := Vb_r.out.cell 3 (by simp)
    have r_4 := Vb_r.out.cell 4 (by simp)
    simp only [List.getElem_cons_zero, List.getElem_cons_succ] at r_0 r_1 r_2 r_3 r_4
    have r_l := Vb_r.out.lt
    clear B_r
    go_wp2_with fail
    clear p_0 p_1 p_2 p_3 p_4 p_5 p_l q_0 q_1 q_2 q_3 q_4 q_5 q_l r_0 r_1 r_2 r_3 r_4 r_l
    refine (HSP.out _ HPP.out HQQ.out).mono ?_
    rintro e w10 ⟨rfl, hb⟩
    replace Vb_p := Lib.hid (Vb_p.out.below hb)
    replace Vb_x := Lib.hid (Vb_x.out.below hb)
    replace Vb_q := Lib.hid (Vb_q.out.below hb)
    replace Vb_r := Lib.hid (Vb_r.out.below hb)
    replace HPP := Lib.hid (rpB HPP.out hb (Nat.le_refl _))
    replace HQQ := Lib.hid (rpB HQQ.out hb (Nat.le_refl _))
    replace HB := Lib.hid (belS HB.out hb)
    clear hb
    go_wp2_with fail
    go_ret
    exact ⟨rfl, HB.out⟩
  case true =>
    cases cb
    case false =>
      have HE := Lib.hid (HBAD.out (by rintro ⟨h1, h2⟩; first | (cases h1; done) | (cases h2; done)))
      rw [HE.out] at HCC
      clear HBAD HNO HCO HE
      simp only [rC] at HCC
      have B_p := Vb_p.out
      have p_0 := Vb_p.out.cell 0 (by simp)
      have p_1 := Vb_p.out.cell 1 (by simp)
      have p_2 := Vb_p.out.cell 2 (by simp)
      have p_3 := Vb_p.out.cell 3 (by simp)
      have p_4 := Vb_p.out.cell 4 (by simp)
      have p_5 := Vb_p.out.cell 5 (by simp)
      simp only [List.getElem_cons_zero, List.getElem_cons_succ] at p_0 p_1 p_2 p_3 p_4 p_5
      have p_l := Vb_p.out.lt
      clear B_p
      have B_x := Vb_x.out
      have x_0 := Vb_x.out.cell 0 (by simp)
      have x_1 := Vb_x.out.cell 1 (by simp)
      have x_2 := Vb_x.out.cell 2 (by simp)
      have x_3 := Vb_x.out.cell 3 (by simp)
      simp only [List.getElem_cons_zero, List.getElem_cons_succ] at x_0 x_1 x_2 x_3
      have x_l := Vb_x.out.lt
      clear B_x
      go_wp2_with fail
      clear p_0 p_1 p_2 p_3 p_4 p_5 p_l x_0 x_1 x_2 x_3 x_l
      refine (HCC.out _ HPP.out (HMX.out _ HB.out)).mono ?_
      rintro e w5 ⟨_, rfl, ⟨u3, u5, rfl, ho3, ho5⟩, hb⟩
      replace Vb_p := Lib.hid (Vb_p.out.below hb)
      replace Vb_x := Lib.hid (Vb_x.out.below hb)
      replace HPP := Lib.hid (rpB HPP.out hb (Nat.le_refl _))
      replace HB := Lib.hid (belS HB.out hb)
      clear hb
      simp only at ho3 ho5
      obtain ⟨cb2, cd, rfl⟩ := slice_of ho3
      obtain ⟨lb, ld, rfl⟩ := slice_of ho5
      have HQQ := Lib.hid (show rPart 0 _ [.string ⟨kd.toArray⟩, .bool on, .bool br, .slice cb2 y.length cd, .int .i64 cnt, .slice lb z.length ld] (⟨⟨kd, on, br, y, cnt⟩, z⟩ : PartD) from goodPart.mono (oPart_r ⟨_, _, rfl, ho3, ho5⟩ HSM.out) (Nat.zero_le _))
      clear ho3 ho5
      have HSP := Lib.hid (fun W (h : rPart 0 W [.string ⟨kd.toArray⟩, .bool on, .bool br, .slice ca y.length cc, .int .i64 cnt, .slice la z.length lc] (⟨⟨kd, on, br, y, cnt⟩, z⟩ : PartD)) (h2 : rPart 0 W [.string ⟨kd.toArray⟩, .bool on, .bool br, .slice cb2 y.length cd, .int .i64 cnt, .slice lb z.length ld] (⟨⟨kd, on, br, y, cnt⟩, z⟩ : PartD)) => implSamePart_any (.agg #[.string ⟨kd.toArray⟩, .bool on, .bool br, .slice ca y.length cc, .int .i64 cnt, .slice la z.length lc]) (.agg #[.string ⟨kd.toArray⟩, .bool on, .bool br, .slice cb2 y.length cd, .int .i64 cnt, .slice lb z.length ld]) (⟨⟨kd, on, br, y, cnt⟩, z⟩ : PartD) (⟨⟨kd, on, br, y, cnt⟩, z⟩ : PartD) W (⟨_, rfl, h⟩ : ValAt rPart 0 W (.agg #[.string ⟨kd.toArray⟩, .bool on, .bool br, .slice ca y.length cc, .int .i64 cnt, .slice la z.length lc]) (⟨⟨kd, on, br, y, cnt⟩, z⟩ : PartD)) (⟨_, rfl, h2⟩ : ValAt rPart 0 W (.agg #[.string ⟨kd.toArray⟩, .bool on, .bool br, .slice cb2 y.length cd, .int .i64 cnt, .slice lb z.length ld]) (⟨⟨kd, on, br, y, cnt⟩, z⟩ : PartD)))
      rw [show decide ((⟨⟨kd, on, br, y, cnt⟩, z⟩ : PartD) = (⟨⟨kd, on, br, y, cnt⟩, z⟩ : PartD)) = true from decide_eq_true rfl] at HSP
      go_upto_region 5 with fail
      have hbn := Bx.new (w5) [.string ⟨kd.toArray⟩, .bool on, .bool br, .slice cb2 y.length cd, .int .i64 cnt, .slice lb z.length ld] 37
      have hbb := bx_box (w5) (.cells #[.string ⟨kd.toArray⟩, .bool on, .bool br, .slice cb2 y.length cd, .int .i64 cnt, .slice lb z.length ld] 37)
      have Vb_q := Lib.hid hbn
      clear hbn
      replace Vb_p := Lib.hid (Vb_p.out.below hbb)
      replace Vb_x := Lib.hid (Vb_x.out.below hbb)
      replace HPP := Lib.hid (rpB HPP.out hbb (Nat.le_refl _))
      replace HQQ := Lib.hid (rpB HQQ.out hbb (Nat.le_refl _))
      replace HB := Lib.hid (belS HB.out hbb)
      clear hbb
      have hbn := Bx.new ((w5).alloc (.cells #[.string ⟨kd.toArray⟩, .bool on, .bool br, .slice cb2 y.length cd, .int .i64 cnt, .slice lb z.length ld] 37)) [.int .i64 7, .int .i64 0, .string ⟨#[]⟩, .int .i64 0, .int .i64 0] 39
      have hbb := bx_box ((w5).alloc (.cells #[.string ⟨kd.toArray⟩, .bool on, .bool br, .slice cb2 y.length cd, .int .i64 cnt, .slice lb z.length ld] 37)) (.cells #[.int .i64 7, .int .i64 0, .string ⟨#[]⟩, .int .i64 0, .int .i64 0] 39)
      rw [show ((w5).alloc (.cells #[.string ⟨kd.toArray⟩, .bool on, .bool br, .slice cb2 y.length cd, .int .i64 cnt, .slice lb z.length ld] 37)).heap.size = w5.heap.size + 1 by simp] at hbn
      have Vb_r := Lib.hid hbn
      clear hbn
      replace Vb_p := Lib.hid (Vb_p.out.below hbb)
      replace Vb_x := Lib.hid (Vb_x.out.below hbb)
      replace Vb_q := Lib.hid (Vb_q.out.below hbb)
      replace HPP := Lib.hid (rpB HPP.out hbb (Nat.le_refl _))
      replace HQQ := Lib.hid (rpB HQQ.out hbb (Nat.le_refl _))
      replace HB := Lib.hid (belS HB.out hbb)
      clear hbb
      generalize ((w5).alloc (.cells #[.string ⟨kd.toArray⟩, .bool on, .bool br, .slice cb2 y.length cd, .int .i64 cnt, .slice lb z.length ld] 37)).alloc (.cells #[.int .i64 7, .int .i64 0, .string ⟨#[]⟩, .int .i64 0, .int .i64 0] 39) = w8 at *
      have B_p := Vb_p.out
      have p_0 := Vb_p.out.cell 0 (by simp)
      have p_1 := Vb_p.out.cell 1 (by simp)
      have p_2 := Vb_p.out.cell 2 (by simp)
      have p_3 := Vb_p.out.cell 3 (by simp)
      have p_4 := Vb_p.out.cell 4 (by simp)
      have p_5 := Vb_p.out.cell 5 (by simp)
      simp only [List.getElem_cons_zero, List.getElem_cons_succ] at p_0 p_1 p_2 p_3 p_4 p_5
      have p_l := Vb_p.out.lt
      clear B_p
      go_wp2_with fail
      clear p_0 p_1 p_2 p_3 p_4 p_5 p_l
      refine (HIP.out _ HPP.out).mono ?_
      rintro e w9 ⟨rfl, hb⟩
      replace Vb_p := Lib.hid (Vb_p.out.below hb)
      replace Vb_x := Lib.hid (Vb_x.out.below hb)
      replace Vb_q := Lib.hid (Vb_q.out.below hb)
      replace Vb_r := Lib.hid (Vb_r.out.below hb)
      replace HPP := Lib.hid (rpB HPP.out hb (Nat.le_refl _))
      replace HQQ := Lib.hid (rpB HQQ.out hb (Nat.le_refl _))
      replace HB := Lib.hid (belS HB.out hb)
      clear hb
      have B_x := Vb_x.out
      have x_0 := Vb_x.out.cell 0 (by simp)
      have x_1 := Vb_x.out.cell 1 (by simp)
      have x_2 := Vb_x.out.cell 2 (by simp)
      have x_3 := Vb_x.out.cell 3 (by simp)
      simp only [List.getElem_cons_zero, List.getElem_cons_succ] at x_0 x_1 x_2 x_3
      have x_l := Vb_x.out.lt
      clear B_x
      go_wp2_with fail
      clear x_0 x_1 x_2 x_3 x_l
      refine (HIX.out _).mono ?_
      rintro e w10 ⟨rfl, hb⟩
      replace Vb_p := Lib.hid (Vb_p.out.below hb)
      replace Vb_x := Lib.hid (Vb_x.out.below hb)
      replace Vb_q := Lib.hid (Vb_q.out.below hb)
      replace Vb_r := Lib.hid (Vb_r.out.below hb)
      replace HPP := Lib.hid (rpB HPP.out hb (Nat.le_refl _))
      replace HQQ := Lib.hid (rpB HQQ.out hb (Nat.le_refl _))
      replace HB := Lib.hid (belS HB.out hb)
      clear hb
      have B_p := Vb_p.out
      have p_0 := Vb_p.out.cell 0 (by simp)
      have p_1 := Vb_p.out.cell 1 (by simp)
      have p_2 := Vb_p.out.cell 2 (by simp)
      have p_3 := Vb_p.out.cell 3 (by simp)
      have p_4 := Vb_p.out.cell 4 (by simp)
      have p_5 := Vb_p.out.cell 5 (by simp)
      simp only [List.getElem_cons_zero, List.getElem_cons_succ] at p_0 p_1 p_2 p_3 p_4 p_5
      have p_l := Vb_p.out.lt
      clear B_p
      have B_q := Vb_q.out
      have q_0 := Vb_q.out.cell 0 (by simp)
      have q_1 := Vb_q.out.cell 1 (by simp)
      have q_2 := Vb_q.out.cell 2 (by simp)
      have q_3 := Vb_q.out.cell 3 (by simp)
      have q_4 := Vb_q.out.cell 4 (by simp)
      have q_5 := Vb_q.out.cell 5 (by simp)
      simp only [List.getElem_cons_zero, List.getElem_cons_succ] at q_0 q_1 q_2 q_3 q_4 q_5
      have q_l := Vb_q.out.lt
      clear B_q
      have B_r := Vb_r.out
      have r_0 := Vb_r.out.cell 0 (by simp)
      have r_1 := Vb_r.out.cell 1 (by simp)
      have r_2 := Vb_r.out.cell 2 (by simp)
      have r_3 := Vb_r.out.cell 3 (by simp)
      have r_4 := Vb_r.out.cell 4 (by simp)
      simp only [List.getElem_cons_zero, List.getElem_cons_succ] at r_0 r_1 r_2 r_3 r_4
      have r_l := Vb_r.out.lt
      clear B_r
      go_wp2_with fail
      clear p_0 p_1 p_2 p_3 p_4 p_5 p_l q_0 q_1 q_2 q_3 q_4 q_5 q_l r_0 r_1 r_2 r_3 r_4 r_l
      refine (HSP.out _ HPP.out HQQ.out).mono ?_
      rintro e w11 ⟨rfl, hb⟩
      replace Vb_p := Lib.hid (Vb_p.out.below hb)
      replace Vb_x := Lib.hid (Vb_x.out.below hb)
      replace Vb_q := Lib.hid (Vb_q.out.below hb)
      replace Vb_r := Lib.hid (Vb_r.out.below hb)
      replace HPP := Lib.hid (rpB HPP.out hb (Nat.le_refl _))
      replace HQQ := Lib.hid (rpB HQQ.out hb (Nat.le_refl _))
      replace HB := Lib.hid (belS HB.out hb)
      clear hb
      go_wp2_with fail
      go_ret
      exact ⟨rfl, HB.out⟩
    case true =>
      cases of
      case false =>
        have HE := Lib.hid (HNO.out (by first | rfl | trivial) (by first | rfl | trivial) (by first | rfl | trivial))
        rw [HE.out] at HCC
        clear HBAD HNO HCO HE
        simp only at HCC
        have B_p := Vb_p.out
        have p_0 := Vb_p.out.cell 0 (by simp)
        have p_1 := Vb_p.out.cell 1 (by simp)
        have p_2 := Vb_p.out.cell 2 (by simp)
        have p_3 := Vb_p.out.cell 3 (by simp)
        have p_4 := Vb_p.out.cell 4 (by simp)
        have p_5 := Vb_p.out.cell 5 (by simp)
        simp only [List.getElem_cons_zero, List.getElem_cons_succ] at p_0 p_1 p_2 p_3 p_4 p_5
        have p_l := Vb_p.out.lt
        clear B_p
        have B_x := Vb_x.out
        have x_0 := Vb_x.out.cell 0 (by simp)
        have x_1 := Vb_x.out.cell 1 (by simp)
        have x_2 := Vb_x.out.cell 2 (by simp)
        have x_3 := Vb_x.out.cell 3 (by simp)
        simp only [List.getElem_cons_zero, List.getElem_cons_succ] at x_0 x_1 x_2 x_3
        have x_l := Vb_x.out.lt
        clear B_x
        go_wp2_with fail
        clear p_0 p_1 p_2 p_3 p_4 p_5 p_l x_0 x_1 x_2 x_3 x_l
        refine (HCC.out _ HPP.out (HMX.out _ HB.out)).mono ?_
        rintro e w5 ⟨_, rfl, ⟨u3, u5, rfl, ho3, ho5⟩, hb⟩
        replace Vb_p := Lib.hid (Vb_p.out.below hb)
        replace Vb_x := Lib.hid (Vb_x.out.below hb)
        replace HPP := Lib.hid (rpB HPP.out hb (Nat.le_refl _))
        replace HB := Lib.hid (belS HB.out hb)
        clear hb
        simp only at ho3 ho5
        obtain ⟨cb2, cd, rfl⟩ := slice_of ho3
        obtain ⟨lb, ld, rfl⟩ := slice_of ho5
        have HQQ := Lib.hid (show rPart 0 _ [.string ⟨kd.toArray⟩, .bool on, .bool br, .slice cb2 y.length cd, .int .i64 cnt, .slice lb z.length ld] (⟨⟨kd, on, br, y, cnt⟩, z⟩ : PartD) from goodPart.mono (oPart_r ⟨_, _, rfl, ho3, ho5⟩ HSM.out) (Nat.zero_le _))
        clear ho3 ho5
        have HSP := Lib.hid (fun W (h : rPart 0 W [.string ⟨kd.toArray⟩, .bool on, .bool br, .slice ca y.length cc, .int .i64 cnt, .slice la z.length lc] (⟨⟨kd, on, br, y, cnt⟩, z⟩ : PartD)) (h2 : rPart 0 W [.string ⟨kd.toArray⟩, .bool on, .bool br, .slice cb2 y.length cd, .int .i64 cnt, .slice lb z.length ld] (⟨⟨kd, on, br, y, cnt⟩, z⟩ : PartD)) => implSamePart_any (.agg #[.string ⟨kd.toArray⟩, .bool on, .bool br, .slice ca y.length cc, .int .i64 cnt, .slice la z.length lc]) (.agg #[.string ⟨kd.toArray⟩, .bool on, .bool br, .slice cb2 y.length cd, .int .i64 cnt, .slice lb z.length ld]) (⟨⟨kd, on, br, y, cnt⟩, z⟩ : PartD) (⟨⟨kd, on, br, y, cnt⟩, z⟩ : PartD) W (⟨_, rfl, h⟩ : ValAt rPart 0 W (.agg #[.string ⟨kd.toArray⟩, .bool on, .bool br, .slice ca y.length cc, .int .i64 cnt, .slice la z.length lc]) (⟨⟨kd, on, br, y, cnt⟩, z⟩ : PartD)) (⟨_, rfl, h2⟩ : ValAt rPart 0 W (.agg #[.string ⟨kd.toArray⟩, .bool on, .bool br, .slice cb2 y.length cd, .int .i64 cnt, .slice lb z.length ld]) (⟨⟨kd, on, br, y, cnt⟩, z⟩ : PartD)))
        rw [show decide ((⟨⟨kd, on, br, y, cnt⟩, z⟩ : PartD) = (⟨⟨kd, on, br, y, cnt⟩, z⟩ : PartD)) = true from decide_eq_true rfl] at HSP
        go_upto_region 5 with fail
        have hbn := Bx.new (w5) [.string ⟨kd.toArray⟩, .bool on, .bool br, .slice cb2 y.length cd, .int .i64 cnt, .slice lb z.length ld] 37
        have hbb := bx_box (w5) (.cells #[.string ⟨kd.toArray⟩, .bool on, .bool br, .slice cb2 y.length cd, .int .i64 cnt, .slice lb z.length ld] 37)
        have Vb_q := Lib.hid hbn
        clear hbn
        replace Vb_p := Lib.hid (Vb_p.out.below hbb)
        replace Vb_x := Lib.hid (Vb_x.out.below hbb)
        replace HPP := Lib.hid (rpB HPP.out hbb (Nat.le_refl _))
        replace HQQ := Lib.hid (rpB HQQ.out hbb (Nat.le_refl _))
        replace HB := Lib.hid (belS HB.out hbb)
        clear hbb
        have hbn := Bx.new ((w5).alloc (.cells #[.string ⟨kd.toArray⟩, .bool on, .bool br, .slice cb2 y.length cd, .int .i64 cnt, .slice lb z.length ld] 37)) [.int .i64 1, .int .i64 0, .string ⟨#[]⟩, .int .i64 wt, .int .i64 fp] 39
        have hbb := bx_box ((w5).alloc (.cells #[.string ⟨kd.toArray⟩, .bool on, .bool br, .slice cb2 y.length cd, .int .i64 cnt, .slice lb z.length ld] 37)) (.cells #[.int .i64 1, .int .i64 0, .string ⟨#[]⟩, .int .i64 wt, .int .i64 fp] 39)
        rw [show ((w5).alloc (.cells #[.string ⟨kd.toArray⟩, .bool on, .bool br, .slice cb2 y.length cd, .int .i64 cnt, .slice lb z.length ld] 37)).heap.size = w5.heap.size + 1 by simp] at hbn
        have Vb_r := Lib.hid hbn
        clear hbn
        replace Vb_p := Lib.hid (Vb_p.out.below hbb)
        replace Vb_x := Lib.hid (Vb_x.out.below hbb)
        replace Vb_q := Lib.hid (Vb_q.out.below hbb)
        replace HPP := Lib.hid (rpB HPP.out hbb (Nat.le_refl _))
        replace HQQ := Lib.hid (rpB HQQ.out hbb (Nat.le_refl _))
        replace HB := Lib.hid (belS HB.out hbb)
        clear hbb
        generalize ((w5).alloc (.cells #[.string ⟨kd.toArray⟩, .bool on, .bool br, .slice cb2 y.length cd, .int .i64 cnt, .slice lb z.length ld] 37)).alloc (.cells #[.int .i64 1, .int .i64 0, .string ⟨#[]⟩, .int .i64 wt, .int .i64 fp] 39) = w8 at *
        have B_p := Vb_p.out
        have p_0 := Vb_p.out.cell 0 (by simp)
        have p_1 := Vb_p.out.cell 1 (by simp)
        have p_2 := Vb_p.out.cell 2 (by simp)
        have p_3 := Vb_p.out.cell 3 (by simp)
        have p_4 := Vb_p.out.cell 4 (by simp)
        have p_5 := Vb_p.out.cell 5 (by simp)
        simp only [List.getElem_cons_zero, List.getElem_cons_succ] at p_0 p_1 p_2 p_3 p_4 p_5
        have p_l := Vb_p.out.lt
        clear B_p
        go_wp2_with fail
        clear p_0 p_1 p_2 p_3 p_4 p_5 p_l
        refine (HIP.out _ HPP.out).mono ?_
        rintro e w9 ⟨rfl, hb⟩
        replace Vb_p := Lib.hid (Vb_p.out.below hb)
        replace Vb_x := Lib.hid (Vb_x.out.below hb)
        replace Vb_q := Lib.hid (Vb_q.out.below hb)
        replace Vb_r := Lib.hid (Vb_r.out.below hb)
        replace HPP := Lib.hid (rpB HPP.out hb (Nat.le_refl _))
        replace HQQ := Lib.hid (rpB HQQ.out hb (Nat.le_refl _))
        replace HB := Lib.hid (belS HB.out hb)
        clear hb
        have B_x := Vb_x.out
        have x_0 := Vb_x.out.cell 0 (by simp)
        have x_1 := Vb_x.out.cell 1 (by simp)
        have x_2 := Vb_x.out.cell 2 (by simp)
        have x_3 := Vb_x.out.cell 3 (by simp)
        simp only [List.getElem_cons_zero, List.getElem_cons_succ] at x_0 x_1 x_2 x_3
        have x_l := Vb_x.out.lt
        clear B_x
        go_wp2_with fail
        clear x_0 x_1 x_2 x_3 x_l
        refine (HIX.out _).mono ?_
        rintro e w10 ⟨rfl, hb⟩
        replace Vb_p := Lib.hid (Vb_p.out.below hb)
        replace Vb_x := Lib.hid (Vb_x.out.below hb)
        replace Vb_q := Lib.hid (Vb_q.out.below hb)
        replace Vb_r := Lib.hid (Vb_r.out.below hb)
        replace HPP := Lib.hid (rpB HPP.out hb (Nat.le_refl _))
        replace HQQ := Lib.hid (rpB HQQ.out hb (Nat.le_refl _))
        replace HB := Lib.hid (belS HB.out hb)
        clear hb
        have B_x := Vb_x.out
        have x_0 := Vb_x.out.cell 0 (by simp)
        have x_1 := Vb_x.out.cell 1 (by simp)
        have x_2 := Vb_x.out.cell 2 (by simp)
        have x_3 := Vb_x.out.cell 3 (by simp)
        simp only [List.getElem_cons_zero, List.getElem_cons_succ] at x_0 x_1 x_2 x_3
        have x_l := Vb_x.out.lt
        clear B_x
        go_wp2_with fail
        clear x_0 x_1 x_2 x_3 x_l
        refine (HWO.out _).mono ?_
        rintro e w11 ⟨rfl, hb⟩
        replace Vb_p := Lib.hid (Vb_p.out.below hb)
        replace Vb_x := Lib.hid (Vb_x.out.below hb)
        replace Vb_q := Lib.hid (Vb_q.out.below hb)
        replace Vb_r := Lib.hid (Vb_r.out.below hb)
        replace HPP := Lib.hid (rpB HPP.out hb (Nat.le_refl _))
        replace HQQ := Lib.hid (rpB HQQ.out hb (Nat.le_refl _))
        replace HB := Lib.hid (belS HB.out hb)
        clear hb
        have B_p := Vb_p.out
        have p_0 := Vb_p.out.cell 0 (by simp)
        have p_1 := Vb_p.out.cell 1 (by simp)
        have p_2 := Vb_p.out.cell 2 (by simp)
        have p_3 := Vb_p.out.cell 3 (by simp)
        have p_4 := Vb_p.out.cell 4 (by simp)
        have p_5 := Vb_p.out.cell 5 (by simp)
        simp only [List.getElem_cons_zero, List.getElem_cons_succ] at p_0 p_1 p_2 p_3 p_4 p_5
        have p_l := Vb_p.out.lt
        clear B_p
        have B_r := Vb_r.out
        have r_0 := Vb_r.out.cell 0 (by simp)
        have r_1 := Vb_r.out.cell 1 (by simp)
        have r_2 := Vb_r.out.cell 2 (by simp)
        have r_3 := Vb_r.out.cell 3 (by simp)
        have r_4 := Vb_r.out.cell 4 (by simp)
        simp only [List.getElem_cons_zero, List.getElem_cons_succ] at r_0 r_1 r_2 r_3 r_4
        have r_l := Vb_r.out.lt
        clear B_r
        go_wp2_with fail
        clear p_0 p_1 p_2 p_3 p_4 p_5 p_l r_0 r_1 r_2 r_3 r_4 r_l
        have HSof := Lib.hid (fun W (h : Below w11.heap.size w11 W) => (show W.cell? ⟨w1.heap.size, 0, none⟩ = some (.string ⟨kd.toArray⟩) ∧ W.cell? ⟨w1.heap.size, 1, none⟩ = some (.bool on) ∧ W.cell? ⟨w1.heap.size, 2, none⟩ = some (.bool br) ∧ W.cell? ⟨w1.heap.size, 3, none⟩ = some (.slice ca y.length cc) ∧ W.cell? ⟨w1.heap.size, 4, none⟩ = some (.int .i64 cnt) ∧ W.cell? ⟨w1.heap.size, 5, none⟩ = some (.slice la z.length lc) ∧ W.cell? ⟨w5.heap.size + 1, 0, none⟩ = some (.int .i64 1) ∧ W.cell? ⟨w5.heap.size + 1, 1, none⟩ = some (.int .i64 0) ∧ W.cell? ⟨w5.heap.size + 1, 2, none⟩ = some (.string ⟨#[]⟩) ∧ W.cell? ⟨w5.heap.size + 1, 3, none⟩ = some (.int .i64 wt) ∧ W.cell? ⟨w5.heap.size + 1, 4, none⟩ = some (.int .i64 fp) ∧ Below w11.heap.size w11 W from ⟨(h.cell (p := ⟨w1.heap.size, 0, none⟩) Vb_p.out.lt).trans (Vb_p.out.cell 0 (by simp)), (h.cell (p := ⟨w1.heap.size, 1, none⟩) Vb_p.out.lt).trans (Vb_p.out.cell 1 (by simp)), (h.cell (p := ⟨w1.heap.size, 2, none⟩) Vb_p.out.lt).trans (Vb_p.out.cell 2 (by simp)), (h.cell (p := ⟨w1.heap.size, 3, none⟩) Vb_p.out.lt).trans (Vb_p.out.cell 3 (by simp)), (h.cell (p := ⟨w1.heap.size, 4, none⟩) Vb_p.out.lt).trans (Vb_p.out.cell 4 (by simp)), (h.cell (p := ⟨w1.heap.size, 5, none⟩) Vb_p.out.lt).trans (Vb_p.out.cell 5 (by simp)), (h.cell (p := ⟨w5.heap.size + 1, 0, none⟩) Vb_r.out.lt).trans (Vb_r.out.cell 0 (by simp)), (h.cell (p := ⟨w5.heap.size + 1, 1, none⟩) Vb_r.out.lt).trans (Vb_r.out.cell 1 (by simp)), (h.cell (p := ⟨w5.heap.size + 1, 2, none⟩) Vb_r.out.lt).trans (Vb_r.out.cell 2 (by simp)), (h.cell (p := ⟨w5.heap.size + 1, 3, none⟩) Vb_r.out.lt).trans (Vb_r.out.cell 3 (by simp)), (h.cell (p := ⟨w5.heap.size + 1, 4, none⟩) Vb_r.out.lt).trans (Vb_r.out.cell 4 (by simp)), h⟩))
        refine wp_region_held_drew (S := (fun w' => w'.cell? ⟨w1.heap.size, 0, none⟩ = some (.string ⟨kd.toArray⟩) ∧ w'.cell? ⟨w1.heap.size, 1, none⟩ = some (.bool on) ∧ w'.cell? ⟨w1.heap.size, 2, none⟩ = some (.bool br) ∧ w'.cell? ⟨w1.heap.size, 3, none⟩ = some (.slice ca y.length cc) ∧ w'.cell? ⟨w1.heap.size, 4, none⟩ = some (.int .i64 cnt) ∧ w'.cell? ⟨w1.heap.size, 5, none⟩ = some (.slice la z.length lc) ∧ w'.cell? ⟨w5.heap.size + 1, 0, none⟩ = some (.int .i64 1) ∧ w'.cell? ⟨w5.heap.size + 1, 1, none⟩ = some (.int .i64 0) ∧ w'.cell? ⟨w5.heap.size + 1, 2, none⟩ = some (.string ⟨#[]⟩) ∧ w'.cell? ⟨w5.heap.size + 1, 3, none⟩ = some (.int .i64 wt) ∧ w'.cell? ⟨w5.heap.size + 1, 4, none⟩ = some (.int .i64 fp) ∧ Below w11.heap.size w11 w')) (by kernel_rfl) ?_ (fun hHeld => ?_)
        · exact HSof.out _ (Below.refl _ _).drew
        have HBW := Lib.hid ((Below.refl w11.heap.size w11).drew)
        generalize w11.drew = vh0 at *
        refine wpAnyH_take (i := 0) (v := ?_) rfl (by kernel_rfl) (by kernel_rfl) (by kernel_rfl) (fun _ _ _ h => h) (Or.inl ⟨by rfl, ?_⟩) (by assumption) ?_
        rotate_left
        · intro w hSw; (try dsimp only at hSw); go_simp; with_reducible rfl
        try simp only [Act.put, List.getElem_toArray, List.getElem_cons_zero, List.getElem_cons_succ, List.setIfInBounds_toArray, List.set_cons_zero, List.set_cons_succ]
        refine wpAnyH_take (i := 3) (v := ?_) rfl (by kernel_rfl) (by kernel_rfl) (by kernel_rfl) (fun _ _ _ h => h) (Or.inl ⟨by rfl, ?_⟩) (by assumption) ?_
        rotate_left
        · intro w hSw; (try dsimp only at hSw); go_simp; with_reducible rfl
        try simp only [Act.put, List.getElem_toArray, List.getElem_cons_zero, List.getElem_cons_succ, List.setIfInBounds_toArray, List.set_cons_zero, List.set_cons_succ]
        refine wpAnyH_take (i := 5) (v := ?_) rfl (by kernel_rfl) (by kernel_rfl) (by kernel_rfl) (fun _ _ _ h => h) (Or.inl ⟨by rfl, ?_⟩) (by assumption) ?_
        rotate_left
        · intro w hSw; (try dsimp only at hSw); go_simp; with_reducible rfl
        try simp only [Act.put, List.getElem_toArray, List.getElem_cons_zero, List.getElem_cons_succ, List.setIfInBounds_toArray, List.set_cons_zero, List.set_cons_succ]
        refine wpAnyH_take (i := 1) (v := ?_) rfl (by kernel_rfl) (by kernel_rfl) (by kernel_rfl) (fun _ _ _ h => h) (Or.inl ⟨by rfl, ?_⟩) (by assumption) ?_
        rotate_left
        · intro w hSw; (try dsimp only at hSw); go_simp; with_reducible rfl
        try simp only [Act.put, List.getElem_toArray, List.getElem_cons_zero, List.getElem_cons_succ, List.setIfInBounds_toArray, List.set_cons_zero, List.set_cons_succ]
        refine wpAnyH_take (i := 2) (v := ?_) rfl (by kernel_rfl) (by kernel_rfl) (by kernel_rfl) (fun _ _ _ h => h) (Or.inl ⟨by rfl, ?_⟩) (by assumption) ?_
        rotate_left
        · intro w hSw; (try dsimp only at hSw); go_simp; with_reducible rfl
        try simp only [Act.put, List.getElem_toArray, List.getElem_cons_zero, List.getElem_cons_succ, List.setIfInBounds_toArray, List.set_cons_zero, List.set_cons_succ]
        refine wpAnyH_ready (rs := [4]) (by kernel_rfl) (by simp) ?_
        refine AllReadyH.cons rfl (fun K hK => ?_) AllReadyH.nil
        go_simp
        go_at_call 48
        refine (HFO.out _ (rpB HPP.out HBW.out (Nat.le_refl _))).mono ?_
        rintro e vh1 ⟨rfl, hb⟩
        replace HBW := Lib.hid (belS HBW.out hb)
        refine hK.out _ _ (HSof.out _ HBW.out) (fun hHeld => ?_)
        clear hK K hb
        try simp only [Act.put, List.getElem_toArray, List.getElem_cons_zero, List.getElem_cons_succ, List.setIfInBounds_toArray, List.set_cons_zero, List.set_cons_succ]
        refine wpAnyH_ready (rs := [6]) (by kernel_rfl) (by simp) ?_
        refine AllReadyH.cons rfl (fun K hK => ?_) AllReadyH.nil
        go_simp
        go_at_call 47
        refine (HOF.out _).mono ?_
        rintro e vh2 ⟨rfl, rfl⟩
        refine hK.out _ _ (HSof.out _ HBW.out) (fun hHeld => ?_)
        clear hK K
        try simp only [Act.put, List.getElem_toArray, List.getElem_cons_zero, List.getElem_cons_succ, List.setIfInBounds_toArray, List.set_cons_zero, List.set_cons_succ]
        refine wpAnyH_take (i := 7) (v := ?_) rfl (by kernel_rfl) (by kernel_rfl) (by kernel_rfl) (fun _ _ _ h => h) (Or.inl ⟨by rfl, ?_⟩) (by assumption) ?_
        rotate_left
        · intro w hSw; (try dsimp only at hSw); go_simp; with_reducible rfl
        try simp only [Act.put, List.getElem_toArray, List.getElem_cons_zero, List.getElem_cons_succ, List.setIfInBounds_toArray, List.set_cons_zero, List.set_cons_succ]
        refine wpAnyH_take (i := 8) (v := ?_) rfl (by kernel_rfl) (by kernel_rfl) (by kernel_rfl) (fun _ _ _ h => h) (Or.inl ⟨by rfl, ?_⟩) (by assumption) ?_
        rotate_left
        · intro w hSw; (try dsimp only at hSw); go_simp; with_reducible rfl
        try simp only [Act.put, List.getElem_toArray, List.getElem_cons_zero, List.getElem_cons_succ, List.setIfInBounds_toArray, List.set_cons_zero, List.set_cons_succ]
        refine wpAnyH_take (i := 9) (v := ?_) rfl (by kernel_rfl) (by kernel_rfl) (by kernel_rfl) (fun _ _ _ h => h) (Or.inl ⟨by rfl, ?_⟩) (by assumption) ?_
        rotate_left
        · intro w hSw; (try dsimp only at hSw); go_simp; with_reducible rfl
        try simp only [Act.put, List.getElem_toArray, List.getElem_cons_zero, List.getElem_cons_succ, List.setIfInBounds_toArray, List.set_cons_zero, List.set_cons_succ]
        refine wpAnyH_take (i := 10) (v := ?_) rfl (by kernel_rfl) (by kernel_rfl) (by kernel_rfl) (fun _ _ _ h => h) (Or.inl ⟨by rfl, ?_⟩) (by assumption) ?_
        rotate_left
        · intro w hSw; (try dsimp only at hSw); go_simp; with_reducible rfl
        try simp only [Act.put, List.getElem_toArray, List.getElem_cons_zero, List.getElem_cons_succ, List.setIfInBounds_toArray, List.set_cons_zero, List.set_cons_succ]
        refine wpAnyH_take (i := 11) (v := ?_) rfl (by kernel_rfl) (by kernel_rfl) (by kernel_rfl) (fun _ _ _ h => h) (Or.inl ⟨by rfl, ?_⟩) (by assumption) ?_
        rotate_left
        · intro w hSw; (try dsimp only at hSw); go_simp; with_reducible rfl
        try simp only [Act.put, List.getElem_toArray, List.getElem_cons_zero, List.getElem_cons_succ, List.setIfInBounds_toArray, List.set_cons_zero, List.set_cons_succ]
        refine wpAnyH_take (i := 12) (v := ?_) rfl (by kernel_rfl) (by kernel_rfl) (by kernel_rfl) (fun _ _ _ h => h) (Or.inl ⟨by rfl, ?_⟩) (by assumption) ?_
        rotate_left
        · intro w hSw; (try dsimp only at hSw); go_simp; with_reducible rfl
        try simp only [Act.put, List.getElem_toArray, List.getElem_cons_zero, List.getElem_cons_succ, List.setIfInBounds_toArray, List.set_cons_zero, List.set_cons_succ]
        refine wpAnyH_done (by kernel_rfl) ?_ _
        have hb := HBW.out
        clear HBW HSof hHeld
        replace Vb_p := Lib.hid (Vb_p.out.below hb)
        replace Vb_x := Lib.hid (Vb_x.out.below hb)
        replace Vb_q := Lib.hid (Vb_q.out.below hb)
        replace Vb_r := Lib.hid (Vb_r.out.below hb)
        replace HPP := Lib.hid (rpB HPP.out hb (Nat.le_refl _))
        replace HQQ := Lib.hid (rpB HQQ.out hb (Nat.le_refl _))
        replace HB := Lib.hid (belS HB.out hb)
        clear hb
        have hnz : True := trivial
        clear hnz
        have B_p := Vb_p.out
        have p_0 := Vb_p.out.cell 0 (by simp)
        have p_1 := Vb_p.out.cell 1 (by simp)
        have p_2 := Vb_p.out.cell 2 (by simp)
        have p_3 := Vb_p.out.cell 3 (by simp)
        have p_4 := Vb_p.out.cell 4 (by simp)
        have p_5 := Vb_p.out.cell 5 (by simp)
        simp only [List.getElem_cons_zero, List.getElem_cons_succ] at p_0 p_1 p_2 p_3 p_4 p_5
        have p_l := Vb_p.out.lt
        clear B_p
        have B_q := Vb_q.out
        have q_0 := Vb_q.out.cell 0 (by simp)
        have q_1 := Vb_q.out.cell 1 (by simp)
        have q_2 := Vb_q.out.cell 2 (by simp)
        have q_3 := Vb_q.out.cell 3 (by simp)
        have q_4 := Vb_q.out.cell 4 (by simp)
        have q_5 := Vb_q.out.cell 5 (by simp)
        simp only [List.getElem_cons_zero, List.getElem_cons_succ] at q_0 q_1 q_2 q_3 q_4 q_5
        have q_l := Vb_q.out.lt
        clear B_q
        have B_r := Vb_r.out
        have r_0 := Vb_r.out.cell 0 (by simp)
        have r_1 := Vb_r.out.cell 1 (by simp)
        have r_2 := Vb_r.out.cell 2 (by simp)
        have r_3 := Vb_r.out.cell 3 (by simp)
        have r_4 := Vb_r.out.cell 4 (by simp)
        simp only [List.getElem_cons_zero, List.getElem_cons_succ] at r_0 r_1 r_2 r_3 r_4
        have r_l := Vb_r.out.lt
        clear B_r
        go_wp2_with fail
        clear p_0 p_1 p_2 p_3 p_4 p_5 p_l q_0 q_1 q_2 q_3 q_4 q_5 q_l r_0 r_1 r_2 r_3 r_4 r_l
        have HSof := Lib.hid (fun W (h : Below vh1.heap.size vh1 W) => (show W.cell? ⟨w1.heap.size, 0, none⟩ = some (.string ⟨kd.toArray⟩) ∧ W.cell? ⟨w1.heap.size, 1, none⟩ = some (.bool on) ∧ W.cell? ⟨w1.heap.size, 2, none⟩ = some (.bool br) ∧ W.cell? ⟨w1.heap.size, 3, none⟩ = some (.slice ca y.length cc) ∧ W.cell? ⟨w1.heap.size, 4, none⟩ = some (.int .i64 cnt) ∧ W.cell? ⟨w1.heap.size, 5, none⟩ = some (.slice la z.length lc) ∧ W.cell? ⟨w5.heap.size, 0, none⟩ = some (.string ⟨kd.toArray⟩) ∧ W.cell? ⟨w5.heap.size, 1, none⟩ = some (.bool on) ∧ W.cell? ⟨w5.heap.size, 2, none⟩ = some (.bool br) ∧ W.cell? ⟨w5.heap.size, 3, none⟩ = some (.slice cb2 y.length cd) ∧ W.cell? ⟨w5.heap.size, 4, none⟩ = some (.int .i64 cnt) ∧ W.cell? ⟨w5.heap.size, 5, none⟩ = some (.slice lb z.length ld) ∧ W.cell? ⟨w5.heap.size + 1, 0, none⟩ = some (.int .i64 1) ∧ W.cell? ⟨w5.heap.size + 1, 1, none⟩ = some (.int .i64 0) ∧ W.cell? ⟨w5.heap.size + 1, 2, none⟩ = some (.string ⟨#[]⟩) ∧ W.cell? ⟨w5.heap.size + 1, 3, none⟩ = some (.int .i64 wt) ∧ W.cell? ⟨w5.heap.size + 1, 4, none⟩ = some (.int .i64 fp) ∧ Below vh1.heap.size vh1 W from ⟨(h.cell (p := ⟨w1.heap.size, 0, none⟩) Vb_p.out.lt).trans (Vb_p.out.cell 0 (by simp)), (h.cell (p := ⟨w1.heap.size, 1, none⟩) Vb_p.out.lt).trans (Vb_p.out.cell 1 (by simp)), (h.cell (p := ⟨w1.heap.size, 2, none⟩) Vb_p.out.lt).trans (Vb_p.out.cell 2 (by simp)), (h.cell (p := ⟨w1.heap.size, 3, none⟩) Vb_p.out.lt).trans (Vb_p.out.cell 3 (by simp)), (h.cell (p := ⟨w1.heap.size, 4, none⟩) Vb_p.out.lt).trans (Vb_p.out.cell 4 (by simp)), (h.cell (p := ⟨w1.heap.size, 5, none⟩) Vb_p.out.lt).trans (Vb_p.out.cell 5 (by simp)), (h.cell (p := ⟨w5.heap.size, 0, none⟩) Vb_q.out.lt).trans (Vb_q.out.cell 0 (by simp)), (h.cell (p := ⟨w5.heap.size, 1, none⟩) Vb_q.out.lt).trans (Vb_q.out.cell 1 (by simp)), (h.cell (p := ⟨w5.heap.size, 2, none⟩) Vb_q.out.lt).trans (Vb_q.out.cell 2 (by simp)), (h.cell (p := ⟨w5.heap.size, 3, none⟩) Vb_q.out.lt).trans (Vb_q.out.cell 3 (by simp)), (h.cell (p := ⟨w5.heap.size, 4, none⟩) Vb_q.out.lt).trans (Vb_q.out.cell 4 (by simp)), (h.cell (p := ⟨w5.heap.size, 5, none⟩) Vb_q.out.lt).trans (Vb_q.out.cell 5 (by simp)), (h.cell (p := ⟨w5.heap.size + 1, 0, none⟩) Vb_r.out.lt).trans (Vb_r.out.cell 0 (by simp)), (h.cell (p := ⟨w5.heap.size + 1, 1, none⟩) Vb_r.out.lt).trans (Vb_r.out.cell 1 (by simp)), (h.cell (p := ⟨w5.heap.size + 1, 2, none⟩) Vb_r.out.lt).trans (Vb_r.out.cell 2 (by simp)), (h.cell (p := ⟨w5.heap.size + 1, 3, none⟩) Vb_r.out.lt).trans (Vb_r.out.cell 3 (by simp)), (h.cell (p := ⟨w5.heap.size + 1, 4, none⟩) Vb_r.out.lt).trans (Vb_r.out.cell 4 (by simp)), h⟩))
        refine wp_region_held_drew (S := (fun w' => w'.cell? ⟨w1.heap.size, 0, none⟩ = some (.string ⟨kd.toArray⟩) ∧ w'.cell? ⟨w1.heap.size, 1, none⟩ = some (.bool on) ∧ w'.cell? ⟨w1.heap.size, 2, none⟩ = some (.bool br) ∧ w'.cell? ⟨w1.heap.size, 3, none⟩ = some (.slice ca y.length cc) ∧ w'.cell? ⟨w1.heap.size, 4, none⟩ = some (.int .i64 cnt) ∧ w'.cell? ⟨w1.heap.size, 5, none⟩ = some (.slice la z.length lc) ∧ w'.cell? ⟨w5.heap.size, 0, none⟩ = some (.string ⟨kd.toArray⟩) ∧ w'.cell? ⟨w5.heap.size, 1, none⟩ = some (.bool on) ∧ w'.cell? ⟨w5.heap.size, 2, none⟩ = some (.bool br) ∧ w'.cell? ⟨w5.heap.size, 3, none⟩ = some (.slice cb2 y.length cd) ∧ w'.cell? ⟨w5.heap.size, 4, none⟩ = some (.int .i64 cnt) ∧ w'.cell? ⟨w5.heap.size, 5, none⟩ = some (.slice lb z.length ld) ∧ w'.cell? ⟨w5.heap.size + 1, 0, none⟩ = some (.int .i64 1) ∧ w'.cell? ⟨w5.heap.size + 1, 1, none⟩ = some (.int .i64 0) ∧ w'.cell? ⟨w5.heap.size + 1, 2, none⟩ = some (.string ⟨#[]⟩) ∧ w'.cell? ⟨w5.heap.size + 1, 3, none⟩ = some (.int .i64 wt) ∧ w'.cell? ⟨w5.heap.size + 1, 4, none⟩ = some (.int .i64 fp) ∧ Below vh1.heap.size vh1 w')) (by kernel_rfl) ?_ (fun hHeld => ?_)
        · exact HSof.out _ (Below.refl _ _).drew
        have HBW := Lib.hid ((Below.refl vh1.heap.size vh1).drew)
        generalize vh1.drew = vh0 at *
        refine wpAnyH_take (i := 0) (v := ?_) rfl (by kernel_rfl) (by kernel_rfl) (by kernel_rfl) (fun _ _ _ h => h) (Or.inl ⟨by rfl, ?_⟩) (by assumption) ?_
        rotate_left
        · intro w hSw; (try dsimp only at hSw); go_simp; with_reducible rfl
        try simp only [Act.put, List.getElem_toArray, List.getElem_cons_zero, List.getElem_cons_succ, List.setIfInBounds_toArray, List.set_cons_zero, List.set_cons_succ]
        refine wpAnyH_take (i := 1) (v := ?_) rfl (by kernel_rfl) (by kernel_rfl) (by kernel_rfl) (fun _ _ _ h => h) (Or.inl ⟨by rfl, ?_⟩) (by assumption) ?_
        rotate_left
        · intro w hSw; (try dsimp only at hSw); go_simp; with_reducible rfl
        try simp only [Act.put, List.getElem_toArray, List.getElem_cons_zero, List.getElem_cons_succ, List.setIfInBounds_toArray, List.set_cons_zero, List.set_cons_succ]
        refine wpAnyH_take (i := 2) (v := ?_) rfl (by kernel_rfl) (by kernel_rfl) (by kernel_rfl) (fun _ _ _ h => h) (Or.inl ⟨by rfl, ?_⟩) (by assumption) ?_
        rotate_left
        · intro w hSw; (try dsimp only at hSw); go_simp; with_reducible rfl
        try simp only [Act.put, List.getElem_toArray, List.getElem_cons_zero, List.getElem_cons_succ, List.setIfInBounds_toArray, List.set_cons_zero, List.set_cons_succ]
        refine wpAnyH_take (i := 3) (v := ?_) rfl (by kernel_rfl) (by kernel_rfl) (by kernel_rfl) (fun _ _ _ h => h) (Or.inl ⟨by rfl, ?_⟩) (by assumption) ?_
        rotate_left
        · intro w hSw; (try dsimp only at hSw); go_simp; with_reducible rfl
        try simp only [Act.put, List.getElem_toArray, List.getElem_cons_zero, List.getElem_cons_succ, List.setIfInBounds_toArray, List.set_cons_zero, List.set_cons_succ]
        refine wpAnyH_take (i := 4) (v := ?_) rfl (by kernel_rfl) (by kernel_rfl) (by kernel_rfl) (fun _ _ _ h => h) (Or.inl ⟨by rfl, ?_⟩) (by assumption) ?_
        rotate_left
        · intro w hSw; (try dsimp only at hSw); go_simp; with_reducible rfl
        try simp only [Act.put, List.getElem_toArray, List.getElem_cons_zero, List.getElem_cons_succ, List.setIfInBounds_toArray, List.set_cons_zero, List.set_cons_succ]
        refine wpAnyH_take (i := 5) (v := ?_) rfl (by kernel_rfl) (by kernel_rfl) (by kernel_rfl) (fun _ _ _ h => h) (Or.inl ⟨by rfl, ?_⟩) (by assumption) ?_
        rotate_left
        · intro w hSw; (try dsimp only at hSw); go_simp; with_reducible rfl
        try simp only [Act.put, List.getElem_toArray, List.getElem_cons_zero, List.getElem_cons_succ, List.setIfInBounds_toArray, List.set_cons_zero, List.set_cons_succ]
        refine wpAnyH_ready (rs := [6]) (by kernel_rfl) (by simp) ?_
        refine AllReadyH.cons rfl (fun K hK => ?_) AllReadyH.nil
        go_simp
        go_at_call 45
        refine (HSP.out _ (rpB HPP.out HBW.out (Nat.le_refl _)) (rpB HQQ.out HBW.out (Nat.le_refl _))).mono ?_
        rintro e vh1 ⟨rfl, hb⟩
        replace HBW := Lib.hid (belS HBW.out hb)
        refine hK.out _ _ (HSof.out _ HBW.out) (fun hHeld => ?_)
        clear hK K hb
        try simp only [Act.put, List.getElem_toArray, List.getElem_cons_zero, List.getElem_cons_succ, List.setIfInBounds_toArray, List.set_cons_zero, List.set_cons_succ]
        refine wpAnyH_take (i := 7) (v := ?_) rfl (by kernel_rfl) (by kernel_rfl) (by kernel_rfl) (fun _ _ _ h => h) (Or.inl ⟨by rfl, ?_⟩) (by assumption) ?_
        rotate_left
        · intro w hSw; (try dsimp only at hSw); go_simp; with_reducible rfl
        try simp only [Act.put, List.getElem_toArray, List.getElem_cons_zero, List.getElem_cons_succ, List.setIfInBounds_toArray, List.set_cons_zero, List.set_cons_succ]
        refine wpAnyH_take (i := 8) (v := ?_) rfl (by kernel_rfl) (by kernel_rfl) (by kernel_rfl) (fun _ _ _ h => h) (Or.inl ⟨by rfl, ?_⟩) (by assumption) ?_
        rotate_left
        · intro w hSw; (try dsimp only at hSw); go_simp; with_reducible rfl
        try simp only [Act.put, List.getElem_toArray, List.getElem_cons_zero, List.getElem_cons_succ, List.setIfInBounds_toArray, List.set_cons_zero, List.set_cons_succ]
        refine wpAnyH_take (i := 10) (v := ?_) rfl (by kernel_rfl) (by kernel_rfl) (by kernel_rfl) (fun _ _ _ h => h) (Or.inl ⟨by rfl, ?_⟩) (by assumption) ?_
        rotate_left
        · intro w hSw; (try dsimp only at hSw); go_simp; with_reducible rfl
        try simp only [Act.put, List.getElem_toArray, List.getElem_cons_zero, List.getElem_cons_succ, List.setIfInBounds_toArray, List.set_cons_zero, List.set_cons_succ]
        refine wpAnyH_take (i := 9) (v := ?_) rfl (by kernel_rfl) (by kernel_rfl) (by kernel_rfl) (fun _ _ _ h => h) (Or.inl ⟨by rfl, ?_⟩) (by assumption) ?_
        rotate_left
        · intro w hSw; (try dsimp only at hSw); go_simp; with_reducible rfl
        try simp only [Act.put, List.getElem_toArray, List.getElem_cons_zero, List.getElem_cons_succ, List.setIfInBounds_toArray, List.set_cons_zero, List.set_cons_succ]
        refine wpAnyH_take (i := 11) (v := ?_) rfl (by kernel_rfl) (by kernel_rfl) (by kernel_rfl) (fun _ _ _ h => h) (Or.inl ⟨by rfl, ?_⟩) (by assumption) ?_
        rotate_left
        · intro w hSw; (try dsimp only at hSw); go_simp; with_reducible rfl
        try simp only [Act.put, List.getElem_toArray, List.getElem_cons_zero, List.getElem_cons_succ, List.setIfInBounds_toArray, List.set_cons_zero, List.set_cons_succ]
        refine wpAnyH_take (i := 12) (v := ?_) rfl (by kernel_rfl) (by kernel_rfl) (by kernel_rfl) (fun _ _ _ h => h) (Or.inl ⟨by rfl, ?_⟩) (by assumption) ?_
        rotate_left
        · intro w hSw; (try dsimp only at hSw); go_simp; with_reducible rfl
        try simp only [Act.put, List.getElem_toArray, List.getElem_cons_zero, List.getElem_cons_succ, List.setIfInBounds_toArray, List.set_cons_zero, List.set_cons_succ]
        refine wpAnyH_take (i := 13) (v := ?_) rfl (by kernel_rfl) (by kernel_rfl) (by kernel_rfl) (fun _ _ _ h => h) (Or.inl ⟨by rfl, ?_⟩) (by assumption) ?_
        rotate_left
        · intro w hSw; (try dsimp only at hSw); go_simp; with_reducible rfl
        try simp only [Act.put, List.getElem_toArray, List.getElem_cons_zero, List.getElem_cons_succ, List.setIfInBounds_toArray, List.set_cons_zero, List.set_cons_succ]
        refine wpAnyH_take (i := 14) (v := ?_) rfl (by kernel_rfl) (by kernel_rfl) (by kernel_rfl) (fun _ _ _ h => h) (Or.inl ⟨by rfl, ?_⟩) (by assumption) ?_
        rotate_left
        · intro w hSw; (try dsimp only at hSw); go_simp; with_reducible rfl
        try simp only [Act.put, List.getElem_toArray, List.getElem_cons_zero, List.getElem_cons_succ, List.setIfInBounds_toArray, List.set_cons_zero, List.set_cons_succ]
        refine wpAnyH_take (i := 16) (v := ?_) rfl (by kernel_rfl) (by kernel_rfl) (by kernel_rfl) (fun _ _ _ h => h) (Or.inl ⟨by rfl, ?_⟩) (by assumption) ?_
        rotate_left
        · intro w hSw; (try dsimp only at hSw); go_simp; with_reducible rfl
        try simp only [Act.put, List.getElem_toArray, List.getElem_cons_zero, List.getElem_cons_succ, List.setIfInBounds_toArray, List.set_cons_zero, List.set_cons_succ]
        refine wpAnyH_take (i := 15) (v := ?_) rfl (by kernel_rfl) (by kernel_rfl) (by kernel_rfl) (fun _ _ _ h => h) (Or.inl ⟨by rfl, ?_⟩) (by assumption) ?_
        rotate_left
        · intro w hSw; (try dsimp only at hSw); go_simp; with_reducible rfl
        try simp only [Act.put, List.getElem_toArray, List.getElem_cons_zero, List.getElem_cons_succ, List.setIfInBounds_toArray, List.set_cons_zero, List.set_cons_succ]
        refine wpAnyH_ready (rs := [17]) (by kernel_rfl) (by simp) ?_
        refine AllReadyH.cons rfl (fun K hK => ?_) AllReadyH.nil
        go_simp
        go_at_call 48
        refine (HFO.out _ (rpB HPP.out HBW.out (Nat.le_refl _))).mono ?_
        rintro e vh2 ⟨rfl, hb⟩
        replace HBW := Lib.hid (belS HBW.out hb)
        refine hK.out _ _ (HSof.out _ HBW.out) (fun hHeld => ?_)
        clear hK K hb
        try simp only [Act.put, List.getElem_toArray, List.getElem_cons_zero, List.getElem_cons_succ, List.setIfInBounds_toArray, List.set_cons_zero, List.set_cons_succ]
        refine wpAnyH_take (i := 18) (v := ?_) rfl (by kernel_rfl) (by kernel_rfl) (by kernel_rfl) (fun _ _ _ h => h) (Or.inl ⟨by rfl, ?_⟩) (by assumption) ?_
        rotate_left
        · intro w hSw; (try dsimp only at hSw); go_simp; with_reducible rfl
        try simp only [Act.put, List.getElem_toArray, List.getElem_cons_zero, List.getElem_cons_succ, List.setIfInBounds_toArray, List.set_cons_zero, List.set_cons_succ]
        refine wpAnyH_take (i := 19) (v := ?_) rfl (by kernel_rfl) (by kernel_rfl) (by kernel_rfl) (fun _ _ _ h => h) (Or.inl ⟨by rfl, ?_⟩) (by assumption) ?_
        rotate_left
        · intro w hSw; (try dsimp only at hSw); go_simp; with_reducible rfl
        try simp only [Act.put, List.getElem_toArray, List.getElem_cons_zero, List.getElem_cons_succ, List.setIfInBounds_toArray, List.set_cons_zero, List.set_cons_succ]
        refine wpAnyH_take (i := 20) (v := ?_) rfl (by kernel_rfl) (by kernel_rfl) (by kernel_rfl) (fun _ _ _ h => h) (Or.inl ⟨by rfl, ?_⟩) (by assumption) ?_
        rotate_left
        · intro w hSw; (try dsimp only at hSw); go_simp; with_reducible rfl
        try simp only [Act.put, List.getElem_toArray, List.getElem_cons_zero, List.getElem_cons_succ, List.setIfInBounds_toArray, List.set_cons_zero, List.set_cons_succ]
        refine wpAnyH_take (i := 21) (v := ?_) rfl (by kernel_rfl) (by kernel_rfl) (by kernel_rfl) (fun _ _ _ h => h) (Or.inl ⟨by rfl, ?_⟩) (by assumption) ?_
        rotate_left
        · intro w hSw; (try dsimp only at hSw); go_simp; with_reducible rfl
        try simp only [Act.put, List.getElem_toArray, List.getElem_cons_zero, List.getElem_cons_succ, List.setIfInBounds_toArray, List.set_cons_zero, List.set_cons_succ]
        refine wpAnyH_done (by kernel_rfl) ?_ _
        have hb := HBW.out
        clear HBW HSof hHeld
        replace Vb_p := Lib.hid (Vb_p.out.below hb)
        replace Vb_x := Lib.hid (Vb_x.out.below hb)
        replace Vb_q := Lib.hid (Vb_q.out.below hb)
        replace Vb_r := Lib.hid (Vb_r.out.below hb)
        replace HPP := Lib.hid (rpB HPP.out hb (Nat.le_refl _))
        replace HQQ := Lib.hid (rpB HQQ.out hb (Nat.le_refl _))
        replace HB := Lib.hid (belS HB.out hb)
        clear hb
        go_wp2_with fail
        go_ret
        exact ⟨rfl, HB.out⟩
      case true =>
        have HE := Lib.hid (HCO.out (by first | rfl | trivial) (by first | rfl | trivial))
        clear HBAD HNO HCO
        obtain ⟨⟨⟨kd2, on2, br2, y2, cnt2⟩, z2⟩, c0, c1, c2, c3, c4⟩ := out
        have hc1 : (c0 == 1) = false := by have := HE.out.2.1; simpa using this
        have hc7 : (c0 == 7) = false := by have := HE.out.1; simpa using this
        have hc1n : (c0 != 1) = true := by simp only [bne, hc1]; rfl
        clear HE
        simp only at HCC
        have B_p := Vb_p.out
        have p_0 := Vb_p.out.cell 0 (by simp)
        have p_1 := Vb_p.out.cell 1 (by simp)
        have p_2 := Vb_p.out.cell 2 (by simp)
        have p_3 := Vb_p.out.cell 3 (by simp)
        have p_4 := Vb_p.out.cell 4 (by simp)
        have p_5 := Vb_p.out.cell 5 (by simp)
        simp only [List.getElem_cons_zero, List.getElem_cons_succ] at p_0 p_1 p_2 p_3 p_4 p_5
        have p_l := Vb_p.out.lt
        clear B_p
        have B_x := Vb_x.out
        have x_0 := Vb_x.out.cell 0 (by simp)
        have x_1 := Vb_x.out.cell 1 (by simp)
        have x_2 := Vb_x.out.cell 2 (by simp)
        have x_3 := Vb_x.out.cell 3 (by simp)
        simp only [List.getElem_cons_zero, List.getElem_cons_succ] at x_0 x_1 x_2 x_3
        have x_l := Vb_x.out.lt
        clear B_x
        go_wp2_with fail
        clear p_0 p_1 p_2 p_3 p_4 p_5 p_l x_0 x_1 x_2 x_3 x_l
        refine (HCC.out _ HPP.out (HMX.out _ HB.out)).mono ?_
        rintro e w5 ⟨_, rfl, ⟨u3, u5, rfl, ho3, ho5⟩, hb⟩
        replace Vb_p := Lib.hid (Vb_p.out.below hb)
        replace Vb_x := Lib.hid (Vb_x.out.below hb)
        replace HPP := Lib.hid (rpB HPP.out hb (Nat.le_refl _))
        replace HB := Lib.hid (belS HB.out hb)
        clear hb
        simp only at ho3 ho5
        obtain ⟨cb2, cd, rfl⟩ := slice_of ho3
        obtain ⟨lb, ld, rfl⟩ := slice_of ho5
        clear ho3 ho5
        go_upto_region 5 with fail
        have hbn := Bx.new (w5) [.string ⟨kd2.toArray⟩, .bool on2, .bool br2, .slice cb2 y2.length cd, .int .i64 cnt2, .slice lb z2.length ld] 37
        have hbb := bx_box (w5) (.cells #[.string ⟨kd2.toArray⟩, .bool on2, .bool br2, .slice cb2 y2.length cd, .int .i64 cnt2, .slice lb z2.length ld] 37)
        have Vb_q := Lib.hid hbn
        clear hbn
        replace Vb_p := Lib.hid (Vb_p.out.below hbb)
        replace Vb_x := Lib.hid (Vb_x.out.below hbb)
        replace HPP := Lib.hid (rpB HPP.out hbb (Nat.le_refl _))
        replace HB := Lib.hid (belS HB.out hbb)
        clear hbb
        have hbn := Bx.new ((w5).alloc (.cells #[.string ⟨kd2.toArray⟩, .bool on2, .bool br2, .slice cb2 y2.length cd, .int .i64 cnt2, .slice lb z2.length ld] 37)) [.int .i64 c0, .int .i64 c1, .string ⟨c2.toArray⟩, .int .i64 c3, .int .i64 c4] 39
        have hbb := bx_box ((w5).alloc (.cells #[.string ⟨kd2.toArray⟩, .bool on2, .bool br2, .slice cb2 y2.length cd, .int .i64 cnt2, .slice lb z2.length ld] 37)) (.cells #[.int .i64 c0, .int .i64 c1, .string ⟨c2.toArray⟩, .int .i64 c3, .int .i64 c4] 39)
        rw [show ((w5).alloc (.cells #[.string ⟨kd2.toArray⟩, .bool on2, .bool br2, .slice cb2 y2.length cd, .int .i64 cnt2, .slice lb z2.length ld] 37)).heap.size = w5.heap.size + 1 by simp] at hbn
        have Vb_r := Lib.hid hbn
        clear hbn
        replace Vb_p := Lib.hid (Vb_p.out.below hbb)
        replace Vb_x := Lib.hid (Vb_x.out.below hbb)
        replace Vb_q := Lib.hid (Vb_q.out.below hbb)
        replace HPP := Lib.hid (rpB HPP.out hbb (Nat.le_refl _))
        replace HB := Lib.hid (belS HB.out hbb)
        clear hbb
        generalize ((w5).alloc (.cells #[.string ⟨kd2.toArray⟩, .bool on2, .bool br2, .slice cb2 y2.length cd, .int .i64 cnt2, .slice lb z2.length ld] 37)).alloc (.cells #[.int .i64 c0, .int .i64 c1, .string ⟨c2.toArray⟩, .int .i64 c3, .int .i64 c4] 39) = w8 at *
        have B_p := Vb_p.out
        have p_0 := Vb_p.out.cell 0 (by simp)
        have p_1 := Vb_p.out.cell 1 (by simp)
        have p_2 := Vb_p.out.cell 2 (by simp)
        have p_3 := Vb_p.out.cell 3 (by simp)
        have p_4 := Vb_p.out.cell 4 (by simp)
        have p_5 := Vb_p.out.cell 5 (by simp)
        simp only [List.getElem_cons_zero, List.getElem_cons_succ] at p_0 p_1 p_2 p_3 p_4 p_5
        have p_l := Vb_p.out.lt
        clear B_p
        go_wp2_with fail
        clear p_0 p_1 p_2 p_3 p_4 p_5 p_l
        refine (HIP.out _ HPP.out).mono ?_
        rintro e w9 ⟨rfl, hb⟩
        replace Vb_p := Lib.hid (Vb_p.out.below hb)
        replace Vb_x := Lib.hid (Vb_x.out.below hb)
        replace Vb_q := Lib.hid (Vb_q.out.below hb)
        replace Vb_r := Lib.hid (Vb_r.out.below hb)
        replace HPP := Lib.hid (rpB HPP.out hb (Nat.le_refl _))
        replace HB := Lib.hid (belS HB.out hb)
        clear hb
        have B_x := Vb_x.out
        have x_0 := Vb_x.out.cell 0 (by simp)
        have x_1 := Vb_x.out.cell 1 (by simp)
        have x_2 := Vb_x.out.cell 2 (by simp)
        have x_3 := Vb_x.out.cell 3 (by simp)
        simp only [List.getElem_cons_zero, List.getElem_cons_succ] at x_0 x_1 x_2 x_3
        have x_l := Vb_x.out.lt
        clear B_x
        go_wp2_with fail
        clear x_0 x_1 x_2 x_3 x_l
        refine (HIX.out _).mono ?_
        rintro e w10 ⟨rfl, hb⟩
        replace Vb_p := Lib.hid (Vb_p.out.below hb)
        replace Vb_x := Lib.hid (Vb_x.out.below hb)
        replace Vb_q := Lib.hid (Vb_q.out.below hb)
        replace Vb_r := Lib.hid (Vb_r.out.below hb)
        replace HPP := Lib.hid (rpB HPP.out hb (Nat.le_refl _))
        replace HB := Lib.hid (belS HB.out hb)
        clear hb
        have B_x := Vb_x.out
        have x_0 := Vb_x.out.cell 0 (by simp)
        have x_1 := Vb_x.out.cell 1 (by simp)
        have x_2 := Vb_x.out.cell 2 (by simp)
        have x_3 := Vb_x.out.cell 3 (by simp)
        simp only [List.getElem_cons_zero, List.getElem_cons_succ] at x_0 x_1 x_2 x_3
        have x_l := Vb_x.out.lt
        clear B_x
        go_wp2_with fail
        clear x_0 x_1 x_2 x_3 x_l
        refine (HWO.out _).mono ?_
        rintro e w11 ⟨rfl, hb⟩
        replace Vb_p := Lib.hid (Vb_p.out.below hb)
        replace Vb_x := Lib.hid (Vb_x.out.below hb)
        replace Vb_q := Lib.hid (Vb_q.out.below hb)
        replace Vb_r := Lib.hid (Vb_r.out.below hb)
        replace HPP := Lib.hid (rpB HPP.out hb (Nat.le_refl _))
        replace HB := Lib.hid (belS HB.out hb)
        clear hb
        have B_p := Vb_p.out
        have p_0 := Vb_p.out.cell 0 (by simp)
        have p_1 := Vb_p.out.cell 1 (by simp)
        have p_2 := Vb_p.out.cell 2 (by simp)
        have p_3 := Vb_p.out.cell 3 (by simp)
        have p_4 := Vb_p.out.cell 4 (by simp)
        have p_5 := Vb_p.out.cell 5 (by simp)
        simp only [List.getElem_cons_zero, List.getElem_cons_succ] at p_0 p_1 p_2 p_3 p_4 p_5
        have p_l := Vb_p.out.lt
        clear B_p
        have B_r := Vb_r.out
        have r_0 := Vb_r.out.cell 0 (by simp)
        have r_1 := Vb_r.out.cell 1 (by simp)
        have r_2 := Vb_r.out.cell 2 (by simp)
        have r_3 := Vb_r.out.cell 3 (by simp)
        have r_4 := Vb_r.out.cell 4 (by simp)
        simp only [List.getElem_cons_zero, List.getElem_cons_succ] at r_0 r_1 r_2 r_3 r_4
        have r_l := Vb_r.out.lt
        clear B_r
        go_wp2_with fail
        clear p_0 p_1 p_2 p_3 p_4 p_5 p_l r_0 r_1 r_2 r_3 r_4 r_l
        have HSof := Lib.hid (fun W (h : Below w11.heap.size w11 W) => (show W.cell? ⟨w1.heap.size, 0, none⟩ = some (.string ⟨kd.toArray⟩) ∧ W.cell? ⟨w1.heap.size, 1, none⟩ = some (.bool on) ∧ W.cell? ⟨w1.heap.size, 2, none⟩ = some (.bool br) ∧ W.cell? ⟨w1.heap.size, 3, none⟩ = some (.slice ca y.length cc) ∧ W.cell? ⟨w1.heap.size, 4, none⟩ = some (.int .i64 cnt) ∧ W.cell? ⟨w1.heap.size, 5, none⟩ = some (.slice la z.length lc) ∧ W.cell? ⟨w5.heap.size + 1, 0, none⟩ = some (.int .i64 c0) ∧ W.cell? ⟨w5.heap.size + 1, 1, none⟩ = some (.int .i64 c1) ∧ W.cell? ⟨w5.heap.size + 1, 2, none⟩ = some (.string ⟨c2.toArray⟩) ∧ W.cell? ⟨w5.heap.size + 1, 3, none⟩ = some (.int .i64 c3) ∧ W.cell? ⟨w5.heap.size + 1, 4, none⟩ = some (.int .i64 c4) ∧ Below w11.heap.size w11 W from ⟨(h.cell (p := ⟨w1.heap.size, 0, none⟩) Vb_p.out.lt).trans (Vb_p.out.cell 0 (by simp)), (h.cell (p := ⟨w1.heap.size, 1, none⟩) Vb_p.out.lt).trans (Vb_p.out.cell 1 (by simp)), (h.cell (p := ⟨w1.heap.size, 2, none⟩) Vb_p.out.lt).trans (Vb_p.out.cell 2 (by simp)), (h.cell (p := ⟨w1.heap.size, 3, none⟩) Vb_p.out.lt).trans (Vb_p.out.cell 3 (by simp)), (h.cell (p := ⟨w1.heap.size, 4, none⟩) Vb_p.out.lt).trans (Vb_p.out.cell 4 (by simp)), (h.cell (p := ⟨w1.heap.size, 5, none⟩) Vb_p.out.lt).trans (Vb_p.out.cell 5 (by simp)), (h.cell (p := ⟨w5.heap.size + 1, 0, none⟩) Vb_r.out.lt).trans (Vb_r.out.cell 0 (by simp)), (h.cell (p := ⟨w5.heap.size + 1, 1, none⟩) Vb_r.out.lt).trans (Vb_r.out.cell 1 (by simp)), (h.cell (p := ⟨w5.heap.size + 1, 2, none⟩) Vb_r.out.lt).trans (Vb_r.out.cell 2 (by simp)), (h.cell (p := ⟨w5.heap.size + 1, 3, none⟩) Vb_r.out.lt).trans (Vb_r.out.cell 3 (by simp)), (h.cell (p := ⟨w5.heap.size + 1, 4, none⟩) Vb_r.out.lt).trans (Vb_r.out.cell 4 (by simp)), h⟩))
        refine wp_region_held_drew (S := (fun w' => w'.cell? ⟨w1.heap.size, 0, none⟩ = some (.string ⟨kd.toArray⟩) ∧ w'.cell? ⟨w1.heap.size, 1, none⟩ = some (.bool on) ∧ w'.cell? ⟨w1.heap.size, 2, none⟩ = some (.bool br) ∧ w'.cell? ⟨w1.heap.size, 3, none⟩ = some (.slice ca y.length cc) ∧ w'.cell? ⟨w1.heap.size, 4, none⟩ = some (.int .i64 cnt) ∧ w'.cell? ⟨w1.heap.size, 5, none⟩ = some (.slice la z.length lc) ∧ w'.cell? ⟨w5.heap.size + 1, 0, none⟩ = some (.int .i64 c0) ∧ w'.cell? ⟨w5.heap.size + 1, 1, none⟩ = some (.int .i64 c1) ∧ w'.cell? ⟨w5.heap.size + 1, 2, none⟩ = some (.string ⟨c2.toArray⟩) ∧ w'.cell? ⟨w5.heap.size + 1, 3, none⟩ = some (.int .i64 c3) ∧ w'.cell? ⟨w5.heap.size + 1, 4, none⟩ = some (.int .i64 c4) ∧ Below w11.heap.size w11 w')) (by kernel_rfl) ?_ (fun hHeld => ?_)
        · exact HSof.out _ (Below.refl _ _).drew
        have HBW := Lib.hid ((Below.refl w11.heap.size w11).drew)
        generalize w11.drew = vh0 at *
        refine wpAnyH_take (i := 0) (v := ?_) rfl (by kernel_rfl) (by kernel_rfl) (by kernel_rfl) (fun _ _ _ h => h) (Or.inl ⟨by rfl, ?_⟩) (by assumption) ?_
        rotate_left
        · intro w hSw; (try dsimp only at hSw); go_simp; with_reducible rfl
        try simp only [Act.put, List.getElem_toArray, List.getElem_cons_zero, List.getElem_cons_succ, List.setIfInBounds_toArray, List.set_cons_zero, List.set_cons_succ]
        refine wpAnyH_take (i := 3) (v := ?_) rfl (by kernel_rfl) (by kernel_rfl) (by kernel_rfl) (fun _ _ _ h => h) (Or.inl ⟨by rfl, ?_⟩) (by assumption) ?_
        rotate_left
        · intro w hSw; (try dsimp only at hSw); go_simp; with_reducible rfl
        try simp only [Act.put, List.getElem_toArray, List.getElem_cons_zero, List.getElem_cons_succ, List.setIfInBounds_toArray, List.set_cons_zero, List.set_cons_succ]
        refine wpAnyH_take (i := 5) (v := ?_) rfl (by kernel_rfl) (by kernel_rfl) (by kernel_rfl) (fun _ _ _ h => h) (Or.inl ⟨by rfl, ?_⟩) (by assumption) ?_
        rotate_left
        · intro w hSw; (try dsimp only at hSw); go_simp; with_reducible rfl
        try simp only [Act.put, List.getElem_toArray, List.getElem_cons_zero, List.getElem_cons_succ, List.setIfInBounds_toArray, List.set_cons_zero, List.set_cons_succ]
        refine wpAnyH_take (i := 1) (v := ?_) rfl (by kernel_rfl) (by kernel_rfl) (by kernel_rfl) (fun _ _ _ h => h) (Or.inl ⟨by rfl, ?_⟩) (by assumption) ?_
        rotate_left
        · intro w hSw; (try dsimp only at hSw); go_simp; with_reducible rfl
        try simp only [Act.put, List.getElem_toArray, List.getElem_cons_zero, List.getElem_cons_succ, List.setIfInBounds_toArray, List.set_cons_zero, List.set_cons_succ]
        refine wpAnyH_take (i := 2) (v := ?_) rfl (by kernel_rfl) (by kernel_rfl) (by kernel_rfl) (fun _ _ _ h => h) (Or.inl ⟨by rfl, ?_⟩) (by assumption) ?_
        rotate_left
        · intro w hSw; (try dsimp only at hSw); go_simp; with_reducible rfl
        try simp only [Act.put, List.getElem_toArray, List.getElem_cons_zero, List.getElem_cons_succ, List.setIfInBounds_toArray, List.set_cons_zero, List.set_cons_succ]
        refine wpAnyH_ready (rs := [4]) (by kernel_rfl) (by simp) ?_
        refine AllReadyH.cons rfl (fun K hK => ?_) AllReadyH.nil
        go_simp
        go_at_call 48
        refine (HFO.out _ (rpB HPP.out HBW.out (Nat.le_refl _))).mono ?_
        rintro e vh1 ⟨rfl, hb⟩
        replace HBW := Lib.hid (belS HBW.out hb)
        refine hK.out _ _ (HSof.out _ HBW.out) (fun hHeld => ?_)
        clear hK K hb
        try simp only [Act.put, List.getElem_toArray, List.getElem_cons_zero, List.getElem_cons_succ, List.setIfInBounds_toArray, List.set_cons_zero, List.set_cons_succ]
        refine wpAnyH_ready (rs := [6]) (by kernel_rfl) (by simp) ?_
        refine AllReadyH.cons rfl (fun K hK => ?_) AllReadyH.nil
        go_simp
        go_at_call 47
        refine (HOF.out _).mono ?_
        rintro e vh2 ⟨rfl, rfl⟩
        refine hK.out _ _ (HSof.out _ HBW.out) (fun hHeld => ?_)
        clear hK K
        try simp only [Act.put, List.getElem_toArray, List.getElem_cons_zero, List.getElem_cons_succ, List.setIfInBounds_toArray, List.set_cons_zero, List.set_cons_succ]
        refine wpAnyH_take (i := 7) (v := ?_) rfl (by kernel_rfl) (by kernel_rfl) (by kernel_rfl) (fun _ _ _ h => h) (Or.inl ⟨by rfl, ?_⟩) (by assumption) ?_
        rotate_left
        · intro w hSw; (try dsimp only at hSw); go_simp; with_reducible rfl
        try simp only [Act.put, List.getElem_toArray, List.getElem_cons_zero, List.getElem_cons_succ, List.setIfInBounds_toArray, List.set_cons_zero, List.set_cons_succ]
        refine wpAnyH_take (i := 8) (v := ?_) rfl (by kernel_rfl) (by kernel_rfl) (by kernel_rfl) (fun _ _ _ h => h) (Or.inl ⟨by rfl, ?_⟩) (by assumption) ?_
        rotate_left
        · intro w hSw; (try dsimp only at hSw); go_simp; with_reducible rfl
        try simp only [Act.put, List.getElem_toArray, List.getElem_cons_zero, List.getElem_cons_succ, List.setIfInBounds_toArray, List.set_cons_zero, List.set_cons_succ]
        refine wpAnyH_take (i := 9) (v := ?_) rfl (by kernel_rfl) (by kernel_rfl) (by kernel_rfl) (fun _ _ _ h => h) (Or.inl ⟨by rfl, ?_⟩) (by assumption) ?_
        rotate_left
        · intro w hSw; (try dsimp only at hSw); go_simp; with_reducible rfl
        try simp only [Act.put, List.getElem_toArray, List.getElem_cons_zero, List.getElem_cons_succ, List.setIfInBounds_toArray, List.set_cons_zero, List.set_cons_succ]
        refine wpAnyH_take (i := 10) (v := ?_) rfl (by kernel_rfl) (by kernel_rfl) (by kernel_rfl) (fun _ _ _ h => h) (Or.inl ⟨by rfl, ?_⟩) (by assumption) ?_
        rotate_left
        · intro w hSw; (try dsimp only at hSw); go_simp; with_reducible rfl
        try simp only [Act.put, List.getElem_toArray, List.getElem_cons_zero, List.getElem_cons_succ, List.setIfInBounds_toArray, List.set_cons_zero, List.set_cons_succ]
        refine wpAnyH_take (i := 11) (v := ?_) rfl (by kernel_rfl) (by kernel_rfl) (by kernel_rfl) (fun _ _ _ h => h) (Or.inl ⟨by rfl, ?_⟩) (by assumption) ?_
        rotate_left
        · intro w hSw; (try dsimp only at hSw); go_simp; with_reducible rfl
        try simp only [Act.put, List.getElem_toArray, List.getElem_cons_zero, List.getElem_cons_succ, List.setIfInBounds_toArray, List.set_cons_zero, List.set_cons_succ]
        refine wpAnyH_take (i := 12) (v := ?_) rfl (by kernel_rfl) (by kernel_rfl) (by kernel_rfl) (fun _ _ _ h => h) (Or.inl ⟨by rfl, ?_⟩) (by assumption) ?_
        rotate_left
        · intro w hSw; (try dsimp only at hSw); go_simp; with_reducible rfl
        try simp only [Act.put, List.getElem_toArray, List.getElem_cons_zero, List.getElem_cons_succ, List.setIfInBounds_toArray, List.set_cons_zero, List.set_cons_succ]
        refine wpAnyH_done (by kernel_rfl) ?_ _
        have hb := HBW.out
        clear HBW HSof hHeld
        replace Vb_p := Lib.hid (Vb_p.out.below hb)
        replace Vb_x := Lib.hid (Vb_x.out.below hb)
        replace Vb_q := Lib.hid (Vb_q.out.below hb)
        replace Vb_r := Lib.hid (Vb_r.out.below hb)
        replace HPP := Lib.hid (rpB HPP.out hb (Nat.le_refl _))
        replace HB := Lib.hid (belS HB.out hb)
        clear hb
        have hnz : True := trivial
        clear hnz
        have B_r := Vb_r.out
        have r_0 := Vb_r.out.cell 0 (by simp)
        have r_1 := Vb_r.out.cell 1 (by simp)
        have r_2 := Vb_r.out.cell 2 (by simp)
        have r_3 := Vb_r.out.cell 3 (by simp)
        have r_4 := Vb_r.out.cell 4 (by simp)
        simp only [List.getElem_cons_zero, List.getElem_cons_succ] at r_0 r_1 r_2 r_3 r_4
        have r_l := Vb_r.out.lt
        clear B_r
        go_wp2_with fail
        clear r_0 r_1 r_2 r_3 r_4 r_l
        have HSof := Lib.hid (fun W (h : Below vh1.heap.size vh1 W) => (show W.cell? ⟨w5.heap.size + 1, 0, none⟩ = some (.int .i64 c0) ∧ W.cell? ⟨w5.heap.size + 1, 1, none⟩ = some (.int .i64 c1) ∧ W.cell? ⟨w5.heap.size + 1, 2, none⟩ = some (.string ⟨c2.toArray⟩) ∧ W.cell? ⟨w5.heap.size + 1, 3, none⟩ = some (.int .i64 c3) ∧ W.cell? ⟨w5.heap.size + 1, 4, none⟩ = some (.int .i64 c4) ∧ Below vh1.heap.size vh1 W from ⟨(h.cell (p := ⟨w5.heap.size + 1, 0, none⟩) Vb_r.out.lt).trans (Vb_r.out.cell 0 (by simp)), (h.cell (p := ⟨w5.heap.size + 1, 1, none⟩) Vb_r.out.lt).trans (Vb_r.out.cell 1 (by simp)), (h.cell (p := ⟨w5.heap.size + 1, 2, none⟩) Vb_r.out.lt).trans (Vb_r.out.cell 2 (by simp)), (h.cell (p := ⟨w5.heap.size + 1, 3, none⟩) Vb_r.out.lt).trans (Vb_r.out.cell 3 (by simp)), (h.cell (p := ⟨w5.heap.size + 1, 4, none⟩) Vb_r.out.lt).trans (Vb_r.out.cell 4 (by simp)), h⟩))
        refine wp_region_held_drew (S := (fun w' => w'.cell? ⟨w5.heap.size + 1, 0, none⟩ = some (.int .i64 c0) ∧ w'.cell? ⟨w5.heap.size + 1, 1, none⟩ = some (.int .i64 c1) ∧ w'.cell? ⟨w5.heap.size + 1, 2, none⟩ = some (.string ⟨c2.toArray⟩) ∧ w'.cell? ⟨w5.heap.size + 1, 3, none⟩ = some (.int .i64 c3) ∧ w'.cell? ⟨w5.heap.size + 1, 4, none⟩ = some (.int .i64 c4) ∧ Below vh1.heap.size vh1 w')) (by kernel_rfl) ?_ (fun hHeld => ?_)
        · exact HSof.out _ (Below.refl _ _).drew
        have HBW := Lib.hid ((Below.refl vh1.heap.size vh1).drew)
        generalize vh1.drew = vh0 at *
        refine wpAnyH_take (i := 0) (v := ?_) rfl (by kernel_rfl) (by kernel_rfl) (by kernel_rfl) (fun _ _ _ h => h) (Or.inl ⟨by rfl, ?_⟩) (by assumption) ?_
        rotate_left
        · intro w hSw; (try dsimp only at hSw); go_simp; with_reducible rfl
        try simp only [Act.put, List.getElem_toArray, List.getElem_cons_zero, List.getElem_cons_succ, List.setIfInBounds_toArray, List.set_cons_zero, List.set_cons_succ]
        refine wpAnyH_take (i := 1) (v := ?_) rfl (by kernel_rfl) (by kernel_rfl) (by kernel_rfl) (fun _ _ _ h => h) (Or.inl ⟨by rfl, ?_⟩) (by assumption) ?_
        rotate_left
        · intro w hSw; (try dsimp only at hSw); go_simp; with_reducible rfl
        try simp only [Act.put, List.getElem_toArray, List.getElem_cons_zero, List.getElem_cons_succ, List.setIfInBounds_toArray, List.set_cons_zero, List.set_cons_succ]
        refine wpAnyH_take (i := 2) (v := ?_) rfl (by kernel_rfl) (by kernel_rfl) (by kernel_rfl) (fun _ _ _ h => h) (Or.inl ⟨by rfl, ?_⟩) (by assumption) ?_
        rotate_left
        · intro w hSw; (try dsimp only at hSw); go_simp; with_reducible rfl
        try simp only [Act.put, List.getElem_toArray, List.getElem_cons_zero, List.getElem_cons_succ, List.setIfInBounds_toArray, List.set_cons_zero, List.set_cons_succ]
        refine wpAnyH_take (i := 3) (v := ?_) rfl (by kernel_rfl) (by kernel_rfl) (by kernel_rfl) (fun _ _ _ h => h) (Or.inl ⟨by rfl, ?_⟩) (by assumption) ?_
        rotate_left
        · intro w hSw; (try dsimp only at hSw); go_simp; with_reducible rfl
        try simp only [Act.put, List.getElem_toArray, List.getElem_cons_zero, List.getElem_cons_succ, List.setIfInBounds_toArray, List.set_cons_zero, List.set_cons_succ]
        refine wpAnyH_take (i := 4) (v := undef) rfl (by kernel_rfl) (by kernel_rfl) (by kernel_rfl) (fun _ _ _ h => h) (Or.inr ⟨by rfl, rfl⟩) (by assumption) ?_
        try simp only [Act.put, List.getElem_toArray, List.getElem_cons_zero, List.getElem_cons_succ, List.setIfInBounds_toArray, List.set_cons_zero, List.set_cons_succ]
        refine wpAnyH_take (i := 5) (v := undef) rfl (by kernel_rfl) (by kernel_rfl) (by kernel_rfl) (fun _ _ _ h => h) (Or.inr ⟨by rfl, rfl⟩) (by assumption) ?_
        try simp only [Act.put, List.getElem_toArray, List.getElem_cons_zero, List.getElem_cons_succ, List.setIfInBounds_toArray, List.set_cons_zero, List.set_cons_succ]
        refine wpAnyH_take (i := 6) (v := undef) rfl (by kernel_rfl) (by kernel_rfl) (by kernel_rfl) (fun _ _ _ h => h) (Or.inr ⟨by rfl, rfl⟩) (by assumption) ?_
        try simp only [Act.put, List.getElem_toArray, List.getElem_cons_zero, List.getElem_cons_succ, List.setIfInBounds_toArray, List.set_cons_zero, List.set_cons_succ]
        refine wpAnyH_take (i := 7) (v := undef) rfl (by kernel_rfl) (by kernel_rfl) (by kernel_rfl) (fun _ _ _ h => h) (Or.inr ⟨by rfl, rfl⟩) (by assumption) ?_
        try simp only [Act.put, List.getElem_toArray, List.getElem_cons_zero, List.getElem_cons_succ, List.setIfInBounds_toArray, List.set_cons_zero, List.set_cons_succ]
        refine wpAnyH_take (i := 8) (v := undef) rfl (by kernel_rfl) (by kernel_rfl) (by kernel_rfl) (fun _ _ _ h => h) (Or.inr ⟨by rfl, rfl⟩) (by assumption) ?_
        try simp only [Act.put, List.getElem_toArray, List.getElem_cons_zero, List.getElem_cons_succ, List.setIfInBounds_toArray, List.set_cons_zero, List.set_cons_succ]
        refine wpAnyH_take (i := 10) (v := undef) rfl (by kernel_rfl) (by kernel_rfl) (by kernel_rfl) (fun _ _ _ h => h) (Or.inr ⟨by rfl, rfl⟩) (by assumption) ?_
        try simp only [Act.put, List.getElem_toArray, List.getElem_cons_zero, List.getElem_cons_succ, List.setIfInBounds_toArray, List.set_cons_zero, List.set_cons_succ]
        refine wpAnyH_take (i := 9) (v := undef) rfl (by kernel_rfl) (by kernel_rfl) (by kernel_rfl) (fun _ _ _ h => h) (Or.inr ⟨by rfl, rfl⟩) (by assumption) ?_
        try simp only [Act.put, List.getElem_toArray, List.getElem_cons_zero, List.getElem_cons_succ, List.setIfInBounds_toArray, List.set_cons_zero, List.set_cons_succ]
        refine wpAnyH_take (i := 11) (v := undef) rfl (by kernel_rfl) (by kernel_rfl) (by kernel_rfl) (fun _ _ _ h => h) (Or.inr ⟨by rfl, rfl⟩) (by assumption) ?_
        try simp only [Act.put, List.getElem_toArray, List.getElem_cons_zero, List.getElem_cons_succ, List.setIfInBounds_toArray, List.set_cons_zero, List.set_cons_succ]
        refine wpAnyH_take (i := 12) (v := undef) rfl (by kernel_rfl) (by kernel_rfl) (by kernel_rfl) (fun _ _ _ h => h) (Or.inr ⟨by rfl, rfl⟩) (by assumption) ?_
        try simp only [Act.put, List.getElem_toArray, List.getElem_cons_zero, List.getElem_cons_succ, List.setIfInBounds_toArray, List.set_cons_zero, List.set_cons_succ]
        refine wpAnyH_take (i := 13) (v := undef) rfl (by kernel_rfl) (by kernel_rfl) (by kernel_rfl) (fun _ _ _ h => h) (Or.inr ⟨by rfl, rfl⟩) (by assumption) ?_
        try simp only [Act.put, List.getElem_toArray, List.getElem_cons_zero, List.getElem_cons_succ, List.setIfInBounds_toArray, List.set_cons_zero, List.set_cons_succ]
        refine wpAnyH_take (i := 14) (v := undef) rfl (by kernel_rfl) (by kernel_rfl) (by kernel_rfl) (fun _ _ _ h => h) (Or.inr ⟨by rfl, rfl⟩) (by assumption) ?_
        try simp only [Act.put, List.getElem_toArray, List.getElem_cons_zero, List.getElem_cons_succ, List.setIfInBounds_toArray, List.set_cons_zero, List.set_cons_succ]
        refine wpAnyH_take (i := 16) (v := undef) rfl (by kernel_rfl) (by kernel_rfl) (by kernel_rfl) (fun _ _ _ h => h) (Or.inr ⟨by rfl, rfl⟩) (by assumption) ?_
        try simp only [Act.put, List.getElem_toArray, List.getElem_cons_zero, List.getElem_cons_succ, List.setIfInBounds_toArray, List.set_cons_zero, List.set_cons_succ]
        refine wpAnyH_take (i := 15) (v := undef) rfl (by kernel_rfl) (by kernel_rfl) (by kernel_rfl) (fun _ _ _ h => h) (Or.inr ⟨by rfl, rfl⟩) (by assumption) ?_
        try simp only [Act.put, List.getElem_toArray, List.getElem_cons_zero, List.getElem_cons_succ, List.setIfInBounds_toArray, List.set_cons_zero, List.set_cons_succ]
        refine wpAnyH_take (i := 17) (v := undef) rfl (by kernel_rfl) (by kernel_rfl) (by kernel_rfl) (fun _ _ _ h => h) (Or.inr ⟨by rfl, rfl⟩) (by assumption) ?_
        try simp only [Act.put, List.getElem_toArray, List.getElem_cons_zero, List.getElem_cons_succ, List.setIfInBounds_toArray, List.set_cons_zero, List.set_cons_succ]
        refine wpAnyH_take (i := 18) (v := undef) rfl (by kernel_rfl) (by kernel_rfl) (by kernel_rfl) (fun _ _ _ h => h) (Or.inr ⟨by rfl, rfl⟩) (by assumption) ?_
        try simp only [Act.put, List.getElem_toArray, List.getElem_cons_zero, List.getElem_cons_succ, List.setIfInBounds_toArray, List.set_cons_zero, List.set_cons_succ]
        refine wpAnyH_take (i := 19) (v := undef) rfl (by kernel_rfl) (by kernel_rfl) (by kernel_rfl) (fun _ _ _ h => h) (Or.inr ⟨by rfl, rfl⟩) (by assumption) ?_
        try simp only [Act.put, List.getElem_toArray, List.getElem_cons_zero, List.getElem_cons_succ, List.setIfInBounds_toArray, List.set_cons_zero, List.set_cons_succ]
        refine wpAnyH_take (i := 20) (v := ?_) rfl (by kernel_rfl) (by kernel_rfl) (by kernel_rfl) (fun _ _ _ h => h) (Or.inl ⟨by rfl, ?_⟩) (by assumption) ?_
        rotate_left
        · intro w hSw; (try dsimp only at hSw); go_simp; with_reducible rfl
        try simp only [Act.put, List.getElem_toArray, List.getElem_cons_zero, List.getElem_cons_succ, List.setIfInBounds_toArray, List.set_cons_zero, List.set_cons_succ]
        refine wpAnyH_take (i := 21) (v := ?_) rfl (by kernel_rfl) (by kernel_rfl) (by kernel_rfl) (fun _ _ _ h => h) (Or.inl ⟨by rfl, ?_⟩) (by assumption) ?_
        rotate_left
        · intro w hSw; (try dsimp only at hSw); go_simp; with_reducible rfl
        try simp only [Act.put, List.getElem_toArray, List.getElem_cons_zero, List.getElem_cons_succ, List.setIfInBounds_toArray, List.set_cons_zero, List.set_cons_succ]
        refine wpAnyH_done (by kernel_rfl) ?_ _
        have hb := HBW.out
        clear HBW HSof hHeld
        replace Vb_p := Lib.hid (Vb_p.out.below hb)
        replace Vb_x := Lib.hid (Vb_x.out.below hb)
        replace Vb_q := Lib.hid (Vb_q.out.below hb)
        replace Vb_r := Lib.hid (Vb_r.out.below hb)
        replace HPP := Lib.hid (rpB HPP.out hb (Nat.le_refl _))
        replace HB := Lib.hid (belS HB.out hb)
        clear hb
        go_wp2_with fail
        go_ret
        exact ⟨rfl, HB.out⟩
set_option maxRecDepth 100000 in
theorem fnPartWants_lifted (os : Os) (started : os.Started) (H : Type) (enc : TypeId × Value → H) :
    ReturnsInHanded {} Tryz.checked os 6 .any (Rows.fnPartWantsSpec.pre6 enc Tryz.prog Tryz.f6 Rows.fnPartWantsRow.domain false) (Rows.fnPartWantsSpec.post enc Tryz.prog Tryz.f6 false true false false) := by
  refine returnsInHanded_of_change_shaped (C := Tryz.checked) ownK started (by kernel_rfl) Tryz.func6
    (ChangeSpec.witness6 (enc := enc) (C := Tryz.checked) false ⟨#[], #[.slice none 0 0], []⟩ 8 (by kernel_rfl) (by kernel_rfl) (by kernel_rfl) (by kernel_rfl)) ?_
  intro W base args ds gs before hval0 hW _ _ hsh _
  have hval : ∀ (j : Nat) t v, Tryz.f6.params[j]? = some t → args[j]? = some v → Value.okWide Tryz.prog W .any base t v := hval0
  have hW' := hW
  obtain ⟨p, q, hA0, _, rfl, _, _⟩ := hW
  have hA : DataW.TrodAll enc Tryz.prog W 0 (fun _ => true) true Tryz.f6.params.toList args.toList ds p := hA0
  rw [Tryz.params6] at hA hval
  obtain ⟨v0, vs0, d0, ds0, p0, q0, hargs, rfl, rfl, h0, r0⟩ := trodAll_cons hA
  obtain ⟨rfl, rfl, rfl⟩ := trodAll_nil r0
  obtain rfl : args = #[v0] := by cases args; simp_all
  obtain ⟨l0, w0⟩ := open_byteRow Tryz.underlying68 Tryz.underlying5 (by kernel_rfl) (hval 0 68 v0 rfl rfl) h0
  clear hA0 hval0
  obtain ⟨m, hm⟩ := Tryz.laysM143.s1_3 W hsh
  refine (fnPartWants_any v0 l0 W w0 m hm).mono fun e W1 ⟨he, hb⟩ => ?_
  subst he
  exact ⟨_, rfl, law_post laidK rfl (by kernel_rfl) Tryz.underlying4 (by kernel_rfl) (fun ds h => by match ds, h with | [_], _ => rfl) hW' hb⟩
theorem fnPartWants_closed : joinedFacts Tryz.prog 6 Tryz.f6 Rows.fnPartWantsSpec Rows.fnPartWantsRow = true := by unfold joinedFacts; rw [mayEnter_k, liftsFinal_k, make_k]; kernel_rfl
theorem fnPartWants_holds : Rows.FnPartWantsSaid :=
  OpenClaim.holds_of_wide 6 Tryz.f6 rfl rfl rfl rfl rfl rfl rfl ⟨rfl, rfl, rfl, rfl, rfl⟩ rfl rfl rfl rfl rfl (by kernel_rfl) Tryz.func6 fnPartWants_closed
    (of_decide_eq_true (by kernel_rfl)) (by unfold Func.isWrapper; first | (rw [if_pos (by decide +kernel)]; kernel_rfl) | (rw [if_neg (by decide +kernel)]; exact ⟨rfl, rfl⟩))
    (fun os started H enc _ => fnPartWants_lifted os started H enc)
end Go.Proofs.YtcpbikilgacdlaaGreat
