/- Contracts of chapter 4: Unwrap, the program's. -/
import Derived.Test.YtmoliamenekemaaPart6
import Derived.Test.YtmoliamenekemaaPart8
namespace Go.Proofs.Ytmoliamenekemaa
set_option linter.unusedVariables false
set_option linter.unusedSimpArgs false
open Go.RowKit
def unwB (x : PartD) : Bool := partB x && !(decide (x.fLayers.length = 0))
def unwP (x : PartD) : PartD := if unwB x = true then ⟨x.fCore, x.fLayers.take (x.fLayers.length - 1)⟩ else x
theorem smallP_take {x : PartD} (h : SmallP x) (n : Nat) : SmallP ⟨x.fCore, x.fLayers.take n⟩ := by
  refine ⟨?_, h.kind, h.cells, h.keys, ?_, fun y hy => h.names y (List.mem_of_mem_take hy)⟩
  · have h1 := h.z
    unfold zPart at h1 ⊢
    have h2 := sumF_take_le zLayer x.fLayers n
    have h3 : (x.fLayers.take n).length ≤ x.fLayers.length := by simp; omega
    simp only
    omega
  · have h3 : (x.fLayers.take n).length ≤ x.fLayers.length := by simp; omega
    exact Nat.le_trans h3 h.lays
def GivesOPB (x : PartD) (b : Bool) (w : World) (e : Ending) (w' : World) : Prop := ∃ cs, e = .returned (.tuple #[.agg cs.toArray, .bool b]) ∧ oPart w' w.heap.size cs x ∧ Below w.heap.size w w'
set_option maxRecDepth 100000 in
set_option maxHeartbeats 3200000 in
theorem implUnwrap_any (v : Value) (x : PartD) (w : World) (hx : ValAt rPart 0 w v x) (hs : SmallP x) (hk : ∀ c ∈ x.fCore.fCells, c.fKey.length ≤ maxLen) :
    Calls Try.prog 15 #[v] w fun e w' => GivesOPB (unwP x) (unwB x) w e w' := by
  obtain ⟨_, rfl, hx⟩ := hx
  have HX := Lib.hid (fun W (hb : Below w.heap.size w W) => goodPart.keep hx (kept_below hb (Nat.le_refl _)))
  have HIP := Lib.hid (fun cs W (h : rPart 0 W cs x) => implIsPart_any (.agg cs.toArray) x W ⟨cs, rfl, h⟩ hk)
  have HCP := Lib.hid (fun cs W (h : rPart 0 W cs x) => copyPart_c (.agg cs.toArray) x W ⟨cs, rfl, h⟩ hs)
  have HCT := Lib.hid (fun cs W (h : rPart 0 W cs ⟨x.fCore, x.fLayers.take (x.fLayers.length - 1)⟩) => copyPart_c (.agg cs.toArray) ⟨x.fCore, x.fLayers.take (x.fLayers.length - 1)⟩ W ⟨cs, rfl, h⟩ (smallP_take hs _))
  have HU := Lib.hid (show unwB x = (partB x && !(decide (x.fLayers.length = 0))) from rfl)
  have HY := Lib.hid (show unwB x = true → unwP x = ⟨x.fCore, x.fLayers.take (x.fLayers.length - 1)⟩ from fun h => if_pos h)
  have HZ := Lib.hid (show unwB x = false → unwP x = x from fun h => if_neg (by simp [h]))
  unfold GivesOPB
  unfold GivesOP at HCP HCT
  generalize unwB x = ub at *
  generalize unwP x = ux at *
  generalize partB x = pb at *
  obtain ⟨⟨a0, a1, a2, a3, a4⟩, l⟩ := x
  obtain ⟨v3, v5, rfl, h3, h5⟩ := hx
  simp only at h3 h5 HU HY HZ HCT
  obtain ⟨ra, rc, rfl, _⟩ := sliceAt_len h3
  obtain ⟨sa, sc, rfl, hl, hcap⟩ := sliceAt_cap h5
  have H3 := Lib.hid h3
  have H5 := Lib.hid h5
  clear h3 h5 hs hk
  unfold maxLen at hl
  have BS := Lib.hid (bx_start2 w [.string ⟨a0.toArray⟩, .bool a1, .bool a2, .slice ra a3.length rc, .int .i64 a4, .slice sa l.length sc] [.string ⟨#[]⟩, .bool false, .bool false, .slice none 0 0, .int .i64 0, .slice none 0 0] 35 35)
  have HR0 := Lib.hid (HX.out _ BS.out.2.2)
  have HIO := Lib.hid (fun W (h : 0 < l.length) => insideOf_c ⟨a0.toArray⟩ a1 a2 ra sa a3.length rc l.length sc a4 (l.length - 1) W (by omega) (by unfold maxLen; omega))
  have fin : ∀ (cs : List Value) (b : Bool), True := fun _ _ => trivial
  clear fin
  go_enter Try.func15, Try.ntmps15
  go_wp2_with fail
  refine (HIP.out _ _ HR0.out).mono ?_
  rintro e w1 ⟨rfl, hb⟩
  have HB1 := Lib.hid (belS BS.out.2.2 hb)
  have BP1 := Lib.hid (BS.out.1.below hb)
  have BR1 := Lib.hid (BS.out.2.1.below hb)
  clear hb
  have p0 := BP1.out.cell 0 (by simp)
  have p1 := BP1.out.cell 1 (by simp)
  have p2 := BP1.out.cell 2 (by simp)
  have p3 := BP1.out.cell 3 (by simp)
  have p4 := BP1.out.cell 4 (by simp)
  have p5 := BP1.out.cell 5 (by simp)
  simp only [List.getElem_cons_zero, List.getElem_cons_succ] at p0 p1 p2 p3 p4 p5
  by_cases hg : pb = true ∧ 0 < l.length
  · obtain ⟨rfl, hl0⟩ := hg
    have hub : ub = true := by rw [HU.out, show decide (l.length = 0) = false from decide_eq_false (by omega)]; rfl
    obtain rfl : ux = ⟨⟨a0, a1, a2, a3, a4⟩, l.take (l.length - 1)⟩ := HY.out hub
    subst hub
    have HRT := Lib.hid (fun W (hW : Below w.heap.size w W) => (show rPart 0 W [.string ⟨a0.toArray⟩, .bool a1, .bool a2, .slice ra a3.length rc, .int .i64 a4, .slice sa (l.length - 1) sc] ⟨⟨a0, a1, a2, a3, a4⟩, l.take (l.length - 1)⟩ from ⟨_, _, rfl, SliceAt.below H3.out (good_flat cCell_len) hW (Nat.le_refl _), sliceAt_take (SliceAt.below H5.out (good_flat cLayer_len) hW (Nat.le_refl _)) (l.length - 1) (by omega) (by omega)⟩))
    clear HY HZ
    generalize hlt : l.take (l.length - 1) = lt at *
    have HLT := Lib.hid hlt
    clear hlt
    have HI := Lib.hid (fun W => HIO.out W hl0)
    have hne : ¬ (l.length : Int) = 0 := by omega
    have hsub : IntKind.i64.wrap ((l.length : Int) - 1) = ((l.length - 1 : Nat) : Int) := by rw [IntWalk.i64_in _ (by omega)]; omega
    go_wp2_with fail
    refine (HI.out _).mono ?_
    rintro e w2 ⟨rfl, hb⟩
    have HB2 := Lib.hid (belS HB1.out hb)
    have BR2 := Lib.hid (BR1.out.below hb)
    clear hb p0 p1 p2 p3 p4 p5
    go_wp2_with fail
    refine (HCT.out _ _ (HRT.out _ HB2.out)).mono ?_
    rintro e wE ⟨_, rfl, ho, hb⟩
    obtain ⟨u3, u5, rfl, ho3, ho5⟩ := ho
    simp only at ho3 ho5
    obtain ⟨ga, gc, rfl⟩ := slice_of ho3
    obtain ⟨ua, uc, rfl⟩ := slice_of ho5
    have HBE := Lib.hid (belS HB2.out hb)
    have BRE := Lib.hid (BR2.out.below hb)
    have hsz := HB2.out.size
    have O3 := Lib.hid ho3
    have O5 := Lib.hid ho5
    have lr := BR2.out.lt
    clear hb ho3 ho5
    have r0 := BRE.out.cell 0 (by simp)
    have r1 := BRE.out.cell 1 (by simp)
    have r2 := BRE.out.cell 2 (by simp)
    have r3 := BRE.out.cell 3 (by simp)
    have r4 := BRE.out.cell 4 (by simp)
    have r5 := BRE.out.cell 5 (by simp)
    simp only [List.getElem_cons_zero, List.getElem_cons_succ] at r0 r1 r2 r3 r4 r5
    have z0 := BRE.out.froz 0 (by simp)
    have z1 := BRE.out.froz 1 (by simp)
    have z2 := BRE.out.froz 2 (by simp)
    have z3 := BRE.out.froz 3 (by simp)
    have z4 := BRE.out.froz 4 (by simp)
    have z5 := BRE.out.froz 5 (by simp)
    go_wp2_with fail
    clear r0 r1 r2 r3 r4 r5 z0 z1 z2 z3 z4 z5
    have BR4 := Lib.hid (BRE.out.put6 (.string ⟨a0.toArray⟩) (.bool a1) (.bool a2) (.slice ga a3.length gc) (.int .i64 a4) (.slice ua lt.length uc))
    have HB6 := Lib.hid (below_put6 HBE.out (w.heap.size + 1) (by omega) (.string ⟨a0.toArray⟩) (.bool a1) (.bool a2) (.slice ga a3.length gc) (.int .i64 a4) (.slice ua lt.length uc))
    have OC := Lib.hid (ownsF_put6 O3.out (w.heap.size + 1) lr (.string ⟨a0.toArray⟩) (.bool a1) (.bool a2) (.slice ga a3.length gc) (.int .i64 a4) (.slice ua lt.length uc))
    have OL := Lib.hid (ownsF_put6 O5.out (w.heap.size + 1) lr (.string ⟨a0.toArray⟩) (.bool a1) (.bool a2) (.slice ga a3.length gc) (.int .i64 a4) (.slice ua lt.length uc))
    generalize ((((((wE.setCell ⟨w.heap.size + 1, 0, none⟩ (.string ⟨a0.toArray⟩)).setCell ⟨w.heap.size + 1, 1, none⟩ (.bool a1)).setCell ⟨w.heap.size + 1, 2, none⟩ (.bool a2)).setCell ⟨w.heap.size + 1, 3, none⟩ (.slice ga a3.length gc)).setCell ⟨w.heap.size + 1, 4, none⟩ (.int .i64 a4)).setCell ⟨w.heap.size + 1, 5, none⟩ (.slice ua lt.length uc)) = WE at *
    have r0 := BR4.out.cell 0 (by simp)
    have r1 := BR4.out.cell 1 (by simp)
    have r2 := BR4.out.cell 2 (by simp)
    have r3 := BR4.out.cell 3 (by simp)
    have r4 := BR4.out.cell 4 (by simp)
    have r5 := BR4.out.cell 5 (by simp)
    simp only [List.getElem_cons_zero, List.getElem_cons_succ] at r0 r1 r2 r3 r4 r5
    exact bodyPost_ret (v := .tuple #[.agg #[.string ⟨a0.toArray⟩, .bool a1, .bool a2, .slice ga a3.length gc, .int .i64 a4, .slice ua lt.length uc], .bool true]) (by simp [results, Try.results15, go_sem, r0, r1, r2, r3, r4, r5]) rfl ⟨_, rfl, by rw [HLT.out]; exact ⟨_, _, rfl, ownsF_base OC.out (by omega), ownsF_base OL.out (by omega)⟩, HB6.out⟩
  · have hub : ub = false := by
      rw [HU.out]
      cases pb with
      | false => rfl
      | true => rw [show decide (l.length = 0) = true from decide_eq_true (by have h9 : ¬ 0 < l.length := fun h => hg ⟨rfl, h⟩; omega)]; rfl
    obtain rfl : ux = ⟨⟨a0, a1, a2, a3, a4⟩, l⟩ := HZ.out hub
    subst hub
    have hnil : pb = true → l.length = 0 := fun h => by have h9 : ¬ 0 < l.length := fun h2 => hg ⟨h, h2⟩; omega
    have HR1 := Lib.hid (HX.out _ HB1.out)
    cases pb
    · clear hnil hg
      go_wp2_with fail
      refine (HCP.out _ _ HR1.out).mono ?_
      rintro e wE ⟨_, rfl, ho, hb⟩
      clear p0 p1 p2 p3 p4 p5
      obtain ⟨u3, u5, rfl, ho3, ho5⟩ := ho
      simp only at ho3 ho5
      obtain ⟨ga, gc, rfl⟩ := slice_of ho3
      obtain ⟨ua, uc, rfl⟩ := slice_of ho5
      have HBE := Lib.hid (belS HB1.out hb)
      have BRE := Lib.hid (BR1.out.below hb)
      have hsz := HB1.out.size
      have O3 := Lib.hid ho3
      have O5 := Lib.hid ho5
      have lr := BR1.out.lt
      clear hb ho3 ho5
      have r0 := BRE.out.cell 0 (by simp)
      have r1 := BRE.out.cell 1 (by simp)
      have r2 := BRE.out.cell 2 (by simp)
      have r3 := BRE.out.cell 3 (by simp)
      have r4 := BRE.out.cell 4 (by simp)
      have r5 := BRE.out.cell 5 (by simp)
      simp only [List.getElem_cons_zero, List.getElem_cons_succ] at r0 r1 r2 r3 r4 r5
      have z0 := BRE.out.froz 0 (by simp)
      have z1 := BRE.out.froz 1 (by simp)
      have z2 := BRE.out.froz 2 (by simp)
      have z3 := BRE.out.froz 3 (by simp)
      have z4 := BRE.out.froz 4 (by simp)
      have z5 := BRE.out.froz 5 (by simp)
      go_wp2_with fail
      clear r0 r1 r2 r3 r4 r5 z0 z1 z2 z3 z4 z5
      have BR4 := Lib.hid (BRE.out.put6 (.string ⟨a0.toArray⟩) (.bool a1) (.bool a2) (.slice ga a3.length gc) (.int .i64 a4) (.slice ua l.length uc))
      have HB6 := Lib.hid (below_put6 HBE.out (w.heap.size + 1) (by omega) (.string ⟨a0.toArray⟩) (.bool a1) (.bool a2) (.slice ga a3.length gc) (.int .i64 a4) (.slice ua l.length uc))
      have OC := Lib.hid (ownsF_put6 O3.out (w.heap.size + 1) lr (.string ⟨a0.toArray⟩) (.bool a1) (.bool a2) (.slice ga a3.length gc) (.int .i64 a4) (.slice ua l.length uc))
      have OL := Lib.hid (ownsF_put6 O5.out (w.heap.size + 1) lr (.string ⟨a0.toArray⟩) (.bool a1) (.bool a2) (.slice ga a3.length gc) (.int .i64 a4) (.slice ua l.length uc))
      generalize ((((((wE.setCell ⟨w.heap.size + 1, 0, none⟩ (.string ⟨a0.toArray⟩)).setCell ⟨w.heap.size + 1, 1, none⟩ (.bool a1)).setCell ⟨w.heap.size + 1, 2, none⟩ (.bool a2)).setCell ⟨w.heap.size + 1, 3, none⟩ (.slice ga a3.length gc)).setCell ⟨w.heap.size + 1, 4, none⟩ (.int .i64 a4)).setCell ⟨w.heap.size + 1, 5, none⟩ (.slice ua l.length uc)) = WE at *
      have r0 := BR4.out.cell 0 (by simp)
      have r1 := BR4.out.cell 1 (by simp)
      have r2 := BR4.out.cell 2 (by simp)
      have r3 := BR4.out.cell 3 (by simp)
      have r4 := BR4.out.cell 4 (by simp)
      have r5 := BR4.out.cell 5 (by simp)
      simp only [List.getElem_cons_zero, List.getElem_cons_succ] at r0 r1 r2 r3 r4 r5
      exact bodyPost_ret (v := .tuple #[.agg #[.string ⟨a0.toArray⟩, .bool a1, .bool a2, .slice ga a3.length gc, .int .i64 a4, .slice ua l.length uc], .bool false]) (by simp [results, Try.results15, go_sem, r0, r1, r2, r3, r4, r5]) rfl ⟨_, rfl, ⟨_, _, rfl, ownsF_base OC.out (by omega), ownsF_base OL.out (by omega)⟩, HB6.out⟩
    · obtain rfl : l = [] := List.eq_nil_of_length_eq_zero (hnil rfl)
      clear hnil hg HIO HCT
      simp only [List.length_nil] at *
      go_wp2_with fail
      refine (HCP.out _ _ HR1.out).mono ?_
      rintro e wE ⟨_, rfl, ho, hb⟩
      clear p0 p1 p2 p3 p4 p5
      obtain ⟨u3, u5, rfl, ho3, ho5⟩ := ho
      simp only at ho3 ho5
      obtain ⟨ga, gc, rfl⟩ := slice_of ho3
      obtain ⟨ua, uc, rfl⟩ := slice_of ho5
      have HBE := Lib.hid (belS HB1.out hb)
      have BRE := Lib.hid (BR1.out.below hb)
      have hsz := HB1.out.size
      have O3 := Lib.hid ho3
      have O5 := Lib.hid ho5
      have lr := BR1.out.lt
      clear hb ho3 ho5
      have r0 := BRE.out.cell 0 (by simp)
      have r1 := BRE.out.cell 1 (by simp)
      have r2 := BRE.out.cell 2 (by simp)
      have r3 := BRE.out.cell 3 (by simp)
      have r4 := BRE.out.cell 4 (by simp)
      have r5 := BRE.out.cell 5 (by simp)
      simp only [List.getElem_cons_zero, List.getElem_cons_succ] at r0 r1 r2 r3 r4 r5
      have z0 := BRE.out.froz 0 (by simp)
      have z1 := BRE.out.froz 1 (by simp)
      have z2 := BRE.out.froz 2 (by simp)
      have z3 := BRE.out.froz 3 (by simp)
      have z4 := BRE.out.froz 4 (by simp)
      have z5 := BRE.out.froz 5 (by simp)
      go_wp2_with fail
      clear r0 r1 r2 r3 r4 r5 z0 z1 z2 z3 z4 z5
      have BR4 := Lib.hid (BRE.out.put6 (.string ⟨a0.toArray⟩) (.bool a1) (.bool a2) (.slice ga a3.length gc) (.int .i64 a4) (.slice ua 0 uc))
      have HB6 := Lib.hid (below_put6 HBE.out (w.heap.size + 1) (by omega) (.string ⟨a0.toArray⟩) (.bool a1) (.bool a2) (.slice ga a3.length gc) (.int .i64 a4) (.slice ua 0 uc))
      have OC := Lib.hid (ownsF_put6 O3.out (w.heap.size + 1) lr (.string ⟨a0.toArray⟩) (.bool a1) (.bool a2) (.slice ga a3.length gc) (.int .i64 a4) (.slice ua 0 uc))
      have OL := Lib.hid (ownsF_put6 O5.out (w.heap.size + 1) lr (.string ⟨a0.toArray⟩) (.bool a1) (.bool a2) (.slice ga a3.length gc) (.int .i64 a4) (.slice ua 0 uc))
      generalize ((((((wE.setCell ⟨w.heap.size + 1, 0, none⟩ (.string ⟨a0.toArray⟩)).setCell ⟨w.heap.size + 1, 1, none⟩ (.bool a1)).setCell ⟨w.heap.size + 1, 2, none⟩ (.bool a2)).setCell ⟨w.heap.size + 1, 3, none⟩ (.slice ga a3.length gc)).setCell ⟨w.heap.size + 1, 4, none⟩ (.int .i64 a4)).setCell ⟨w.heap.size + 1, 5, none⟩ (.slice ua 0 uc)) = WE at *
      have r0 := BR4.out.cell 0 (by simp)
      have r1 := BR4.out.cell 1 (by simp)
      have r2 := BR4.out.cell 2 (by simp)
      have r3 := BR4.out.cell 3 (by simp)
      have r4 := BR4.out.cell 4 (by simp)
      have r5 := BR4.out.cell 5 (by simp)
      simp only [List.getElem_cons_zero, List.getElem_cons_succ] at r0 r1 r2 r3 r4 r5
      exact bodyPost_ret (v := .tuple #[.agg #[.string ⟨a0.toArray⟩, .bool a1, .bool a2, .slice ga a3.length gc, .int .i64 a4, .slice ua 0 uc], .bool false]) (by simp [results, Try.results15, go_sem, r0, r1, r2, r3, r4, r5]) rfl ⟨_, rfl, ⟨_, _, rfl, ownsF_base OC.out (by omega), ownsF_base OL.out (by omega)⟩, HB6.out⟩
end Go.Proofs.Ytmoliamenekemaa
