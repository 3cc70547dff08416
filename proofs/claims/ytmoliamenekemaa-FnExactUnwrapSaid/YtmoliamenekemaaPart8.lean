/- copyPart: a part copied, its rows new. -/
import Derived.Test.YtmoliamenekemaaOPart
import Derived.Test.YtmoliamenekemaaCopy
import Derived.Test.YtmoliamenekemaaPart5
namespace Go.Proofs.Ytmoliamenekemaa
set_option linter.unusedVariables false
set_option linter.unusedSimpArgs false
open Go.RowKit
set_option maxRecDepth 100000 in
set_option maxHeartbeats 3200000 in
theorem copyPart_c (v : Value) (x : PartD) (w : World) (hx : ValAt rPart 0 w v x) (hs : SmallP x) :
    Calls Try.prog 49 #[v] w fun e w' => GivesOP x w e w' := by
  obtain ⟨_, rfl, hx⟩ := hx
  obtain ⟨i0, hi, hz0, hz1, hz2⟩ := info_parts infoLay
  obtain ⟨xc, l⟩ := x
  obtain ⟨v3, v5, rfl, h3, h5⟩ := hx
  have HCC := Lib.hid (fun W (hb : Below w.heap.size w W) => copyCore_c (vCore xc v3) xc W ⟨v3, rfl, FlatAt.below (flatAt_of_slice cCell_len (by decide) h3) hb (Nat.le_refl _)⟩ hs.cells hs.keys hs.kind)
  unfold GivesCore OwnsCore at HCC
  have HS := Lib.hid hs.names
  have hm := hs.lays
  simp only at h3 h5 HS hm
  obtain ⟨ra, rc, rfl, _⟩ := sliceAt_len h3
  obtain ⟨sa, sc, rfl, hl⟩ := sliceAt_len h5
  have H5 := Lib.hid h5
  obtain ⟨kd, on, br, cl, cnt⟩ := xc
  unfold vCore at HCC
  simp only at HCC h3 ⊢
  clear h3 h5 hs
  unfold maxLen at hl
  have hb2 : i0.bytes * l.length ≤ 281474976710656 := by rw [hz2]; omega
  have HB2 := Lib.hid hb2
  have HM := Lib.hid (show l.length ≤ maxLen from by unfold maxLen; omega)
  clear hb2
  have BS := Lib.hid (bx_start2 w [.string ⟨kd.toArray⟩, .bool on, .bool br, .slice ra cl.length rc, .int .i64 cnt, .slice sa l.length sc] [.string ⟨#[]⟩, .bool false, .bool false, .slice none 0 0, .int .i64 0, .slice none 0 0] 35 35)
  go_enter Try.func49, Try.ntmps49
  go_wp2_with (refine wpList_make_own _ rfl _ _ 33 rfl (w.heap.size + 1 + 1) 61 i0 _ 2 Try.underlying33 hi hz0 hz1 .i64 .i64 _ l.length rfl rfl rfl HB2.out HM.out (by simp) ?_; intro w1 hown1 hgrow1; have BP := Lib.hid (BS.out.1.grown hgrow1 (by simp)); have BR := Lib.hid (BS.out.2.1.grown hgrow1 (by simp)); have e5 := BP.out.cell 5 (by simp); simp only [List.getElem_cons_zero, List.getElem_cons_succ] at e5)
  have HO0 := Lib.hid (show OwnsF cLayer 61 2 w1 (w.heap.size + 1 + 1) (.slice (some ⟨w.heap.size + 1 + 1, 0, none⟩) 0 l.length) (l.take 0) from by simpa [OwnsF] using hown1)
  have HW1 := Lib.hid (show Below w.heap.size w w1 from BS.out.2.2.trans ⟨hgrow1.os, hgrow1.tape, hgrow1.output, hgrow1.size, fun i hi => hgrow1.block i (by simp; omega) (by simp)⟩)
  have HS1 := Lib.hid (show w.heap.size + 1 + 1 ≤ w1.heap.size from by simpa using hgrow1.size)
  clear hown1 hgrow1 hz0 hz1 hz2 HB2 hi e5
  go_loopw [3, 5, 13] (fun u _ i wr => ∃ k : Nat, k ≤ l.length ∧ i = .int .i64 k ∧ OwnsF cLayer 61 2 wr (w.heap.size + 1 + 1) u (l.take k) ∧ Below (w.heap.size + 1 + 1) w1 wr) (fun _ _ i _ => l.length - (intOf i).toNat)
  case atStart => exact ⟨0, Nat.zero_le _, rfl, HO0.out, Below.refl _ _⟩
  case round =>
    obtain ⟨k, hk2, rfl, hO, hb⟩ := hrel
    have HO := Lib.hid hO
    have HB := Lib.hid hb
    have HBw := Lib.hid (show Below w.heap.size w wr from HW1.out.trans (hb.mono (by omega)))
    have HXr := Lib.hid (SliceAt.below H5.out (good_flat cLayer_len) HBw.out (Nat.le_refl _))
    have HLT := Lib.hid (show ∀ g, u3.ownBlock = some g → g < wr.heap.size from fun g h => (World.ownsRow.lt hO g h).2)
    have HSZ := Lib.hid (Nat.le_trans HS1.out hb.size)
    clear hO hb
    by_cases hlt : k < l.length
    · obtain ⟨b, o, cs, rfl, hbl, hat, hd⟩ := sliceAt_cell HXr.out k hlt
      have HSN := Lib.hid (show l.take (k + 1) = l.take k ++ [l[k]] from by rw [List.take_succ_eq_append_getElem hlt])
      have hks := HS.out l[k] (List.getElem_mem hlt)
      generalize l[k] = p at *
      obtain ⟨a0, a1⟩ := p
      simp only [rFlat, cLayer] at hat
      subst hat
      have d0 := hd 0 (by decide)
      have d1 := hd 1 (by decide)
      simp only [List.getElem?_cons_zero, List.getElem?_cons_succ, Nat.add_zero] at d0 d1 hks
      have HCT := Lib.hid (fun W => copyText_any ⟨a0.toArray⟩ W (by rw [← size_list]; simp; omega))
      clear hks hd
      go_wp2_with fail
      go_region_held3 (fun w' => w'.cell? ⟨wr.heap.size, 0, none⟩ = some (.string ⟨a0.toArray⟩) ∧ w'.cell? ⟨wr.heap.size, 1, none⟩ = some (.int .i64 a1))
        (first
          | go_keep
          | (rw [hb1.cell (p := ⟨wr.heap.size, 0, none⟩) (by simp), hb1.cell (p := ⟨wr.heap.size, 1, none⟩) (by simp)]; assumption)
          | (rw [hg1.cell_far ⟨wr.heap.size, 0, none⟩ (by have := hb1.size; simp at *; omega) (by intro e; have := HLT.out _ e.symm; simp at this), hg1.cell_far ⟨wr.heap.size, 1, none⟩ (by have := hb1.size; simp at *; omega) (by intro e; have := HLT.out _ e.symm; simp at this)]; assumption))
        (first
          | (go_at_call 54; (with_reducible refine (HCT.out _).mono ?_); rintro e w2 ⟨rfl, hb1⟩)
          | (refine step_lays rfl _ _ rfl (w.heap.size + 1 + 1) u3 (l.take k) ⟨a0, a1⟩ _ w2.heap.size rfl (ownsF_alloc (ownsF_below (ownsF_drew (ownsF_alloc HO.out _)) hb1 (Nat.le_refl _)) _) rfl (cell_newL w2 ⟨a0, a1⟩ _ rfl) ?_ ?_ ?_; (simp; omega); (have h1 := hb1.size; have h2 := HSZ.out; simp at h1; simp; omega); intro v' w4 hO4 hg1))
      have HA := Lib.hid (((Below.refl wr.heap.size wr).alloc (Nat.le_refl _) (.cells #[.string ⟨a0.toArray⟩, .int .i64 a1] 61)).drew)
      have HA1 := Lib.hid ((HA.out.trans (hb1.mono HA.out.size)).alloc (HA.out.trans (hb1.mono HA.out.size)).size (.cells #[.string ⟨a0.toArray⟩, .int .i64 a1] 61))
      have HA2 := Lib.hid (HB.out.trans (HA1.out.mono (HSZ.out)))
      have HA3 := Lib.hid (below_appendF HA2.out (ownsF_alloc (ownsF_below (ownsF_drew (ownsF_alloc HO.out _)) hb1 (Nat.le_refl _)) _) hg1 (Nat.le_trans HS1.out HA2.out.size))
      have HO4 := Lib.hid hO4
      rename_i hheld
      clear hb1 hg1 hO4 hheld
      go_wp2_with fail
      exact ⟨⟨k + 1, by omega, by go_num, by rw [HSN.out]; exact HO4.out, HA3.out⟩, by simp [intOf]; omega⟩
    · have HOl := Lib.hid (show OwnsF cLayer 61 2 wr (w.heap.size + 1 + 1) u3 l from by have h := HO.out; rw [List.take_of_length_le (by omega)] at h; exact h)
      obtain ⟨ua, uc, rfl⟩ := slice_of HOl.out
      have hsz := HSZ.out
      have BP2 := Lib.hid (BP.out.belowK HB.out (by omega))
      have BR2 := Lib.hid (BR.out.belowK HB.out (by omega))
      have q0 := BP2.out.cell 0 (by simp)
      have q1 := BP2.out.cell 1 (by simp)
      have q2 := BP2.out.cell 2 (by simp)
      have q3 := BP2.out.cell 3 (by simp)
      have q4 := BP2.out.cell 4 (by simp)
      have q5 := BP2.out.cell 5 (by simp)
      simp only [List.getElem_cons_zero, List.getElem_cons_succ] at q0 q1 q2 q3 q4 q5
      go_wp2_with fail
      refine (HCC.out _ HBw.out).mono ?_
      rintro e w5 ⟨_, rfl, ⟨cv, rfl, ho5⟩, hb5⟩
      obtain ⟨ga, gc, rfl⟩ := slice_of ho5
      have HB5 := Lib.hid hb5
      have HO5 := Lib.hid ho5
      have BR3 := Lib.hid (BR2.out.below hb5)
      clear hb5 ho5 q0 q1 q2 q3 q4 q5
      have r0 := BR3.out.cell 0 (by simp)
      have r1 := BR3.out.cell 1 (by simp)
      have r2 := BR3.out.cell 2 (by simp)
      have r3 := BR3.out.cell 3 (by simp)
      have r4 := BR3.out.cell 4 (by simp)
      have r5 := BR3.out.cell 5 (by simp)
      simp only [List.getElem_cons_zero, List.getElem_cons_succ] at r0 r1 r2 r3 r4 r5
      have z0 := BR3.out.froz 0 (by simp)
      have z1 := BR3.out.froz 1 (by simp)
      have z2 := BR3.out.froz 2 (by simp)
      have z3 := BR3.out.froz 3 (by simp)
      have z4 := BR3.out.froz 4 (by simp)
      have z5 := BR3.out.froz 5 (by simp)
      go_wp2_with fail
      clear r0 r1 r2 r3 r4 r5 z0 z1 z2 z3 z4 z5
      have BR4 := Lib.hid (BR3.out.put6 (.string ⟨kd.toArray⟩) (.bool on) (.bool br) (.slice ga cl.length gc) (.int .i64 cnt) (.slice ua l.length uc))
      have HB6 := Lib.hid (below_put6 (HBw.out.trans (HB5.out.mono HBw.out.size)) (w.heap.size + 1) (by omega) (.string ⟨kd.toArray⟩) (.bool on) (.bool br) (.slice ga cl.length gc) (.int .i64 cnt) (.slice ua l.length uc))
      have OC := Lib.hid (ownsF_put6 HO5.out (w.heap.size + 1) (by omega) (.string ⟨kd.toArray⟩) (.bool on) (.bool br) (.slice ga cl.length gc) (.int .i64 cnt) (.slice ua l.length uc))
      have OL := Lib.hid (ownsF_put6 (ownsF_below HOl.out HB5.out (Nat.le_refl _)) (w.heap.size + 1) (by omega) (.string ⟨kd.toArray⟩) (.bool on) (.bool br) (.slice ga cl.length gc) (.int .i64 cnt) (.slice ua l.length uc))
      generalize ((((((w5.setCell ⟨w.heap.size + 1, 0, none⟩ (.string ⟨kd.toArray⟩)).setCell ⟨w.heap.size + 1, 1, none⟩ (.bool on)).setCell ⟨w.heap.size + 1, 2, none⟩ (.bool br)).setCell ⟨w.heap.size + 1, 3, none⟩ (.slice ga cl.length gc)).setCell ⟨w.heap.size + 1, 4, none⟩ (.int .i64 cnt)).setCell ⟨w.heap.size + 1, 5, none⟩ (.slice ua l.length uc)) = WE at *
      have r0 := BR4.out.cell 0 (by simp)
      have r1 := BR4.out.cell 1 (by simp)
      have r2 := BR4.out.cell 2 (by simp)
      have r3 := BR4.out.cell 3 (by simp)
      have r4 := BR4.out.cell 4 (by simp)
      have r5 := BR4.out.cell 5 (by simp)
      simp only [List.getElem_cons_zero, List.getElem_cons_succ] at r0 r1 r2 r3 r4 r5
      exact bodyPost_ret (v := .agg #[.string ⟨kd.toArray⟩, .bool on, .bool br, .slice ga cl.length gc, .int .i64 cnt, .slice ua l.length uc]) (by simp [results, Try.results49, go_sem, r0, r1, r2, r3, r4, r5]) rfl ⟨_, rfl, ⟨_, _, rfl, ownsF_base OC.out (by omega), ownsF_base OL.out (by omega)⟩, HB6.out⟩
end Go.Proofs.Ytmoliamenekemaa
